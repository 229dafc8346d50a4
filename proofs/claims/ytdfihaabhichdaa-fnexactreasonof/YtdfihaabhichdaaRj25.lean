/-
  The program and the model say the same of every book; no function walked.
-/
import Derived.Test.YtdfihaabhichdaaRj10
import Derived.Test.YtdfihaabhichdaaRj23
import Derived.Test.YtdfihaabhichdaaRj24
namespace Go.Proofs.Ytdfihaabhichdaa
open Go.RowKit
set_option linter.unusedVariables false

theorem allR_eq (next : Int) : ∀ (l : List Od) (last : Int), allR next last l = (idsR next last l && l.all ordB)
  | [], _ => rfl
  | a :: r, last => by
    rw [allR, idsR, List.all_cons, allR_eq next r a.id]
    cases ordB a <;> cases decide (last < a.id) <;> cases decide (a.id < next) <;> simp
theorem front_head {s : Bool} {l : List Od} {sd : Int} (hr : Rising l) : ((quOf s (ofSide l sd)).head? = none ∧ ∀ o ∈ l, o.side ≠ sd) ∨ ∃ i o, (quOf s (ofSide l sd)).head? = some o ∧ IsFront s l sd i o := by
  cases h : (quOf s (ofSide l sd)).head? with
  | none => exact .inl ⟨rfl, queue_none (isT_tks s _) h⟩
  | some o =>
    obtain ⟨i, hi⟩ := queue_front hr (isT_tks s _) h
    exact .inr ⟨i, o, rfl, hi⟩
theorem meet_noX {l : List Od} (hr : Rising l) : (!meetB (quOf true (ofSide l 1)) (quOf false (ofSide l 2))) = noX l := by
  rcases front_head (s := true) (sd := 1) hr with ⟨h1, hn⟩ | ⟨i, a, h1, hf1⟩
  · rw [noX_none1 hn]; simp [meetB, hdF, h1]
  · rcases front_head (s := false) (sd := 2) hr with ⟨h2, hn⟩ | ⟨j, b, h2, hf2⟩
    · rw [noX_none2 hn]; simp [meetB, hdF, h2]
    · rw [noX_fronts hf1 hf2]
      simp only [meetB, hdF, hdO, h1, h2, Option.isSome_some, Option.getD_some, Bool.true_and]
      rw [Bool.eq_iff_iff]; simp
theorem okI_eq (next : Int) (l : List Od) : okI next l = okS next l := by
  unfold okI okS
  rw [allR_eq]
  cases h : (idsR next 0 l && l.all ordB)
  · rw [Bool.and_assoc (betB next 1 1000000 && decide (l.length ≤ 20)) (idsR next 0 l), h]; simp
  · have hall : allR next 0 l = true := by rw [allR_eq]; exact h
    have hr := (allR_rising hall).1
    have hs : ∀ o ∈ l, o.side = 1 ∨ o.side = 2 := fun o ho => by
      have := allR_sides hall o ho
      simp [ordB, betB] at this
      omega
    rw [Bool.and_assoc (betB next 1 1000000 && decide (l.length ≤ 20)) (idsR next 0 l), h, meet_noX hr]
    have := nlev_eq hs (isT_tks true _) (isT_tks false _)
    rw [lvsOf, lvsOf, List.length_map, List.length_map, this]
end Go.Proofs.Ytdfihaabhichdaa
namespace Go.Proofs.Ytdfihaabhichdaa
open Go.RowKit
set_option linter.unusedVariables false

/-- A command by its kind. -/
def cmdI (c : Cm) : Value := if c.k = 1 then .iface 69 (noV c) else if c.k = 2 then .iface 72 (.agg #[.int .i64 c.i]) else if c.k = 3 then .iface 75 (.agg #[.int .i64 c.i, .int .i64 c.q]) else if c.k = 4 then .iface 99 (.agg #[]) else .nilIface
set_option maxHeartbeats 800000 in
theorem newOrderOf_any (c : Cm) (w : World) :
    Calls Try.prog 53 #[cmV c] w fun e w' => e = .returned (noV c) ∧ Below w.heap.size w w' := by
  obtain ⟨k, s, t, l, q, i, p, g⟩ := c
  unfold cmV noV
  simp only
  have hsf := sfl
  go_enter Try.func53, Try.ntmps53
  go_wp2_with fail
  go_returns
  exact ⟨rfl, by go_grown⟩
set_option maxHeartbeats 800000 in
theorem commandOf_any (c : Cm) (w : World) :
    Calls Try.prog 33 #[cmV c] w fun e w' => e = .returned (cmdI c) ∧ Below w.heap.size w w' := by
  obtain ⟨k, s, t, l, q, i, p, g⟩ := c
  unfold cmV
  simp only
  by_cases h1 : k = 1
  · subst h1
    have HB1 : Hid (Below w.heap.size w (w.alloc (Obj.cells #[.int .i64 1, .int .i64 s, .int .i64 t, .int .i64 l, .int .i64 q, .int .i64 i, .float .f64 p, .string g] 36))) := (Below.refl _ _).alloc (Nat.le_refl _) _
    go_enter Try.func33, Try.ntmps33
    go_wp2_with fail
    refine (newOrderOf_any ⟨1, s, t, l, q, i, p, g⟩ _).mono ?_
    rintro e w' ⟨rfl, hb⟩
    have HB2 := hide ((unhide HB1).trans (hb.mono (unhide HB1).size))
    clear hb
    go_wp2_with fail
    go_ret
    exact ⟨rfl, unhide HB2⟩
  have b1 : (k == 1) = false := by simpa using h1
  by_cases h2 : k = 2
  · subst h2
    go_enter Try.func33, Try.ntmps33
    go_wp2_with fail
    go_ret
    exact ⟨rfl, by go_grown⟩
  have b2 : (k == 2) = false := by simpa using h2
  by_cases h3 : k = 3
  · subst h3
    go_enter Try.func33, Try.ntmps33
    go_wp2_with fail
    go_ret
    exact ⟨rfl, by go_grown⟩
  have b3 : (k == 3) = false := by simpa using h3
  by_cases h4 : k = 4
  · subst h4
    go_enter Try.func33, Try.ntmps33
    go_wp2_with fail
    go_ret
    exact ⟨rfl, by go_grown⟩
  have b4 : (k == 4) = false := by simpa using h4
  have HC : Hid (cmdI ⟨k, s, t, l, q, i, p, g⟩ = .nilIface) := by show _ = _; simp [cmdI, h1, h2, h3, h4]
  go_enter Try.func33, Try.ntmps33
  go_wp2_with fail
  go_ret
  exact ⟨by rw [unhide HC]; rfl, by go_grown⟩

/-- The place of an order of an Id among the first ones from k on. -/
def plcF (id : Int) : List Od → Nat → Int
  | [], _ => -1
  | o :: r, k => if o.id = id then k else plcF id r (k + 1)
def plc (l : List Od) (id : Int) : Int := plcF id l 0
theorem plcF_spec (id : Int) : ∀ (l : List Od) (k : Nat), (plcF id l k = -1 ∧ ∀ o ∈ l, o.id ≠ id) ∨ ∃ i o, plcF id l k = ((k + i : Nat) : Int) ∧ l[i]? = some o ∧ o.id = id ∧ ∀ j o', j < i → l[j]? = some o' → o'.id ≠ id
  | [], k => .inl ⟨rfl, by simp⟩
  | o :: r, k => by
    by_cases h : o.id = id
    · exact .inr ⟨0, o, by rw [plcF, if_pos h]; rfl, rfl, h, by simp⟩
    · rcases plcF_spec id r (k + 1) with ⟨h1, h2⟩ | ⟨i, o', h1, h2, h3, h4⟩
      · refine .inl ⟨by rw [plcF, if_neg h, h1], fun x hx => ?_⟩
        rcases List.mem_cons.1 hx with rfl | hx
        · exact h
        · exact h2 x hx
      · refine .inr ⟨i + 1, o', by rw [plcF, if_neg h, h1]; congr 1; omega, h2, h3, fun j x hj hx => ?_⟩
        cases j with
        | zero => simp at hx; subst hx; exact h
        | succ j => exact h4 j x (by omega) (by simpa using hx)
theorem drop_get {l : List Od} {k : Nat} {c : Od} (h : l[k]? = some c) : l.drop k = c :: l.drop (k + 1) := by
  obtain ⟨h1, rfl⟩ := List.getElem?_eq_some_iff.1 h
  exact List.drop_eq_getElem_cons h1
set_option maxHeartbeats 400000 in
theorem place1_any (o : Od) (B : Nat) (id : Int) (w : World) (hB : w.cell? ⟨B, 0, none⟩ = some (.int .i64 id)) :
    Calls Try.prog 78 #[.agg #[.int .i64 o.id, .int .i64 o.side, .int .i64 o.ticks, .int .i64 o.left, .int .i64 o.life, .string o.tag], .pointer (some ⟨B, 0, none⟩)] w fun e w' => e = .returned (.bool (o.id == id)) ∧ Below w.heap.size w w' := by
  obtain ⟨oid, side, ticks, left, life, tag⟩ := o
  simp only
  have hB' : (w.alloc (Obj.cells #[.int .i64 oid, .int .i64 side, .int .i64 ticks, .int .i64 left, .int .i64 life, .string tag] 49)).cell? ⟨B, 0, none⟩ = some (.int .i64 id) := (World.cell?_alloc_lt _ _ ⟨B, 0, none⟩ (World.block_lt_of_cell? w _ hB)).trans hB
  go_enter Try.func78, Try.ntmps78
  go_wp2_with fail
  go_ret
  exact ⟨rfl, by go_grown⟩
set_option maxRecDepth 100000 in
set_option maxHeartbeats 800000 in
theorem indexFunc_any (v : Value) (l : List Od) (B : Nat) (id : Int) (w : World) (hr : RdR Od.vs 6 w v l) (hB : w.cell? ⟨B, 0, none⟩ = some (.int .i64 id)) :
    Calls Try.prog 77 #[v, .func (.func 78) #[] #[.pointer (some ⟨B, 0, none⟩)]] w fun e w' => e = .returned (.int .i64 (plc l id)) ∧ Below w.heap.size w w' := by
  obtain ⟨a, cap, rfl, hlen, hc⟩ := hr
  have hcell : ∀ (k : Nat) (c : Od), l[k]? = some c → ∃ b off, a = some ⟨b, off, none⟩ ∧ b < w.heap.size ∧ w.rangeAt b (off + k * 6) c.vs := by
    intro k c hk
    obtain ⟨b, off, h1, h2, h3⟩ := hc (by intro h; rw [h] at hk; simp at hk)
    exact ⟨b, off, h1, h2, h3 k c hk⟩
  have HC := hide hcell
  have HBC := hide hB
  have hBl := World.block_lt_of_cell? w _ hB
  simp only at hBl
  clear hcell hc hB
  go_enter Try.func77, Try.ntmps77
  go_wp2_with fail
  go_loopw [8] (fun iv wr => ∃ (k : Nat), k ≤ l.length ∧ iv = .int .i64 k ∧ Hid (plc l id = plcF id (l.drop k) k) ∧ Below w.heap.size w wr) (fun iv _ => l.length - (intOf iv).toNat)
  case atStart => exact ⟨0, Nat.zero_le _, rfl, rfl, Below.refl _ _⟩
  case round =>
    obtain ⟨k, hk, rfl, hpl, hbel⟩ := hrel
    have HB := hide hbel
    clear hbel
    by_cases hlt : k < l.length
    · obtain ⟨c, hkc⟩ : ∃ c, l[k]? = some c := ⟨_, List.getElem?_eq_getElem hlt⟩
      have HP : Hid (plc l id = if c.id = id then (k : Int) else plcF id (l.drop (k + 1)) (k + 1)) := by
        have := unhide hpl
        rw [drop_get hkc] at this
        exact this
      obtain ⟨b, off, rfl, hb, hcl⟩ := unhide HC k c hkc
      obtain ⟨g0, g1, g2, g3, g4, g5⟩ := od_cells (range_below hcl (unhide HB) hb)
      have hlt' : (k : Int) < l.length := by omega
      have HBX := hide (((unhide HB).cell (p := ⟨B, 0, none⟩) hBl).trans (unhide HBC))
      clear hkc hcl hb hpl
      go_wp2_with fail
      refine (place1_any c B id wr (unhide HBX)).mono ?_
      rintro e w3 ⟨rfl, hb3⟩
      have HB3 := hide ((unhide HB).trans (hb3.mono (unhide HB).size))
      clear hb3
      by_cases hid : c.id = id
      · have hb : (c.id == id) = true := by simpa using hid
        have HK : Hid (plc l id = k) := by have := unhide HP; rw [if_pos hid] at this; exact this
        clear hid
        go_wp2_with fail
        go_ret
        exact ⟨ret_int (unhide HK).symm, unhide HB3⟩
      · have hb : (c.id == id) = false := by simpa using hid
        have HK : Hid (plc l id = plcF id (l.drop (k + 1)) (k + 1)) := by have := unhide HP; rw [if_neg hid] at this; exact this
        clear hid
        go_wp2_with fail
        go_roundw
        case rel => exact ⟨k + 1, by omega, by go_num, unhide HK, unhide HB3⟩
        case measure => simp [intOf]; omega
    · have HK : Hid (plc l id = -1) := by
        have h := unhide hpl
        rw [List.drop_of_length_le (by omega)] at h
        exact h
      go_wp2_with fail
      go_ret
      exact ⟨ret_int (unhide HK).symm, unhide HB⟩
set_option maxHeartbeats 800000 in
theorem placeOf_any (next : Int) (v : Value) (l : List Od) (id : Int) (w : World) (hr : RdR Od.vs 6 w v l) :
    Calls Try.prog 60 #[.agg #[.int .i64 next, v], .int .i64 id] w fun e w' => e = .returned (.int .i64 (plc l id)) ∧ Below w.heap.size w w' := by
  have HR := hide hr
  obtain ⟨a, cap, rfl, hlen, hc⟩ := hr
  have hmf : ∀ (fn : Fn) (first cap : Array Value) (w : World), (Instr.makeFunc fn first cap).run Try.prog w = .ok (.func fn first cap) w := fun _ _ _ _ => rfl
  have hs1 : (w.alloc (Obj.cells #[.int .i64 next, .slice a l.length cap] 34)).heap.size = w.heap.size + 1 := size_made _ _
  have r1 := cells_made (w.alloc (Obj.cells #[.int .i64 next, .slice a l.length cap] 34)) [.int .i64 id] 3
  rw [hs1] at r1
  have HX := hide (r1 0 _ rfl)
  have HB0 : Hid (Below w.heap.size w ((w.alloc (Obj.cells #[.int .i64 next, .slice a l.length cap] 34)).alloc (Obj.cells #[.int .i64 id] 3))) := ((Below.refl _ _).alloc (Nat.le_refl _) _).alloc (by rw [hs1]; omega) _
  clear hc r1 hs1
  go_enter Try.func60, Try.ntmps60
  go_wp2_with fail
  have HX : Hid (World.cell? ((w.alloc (Obj.cells #[.int .i64 next, .slice a l.length cap] 34)).alloc (Obj.cells #[.int .i64 id] 3)) ⟨w.heap.size + 1, 0, none⟩ = some (.int .i64 id)) := unhide HX
  generalize ((w.alloc (Obj.cells #[.int .i64 next, .slice a l.length cap] 34)).alloc (Obj.cells #[.int .i64 id] 3)) = W2 at HX HB0 ⊢
  refine (indexFunc_any _ l (w.heap.size + 1) id W2 (rdR_below (unhide HR) (unhide HB0) (Nat.le_refl _)) (unhide HX)).mono ?_
  rintro e w3 ⟨rfl, hb3⟩
  have HB3 := hide ((unhide HB0).trans (hb3.mono (unhide HB0).size))
  clear hb3
  go_wp2_with fail
  go_ret
  exact ⟨rfl, unhide HB3⟩
end Go.Proofs.Ytdfihaabhichdaa
