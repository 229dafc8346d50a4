/-
  Whether a book has too many orders or levels, by the program: proved by walking the method.
-/
import Derived.Test.YtdfihaabhichdaaRj22
import Derived.Test.YtdfihaabhichdaaRj30
namespace Go.Proofs.Ytdfihaabhichdaa
open Go.RowKit
set_option linter.unusedVariables false

/-- Whether a list of orders is more than a book holds. -/
def fullB (l : List Od) : Bool := if 20 < l.length then true else decide (8 < ((lvsOf true 1 (ofSide l 1)).length : Int) + (lvsOf false 2 (ofSide l 2)).length)
/-- What each operation has. -/
def DF (mb : Nat) (BV : Value) (q1 q2 : List Od) (N : Int) (p : Prop) (W : World) : Nat → Value → Prop
  | 0, v => v = .pointer (some ⟨mb, 0, none⟩)
  | 1, v => v = .pointer (some ⟨mb, 0, none⟩)
  | 2, v => v = .pointer (some ⟨mb, 0, none⟩)
  | 3, v => v = BV
  | 4, v => ∃ b, v = side_b b ∧ Tb W b q1
  | 5, v => v = .pointer (some ⟨mb, 0, none⟩)
  | 6, v => v = .pointer (some ⟨mb, 0, none⟩)
  | 7, v => v = .pointer (some ⟨mb, 0, none⟩)
  | 8, v => v = BV
  | 9, v => ∃ b, v = side_s b ∧ Ts W b q2
  | 10, v => v = .int .i64 N
  | 11, v => v = .bool (decide (8 < N))
  | 12, v => v = .bool (decide (8 < N))
  | _, _ => True
theorem df_mono {mb : Nat} {BV : Value} {q1 q2 : List Od} {N : Int} : ∀ p W W' j v, Below W.heap.size W W' → DF mb BV q1 q2 N p W j v → DF mb BV q1 q2 N p W' j v := by
  intro p W W' j v hb h
  match j with
  | 0 | 1 | 2 | 3 | 5 | 6 | 7 | 8 | 10 | 11 | 12 => exact h
  | 4 => obtain ⟨b, h1, h2⟩ := h; exact ⟨b, h1, treeAt_block h2 (hb.block _ (treeAt_lt h2))⟩
  | 9 => obtain ⟨b, h1, h2⟩ := h; exact ⟨b, h1, treeAt_block h2 (hb.block _ (treeAt_lt h2))⟩
  | n + 13 => trivial
set_option maxRecDepth 100000 in
set_option maxHeartbeats 1600000 in
theorem isTooFull_any (mb B : Nat) (next : Int) (vq : Value) (l : List Od) (t : Od) (vt : Value) (ts : List Ev) (w : World) (h : MatS mb B w next vq l t vt ts) (hm : l.length ≤ 1000) (hl : ∀ o' ∈ l, 0 ≤ o'.left ∧ o'.left ≤ 1000000) :
    Calls Try.prog 76 #[.pointer (some ⟨mb, 0, none⟩)] w fun e w' => e = .returned (.bool (fullB l)) ∧ Below w.heap.size w w' := by
  have hmw := h.lt
  have hBw := h.le
  have HR := hide (oRow_rd h.orow (by omega))
  obtain ⟨a, cap, rfl, _, _⟩ := oRow_rd h.orow (by omega)
  have HM := hide h.cells
  have z0 : w.cell? ⟨mb, 0, none⟩ = some (.int .i64 next) := h.cells 0 _ rfl
  have z1 : w.cell? ⟨mb, 1, none⟩ = some (.slice a l.length cap) := h.cells 1 _ rfl
  have HLB := hide hl
  clear h hl
  go_enter Try.func76, Try.ntmps76
  by_cases h20 : 20 < l.length
  · have h20' : (20 : Int) < l.length := by omega
    have HF : Hid (fullB l = true) := if_pos h20
    clear h20
    go_wp2_with fail
    go_ret
    exact ⟨ret_bool (unhide HF).symm, Below.refl _ _⟩
  have h20' : ¬ (20 : Int) < l.length := by omega
  have hn : l.length ≤ 20 := by omega
  have n1 : (ofSide l 1).length ≤ 20 := Nat.le_trans (List.length_filter_le _ _) hn
  have n2 : (ofSide l 2).length ≤ 20 := Nat.le_trans (List.length_filter_le _ _) hn
  generalize hN : ((lvsOf true 1 (ofSide l 1)).length : Int) + (lvsOf false 2 (ofSide l 2)).length = N
  have HF : Hid (fullB l = decide (8 < N)) := by show _ = _; rw [fullB, if_neg h20, hN]
  have HNN := hide hN
  clear hN h20
  go_wp2_with fail
  clear z0 z1
  refine wp_region_inv2 (RG w (fun f => { tmps := #[.pointer (some ⟨mb, 0, none⟩), undef, f 12, .pointer (some ⟨mb, 0, none⟩), .pointer (some ⟨mb, 0, none⟩), .pointer (some ⟨mb, 0, none⟩), .pointer (some ⟨mb, 1, none⟩), .slice a l.length cap, .int .i64 l.length, .bool false, f 0, f 1, f 2, f 3, f 4, f 5, f 6, f 7, f 8, f 9, f 10, f 11], defers := [] }) 99 (DF mb (.agg #[.int .i64 next, .slice a l.length cap]) (ofSide l 1) (ofSide l 2) N)) (by kernel_rfl) ?_ ?_ ?_
  · exact ⟨fun j => if j = 12 then .bool false else undef, rfl, ⟨rfl, rfl, rfl, Nat.le_refl _, fun _ _ => rfl⟩, fun j hj => by rw [List.getElem?_replicate] at hj; split at hj <;> simp at hj⟩
  · rintro x A V ⟨f, rfl, hbel, hD⟩ hx hrd
    have hallx := ready_all hrd hx (acyc _ (by kernel_rfl))
    have e12 : f 12 = .bool (decide (8 < N)) := hD 12 (hallx 12 (by simp))
    have HBV := hide hbel
    simp only [e12]
    clear hD hallx e12 hrd hx hbel
    go_wp2_with fail
    go_ret
    exact ⟨ret_bool (unhide HF).symm, unhide HBV⟩
  · rintro x A V i o ⟨f, rfl, hbel, hD⟩ hcl hx ho hxi hall
    clear hcl
    have HBV := hide hbel
    have HD := hide hD
    have z0 := range_below (unhide HM) hbel hmw 0 _ rfl
    have z1 := range_below (unhide HM) hbel hmw 1 _ rfl
    rw [Nat.zero_add] at z0 z1
    have HRD := hide (rdR_below (unhide HR) hbel (Nat.le_refl _))
    match i, ho with
    | 0, ho =>
      simp only [List.getElem?_cons_zero, Option.some.injEq] at ho
      subst ho
      clear hall hD hbel
      rw [if_pos (by rfl)]
      unfold Oper.wp
      go_simp
      exact ⟨upd f 0 (.pointer (some ⟨mb, 0, none⟩)), by simp [upd], rg_same (unhide HBV) (unhide HD) (by decide) rfl⟩
    | 1, ho =>
      simp only [List.getElem?_cons_succ, List.getElem?_cons_zero, Option.some.injEq] at ho
      subst ho
      have g : f 0 = .pointer (some ⟨mb, 0, none⟩) := hD 0 (hall ⟨0, .data⟩ (by simp) rfl)
      clear hall hD hbel
      rw [if_pos (by rfl)]
      unfold Oper.wp
      go_simp
      exact ⟨upd f 1 (.pointer (some ⟨mb, 0, none⟩)), by simp [upd, g], rg_same (unhide HBV) (unhide HD) (by decide) rfl⟩
    | 2, ho =>
      simp only [List.getElem?_cons_succ, List.getElem?_cons_zero, Option.some.injEq] at ho
      subst ho
      have g : f 1 = .pointer (some ⟨mb, 0, none⟩) := hD 1 (hall ⟨1, .data⟩ (by simp) rfl)
      clear hall hD hbel
      rw [if_pos (by rfl)]
      unfold Oper.wp
      go_simp
      exact ⟨upd f 2 (.pointer (some ⟨mb, 0, none⟩)), by simp [upd, g], rg_same (unhide HBV) (unhide HD) (by decide) rfl⟩
    | 3, ho =>
      simp only [List.getElem?_cons_succ, List.getElem?_cons_zero, Option.some.injEq] at ho
      subst ho
      have g : f 2 = .pointer (some ⟨mb, 0, none⟩) := hD 2 (hall ⟨2, .data⟩ (by simp) rfl)
      clear hall hD hbel
      rw [if_pos (by rfl)]
      unfold Oper.wp
      go_simp
      exact ⟨upd f 3 (.agg #[.int .i64 next, .slice a l.length cap]), by simp [upd, g], rg_same (unhide HBV) (unhide HD) (by decide) rfl⟩
    | 4, ho =>
      simp only [List.getElem?_cons_succ, List.getElem?_cons_zero, Option.some.injEq] at ho
      subst ho
      have g : f 3 = .agg #[.int .i64 next, .slice a l.length cap] := hD 3 (hall ⟨3, .data⟩ (by simp) rfl)
      clear hall hD hbel
      rw [if_pos (by rfl)]
      unfold Oper.wp
      go_simp
      refine (sideOf_buy next _ l V (unhide HRD) hn (unhide HLB)).mono ?_
      rintro e w4 ⟨b, rfl, ht, hle, hb4⟩
      exact ⟨upd f 4 (side_b b), by simp [upd, g], rg_grow df_mono (unhide HBV) (unhide HD) hb4 (by decide) ⟨b, rfl, ht⟩⟩
    | 5, ho =>
      simp only [List.getElem?_cons_succ, List.getElem?_cons_zero, Option.some.injEq] at ho
      subst ho
      clear hall hD hbel
      rw [if_pos (by rfl)]
      unfold Oper.wp
      go_simp
      exact ⟨upd f 5 (.pointer (some ⟨mb, 0, none⟩)), by simp [upd], rg_same (unhide HBV) (unhide HD) (by decide) rfl⟩
    | 6, ho =>
      simp only [List.getElem?_cons_succ, List.getElem?_cons_zero, Option.some.injEq] at ho
      subst ho
      have g : f 5 = .pointer (some ⟨mb, 0, none⟩) := hD 5 (hall ⟨5, .data⟩ (by simp) rfl)
      clear hall hD hbel
      rw [if_pos (by rfl)]
      unfold Oper.wp
      go_simp
      exact ⟨upd f 6 (.pointer (some ⟨mb, 0, none⟩)), by simp [upd, g], rg_same (unhide HBV) (unhide HD) (by decide) rfl⟩
    | 7, ho =>
      simp only [List.getElem?_cons_succ, List.getElem?_cons_zero, Option.some.injEq] at ho
      subst ho
      have g : f 6 = .pointer (some ⟨mb, 0, none⟩) := hD 6 (hall ⟨6, .data⟩ (by simp) rfl)
      clear hall hD hbel
      rw [if_pos (by rfl)]
      unfold Oper.wp
      go_simp
      exact ⟨upd f 7 (.pointer (some ⟨mb, 0, none⟩)), by simp [upd, g], rg_same (unhide HBV) (unhide HD) (by decide) rfl⟩
    | 8, ho =>
      simp only [List.getElem?_cons_succ, List.getElem?_cons_zero, Option.some.injEq] at ho
      subst ho
      have g : f 7 = .pointer (some ⟨mb, 0, none⟩) := hD 7 (hall ⟨7, .data⟩ (by simp) rfl)
      clear hall hD hbel
      rw [if_pos (by rfl)]
      unfold Oper.wp
      go_simp
      exact ⟨upd f 8 (.agg #[.int .i64 next, .slice a l.length cap]), by simp [upd, g], rg_same (unhide HBV) (unhide HD) (by decide) rfl⟩
    | 9, ho =>
      simp only [List.getElem?_cons_succ, List.getElem?_cons_zero, Option.some.injEq] at ho
      subst ho
      have g : f 8 = .agg #[.int .i64 next, .slice a l.length cap] := hD 8 (hall ⟨8, .data⟩ (by simp) rfl)
      clear hall hD hbel
      rw [if_pos (by rfl)]
      unfold Oper.wp
      go_simp
      refine (sideOf_sell next 2 (by omega) _ l V (unhide HRD) hn (unhide HLB)).mono ?_
      rintro e w4 ⟨b, rfl, ht, hle, hb4⟩
      exact ⟨upd f 9 (side_s b), by simp [upd, g], rg_grow df_mono (unhide HBV) (unhide HD) hb4 (by decide) ⟨b, rfl, ht⟩⟩
    | 10, ho =>
      simp only [List.getElem?_cons_succ, List.getElem?_cons_zero, Option.some.injEq] at ho
      subst ho
      obtain ⟨b1, g4, t4⟩ := hD 4 (hall ⟨4, .data⟩ (by simp) rfl)
      obtain ⟨b2, g9, t9⟩ := hD 9 (hall ⟨9, .data⟩ (by simp) rfl)
      have HT4 := hide t4
      have HT9 := hide t9
      clear hall hD hbel t4 t9
      rw [if_pos (by rfl)]
      unfold Oper.wp
      go_simp
      refine (countLevels_any b1 b2 1 2 (ofSide l 1) (ofSide l 2) V (unhide HT4) (unhide HT9) n1 n2).mono ?_
      rw [unhide HNN]
      rintro e w4 ⟨rfl, hb4⟩
      exact ⟨upd f 10 (.int .i64 N), by simp [upd, g4, g9], rg_grow df_mono (unhide HBV) (unhide HD) hb4 (by decide) rfl⟩
    | 11, ho =>
      simp only [List.getElem?_cons_succ, List.getElem?_cons_zero, Option.some.injEq] at ho
      subst ho
      have g : f 10 = .int .i64 N := hD 10 (hall ⟨10, .data⟩ (by simp) rfl)
      clear hall hD hbel
      rw [if_pos (by rfl)]
      unfold Oper.wp
      go_simp
      exact ⟨upd f 11 (.bool (decide (8 < N))), by simp [upd, g], rg_same (unhide HBV) (unhide HD) (by decide) rfl⟩
    | 12, ho =>
      simp only [List.getElem?_cons_succ, List.getElem?_cons_zero, Option.some.injEq] at ho
      subst ho
      have g : f 11 = .bool (decide (8 < N)) := hD 11 (hall ⟨11, .data⟩ (by simp) rfl)
      clear hall hD hbel
      rw [if_pos (by rfl)]
      unfold Oper.wp
      go_simp
      exact ⟨upd f 12 (.bool (decide (8 < N))), by simp [upd, g], rg_same (unhide HBV) (unhide HD) (by decide) rfl⟩
    | n + 13, ho => simp at ho
end Go.Proofs.Ytdfihaabhichdaa
namespace Go.Proofs.Ytdfihaabhichdaa
open Go.RowKit
set_option linter.unusedVariables false

/-- The order that is first on a side. -/
def frontO (l : List Od) (sd : Int) : Option Od := (quOf (decide (sd = 1)) (ofSide l sd)).head?
/-- The trades of an order, with so many rounds at most: the orders left, what is left of it, the trades. -/
def matL (c : Cm) (id : Int) : Nat → List Od → Int → List Ev → List Od × Int × List Ev
  | 0, l, left, ts => (l, left, ts)
  | n + 1, l, left, ts =>
    if 0 < left then
      match frontO l (othS c.s) with
      | none => (l, left, ts)
      | some o => if meetO c o = true then matL c id n (hitAt l (plc l o.id).toNat o (min left o.left)) (left - min left o.left) (ts ++ [trE id o.id (min left o.left) o.ticks]) else (l, left, ts)
    else (l, left, ts)
/-- Orders as a book has them: not too many, quantities in their bounds, Ids rising. -/
structure GoodL (l : List Od) : Prop where
  len : l.length ≤ 20
  left : ∀ o ∈ l, 0 < o.left ∧ o.left ≤ 1000000
  rise : Rising l
theorem front_mem {l : List Od} {sd : Int} {o : Od} (h : frontO l sd = some o) : o ∈ l ∧ o.side = sd := by
  have h1 : o ∈ quOf (decide (sd = 1)) (ofSide l sd) := List.mem_of_head? h
  obtain ⟨k, _, h2⟩ := List.mem_flatMap.1 h1
  have h3 := (List.mem_filter.1 h2).1
  have h4 := List.mem_filter.1 h3
  exact ⟨h4.1, by simpa using h4.2⟩
theorem rise_id {l : List Od} (hr : Rising l) {i k : Nat} {o o' : Od} (hi : l[i]? = some o') (hk : l[k]? = some o) (he : o'.id = o.id) : i = k := by
  obtain ⟨h1, rfl⟩ := List.getElem?_eq_some_iff.1 hi
  obtain ⟨h2, rfl⟩ := List.getElem?_eq_some_iff.1 hk
  rcases Nat.lt_trichotomy i k with h | h | h
  · have := List.pairwise_iff_getElem.1 hr i k h1 h2 h; omega
  · exact h
  · have := List.pairwise_iff_getElem.1 hr k i h2 h1 h; omega
theorem plc_at {l : List Od} (hr : Rising l) {k : Nat} {o : Od} (hk : l[k]? = some o) : plc l o.id = k := by
  rcases plcF_spec o.id l 0 with ⟨_, h2⟩ | ⟨i, o', h1, h2, h3, _⟩
  · exact absurd rfl (h2 o (List.mem_of_getElem? hk))
  · rw [plc, h1, rise_id hr h2 hk h3]; congr 1; omega
theorem good_hit {l : List Od} (h : GoodL l) {k : Nat} {o : Od} (hk : l[k]? = some o) {qty : Int} (h0 : 0 ≤ qty) (h1 : qty ≤ o.left) : GoodL (hitAt l k o qty) ∧ ((hitAt l k o qty).length + 1 = l.length ∨ (qty < o.left ∧ (hitAt l k o qty).length = l.length)) := by
  have hkl := (List.getElem?_eq_some_iff.1 hk).1
  by_cases he : o.left = qty
  · have e : hitAt l k o qty = l.take k ++ l.drop (k + 1) := if_pos he
    rw [e]
    have hs : (l.take k ++ l.drop (k + 1)).Sublist l := by
      have : (l.take k ++ l.drop (k + 1)).Sublist (l.take k ++ l.drop k) := List.Sublist.append (List.Sublist.refl _) (by rw [drop_get hk]; exact List.sublist_cons_self _ _)
      rwa [List.take_append_drop] at this
    refine ⟨⟨Nat.le_trans hs.length_le h.len, fun o' ho' => h.left o' (hs.subset ho'), h.rise.sublist hs⟩, .inl ?_⟩
    simp; omega
  · have e : hitAt l k o qty = l.set k { o with left := o.left - qty } := if_neg he
    rw [e]
    have ho := h.left o (List.mem_of_getElem? hk)
    refine ⟨⟨by rw [List.length_set]; exact h.len, fun o' ho' => ?_, ?_⟩, .inr ⟨by omega, by rw [List.length_set]⟩⟩
    · rcases List.mem_or_eq_of_mem_set ho' with h2 | rfl
      · exact h.left o' h2
      · simp only; omega
    · refine List.pairwise_iff_getElem.2 fun i j hi hj hij => ?_
      rw [List.length_set] at hi hj
      have hp := List.pairwise_iff_getElem.1 h.rise i j hi hj hij
      have hko : l[k] = o := by have := (List.getElem?_eq_some_iff.1 hk).2; exact this
      rw [List.getElem_set, List.getElem_set]
      split <;> split
      · omega
      · next h2 _ => subst h2; rw [hko] at hp; exact hp
      · next _ h2 => subst h2; rw [hko] at hp; exact hp
      · exact hp
/-- Where the trades stand: what is to come gives the same end. -/
structure MI (c : Cm) (id : Int) (F : List Od × Int × List Ev) (l : List Od) (left : Int) (ts : List Ev) : Prop where
  good : GoodL l
  l0 : 0 ≤ left
  l1 : left ≤ 1000000
  few : ts.length ≤ 21
  some : 0 < left → ts.length + l.length ≤ 20
  goal : ∃ n, matL c id n l left ts = F ∧ (0 < left → l.length < n)
theorem matL_end {c : Cm} {id : Int} {n : Nat} {l : List Od} {left : Int} {ts : List Ev} (h : left ≤ 0) : matL c id n l left ts = (l, left, ts) := by
  cases n with
  | zero => rfl
  | succ n => rw [matL, if_neg (by omega)]
theorem mi_start {c : Cm} {id : Int} {l : List Od} {left : Int} (h : GoodL l) (h0 : 0 ≤ left) (h1 : left ≤ 1000000) : MI c id (matL c id 21 l left []) l left [] :=
  ⟨h, h0, h1, by simp, fun _ => by simpa using h.len, 21, rfl, fun _ => by have := h.len; omega⟩
theorem mi_none {c : Cm} {id : Int} {F : List Od × Int × List Ev} {l : List Od} {left : Int} {ts : List Ev} (h : MI c id F l left ts) (hf : frontO l (othS c.s) = none) : F = (l, left, ts) := by
  obtain ⟨n, rfl, hn⟩ := h.goal
  by_cases h0 : 0 < left
  · obtain ⟨m, rfl⟩ : ∃ m, n = m + 1 := ⟨n - 1, by have := hn h0; omega⟩
    rw [matL, if_pos h0, hf]
  · exact matL_end (by omega)
theorem mi_stop {c : Cm} {id : Int} {F : List Od × Int × List Ev} {l : List Od} {left : Int} {ts : List Ev} (h : MI c id F l left ts) {o : Od} (hf : frontO l (othS c.s) = some o) (hm : meetO c o = false) : F = (l, left, ts) := by
  obtain ⟨n, rfl, hn⟩ := h.goal
  by_cases h0 : 0 < left
  · obtain ⟨m, rfl⟩ : ∃ m, n = m + 1 := ⟨n - 1, by have := hn h0; omega⟩
    rw [matL, if_pos h0, hf]
    simp only [hm]
    rw [if_neg (by simp)]
  · exact matL_end (by omega)
theorem mi_done {c : Cm} {id : Int} {F : List Od × Int × List Ev} {l : List Od} {left : Int} {ts : List Ev} (h : MI c id F l left ts) (h0 : ¬ 0 < left) : F = (l, left, ts) := by
  obtain ⟨n, rfl, hn⟩ := h.goal
  exact matL_end (by omega)
theorem mi_step {c : Cm} {id : Int} {F : List Od × Int × List Ev} {l : List Od} {left : Int} {ts : List Ev} (h : MI c id F l left ts) (h0 : 0 < left) {o : Od} (hf : frontO l (othS c.s) = some o) (hm : meetO c o = true) :
    ∃ k, plc l o.id = (k : Nat) ∧ l[k]? = some o ∧ MI c id F (hitAt l k o (min left o.left)) (left - min left o.left) (ts ++ [trE id o.id (min left o.left) o.ticks]) ∧ 2 * (hitAt l k o (min left o.left)).length + (if 0 < left - min left o.left then 1 else 0) < 2 * l.length + 1 := by
  obtain ⟨hmem, _⟩ := front_mem hf
  obtain ⟨k, hk⟩ := List.getElem?_of_mem hmem
  have hp := plc_at h.good.rise hk
  have ho := h.good.left o hmem
  have h1 := h.l1
  have hs := h.some h0
  obtain ⟨hg, hl⟩ := good_hit h.good hk (qty := min left o.left) (by omega) (by omega)
  obtain ⟨n, hF, hn⟩ := h.goal
  obtain ⟨m, rfl⟩ : ∃ m, n = m + 1 := ⟨n - 1, by have := hn h0; omega⟩
  have hn := hn h0
  rw [matL, if_pos h0, hf] at hF
  simp only [hm, if_true] at hF
  rw [hp, Int.toNat_natCast] at hF
  refine ⟨k, hp, hk, ⟨hg, by omega, by omega, ?_, fun hlt => ?_, m, hF, fun hlt => ?_⟩, ?_⟩
  · rw [List.length_append]; simp only [List.length_cons, List.length_nil]; omega
  · rw [List.length_append]; simp only [List.length_cons, List.length_nil]; omega
  · omega
  · split <;> omega
end Go.Proofs.Ytdfihaabhichdaa
