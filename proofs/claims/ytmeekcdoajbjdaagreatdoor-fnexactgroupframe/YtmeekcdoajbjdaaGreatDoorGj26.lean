/-
  Groups of events, by the program: whether all are right, and their bytes; proved by walking the functions.
-/
import Derived.Test.YtmeekcdoajbjdaaGreatDoorGj12
import Derived.Test.YtmeekcdoajbjdaaGreatDoorGj25
namespace Go.Proofs.YtmeekcdoajbjdaaGreatDoor
open Go.RowKit
set_option linter.unusedVariables false

/-- The bytes of events, one behind the other. -/
def payE (l : List Ev) : List Int := l.flatMap evL
theorem payE_more (l : List Ev) (k : Nat) (e : Ev) (h : l[k]? = some e) : payE (l.take (k + 1)) = payE (l.take k) ++ evL e := by
  unfold payE
  rw [List.take_add_one, h]
  simp
theorem payE_len : ∀ (l : List Ev), (∀ e ∈ l, e.fit) → (payE l).length ≤ 208 * l.length
  | [], _ => by simp [payE]
  | e :: l, h => by
    have h1 := payE_len l (fun x hx => h x (List.mem_cons_of_mem _ hx))
    have h2 := (evL_len e (h e (by simp))).2
    unfold payE at h1 ⊢
    rw [List.flatMap_cons, List.length_append, List.length_cons]
    omega
set_option maxRecDepth 100000 in
set_option maxHeartbeats 1600000 in
theorem allRight_any (v : Value) (l : List Ev) (w : World) (hr : RdR Ev.vs 14 w v l) (hf : ∀ e ∈ l, e.fit) (hE : ErrT w) : Calls Tryz.prog 18 #[v] w fun r w' => r = .returned (.bool (l.all okE)) ∧ Below w.heap.size w w' := by
  have hsf := sfl
  have HE := hide hE
  obtain ⟨a, cap, rfl, hl, hc⟩ := hr
  have HC := hide hc
  have HF := hide hf
  clear hc hf hE
  go_enter Tryz.func18, Tryz.ntmps18
  go_wp2_with fail
  go_loopw [7] (fun iv wr => ∃ k : Nat, k ≤ l.length ∧ iv = .int .i64 k ∧ (l.take k).all okE = true ∧ Below w.heap.size w wr) (fun iv _ => l.length - (intOf iv).toNat)
  case atStart => exact ⟨0, Nat.zero_le _, rfl, rfl, Below.refl _ _⟩
  case round =>
    obtain ⟨k, hk, rfl, hall, hb⟩ := hrel
    have HB := hide hb
    have HA := hide hall
    clear hb hall
    by_cases hlt : k < l.length
    · obtain ⟨e, hke⟩ : ∃ e, l[k]? = some e := ⟨_, List.getElem?_eq_getElem hlt⟩
      obtain ⟨b, off, rfl, hbw, hcells⟩ := unhide HC (by intro h; rw [h] at hlt; simp at hlt)
      have hcl := range_below (hcells k e hke) (unhide HB) hbw
      have hlt' : (k : Int) < l.length := by omega
      have hfit := unhide HF e (List.mem_of_getElem? hke)
      have hba : Below wr.heap.size wr (wr.alloc (Obj.cells e.vs.toArray 46)) := (Below.refl _ _).alloc (Nat.le_refl _) _
      have HB2 := hide ((unhide HB).trans (hba.mono (unhide HB).size))
      have HO := hide (implOK_any e hfit (wr.alloc (Obj.cells e.vs.toArray 46)) (errT_below (unhide HE) (unhide HB2) (Nat.le_refl _)))
      have HT : Hid ((l.take (k + 1)).all okE = ((l.take k).all okE && okE e)) := by
        show (l.take (k + 1)).all okE = _
        rw [List.take_add_one, hke]
        simp
      have HNo : Hid (okE e = false → l.all okE = false) := fun h => List.all_eq_false.2 ⟨e, List.mem_of_getElem? hke, by rw [h]; decide⟩
      generalize okE e = ok at *
      obtain ⟨kind, ⟨ck, cs, ct, cl, cq, ci, cp, cg⟩, id, other, qty, price, reason⟩ := e
      unfold evV at HO
      unfold Ev.vs at HO HB2
      simp only at HO HB2
      have x0 : wr.cell? ⟨b, off + k * 14, none⟩ = _ := hcl 0 _ rfl
      have x1 := hcl 1 _ rfl
      have x2 := hcl 2 _ rfl
      have x3 := hcl 3 _ rfl
      have x4 := hcl 4 _ rfl
      have x5 := hcl 5 _ rfl
      have x6 := hcl 6 _ rfl
      have x7 := hcl 7 _ rfl
      have x8 := hcl 8 _ rfl
      have x9 := hcl 9 _ rfl
      have x10 := hcl 10 _ rfl
      have x11 := hcl 11 _ rfl
      have x12 := hcl 12 _ rfl
      have x13 := hcl 13 _ rfl
      clear hcl hcells hke hfit hba
      go_wp2_with fail
      refine (unhide HO).mono ?_
      rintro r W3 ⟨rfl, hb3⟩
      have HB3 := hide ((unhide HB2).trans (hb3.mono (unhide HB2).size))
      clear hb3 x0 x1 x2 x3 x4 x5 x6 x7 x8 x9 x10 x11 x12 x13
      cases ok with
      | true =>
        go_wp2_with fail
        go_roundw
        case rel => exact ⟨k + 1, by omega, by go_num, by rw [unhide HT, unhide HA]; rfl, unhide HB3⟩
        case measure => simp [intOf]; omega
      | false =>
        have HNN := hide (unhide HNo rfl)
        go_wp2_with fail
        go_ret
        exact ⟨by rw [unhide HNN]; rfl, unhide HB3⟩
    · have hk' : k = l.length := by omega
      have HY : Hid (l.all okE = true) := by
        have := unhide HA
        rwa [hk', List.take_length] at this
      go_wp2_with fail
      go_ret
      exact ⟨by rw [unhide HY]; rfl, unhide HB⟩
set_option maxRecDepth 100000 in
set_option maxHeartbeats 1600000 in
theorem groupPayload_any (v : Value) (l : List Ev) (w : World) (hr : RdR Ev.vs 14 w v l) (hf : ∀ e ∈ l, e.fit) (hk9 : ∀ e ∈ l, 1 ≤ e.kind ∧ e.kind ≤ 9) (hl4 : l.length ≤ 4096) : Calls Tryz.prog 20 #[v] w fun r w' => ∃ v', r = .returned v' ∧ BRow w' w.heap.size v' (payE l) ∧ Below w.heap.size w w' := by
  have hsf := sfl
  have HK9 := hide hk9
  obtain ⟨a, cap, rfl, hl, hc⟩ := hr
  have HC := hide hc
  have HF := hide hf
  clear hc hf hk9
  go_enter Tryz.func20, Tryz.ntmps20
  go_wp2_with fail
  go_loopw [3, 8] (fun ov iv wr => ∃ k : Nat, k ≤ l.length ∧ iv = .int .i64 k ∧ Hid (BRow wr w.heap.size ov (payE (l.take k)) ∧ Below w.heap.size w wr)) (fun _ iv _ => l.length - (intOf iv).toNat)
  case atStart => exact ⟨0, Nat.zero_le _, rfl, World.ownsRow_nil _ _ _ _, Below.refl _ _⟩
  case round =>
    obtain ⟨k, hk, rfl, hin⟩ := hrel
    obtain ⟨hrow, hb⟩ := unhide hin
    have HB := hide hb
    have HRW := hide hrow
    by_cases hlt : k < l.length
    · obtain ⟨e, hke⟩ : ∃ e, l[k]? = some e := ⟨_, List.getElem?_eq_getElem hlt⟩
      obtain ⟨b, off, rfl, hbw, hcells⟩ := unhide HC (by intro h; rw [h] at hlt; simp at hlt)
      have hcl := range_below (hcells k e hke) hb hbw
      have hlt' : (k : Int) < l.length := by omega
      have hmem := List.mem_of_getElem? hke
      have hba : Below wr.heap.size wr (wr.alloc (Obj.cells e.vs.toArray 46)) := (Below.refl _ _).alloc (Nat.le_refl _) _
      have HB2 := hide (hb.trans (hba.mono hb.size))
      have hlen := payE_len (l.take k) (fun x hx => unhide HF x (List.mem_of_mem_take hx))
      have hlen2 : (payE (l.take k)).length ≤ 1048576 := by
        have : (l.take k).length ≤ 4096 := Nat.le_trans (List.length_take_le _ _) (by omega)
        omega
      have HR2 := hide (bRow_below hrow hba)
      have HAD := hide (addEvent_any e (unhide HF e hmem) (unhide HK9 e hmem) w.heap.size _ (payE (l.take k)) (wr.alloc (Obj.cells e.vs.toArray 46)) (unhide HB2).size (unhide HR2) hlen2)
      have HM := hide (payE_more l k e hke)
      generalize payE (l.take k) = L at *
      generalize evL e = EL at *
      obtain ⟨kind, ⟨ck, cs, ct, cl, cq, ci, cp, cg⟩, id, other, qty, price, reason⟩ := e
      unfold evV at HAD
      unfold Ev.vs at HAD HB2 HR2
      simp only at HAD HB2 HR2
      have x0 : wr.cell? ⟨b, off + k * 14, none⟩ = _ := hcl 0 _ rfl
      have x1 := hcl 1 _ rfl
      have x2 := hcl 2 _ rfl
      have x3 := hcl 3 _ rfl
      have x4 := hcl 4 _ rfl
      have x5 := hcl 5 _ rfl
      have x6 := hcl 6 _ rfl
      have x7 := hcl 7 _ rfl
      have x8 := hcl 8 _ rfl
      have x9 := hcl 9 _ rfl
      have x10 := hcl 10 _ rfl
      have x11 := hcl 11 _ rfl
      have x12 := hcl 12 _ rfl
      have x13 := hcl 13 _ rfl
      clear hcl hcells hke hmem hba hb hrow hin hlen HRW
      go_wp2_with fail
      refine (unhide HAD).mono ?_
      rintro r W3 ⟨v3, rfl, hr3, hg3, _⟩
      have HB3 := hide ((unhide HB2).grown hg3 (unhide HB2).size (fun q hq => ((unhide HR2).lt q hq).1))
      have HR3 := hide hr3
      clear hr3 hg3 x0 x1 x2 x3 x4 x5 x6 x7 x8 x9 x10 x11 x12 x13
      go_wp2_with fail
      go_roundw
      case rel => exact ⟨k + 1, by omega, by go_num, by rw [unhide HM]; exact unhide HR3, unhide HB3⟩
      case measure => simp [intOf]; omega
    · have hk' : k = l.length := by omega
      rw [hk', List.take_length] at hrow
      have HR := hide hrow
      clear hrow hb hin HRW
      go_wp2_with fail
      go_ret
      exact ⟨_, rfl, unhide HR, unhide HB⟩
end Go.Proofs.YtmeekcdoajbjdaaGreatDoor
namespace Go.Proofs.YtmeekcdoajbjdaaGreatDoor
open Go.RowKit
set_option linter.unusedVariables false

theorem bitsS_any (x : Nat) (w : World) :
    Calls Tryz.prog 47 #[.float .f64 x] w fun e w' => e = .returned (.int .u64 (fbit x)) ∧ w' = w := by
  have hb := fbits
  cases h : nanB x with
  | true =>
    have HF := hide (show fbit x = 9221120237041090560 from if_pos h)
    have h' : (FloatKind.f64.format.order x x != some Ordering.eq) = true := h
    clear h
    go_enter Tryz.func47, Tryz.ntmps47
    go_wp2
    go_ret
    exact ⟨ret_int (by rw [unhide HF]; rfl), rfl⟩
  | false =>
    have HF := hide (show fbit x = x from if_neg (by rw [h]; decide))
    have h' : (FloatKind.f64.format.order x x != some Ordering.eq) = false := h
    clear h
    go_enter Tryz.func47, Tryz.ntmps47
    go_wp2
    go_ret
    exact ⟨ret_int (by rw [unhide HF]), rfl⟩
end Go.Proofs.YtmeekcdoajbjdaaGreatDoor
