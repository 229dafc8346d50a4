/-
  The exact law of EventText, walked: it returns true, and nothing that was there is turned.
-/
import Derived.Test.YthkdbjldlfahdaaGreatDoorTj30
import Derived.Test.YthkdbjldlfahdaaGreatDoorTj42
import Derived.Test.YthkdbjldlfahdaaGreatDoorTj45
import Derived.Test.YthkdbjldlfahdaaGreatDoorTj47
import Derived.Test.YthkdbjldlfahdaaGreatDoorTj48
namespace Go.Proofs.YthkdbjldlfahdaaGreatDoor
open Go.RowKit
set_option linter.unusedVariables false

/-- What EventText answers: the text and no code, or nothing and the code of a wrong event. -/
def etV (e : Ev) : Value := .tuple #[.string (if okE e = true then txE e else ⟨#[]⟩), .int .i64 (if okE e = true then 0 else 1)]
theorem etV_yes (e : Ev) (h : okE e = true) : etV e = .tuple #[.string (txE e), .int .i64 0] := by unfold etV; rw [if_pos h, if_pos h]
theorem etV_no (e : Ev) (h : okE e = false) : etV e = .tuple #[.string ⟨#[]⟩, .int .i64 1] := by unfold etV; rw [if_neg (by rw [h]; decide), if_neg (by rw [h]; decide)]
theorem okE_kind (e : Ev) (h : okE e = true) : 1 ≤ e.kind ∧ e.kind ≤ 9 := by
  rcases Classical.em (1 ≤ e.kind ∧ e.kind ≤ 9) with h1 | h1
  · exact h1
  · unfold okE at h
    rw [if_pos (fldK_no e.kind h1)] at h
    cases h
set_option maxRecDepth 100000 in
set_option maxHeartbeats 3200000 in
theorem implText_any2 (e : Ev) (w : World) (he : e.fit) (hE : ErrT w) (ht : PowT w) (hf : TabF w) : Calls Tryz.prog 7 #[evV e] w fun r w' => r = .returned (etV e) ∧ Below w.heap.size w w' := by
  have HB : Hid (Below w.heap.size w (w.alloc (Obj.cells e.vs.toArray 32))) := (Below.refl _ _).alloc (Nat.le_refl _) _
  have HX := hide (bx_made w e.vs 32)
  have HZ : Hid ((w.alloc (Obj.cells e.vs.toArray 32)).heap.size = w.heap.size + 1) := by show _ = _; simp
  have HO := hide (fun W h => implOK_any e he W h)
  have HEb := hide (fun W hb => errT_below (B := w.heap.size) (w' := W) hE hb (Nat.le_refl _))
  have HPb := hide (fun W hb => powT_below (B := w.heap.size) (w' := W) ht hb (Nat.le_refl _))
  have HFb := hide (fun W hb => ftab_below (B := w.heap.size) (w' := W) hf hb (Nat.le_refl _))
  clear hE ht hf
  have HT := hide (fun W hk h1 h2 => textOf_any e W he hk h1 h2)
  have HY := hide (etV_yes e)
  have HN := hide (etV_no e)
  have HKK := hide (okE_kind e)
  clear he
  generalize etV e = R at *
  generalize txE e = T at *
  generalize okE e = ok at *
  obtain ⟨kind, ⟨ck, cs, ct, cl, cq, ci, cp, cg⟩, id, other, qty, price, reason⟩ := e
  unfold evV at HO HT ⊢
  unfold Ev.vs at HX HB HZ
  simp only at HO HT HX HB HZ HKK HY HN ⊢
  go_enter Tryz.func7, Tryz.ntmps7
  refine wp_seq_k fun K hK => ?_
  have HK1 := hide hK
  clear hK
  go_wp2_with fail
  refine unhide HK1 _ _ ?_
  clear HK1
  generalize (w.alloc (Obj.cells #[.int .i64 kind, .int .i64 ck, .int .i64 cs, .int .i64 ct, .int .i64 cl, .int .i64 cq, .int .i64 ci, .float .f64 cp, .string cg, .int .i64 id, .int .i64 other, .int .i64 qty, .int .i64 price, .int .i64 reason] 32)) = W1 at HX HB HZ ⊢
  have x0 := bx_cell (unhide HX) 0 rfl
  have x1 := bx_cell (unhide HX) 1 rfl
  have x2 := bx_cell (unhide HX) 2 rfl
  have x3 := bx_cell (unhide HX) 3 rfl
  have x4 := bx_cell (unhide HX) 4 rfl
  have x5 := bx_cell (unhide HX) 5 rfl
  have x6 := bx_cell (unhide HX) 6 rfl
  have x7 := bx_cell (unhide HX) 7 rfl
  have x8 := bx_cell (unhide HX) 8 rfl
  have x9 := bx_cell (unhide HX) 9 rfl
  have x10 := bx_cell (unhide HX) 10 rfl
  have x11 := bx_cell (unhide HX) 11 rfl
  have x12 := bx_cell (unhide HX) 12 rfl
  have x13 := bx_cell (unhide HX) 13 rfl
  go_wp2_with fail
  refine (unhide HO W1 (unhide HEb W1 (unhide HB))).mono ?_
  rintro r W2 ⟨rfl, hb2⟩
  have HB2 := hide ((unhide HB).trans (hb2.mono (unhide HB).size))
  have HX2 := hide (bx_below (unhide HX) hb2 (by rw [unhide HZ]; omega))
  clear hb2 x0 x1 x2 x3 x4 x5 x6 x7 x8 x9 x10 x11 x12 x13
  cases ok with
  | false =>
    have HNN := hide (unhide HN rfl)
    go_wp2_with fail
    go_ret2
    exact ⟨by rw [unhide HNN]; rfl, unhide HB2⟩
  | true =>
    have HYY := hide (unhide HY rfl)
    have HK := unhide HKK rfl
    have x0 := bx_cell (unhide HX2) 0 rfl
    have x1 := bx_cell (unhide HX2) 1 rfl
    have x2 := bx_cell (unhide HX2) 2 rfl
    have x3 := bx_cell (unhide HX2) 3 rfl
    have x4 := bx_cell (unhide HX2) 4 rfl
    have x5 := bx_cell (unhide HX2) 5 rfl
    have x6 := bx_cell (unhide HX2) 6 rfl
    have x7 := bx_cell (unhide HX2) 7 rfl
    have x8 := bx_cell (unhide HX2) 8 rfl
    have x9 := bx_cell (unhide HX2) 9 rfl
    have x10 := bx_cell (unhide HX2) 10 rfl
    have x11 := bx_cell (unhide HX2) 11 rfl
    have x12 := bx_cell (unhide HX2) 12 rfl
    have x13 := bx_cell (unhide HX2) 13 rfl
    go_wp2_with fail
    refine (unhide HT W2 HK (unhide HPb W2 (unhide HB2)) (unhide HFb W2 (unhide HB2))).mono ?_
    rintro r W3 ⟨rfl, hb3⟩
    have HB3 := hide ((unhide HB2).trans (hb3.mono (unhide HB2).size))
    clear hb3
    go_wp2_with fail
    go_ret2
    exact ⟨by rw [unhide HYY]; rfl, unhide HB3⟩
set_option maxRecDepth 100000 in
set_option maxHeartbeats 3200000 in
theorem specText_any2 (e : Ev) (w : World) (he : e.fit) : Calls Tryz.prog 5 #[evV e] w fun r w' => r = .returned (etV e) ∧ Below w.heap.size w w' := by
  have HB : Hid (Below w.heap.size w (w.alloc (Obj.cells e.vs.toArray 32))) := (Below.refl _ _).alloc (Nat.le_refl _) _
  have HX := hide (bx_made w e.vs 32)
  have HZ : Hid ((w.alloc (Obj.cells e.vs.toArray 32)).heap.size = w.heap.size + 1) := by show _ = _; simp
  have HO := hide (fun W => specOK_any e W he.g)
  have HT := hide (fun W hk => textS_any e W he hk)
  have HY := hide (etV_yes e)
  have HN := hide (etV_no e)
  have HKK := hide (okE_kind e)
  clear he
  generalize etV e = R at *
  generalize txE e = T at *
  generalize okE e = ok at *
  obtain ⟨kind, ⟨ck, cs, ct, cl, cq, ci, cp, cg⟩, id, other, qty, price, reason⟩ := e
  unfold evV at HO HT ⊢
  unfold Ev.vs at HX HB HZ
  simp only at HO HT HX HB HZ HKK HY HN ⊢
  go_enter Tryz.func5, Tryz.ntmps5
  refine wp_seq_k fun K hK => ?_
  have HK1 := hide hK
  clear hK
  go_wp2_with fail
  refine unhide HK1 _ _ ?_
  clear HK1
  generalize (w.alloc (Obj.cells #[.int .i64 kind, .int .i64 ck, .int .i64 cs, .int .i64 ct, .int .i64 cl, .int .i64 cq, .int .i64 ci, .float .f64 cp, .string cg, .int .i64 id, .int .i64 other, .int .i64 qty, .int .i64 price, .int .i64 reason] 32)) = W1 at HX HB HZ ⊢
  have x0 := bx_cell (unhide HX) 0 rfl
  have x1 := bx_cell (unhide HX) 1 rfl
  have x2 := bx_cell (unhide HX) 2 rfl
  have x3 := bx_cell (unhide HX) 3 rfl
  have x4 := bx_cell (unhide HX) 4 rfl
  have x5 := bx_cell (unhide HX) 5 rfl
  have x6 := bx_cell (unhide HX) 6 rfl
  have x7 := bx_cell (unhide HX) 7 rfl
  have x8 := bx_cell (unhide HX) 8 rfl
  have x9 := bx_cell (unhide HX) 9 rfl
  have x10 := bx_cell (unhide HX) 10 rfl
  have x11 := bx_cell (unhide HX) 11 rfl
  have x12 := bx_cell (unhide HX) 12 rfl
  have x13 := bx_cell (unhide HX) 13 rfl
  go_wp2_with fail
  refine (unhide HO W1).mono ?_
  rintro r W2 ⟨rfl, hb2⟩
  have HB2 := hide ((unhide HB).trans (hb2.mono (unhide HB).size))
  have HX2 := hide (bx_below (unhide HX) hb2 (by rw [unhide HZ]; omega))
  clear hb2 x0 x1 x2 x3 x4 x5 x6 x7 x8 x9 x10 x11 x12 x13
  cases ok with
  | false =>
    have HNN := hide (unhide HN rfl)
    go_wp2_with fail
    go_ret2
    exact ⟨by rw [unhide HNN]; rfl, unhide HB2⟩
  | true =>
    have HYY := hide (unhide HY rfl)
    have HK := unhide HKK rfl
    have x0 := bx_cell (unhide HX2) 0 rfl
    have x1 := bx_cell (unhide HX2) 1 rfl
    have x2 := bx_cell (unhide HX2) 2 rfl
    have x3 := bx_cell (unhide HX2) 3 rfl
    have x4 := bx_cell (unhide HX2) 4 rfl
    have x5 := bx_cell (unhide HX2) 5 rfl
    have x6 := bx_cell (unhide HX2) 6 rfl
    have x7 := bx_cell (unhide HX2) 7 rfl
    have x8 := bx_cell (unhide HX2) 8 rfl
    have x9 := bx_cell (unhide HX2) 9 rfl
    have x10 := bx_cell (unhide HX2) 10 rfl
    have x11 := bx_cell (unhide HX2) 11 rfl
    have x12 := bx_cell (unhide HX2) 12 rfl
    have x13 := bx_cell (unhide HX2) 13 rfl
    go_wp2_with fail
    refine (unhide HT W2 HK).mono ?_
    rintro r W3 ⟨rfl, hb3⟩
    have HB3 := hide ((unhide HB2).trans (hb3.mono (unhide HB2).size))
    clear hb3
    go_wp2_with fail
    go_ret2
    exact ⟨by rw [unhide HYY]; rfl, unhide HB3⟩
set_option maxRecDepth 100000 in
set_option maxHeartbeats 3200000 in
theorem exactText (e : Ev) (w : World) (ho : e.ok) (hE : ErrT w) (ht : PowT w) (hf : TabF w) : Calls Tryz.prog 3 #[evV e] w fun r w' => r = .returned (.bool true) ∧ Below w.heap.size w w' := by
  have hfit := ho.fit
  have HSZ := hide (fun W => szEvent_any e 1048576 W (by omega) (by omega) hfit.g)
  have HTO := hide (fun W => toEvent_any e W)
  have HSP := hide (fun W => specText_any2 e W hfit)
  have HIM := hide (fun W hb => implText_any2 e W hfit (errT_below (B := w.heap.size) (w' := W) hE hb (Nat.le_refl _)) (powT_below (B := w.heap.size) (w' := W) ht hb (Nat.le_refl _)) (ftab_below (B := w.heap.size) (w' := W) hf hb (Nat.le_refl _)))
  have HX : Hid (Bx (w.alloc (Obj.cells e.vs.toArray 26)) w.heap.size e.vs) := bx_made w e.vs 26
  have HB : Hid (Below w.heap.size w (w.alloc (Obj.cells e.vs.toArray 26))) := (Below.refl _ _).alloc (Nat.le_refl _) _
  have HZ : Hid ((w.alloc (Obj.cells e.vs.toArray 26)).heap.size = w.heap.size + 1) := by show _ = _; simp
  unfold etV at HSP HIM
  generalize (if okE e = true then txE e else ⟨#[]⟩) = T at *
  generalize (if okE e = true then (0 : Int) else 1) = C at *
  clear ho hfit hE ht hf
  obtain ⟨kind, ⟨ck, cs, ct, cl, cq, ci, cp, cg⟩, id, other, qty, price, reason⟩ := e
  unfold evV at HSZ HTO HSP HIM ⊢
  unfold Ev.vs at HX HB HZ
  simp only at HSZ HTO HSP HIM HX HB HZ ⊢
  go_enter Tryz.func3, Tryz.ntmps3
  refine wp_seq_k fun K hK => ?_
  have HK1 := hide hK
  clear hK
  go_wp2_with fail
  refine unhide HK1 _ _ ?_
  clear HK1
  generalize (w.alloc (Obj.cells #[.int .i64 kind, .int .i64 ck, .int .i64 cs, .int .i64 ct, .int .i64 cl, .int .i64 cq, .int .i64 ci, .float .f64 cp, .string cg, .int .i64 id, .int .i64 other, .int .i64 qty, .int .i64 price, .int .i64 reason] 26)) = W1 at HX HB HZ ⊢
  have x0 := bx_cell (unhide HX) 0 rfl
  have x1 := bx_cell (unhide HX) 1 rfl
  have x2 := bx_cell (unhide HX) 2 rfl
  have x3 := bx_cell (unhide HX) 3 rfl
  have x4 := bx_cell (unhide HX) 4 rfl
  have x5 := bx_cell (unhide HX) 5 rfl
  have x6 := bx_cell (unhide HX) 6 rfl
  have x7 := bx_cell (unhide HX) 7 rfl
  have x8 := bx_cell (unhide HX) 8 rfl
  have x9 := bx_cell (unhide HX) 9 rfl
  have x10 := bx_cell (unhide HX) 10 rfl
  have x11 := bx_cell (unhide HX) 11 rfl
  have x12 := bx_cell (unhide HX) 12 rfl
  have x13 := bx_cell (unhide HX) 13 rfl
  go_wp2_with fail
  refine (unhide HSZ W1).mono ?_
  rintro r W2 ⟨y, rfl, hy1, hb2⟩
  have HB2 := hide ((unhide HB).trans (hb2.mono (unhide HB).size))
  have HX2 := hide (bx_below (unhide HX) hb2 (by rw [unhide HZ]; omega))
  have hz2 : w.heap.size < W2.heap.size := by have := hb2.size; rw [unhide HZ] at this; omega
  clear hb2 x0 x1 x2 x3 x4 x5 x6 x7 x8 x9 x10 x11 x12 x13 HX HB HZ
  by_cases hy : y < 0
  · go_wp2_with fail
    go_ret
    exact ⟨rfl, unhide HB2⟩
  have hy' : 0 ≤ y := by omega
  have x0 := bx_cell (unhide HX2) 0 rfl
  have x1 := bx_cell (unhide HX2) 1 rfl
  have x2 := bx_cell (unhide HX2) 2 rfl
  have x3 := bx_cell (unhide HX2) 3 rfl
  have x4 := bx_cell (unhide HX2) 4 rfl
  have x5 := bx_cell (unhide HX2) 5 rfl
  have x6 := bx_cell (unhide HX2) 6 rfl
  have x7 := bx_cell (unhide HX2) 7 rfl
  have x8 := bx_cell (unhide HX2) 8 rfl
  have x9 := bx_cell (unhide HX2) 9 rfl
  have x10 := bx_cell (unhide HX2) 10 rfl
  have x11 := bx_cell (unhide HX2) 11 rfl
  have x12 := bx_cell (unhide HX2) 12 rfl
  have x13 := bx_cell (unhide HX2) 13 rfl
  go_wp2_with fail
  refine (unhide HTO W2).mono ?_
  rintro r W3 ⟨rfl, hb3⟩
  have HB3 := hide ((unhide HB2).trans (hb3.mono (unhide HB2).size))
  have HX3 := hide (bx_below (unhide HX2) hb3 hz2)
  have hz3 : w.heap.size < W3.heap.size := Nat.lt_of_lt_of_le hz2 hb3.size
  clear hb3 x0 x1 x2 x3 x4 x5 x6 x7 x8 x9 x10 x11 x12 x13 HX2 HB2 hz2
  go_wp2_with fail
  refine (unhide HSP W3).mono ?_
  rintro r W4 ⟨rfl, hb4⟩
  have HB4 := hide ((unhide HB3).trans (hb4.mono (unhide HB3).size))
  have HX4 := hide (bx_below (unhide HX3) hb4 hz3)
  have hz4 : w.heap.size < W4.heap.size := Nat.lt_of_lt_of_le hz3 hb4.size
  clear hb4 HX3 HB3 hz3
  have x0 := bx_cell (unhide HX4) 0 rfl
  have x1 := bx_cell (unhide HX4) 1 rfl
  have x2 := bx_cell (unhide HX4) 2 rfl
  have x3 := bx_cell (unhide HX4) 3 rfl
  have x4 := bx_cell (unhide HX4) 4 rfl
  have x5 := bx_cell (unhide HX4) 5 rfl
  have x6 := bx_cell (unhide HX4) 6 rfl
  have x7 := bx_cell (unhide HX4) 7 rfl
  have x8 := bx_cell (unhide HX4) 8 rfl
  have x9 := bx_cell (unhide HX4) 9 rfl
  have x10 := bx_cell (unhide HX4) 10 rfl
  have x11 := bx_cell (unhide HX4) 11 rfl
  have x12 := bx_cell (unhide HX4) 12 rfl
  have x13 := bx_cell (unhide HX4) 13 rfl
  go_wp2_with fail
  refine (unhide HTO W4).mono ?_
  rintro r W5 ⟨rfl, hb5⟩
  have HB5 := hide ((unhide HB4).trans (hb5.mono (unhide HB4).size))
  have HII := hide (unhide HIM W5 (unhide HB5))
  clear hb5 x0 x1 x2 x3 x4 x5 x6 x7 x8 x9 x10 x11 x12 x13 HX4 HB4 hz4
  go_wp2_with fail
  refine (unhide HII).mono ?_
  rintro r W6 ⟨rfl, hb6⟩
  have HB6 := hide ((unhide HB5).trans (hb6.mono (unhide HB5).size))
  clear hb6
  go_wp2_with fail
  go_ret
  exact ⟨rfl, unhide HB6⟩
end Go.Proofs.YthkdbjldlfahdaaGreatDoor
