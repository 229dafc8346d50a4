/-
  The text of an event, by the program: proved by walking the function.
-/
import Derived.Test.YthkdbjldlfahdaaGreatDoorTj06
import Derived.Test.YthkdbjldlfahdaaGreatDoorTj07
import Derived.Test.YthkdbjldlfahdaaGreatDoorTj24
namespace Go.Proofs.YthkdbjldlfahdaaGreatDoor
open Go.RowKit
set_option linter.unusedVariables false

/-- The text of an event. -/
def txE (e : Ev) : ByteArray :=
  if e.kind = 1 then lnB ⟨#[97, 99, 99, 101, 112, 116]⟩ [e.id] else
  if e.kind = 2 then ((⟨#[114, 101, 102, 117, 115, 101, 32]⟩ : ByteArray) ++ fnameB e.reason) else
  if e.kind = 3 then lnB ⟨#[116, 114, 97, 100, 101]⟩ [e.id, e.other, e.qty, e.price] else
  if e.kind = 4 then lnB ⟨#[114, 101, 115, 116]⟩ [e.id, e.qty] else
  if e.kind = 5 then lnB ⟨#[100, 114, 111, 112]⟩ [e.id, e.qty] else
  if e.kind = 6 then lnB ⟨#[99, 97, 110, 99, 101, 108]⟩ [e.id, e.qty] else
  if e.kind = 7 then lnB ⟨#[114, 101, 100, 117, 99, 101]⟩ [e.id, e.qty] else
  if e.kind = 8 then lnB ⟨#[101, 110, 100]⟩ [e.qty] else
  lnB ⟨#[101, 120, 112, 105, 114, 101]⟩ [e.id, e.qty]
theorem fname_size (c : Int) : (fnameB c).size ≤ 100 := by
  unfold fnameB
  split
  · next h =>
    obtain ⟨k, rfl⟩ := Int.eq_ofNat_of_zero_le h.1
    have hk : k < 14 := by omega
    rw [Int.toNat_natCast]
    rcases (show k = 0 ∨ k = 1 ∨ k = 2 ∨ k = 3 ∨ k = 4 ∨ k = 5 ∨ k = 6 ∨ k = 7 ∨ k = 8 ∨ k = 9 ∨ k = 10 ∨ k = 11 ∨ k = 12 ∨ k = 13 by omega) with rfl | rfl | rfl | rfl | rfl | rfl | rfl | rfl | rfl | rfl | rfl | rfl | rfl | rfl <;> decide
  · decide
set_option maxRecDepth 100000 in
set_option maxHeartbeats 1600000 in
theorem text1_any (e : Ev) (w : World) (he : e.fit) (hk : e.kind = 1) (ht : PowT w) (hf : TabF w) : Calls Tryz.prog 13 #[evV e] w fun r w' => r = .returned (.string (txE e)) ∧ Below w.heap.size w w' := by
  have hb0 : Below w.heap.size w (w.alloc (Obj.cells e.vs.toArray 32)) := (Below.refl _ _).alloc (Nat.le_refl _) _
  have HB := hide hb0
  have HX := hide (bx_made w e.vs 32)
  have HZ : Hid ((w.alloc (Obj.cells e.vs.toArray 32)).heap.size = w.heap.size + 1) := by show _ = _; simp
  have HT := hide (powT_below ht hb0 (Nat.le_refl _))
  have HTF := hide (ftab_below hf hb0 (Nat.le_refl _))
  have n9 := he.n 9
  have n10 := he.n 10
  have n11 := he.n 11
  have n12 := he.n 12
  have n13 := he.n 13
  clear he ht hf hb0
  obtain ⟨kind, ⟨ck, cs, ct, cl, cq, ci, cp, cg⟩, id, other, qty, price, reason⟩ := e
  simp only at hk
  subst hk
  unfold Ev.num at n9 n10 n11 n12 n13
  unfold evV
  unfold Ev.vs at HX HB HZ HT HTF
  simp only at HX HB HZ HT HTF n9 n10 n11 n12 n13 ⊢
  have HV : Hid (txE ⟨1, ⟨ck, cs, ct, cl, cq, ci, cp, cg⟩, id, other, qty, price, reason⟩ = lnB ⟨#[97, 99, 99, 101, 112, 116]⟩ [id]) := rfl
  go_enter Tryz.func13, Tryz.ntmps13
  refine wp_seq_k fun K hK => ?_
  have HK1 := hide hK
  clear hK
  go_wp2_with fail
  refine unhide HK1 _ _ ?_
  clear HK1
  generalize (w.alloc (Obj.cells #[.int .i64 1, .int .i64 ck, .int .i64 cs, .int .i64 ct, .int .i64 cl, .int .i64 cq, .int .i64 ci, .float .f64 cp, .string cg, .int .i64 id, .int .i64 other, .int .i64 qty, .int .i64 price, .int .i64 reason] 32)) = W1 at HX HB HZ HT HTF ⊢
  have x0 := bx_cell (unhide HX) 0 rfl
  have x9 := bx_cell (unhide HX) 9 rfl
  have x10 := bx_cell (unhide HX) 10 rfl
  have x11 := bx_cell (unhide HX) 11 rfl
  have x12 := bx_cell (unhide HX) 12 rfl
  have x13 := bx_cell (unhide HX) 13 rfl
  have hb2 : Below W1.heap.size W1 (W1.alloc (Obj.cells #[.int .i64 id] 3)) := (Below.refl _ _).alloc (Nat.le_refl _) _
  have HL := hide (lineOf_any ⟨#[97, 99, 99, 101, 112, 116]⟩ W1.heap.size [id] (W1.alloc (Obj.cells #[.int .i64 id] 3)) (bx_made W1 [.int .i64 id] 3) (by simp) (by intro n hn; simp at hn; rcases hn with rfl; all_goals assumption) (by simp) (by decide) (powT_below (unhide HT) hb2 (Nat.le_refl _)))
  have HB2 := hide ((unhide HB).trans (hb2.mono (unhide HB).size))
  clear hb2
  go_wp2_with fail
  refine (unhide HL).mono ?_
  rintro r W3 ⟨rfl, hb3⟩
  have HB3 := hide ((unhide HB2).trans (hb3.mono (unhide HB2).size))
  clear hb3
  go_wp2_with fail
  go_ret
  exact ⟨by rw [unhide HV]; rfl, unhide HB3⟩
set_option maxRecDepth 100000 in
set_option maxHeartbeats 1600000 in
theorem text2_any (e : Ev) (w : World) (he : e.fit) (hk : e.kind = 2) (ht : PowT w) (hf : TabF w) : Calls Tryz.prog 13 #[evV e] w fun r w' => r = .returned (.string (txE e)) ∧ Below w.heap.size w w' := by
  have hb0 : Below w.heap.size w (w.alloc (Obj.cells e.vs.toArray 32)) := (Below.refl _ _).alloc (Nat.le_refl _) _
  have HB := hide hb0
  have HX := hide (bx_made w e.vs 32)
  have HZ : Hid ((w.alloc (Obj.cells e.vs.toArray 32)).heap.size = w.heap.size + 1) := by show _ = _; simp
  have HT := hide (powT_below ht hb0 (Nat.le_refl _))
  have HTF := hide (ftab_below hf hb0 (Nat.le_refl _))
  have n9 := he.n 9
  have n10 := he.n 10
  have n11 := he.n 11
  have n12 := he.n 12
  have n13 := he.n 13
  clear he ht hf hb0
  obtain ⟨kind, ⟨ck, cs, ct, cl, cq, ci, cp, cg⟩, id, other, qty, price, reason⟩ := e
  simp only at hk
  subst hk
  unfold Ev.num at n9 n10 n11 n12 n13
  unfold evV
  unfold Ev.vs at HX HB HZ HT HTF
  simp only at HX HB HZ HT HTF n9 n10 n11 n12 n13 ⊢
  have HV : Hid (txE ⟨2, ⟨ck, cs, ct, cl, cq, ci, cp, cg⟩, id, other, qty, price, reason⟩ = (⟨#[114, 101, 102, 117, 115, 101, 32]⟩ : ByteArray) ++ fnameB reason) := rfl
  have hsz : (fnameB reason).size ≤ 100 := fname_size reason
  have HI := hide (fun W h => implReaN_any reason W h)
  generalize fnameB reason = S at *
  go_enter Tryz.func13, Tryz.ntmps13
  refine wp_seq_k fun K hK => ?_
  have HK1 := hide hK
  clear hK
  go_wp2_with fail
  refine unhide HK1 _ _ ?_
  clear HK1
  generalize (w.alloc (Obj.cells #[.int .i64 2, .int .i64 ck, .int .i64 cs, .int .i64 ct, .int .i64 cl, .int .i64 cq, .int .i64 ci, .float .f64 cp, .string cg, .int .i64 id, .int .i64 other, .int .i64 qty, .int .i64 price, .int .i64 reason] 32)) = W1 at HX HB HZ HT HTF ⊢
  have x0 := bx_cell (unhide HX) 0 rfl
  have x9 := bx_cell (unhide HX) 9 rfl
  have x10 := bx_cell (unhide HX) 10 rfl
  have x11 := bx_cell (unhide HX) 11 rfl
  have x12 := bx_cell (unhide HX) 12 rfl
  have x13 := bx_cell (unhide HX) 13 rfl
  go_wp2_with fail
  refine (unhide HI W1 (unhide HTF)).mono ?_
  rintro r W2 ⟨rfl, rfl⟩
  go_wp2_with fail
  go_ret
  exact ⟨by rw [unhide HV]; rfl, unhide HB⟩
set_option maxRecDepth 100000 in
set_option maxHeartbeats 1600000 in
theorem text3_any (e : Ev) (w : World) (he : e.fit) (hk : e.kind = 3) (ht : PowT w) (hf : TabF w) : Calls Tryz.prog 13 #[evV e] w fun r w' => r = .returned (.string (txE e)) ∧ Below w.heap.size w w' := by
  have hb0 : Below w.heap.size w (w.alloc (Obj.cells e.vs.toArray 32)) := (Below.refl _ _).alloc (Nat.le_refl _) _
  have HB := hide hb0
  have HX := hide (bx_made w e.vs 32)
  have HZ : Hid ((w.alloc (Obj.cells e.vs.toArray 32)).heap.size = w.heap.size + 1) := by show _ = _; simp
  have HT := hide (powT_below ht hb0 (Nat.le_refl _))
  have HTF := hide (ftab_below hf hb0 (Nat.le_refl _))
  have n9 := he.n 9
  have n10 := he.n 10
  have n11 := he.n 11
  have n12 := he.n 12
  have n13 := he.n 13
  clear he ht hf hb0
  obtain ⟨kind, ⟨ck, cs, ct, cl, cq, ci, cp, cg⟩, id, other, qty, price, reason⟩ := e
  simp only at hk
  subst hk
  unfold Ev.num at n9 n10 n11 n12 n13
  unfold evV
  unfold Ev.vs at HX HB HZ HT HTF
  simp only at HX HB HZ HT HTF n9 n10 n11 n12 n13 ⊢
  have HV : Hid (txE ⟨3, ⟨ck, cs, ct, cl, cq, ci, cp, cg⟩, id, other, qty, price, reason⟩ = lnB ⟨#[116, 114, 97, 100, 101]⟩ [id, other, qty, price]) := rfl
  go_enter Tryz.func13, Tryz.ntmps13
  refine wp_seq_k fun K hK => ?_
  have HK1 := hide hK
  clear hK
  go_wp2_with fail
  refine unhide HK1 _ _ ?_
  clear HK1
  generalize (w.alloc (Obj.cells #[.int .i64 3, .int .i64 ck, .int .i64 cs, .int .i64 ct, .int .i64 cl, .int .i64 cq, .int .i64 ci, .float .f64 cp, .string cg, .int .i64 id, .int .i64 other, .int .i64 qty, .int .i64 price, .int .i64 reason] 32)) = W1 at HX HB HZ HT HTF ⊢
  have x0 := bx_cell (unhide HX) 0 rfl
  have x9 := bx_cell (unhide HX) 9 rfl
  have x10 := bx_cell (unhide HX) 10 rfl
  have x11 := bx_cell (unhide HX) 11 rfl
  have x12 := bx_cell (unhide HX) 12 rfl
  have x13 := bx_cell (unhide HX) 13 rfl
  have hb2 : Below W1.heap.size W1 (W1.alloc (Obj.cells #[.int .i64 id, .int .i64 other, .int .i64 qty, .int .i64 price] 3)) := (Below.refl _ _).alloc (Nat.le_refl _) _
  have HL := hide (lineOf_any ⟨#[116, 114, 97, 100, 101]⟩ W1.heap.size [id, other, qty, price] (W1.alloc (Obj.cells #[.int .i64 id, .int .i64 other, .int .i64 qty, .int .i64 price] 3)) (bx_made W1 [.int .i64 id, .int .i64 other, .int .i64 qty, .int .i64 price] 3) (by simp) (by intro n hn; simp at hn; rcases hn with rfl | rfl | rfl | rfl; all_goals assumption) (by simp) (by decide) (powT_below (unhide HT) hb2 (Nat.le_refl _)))
  have HB2 := hide ((unhide HB).trans (hb2.mono (unhide HB).size))
  clear hb2
  go_wp2_with fail
  refine (unhide HL).mono ?_
  rintro r W3 ⟨rfl, hb3⟩
  have HB3 := hide ((unhide HB2).trans (hb3.mono (unhide HB2).size))
  clear hb3
  go_wp2_with fail
  go_ret
  exact ⟨by rw [unhide HV]; rfl, unhide HB3⟩
set_option maxRecDepth 100000 in
set_option maxHeartbeats 1600000 in
theorem text4_any (e : Ev) (w : World) (he : e.fit) (hk : e.kind = 4) (ht : PowT w) (hf : TabF w) : Calls Tryz.prog 13 #[evV e] w fun r w' => r = .returned (.string (txE e)) ∧ Below w.heap.size w w' := by
  have hb0 : Below w.heap.size w (w.alloc (Obj.cells e.vs.toArray 32)) := (Below.refl _ _).alloc (Nat.le_refl _) _
  have HB := hide hb0
  have HX := hide (bx_made w e.vs 32)
  have HZ : Hid ((w.alloc (Obj.cells e.vs.toArray 32)).heap.size = w.heap.size + 1) := by show _ = _; simp
  have HT := hide (powT_below ht hb0 (Nat.le_refl _))
  have HTF := hide (ftab_below hf hb0 (Nat.le_refl _))
  have n9 := he.n 9
  have n10 := he.n 10
  have n11 := he.n 11
  have n12 := he.n 12
  have n13 := he.n 13
  clear he ht hf hb0
  obtain ⟨kind, ⟨ck, cs, ct, cl, cq, ci, cp, cg⟩, id, other, qty, price, reason⟩ := e
  simp only at hk
  subst hk
  unfold Ev.num at n9 n10 n11 n12 n13
  unfold evV
  unfold Ev.vs at HX HB HZ HT HTF
  simp only at HX HB HZ HT HTF n9 n10 n11 n12 n13 ⊢
  have HV : Hid (txE ⟨4, ⟨ck, cs, ct, cl, cq, ci, cp, cg⟩, id, other, qty, price, reason⟩ = lnB ⟨#[114, 101, 115, 116]⟩ [id, qty]) := rfl
  go_enter Tryz.func13, Tryz.ntmps13
  refine wp_seq_k fun K hK => ?_
  have HK1 := hide hK
  clear hK
  go_wp2_with fail
  refine unhide HK1 _ _ ?_
  clear HK1
  generalize (w.alloc (Obj.cells #[.int .i64 4, .int .i64 ck, .int .i64 cs, .int .i64 ct, .int .i64 cl, .int .i64 cq, .int .i64 ci, .float .f64 cp, .string cg, .int .i64 id, .int .i64 other, .int .i64 qty, .int .i64 price, .int .i64 reason] 32)) = W1 at HX HB HZ HT HTF ⊢
  have x0 := bx_cell (unhide HX) 0 rfl
  have x9 := bx_cell (unhide HX) 9 rfl
  have x10 := bx_cell (unhide HX) 10 rfl
  have x11 := bx_cell (unhide HX) 11 rfl
  have x12 := bx_cell (unhide HX) 12 rfl
  have x13 := bx_cell (unhide HX) 13 rfl
  have hb2 : Below W1.heap.size W1 (W1.alloc (Obj.cells #[.int .i64 id, .int .i64 qty] 3)) := (Below.refl _ _).alloc (Nat.le_refl _) _
  have HL := hide (lineOf_any ⟨#[114, 101, 115, 116]⟩ W1.heap.size [id, qty] (W1.alloc (Obj.cells #[.int .i64 id, .int .i64 qty] 3)) (bx_made W1 [.int .i64 id, .int .i64 qty] 3) (by simp) (by intro n hn; simp at hn; rcases hn with rfl | rfl; all_goals assumption) (by simp) (by decide) (powT_below (unhide HT) hb2 (Nat.le_refl _)))
  have HB2 := hide ((unhide HB).trans (hb2.mono (unhide HB).size))
  clear hb2
  go_wp2_with fail
  refine (unhide HL).mono ?_
  rintro r W3 ⟨rfl, hb3⟩
  have HB3 := hide ((unhide HB2).trans (hb3.mono (unhide HB2).size))
  clear hb3
  go_wp2_with fail
  go_ret
  exact ⟨by rw [unhide HV]; rfl, unhide HB3⟩
set_option maxRecDepth 100000 in
set_option maxHeartbeats 1600000 in
theorem text5_any (e : Ev) (w : World) (he : e.fit) (hk : e.kind = 5) (ht : PowT w) (hf : TabF w) : Calls Tryz.prog 13 #[evV e] w fun r w' => r = .returned (.string (txE e)) ∧ Below w.heap.size w w' := by
  have hb0 : Below w.heap.size w (w.alloc (Obj.cells e.vs.toArray 32)) := (Below.refl _ _).alloc (Nat.le_refl _) _
  have HB := hide hb0
  have HX := hide (bx_made w e.vs 32)
  have HZ : Hid ((w.alloc (Obj.cells e.vs.toArray 32)).heap.size = w.heap.size + 1) := by show _ = _; simp
  have HT := hide (powT_below ht hb0 (Nat.le_refl _))
  have HTF := hide (ftab_below hf hb0 (Nat.le_refl _))
  have n9 := he.n 9
  have n10 := he.n 10
  have n11 := he.n 11
  have n12 := he.n 12
  have n13 := he.n 13
  clear he ht hf hb0
  obtain ⟨kind, ⟨ck, cs, ct, cl, cq, ci, cp, cg⟩, id, other, qty, price, reason⟩ := e
  simp only at hk
  subst hk
  unfold Ev.num at n9 n10 n11 n12 n13
  unfold evV
  unfold Ev.vs at HX HB HZ HT HTF
  simp only at HX HB HZ HT HTF n9 n10 n11 n12 n13 ⊢
  have HV : Hid (txE ⟨5, ⟨ck, cs, ct, cl, cq, ci, cp, cg⟩, id, other, qty, price, reason⟩ = lnB ⟨#[100, 114, 111, 112]⟩ [id, qty]) := rfl
  go_enter Tryz.func13, Tryz.ntmps13
  refine wp_seq_k fun K hK => ?_
  have HK1 := hide hK
  clear hK
  go_wp2_with fail
  refine unhide HK1 _ _ ?_
  clear HK1
  generalize (w.alloc (Obj.cells #[.int .i64 5, .int .i64 ck, .int .i64 cs, .int .i64 ct, .int .i64 cl, .int .i64 cq, .int .i64 ci, .float .f64 cp, .string cg, .int .i64 id, .int .i64 other, .int .i64 qty, .int .i64 price, .int .i64 reason] 32)) = W1 at HX HB HZ HT HTF ⊢
  have x0 := bx_cell (unhide HX) 0 rfl
  have x9 := bx_cell (unhide HX) 9 rfl
  have x10 := bx_cell (unhide HX) 10 rfl
  have x11 := bx_cell (unhide HX) 11 rfl
  have x12 := bx_cell (unhide HX) 12 rfl
  have x13 := bx_cell (unhide HX) 13 rfl
  have hb2 : Below W1.heap.size W1 (W1.alloc (Obj.cells #[.int .i64 id, .int .i64 qty] 3)) := (Below.refl _ _).alloc (Nat.le_refl _) _
  have HL := hide (lineOf_any ⟨#[100, 114, 111, 112]⟩ W1.heap.size [id, qty] (W1.alloc (Obj.cells #[.int .i64 id, .int .i64 qty] 3)) (bx_made W1 [.int .i64 id, .int .i64 qty] 3) (by simp) (by intro n hn; simp at hn; rcases hn with rfl | rfl; all_goals assumption) (by simp) (by decide) (powT_below (unhide HT) hb2 (Nat.le_refl _)))
  have HB2 := hide ((unhide HB).trans (hb2.mono (unhide HB).size))
  clear hb2
  go_wp2_with fail
  refine (unhide HL).mono ?_
  rintro r W3 ⟨rfl, hb3⟩
  have HB3 := hide ((unhide HB2).trans (hb3.mono (unhide HB2).size))
  clear hb3
  go_wp2_with fail
  go_ret
  exact ⟨by rw [unhide HV]; rfl, unhide HB3⟩
set_option maxRecDepth 100000 in
set_option maxHeartbeats 1600000 in
theorem text6_any (e : Ev) (w : World) (he : e.fit) (hk : e.kind = 6) (ht : PowT w) (hf : TabF w) : Calls Tryz.prog 13 #[evV e] w fun r w' => r = .returned (.string (txE e)) ∧ Below w.heap.size w w' := by
  have hb0 : Below w.heap.size w (w.alloc (Obj.cells e.vs.toArray 32)) := (Below.refl _ _).alloc (Nat.le_refl _) _
  have HB := hide hb0
  have HX := hide (bx_made w e.vs 32)
  have HZ : Hid ((w.alloc (Obj.cells e.vs.toArray 32)).heap.size = w.heap.size + 1) := by show _ = _; simp
  have HT := hide (powT_below ht hb0 (Nat.le_refl _))
  have HTF := hide (ftab_below hf hb0 (Nat.le_refl _))
  have n9 := he.n 9
  have n10 := he.n 10
  have n11 := he.n 11
  have n12 := he.n 12
  have n13 := he.n 13
  clear he ht hf hb0
  obtain ⟨kind, ⟨ck, cs, ct, cl, cq, ci, cp, cg⟩, id, other, qty, price, reason⟩ := e
  simp only at hk
  subst hk
  unfold Ev.num at n9 n10 n11 n12 n13
  unfold evV
  unfold Ev.vs at HX HB HZ HT HTF
  simp only at HX HB HZ HT HTF n9 n10 n11 n12 n13 ⊢
  have HV : Hid (txE ⟨6, ⟨ck, cs, ct, cl, cq, ci, cp, cg⟩, id, other, qty, price, reason⟩ = lnB ⟨#[99, 97, 110, 99, 101, 108]⟩ [id, qty]) := rfl
  go_enter Tryz.func13, Tryz.ntmps13
  refine wp_seq_k fun K hK => ?_
  have HK1 := hide hK
  clear hK
  go_wp2_with fail
  refine unhide HK1 _ _ ?_
  clear HK1
  generalize (w.alloc (Obj.cells #[.int .i64 6, .int .i64 ck, .int .i64 cs, .int .i64 ct, .int .i64 cl, .int .i64 cq, .int .i64 ci, .float .f64 cp, .string cg, .int .i64 id, .int .i64 other, .int .i64 qty, .int .i64 price, .int .i64 reason] 32)) = W1 at HX HB HZ HT HTF ⊢
  have x0 := bx_cell (unhide HX) 0 rfl
  have x9 := bx_cell (unhide HX) 9 rfl
  have x10 := bx_cell (unhide HX) 10 rfl
  have x11 := bx_cell (unhide HX) 11 rfl
  have x12 := bx_cell (unhide HX) 12 rfl
  have x13 := bx_cell (unhide HX) 13 rfl
  have hb2 : Below W1.heap.size W1 (W1.alloc (Obj.cells #[.int .i64 id, .int .i64 qty] 3)) := (Below.refl _ _).alloc (Nat.le_refl _) _
  have HL := hide (lineOf_any ⟨#[99, 97, 110, 99, 101, 108]⟩ W1.heap.size [id, qty] (W1.alloc (Obj.cells #[.int .i64 id, .int .i64 qty] 3)) (bx_made W1 [.int .i64 id, .int .i64 qty] 3) (by simp) (by intro n hn; simp at hn; rcases hn with rfl | rfl; all_goals assumption) (by simp) (by decide) (powT_below (unhide HT) hb2 (Nat.le_refl _)))
  have HB2 := hide ((unhide HB).trans (hb2.mono (unhide HB).size))
  clear hb2
  go_wp2_with fail
  refine (unhide HL).mono ?_
  rintro r W3 ⟨rfl, hb3⟩
  have HB3 := hide ((unhide HB2).trans (hb3.mono (unhide HB2).size))
  clear hb3
  go_wp2_with fail
  go_ret
  exact ⟨by rw [unhide HV]; rfl, unhide HB3⟩
set_option maxRecDepth 100000 in
set_option maxHeartbeats 1600000 in
theorem text7_any (e : Ev) (w : World) (he : e.fit) (hk : e.kind = 7) (ht : PowT w) (hf : TabF w) : Calls Tryz.prog 13 #[evV e] w fun r w' => r = .returned (.string (txE e)) ∧ Below w.heap.size w w' := by
  have hb0 : Below w.heap.size w (w.alloc (Obj.cells e.vs.toArray 32)) := (Below.refl _ _).alloc (Nat.le_refl _) _
  have HB := hide hb0
  have HX := hide (bx_made w e.vs 32)
  have HZ : Hid ((w.alloc (Obj.cells e.vs.toArray 32)).heap.size = w.heap.size + 1) := by show _ = _; simp
  have HT := hide (powT_below ht hb0 (Nat.le_refl _))
  have HTF := hide (ftab_below hf hb0 (Nat.le_refl _))
  have n9 := he.n 9
  have n10 := he.n 10
  have n11 := he.n 11
  have n12 := he.n 12
  have n13 := he.n 13
  clear he ht hf hb0
  obtain ⟨kind, ⟨ck, cs, ct, cl, cq, ci, cp, cg⟩, id, other, qty, price, reason⟩ := e
  simp only at hk
  subst hk
  unfold Ev.num at n9 n10 n11 n12 n13
  unfold evV
  unfold Ev.vs at HX HB HZ HT HTF
  simp only at HX HB HZ HT HTF n9 n10 n11 n12 n13 ⊢
  have HV : Hid (txE ⟨7, ⟨ck, cs, ct, cl, cq, ci, cp, cg⟩, id, other, qty, price, reason⟩ = lnB ⟨#[114, 101, 100, 117, 99, 101]⟩ [id, qty]) := rfl
  go_enter Tryz.func13, Tryz.ntmps13
  refine wp_seq_k fun K hK => ?_
  have HK1 := hide hK
  clear hK
  go_wp2_with fail
  refine unhide HK1 _ _ ?_
  clear HK1
  generalize (w.alloc (Obj.cells #[.int .i64 7, .int .i64 ck, .int .i64 cs, .int .i64 ct, .int .i64 cl, .int .i64 cq, .int .i64 ci, .float .f64 cp, .string cg, .int .i64 id, .int .i64 other, .int .i64 qty, .int .i64 price, .int .i64 reason] 32)) = W1 at HX HB HZ HT HTF ⊢
  have x0 := bx_cell (unhide HX) 0 rfl
  have x9 := bx_cell (unhide HX) 9 rfl
  have x10 := bx_cell (unhide HX) 10 rfl
  have x11 := bx_cell (unhide HX) 11 rfl
  have x12 := bx_cell (unhide HX) 12 rfl
  have x13 := bx_cell (unhide HX) 13 rfl
  have hb2 : Below W1.heap.size W1 (W1.alloc (Obj.cells #[.int .i64 id, .int .i64 qty] 3)) := (Below.refl _ _).alloc (Nat.le_refl _) _
  have HL := hide (lineOf_any ⟨#[114, 101, 100, 117, 99, 101]⟩ W1.heap.size [id, qty] (W1.alloc (Obj.cells #[.int .i64 id, .int .i64 qty] 3)) (bx_made W1 [.int .i64 id, .int .i64 qty] 3) (by simp) (by intro n hn; simp at hn; rcases hn with rfl | rfl; all_goals assumption) (by simp) (by decide) (powT_below (unhide HT) hb2 (Nat.le_refl _)))
  have HB2 := hide ((unhide HB).trans (hb2.mono (unhide HB).size))
  clear hb2
  go_wp2_with fail
  refine (unhide HL).mono ?_
  rintro r W3 ⟨rfl, hb3⟩
  have HB3 := hide ((unhide HB2).trans (hb3.mono (unhide HB2).size))
  clear hb3
  go_wp2_with fail
  go_ret
  exact ⟨by rw [unhide HV]; rfl, unhide HB3⟩
set_option maxRecDepth 100000 in
set_option maxHeartbeats 1600000 in
theorem text8_any (e : Ev) (w : World) (he : e.fit) (hk : e.kind = 8) (ht : PowT w) (hf : TabF w) : Calls Tryz.prog 13 #[evV e] w fun r w' => r = .returned (.string (txE e)) ∧ Below w.heap.size w w' := by
  have hb0 : Below w.heap.size w (w.alloc (Obj.cells e.vs.toArray 32)) := (Below.refl _ _).alloc (Nat.le_refl _) _
  have HB := hide hb0
  have HX := hide (bx_made w e.vs 32)
  have HZ : Hid ((w.alloc (Obj.cells e.vs.toArray 32)).heap.size = w.heap.size + 1) := by show _ = _; simp
  have HT := hide (powT_below ht hb0 (Nat.le_refl _))
  have HTF := hide (ftab_below hf hb0 (Nat.le_refl _))
  have n9 := he.n 9
  have n10 := he.n 10
  have n11 := he.n 11
  have n12 := he.n 12
  have n13 := he.n 13
  clear he ht hf hb0
  obtain ⟨kind, ⟨ck, cs, ct, cl, cq, ci, cp, cg⟩, id, other, qty, price, reason⟩ := e
  simp only at hk
  subst hk
  unfold Ev.num at n9 n10 n11 n12 n13
  unfold evV
  unfold Ev.vs at HX HB HZ HT HTF
  simp only at HX HB HZ HT HTF n9 n10 n11 n12 n13 ⊢
  have HV : Hid (txE ⟨8, ⟨ck, cs, ct, cl, cq, ci, cp, cg⟩, id, other, qty, price, reason⟩ = lnB ⟨#[101, 110, 100]⟩ [qty]) := rfl
  go_enter Tryz.func13, Tryz.ntmps13
  refine wp_seq_k fun K hK => ?_
  have HK1 := hide hK
  clear hK
  go_wp2_with fail
  refine unhide HK1 _ _ ?_
  clear HK1
  generalize (w.alloc (Obj.cells #[.int .i64 8, .int .i64 ck, .int .i64 cs, .int .i64 ct, .int .i64 cl, .int .i64 cq, .int .i64 ci, .float .f64 cp, .string cg, .int .i64 id, .int .i64 other, .int .i64 qty, .int .i64 price, .int .i64 reason] 32)) = W1 at HX HB HZ HT HTF ⊢
  have x0 := bx_cell (unhide HX) 0 rfl
  have x9 := bx_cell (unhide HX) 9 rfl
  have x10 := bx_cell (unhide HX) 10 rfl
  have x11 := bx_cell (unhide HX) 11 rfl
  have x12 := bx_cell (unhide HX) 12 rfl
  have x13 := bx_cell (unhide HX) 13 rfl
  have hb2 : Below W1.heap.size W1 (W1.alloc (Obj.cells #[.int .i64 qty] 3)) := (Below.refl _ _).alloc (Nat.le_refl _) _
  have HL := hide (lineOf_any ⟨#[101, 110, 100]⟩ W1.heap.size [qty] (W1.alloc (Obj.cells #[.int .i64 qty] 3)) (bx_made W1 [.int .i64 qty] 3) (by simp) (by intro n hn; simp at hn; rcases hn with rfl; all_goals assumption) (by simp) (by decide) (powT_below (unhide HT) hb2 (Nat.le_refl _)))
  have HB2 := hide ((unhide HB).trans (hb2.mono (unhide HB).size))
  clear hb2
  go_wp2_with fail
  refine (unhide HL).mono ?_
  rintro r W3 ⟨rfl, hb3⟩
  have HB3 := hide ((unhide HB2).trans (hb3.mono (unhide HB2).size))
  clear hb3
  go_wp2_with fail
  go_ret
  exact ⟨by rw [unhide HV]; rfl, unhide HB3⟩
set_option maxRecDepth 100000 in
set_option maxHeartbeats 1600000 in
theorem text9_any (e : Ev) (w : World) (he : e.fit) (hk : e.kind = 9) (ht : PowT w) (hf : TabF w) : Calls Tryz.prog 13 #[evV e] w fun r w' => r = .returned (.string (txE e)) ∧ Below w.heap.size w w' := by
  have hb0 : Below w.heap.size w (w.alloc (Obj.cells e.vs.toArray 32)) := (Below.refl _ _).alloc (Nat.le_refl _) _
  have HB := hide hb0
  have HX := hide (bx_made w e.vs 32)
  have HZ : Hid ((w.alloc (Obj.cells e.vs.toArray 32)).heap.size = w.heap.size + 1) := by show _ = _; simp
  have HT := hide (powT_below ht hb0 (Nat.le_refl _))
  have HTF := hide (ftab_below hf hb0 (Nat.le_refl _))
  have n9 := he.n 9
  have n10 := he.n 10
  have n11 := he.n 11
  have n12 := he.n 12
  have n13 := he.n 13
  clear he ht hf hb0
  obtain ⟨kind, ⟨ck, cs, ct, cl, cq, ci, cp, cg⟩, id, other, qty, price, reason⟩ := e
  simp only at hk
  subst hk
  unfold Ev.num at n9 n10 n11 n12 n13
  unfold evV
  unfold Ev.vs at HX HB HZ HT HTF
  simp only at HX HB HZ HT HTF n9 n10 n11 n12 n13 ⊢
  have HV : Hid (txE ⟨9, ⟨ck, cs, ct, cl, cq, ci, cp, cg⟩, id, other, qty, price, reason⟩ = lnB ⟨#[101, 120, 112, 105, 114, 101]⟩ [id, qty]) := rfl
  go_enter Tryz.func13, Tryz.ntmps13
  refine wp_seq_k fun K hK => ?_
  have HK1 := hide hK
  clear hK
  go_wp2_with fail
  refine unhide HK1 _ _ ?_
  clear HK1
  generalize (w.alloc (Obj.cells #[.int .i64 9, .int .i64 ck, .int .i64 cs, .int .i64 ct, .int .i64 cl, .int .i64 cq, .int .i64 ci, .float .f64 cp, .string cg, .int .i64 id, .int .i64 other, .int .i64 qty, .int .i64 price, .int .i64 reason] 32)) = W1 at HX HB HZ HT HTF ⊢
  have x0 := bx_cell (unhide HX) 0 rfl
  have x9 := bx_cell (unhide HX) 9 rfl
  have x10 := bx_cell (unhide HX) 10 rfl
  have x11 := bx_cell (unhide HX) 11 rfl
  have x12 := bx_cell (unhide HX) 12 rfl
  have x13 := bx_cell (unhide HX) 13 rfl
  have hb2 : Below W1.heap.size W1 (W1.alloc (Obj.cells #[.int .i64 id, .int .i64 qty] 3)) := (Below.refl _ _).alloc (Nat.le_refl _) _
  have HL := hide (lineOf_any ⟨#[101, 120, 112, 105, 114, 101]⟩ W1.heap.size [id, qty] (W1.alloc (Obj.cells #[.int .i64 id, .int .i64 qty] 3)) (bx_made W1 [.int .i64 id, .int .i64 qty] 3) (by simp) (by intro n hn; simp at hn; rcases hn with rfl | rfl; all_goals assumption) (by simp) (by decide) (powT_below (unhide HT) hb2 (Nat.le_refl _)))
  have HB2 := hide ((unhide HB).trans (hb2.mono (unhide HB).size))
  clear hb2
  go_wp2_with fail
  refine (unhide HL).mono ?_
  rintro r W3 ⟨rfl, hb3⟩
  have HB3 := hide ((unhide HB2).trans (hb3.mono (unhide HB2).size))
  clear hb3
  go_wp2_with fail
  go_ret
  exact ⟨by rw [unhide HV]; rfl, unhide HB3⟩
theorem textOf_any (e : Ev) (w : World) (he : e.fit) (hk : 1 ≤ e.kind ∧ e.kind ≤ 9) (ht : PowT w) (hf : TabF w) : Calls Tryz.prog 13 #[evV e] w fun r w' => r = .returned (.string (txE e)) ∧ Below w.heap.size w w' := by
  rcases (show e.kind = 1 ∨ e.kind = 2 ∨ e.kind = 3 ∨ e.kind = 4 ∨ e.kind = 5 ∨ e.kind = 6 ∨ e.kind = 7 ∨ e.kind = 8 ∨ e.kind = 9 by omega) with h | h | h | h | h | h | h | h | h
  · exact text1_any e w he h ht hf
  · exact text2_any e w he h ht hf
  · exact text3_any e w he h ht hf
  · exact text4_any e w he h ht hf
  · exact text5_any e w he h ht hf
  · exact text6_any e w he h ht hf
  · exact text7_any e w he h ht hf
  · exact text8_any e w he h ht hf
  · exact text9_any e w he h ht hf
end Go.Proofs.YthkdbjldlfahdaaGreatDoor
