/-
  The laws' own helpers on events: the size of one, and its copying.
-/
import Derived.Test.YtmeekcdoajbjdaaGreatDoorGj13
import Derived.Test.YtmeekcdoajbjdaaGreatDoorGj40
import Derived.Test.YtmeekcdoajbjdaaGreatDoorGj41
namespace Go.Proofs.YtmeekcdoajbjdaaGreatDoor
open Go.RowKit
set_option linter.unusedVariables false

set_option maxRecDepth 100000 in
set_option maxHeartbeats 1600000 in
theorem szEvent_any (e : Ev) (x : Int) (w : World) (h0 : 0 ≤ x) (h1 : x ≤ 1073741824) (hg : e.cmd.g.size ≤ maxLen) :
    Calls Tryz.prog 13 #[evV e, .int .i64 x] w fun r w' => ∃ y : Int, r = .returned (.int .i64 y) ∧ y ≤ x ∧ Below w.heap.size w w' := by
  have hb0 : Below w.heap.size w (w.alloc (Obj.cells e.vs.toArray 39)) := (Below.refl _ _).alloc (Nat.le_refl _) _
  have HX := hide (bx_made w e.vs 39)
  have HB := hide hb0
  have HS := hide (fun W => szCmd_any e.cmd x W h0 h1 hg)
  clear hb0 hg
  obtain ⟨kind, ⟨ck, cs, ct, cl, cq, ci, cp, cg⟩, id, other, qty, price, reason⟩ := e
  unfold evV
  unfold Ev.vs at HX HB
  simp only at HX HB HS ⊢
  go_enter Tryz.func13, Tryz.ntmps13
  refine wp_seq_k fun K hK => ?_
  have HK1 := hide hK
  clear hK
  go_wp2_with fail
  refine unhide HK1 _ _ ?_
  clear HK1
  generalize (w.alloc (Obj.cells #[.int .i64 kind, .int .i64 ck, .int .i64 cs, .int .i64 ct, .int .i64 cl, .int .i64 cq, .int .i64 ci, .float .f64 cp, .string cg, .int .i64 id, .int .i64 other, .int .i64 qty, .int .i64 price, .int .i64 reason] 39)) = W1 at HX HB ⊢
  have x0 := bx_cell (unhide HX) 0 rfl
  have x1 := bx_cell (unhide HX) 1 rfl
  have x2 := bx_cell (unhide HX) 2 rfl
  have x3 := bx_cell (unhide HX) 3 rfl
  have x4 := bx_cell (unhide HX) 4 rfl
  have x5 := bx_cell (unhide HX) 5 rfl
  have x6 := bx_cell (unhide HX) 6 rfl
  have x7 := bx_cell (unhide HX) 7 rfl
  have x8 := bx_cell (unhide HX) 8 rfl
  have x9 := bx_cell (unhide HX) 9 rfl
  have x10 := bx_cell (unhide HX) 10 rfl
  have x11 := bx_cell (unhide HX) 11 rfl
  have x12 := bx_cell (unhide HX) 12 rfl
  have x13 := bx_cell (unhide HX) 13 rfl
  go_wp2_with fail
  refine (unhide HS W1).mono ?_
  rintro r W2 ⟨y, rfl, hy0, hy1, hb2⟩
  have HB2 := hide ((unhide HB).trans (hb2.mono (unhide HB).size))
  clear hb2 HX
  by_cases hy : y < 0
  · go_wp2_with fail
    go_ret
    exact ⟨-1, rfl, by omega, unhide HB2⟩
  · have hy' : 0 ≤ y := by omega
    go_wp2_with fail
    go_ret
    exact ⟨y, rfl, hy1, unhide HB2⟩
theorem toE_boxes (w : World) (us vs ws : List Value) (t u v : TypeId) : Bx (((w.alloc (Obj.cells us.toArray t)).alloc (Obj.cells vs.toArray u)).alloc (Obj.cells ws.toArray v)) w.heap.size us ∧ Bx (((w.alloc (Obj.cells us.toArray t)).alloc (Obj.cells vs.toArray u)).alloc (Obj.cells ws.toArray v)) (w.heap.size + 1) vs ∧ Bx (((w.alloc (Obj.cells us.toArray t)).alloc (Obj.cells vs.toArray u)).alloc (Obj.cells ws.toArray v)) (w.heap.size + 2) ws ∧ Below w.heap.size w (((w.alloc (Obj.cells us.toArray t)).alloc (Obj.cells vs.toArray u)).alloc (Obj.cells ws.toArray v)) ∧ (((w.alloc (Obj.cells us.toArray t)).alloc (Obj.cells vs.toArray u)).alloc (Obj.cells ws.toArray v)).heap.size = w.heap.size + 3 := by
  have s1 : (w.alloc (Obj.cells us.toArray t)).heap.size = w.heap.size + 1 := by simp
  have s2 : ((w.alloc (Obj.cells us.toArray t)).alloc (Obj.cells vs.toArray u)).heap.size = w.heap.size + 2 := by simp
  have h1 := bx_made w us t
  have h2 := bx_made (w.alloc (Obj.cells us.toArray t)) vs u
  have h3 := bx_made ((w.alloc (Obj.cells us.toArray t)).alloc (Obj.cells vs.toArray u)) ws v
  rw [s1] at h2
  rw [s2] at h3
  have b1 : Below (w.heap.size + 1) (w.alloc (Obj.cells us.toArray t)) ((w.alloc (Obj.cells us.toArray t)).alloc (Obj.cells vs.toArray u)) := (Below.refl _ _).alloc (by omega) _
  have b2 : Below (w.heap.size + 2) ((w.alloc (Obj.cells us.toArray t)).alloc (Obj.cells vs.toArray u)) (((w.alloc (Obj.cells us.toArray t)).alloc (Obj.cells vs.toArray u)).alloc (Obj.cells ws.toArray v)) := (Below.refl _ _).alloc (by omega) _
  exact ⟨bx_below (bx_below h1 b1 (by omega)) b2 (by omega), bx_below h2 b2 (by omega), h3, (((Below.refl _ w).alloc (Nat.le_refl _) _).alloc (by omega) _).alloc (by omega) _, by simp⟩
set_option maxRecDepth 100000 in
set_option maxHeartbeats 3200000 in
theorem toEvent_any (e : Ev) (w : World) : Calls Tryz.prog 17 #[evV e] w fun r w' => r = .returned (evV e) ∧ Below w.heap.size w w' := by
  have hsf := sfl
  have HT := hide (fun W => toCmd_any e.cmd W)
  have HXX := hide (toE_boxes w e.vs [.int .i64 0, .int .i64 0, .int .i64 0, .int .i64 0, .int .i64 0, .int .i64 0, .int .i64 0, .float .f64 0, .string ⟨#[]⟩, .int .i64 0, .int .i64 0, .int .i64 0, .int .i64 0, .int .i64 0] [.int .i64 0, .int .i64 0, .int .i64 0, .int .i64 0, .int .i64 0, .int .i64 0, .int .i64 0, .float .f64 0, .string ⟨#[]⟩, .int .i64 0, .int .i64 0, .int .i64 0, .int .i64 0, .int .i64 0] 39 46 46)
  obtain ⟨kind, ⟨ck, cs, ct, cl, cq, ci, cp, cg⟩, id, other, qty, price, reason⟩ := e
  unfold evV
  unfold Ev.vs at HXX
  simp only at HXX HT ⊢
  go_enter Tryz.func17, Tryz.ntmps17
  refine wp_seq_k fun K hK => ?_
  have HK1 := hide hK
  clear hK
  go_wp2_with fail
  refine unhide HK1 _ _ ?_
  clear HK1
  refine wp_seq_k fun K hK => ?_
  have HK1 := hide hK
  clear hK
  go_wp2_with fail
  refine unhide HK1 _ _ ?_
  clear HK1
  generalize (((w.alloc (Obj.cells #[.int .i64 kind, .int .i64 ck, .int .i64 cs, .int .i64 ct, .int .i64 cl, .int .i64 cq, .int .i64 ci, .float .f64 cp, .string cg, .int .i64 id, .int .i64 other, .int .i64 qty, .int .i64 price, .int .i64 reason] 39)).alloc (Obj.cells #[.int .i64 0, .int .i64 0, .int .i64 0, .int .i64 0, .int .i64 0, .int .i64 0, .int .i64 0, .float .f64 0, .string ⟨#[]⟩, .int .i64 0, .int .i64 0, .int .i64 0, .int .i64 0, .int .i64 0] 46)).alloc (Obj.cells #[.int .i64 0, .int .i64 0, .int .i64 0, .int .i64 0, .int .i64 0, .int .i64 0, .int .i64 0, .float .f64 0, .string ⟨#[]⟩, .int .i64 0, .int .i64 0, .int .i64 0, .int .i64 0, .int .i64 0] 46)) = W1 at HXX ⊢
  obtain ⟨hX, hR, hO, hB, hZ⟩ := unhide HXX
  have x0 := bx_cell (hX) 0 rfl
  have x1 := bx_cell (hX) 1 rfl
  have x2 := bx_cell (hX) 2 rfl
  have x3 := bx_cell (hX) 3 rfl
  have x4 := bx_cell (hX) 4 rfl
  have x5 := bx_cell (hX) 5 rfl
  have x6 := bx_cell (hX) 6 rfl
  have x7 := bx_cell (hX) 7 rfl
  have x8 := bx_cell (hX) 8 rfl
  have x9 := bx_cell (hX) 9 rfl
  have x10 := bx_cell (hX) 10 rfl
  have x11 := bx_cell (hX) 11 rfl
  have x12 := bx_cell (hX) 12 rfl
  have x13 := bx_cell (hX) 13 rfl
  have o0 := bx_cell hO 0 rfl
  have fo0 := bx_free hO 0 (by decide)
  have HO1 := hide (bx_set (j := 0) (u := .int .i64 kind) hO (by decide))
  have HX1 := hide (bx_other (j := 0) (u := .int .i64 kind) hX (show w.heap.size ≠ w.heap.size + 2 by omega))
  have HR1 := hide (bx_other (j := 0) (u := .int .i64 kind) hR (show w.heap.size + 1 ≠ w.heap.size + 2 by omega))
  have HB1 := hide (hB.setCell (p := ⟨w.heap.size + 2, 0, none⟩) (show w.heap.size ≤ w.heap.size + 2 by omega) (.int .i64 kind))
  have HZ1 : Hid ((W1.setCell ⟨w.heap.size + 2, 0, none⟩ (.int .i64 kind)).heap.size = w.heap.size + 3) := by show _ = _; rw [← hZ]; simp [World.setCell]
  clear hX hR hO hB hZ HXX
  refine wp_seq_k fun K hK => ?_
  have HK1 := hide hK
  clear hK
  go_wp2_with fail
  refine unhide HK1 _ _ ?_
  clear HK1 x0 o0 fo0 x1 x2 x3 x4 x5 x6 x7 x8 x9 x10 x11 x12 x13
  generalize (W1.setCell ⟨w.heap.size + 2, 0, none⟩ (.int .i64 kind)) = W2 at HO1 HX1 HR1 HB1 HZ1 ⊢
  have x0 := bx_cell (unhide HX1) 0 rfl
  have x1 := bx_cell (unhide HX1) 1 rfl
  have x2 := bx_cell (unhide HX1) 2 rfl
  have x3 := bx_cell (unhide HX1) 3 rfl
  have x4 := bx_cell (unhide HX1) 4 rfl
  have x5 := bx_cell (unhide HX1) 5 rfl
  have x6 := bx_cell (unhide HX1) 6 rfl
  have x7 := bx_cell (unhide HX1) 7 rfl
  have x8 := bx_cell (unhide HX1) 8 rfl
  have x9 := bx_cell (unhide HX1) 9 rfl
  have x10 := bx_cell (unhide HX1) 10 rfl
  have x11 := bx_cell (unhide HX1) 11 rfl
  have x12 := bx_cell (unhide HX1) 12 rfl
  have x13 := bx_cell (unhide HX1) 13 rfl
  refine wp_seq_k fun K hK => ?_
  have HK1 := hide hK
  clear hK
  go_wp2_with fail
  refine (unhide HT W2).mono ?_
  rintro r W3 ⟨rfl, hb3⟩
  have hz := unhide HZ1
  have hX := bx_below (unhide HX1) hb3 (by omega)
  have hR := bx_below (unhide HR1) hb3 (by omega)
  have hO := bx_below (unhide HO1) hb3 (by omega)
  have HB3 := hide ((unhide HB1).trans (hb3.mono (unhide HB1).size))
  clear hb3 hz x0 x1 x2 x3 x4 x5 x6 x7 x8 x9 x10 x11 x12 x13
  have o0 := bx_cell (hO) 0 rfl
  have fo0 := bx_free (hO) 0 (by simp)
  have o1 := bx_cell (hO) 1 rfl
  have fo1 := bx_free (hO) 1 (by simp)
  have o2 := bx_cell (hO) 2 rfl
  have fo2 := bx_free (hO) 2 (by simp)
  have o3 := bx_cell (hO) 3 rfl
  have fo3 := bx_free (hO) 3 (by simp)
  have o4 := bx_cell (hO) 4 rfl
  have fo4 := bx_free (hO) 4 (by simp)
  have o5 := bx_cell (hO) 5 rfl
  have fo5 := bx_free (hO) 5 (by simp)
  have o6 := bx_cell (hO) 6 rfl
  have fo6 := bx_free (hO) 6 (by simp)
  have o7 := bx_cell (hO) 7 rfl
  have fo7 := bx_free (hO) 7 (by simp)
  have o8 := bx_cell (hO) 8 rfl
  have fo8 := bx_free (hO) 8 (by simp)
  have o9 := bx_cell (hO) 9 rfl
  have fo9 := bx_free (hO) 9 (by simp)
  have o10 := bx_cell (hO) 10 rfl
  have fo10 := bx_free (hO) 10 (by simp)
  have o11 := bx_cell (hO) 11 rfl
  have fo11 := bx_free (hO) 11 (by simp)
  have o12 := bx_cell (hO) 12 rfl
  have fo12 := bx_free (hO) 12 (by simp)
  have o13 := bx_cell (hO) 13 rfl
  have fo13 := bx_free (hO) 13 (by simp)
  have HO4 : Hid (Bx ((((((((W3.setCell ⟨w.heap.size + 2, 1, none⟩ (.int .i64 ck)).setCell ⟨w.heap.size + 2, 2, none⟩ (.int .i64 cs)).setCell ⟨w.heap.size + 2, 3, none⟩ (.int .i64 ct)).setCell ⟨w.heap.size + 2, 4, none⟩ (.int .i64 cl)).setCell ⟨w.heap.size + 2, 5, none⟩ (.int .i64 cq)).setCell ⟨w.heap.size + 2, 6, none⟩ (.int .i64 ci)).setCell ⟨w.heap.size + 2, 7, none⟩ (.float .f64 cp)).setCell ⟨w.heap.size + 2, 8, none⟩ (.string cg)) (w.heap.size + 2) [.int .i64 kind, .int .i64 ck, .int .i64 cs, .int .i64 ct, .int .i64 cl, .int .i64 cq, .int .i64 ci, .float .f64 cp, .string cg, .int .i64 0, .int .i64 0, .int .i64 0, .int .i64 0, .int .i64 0]) := (bx_set (j := 8) (u := .string cg) (bx_set (j := 7) (u := .float .f64 cp) (bx_set (j := 6) (u := .int .i64 ci) (bx_set (j := 5) (u := .int .i64 cq) (bx_set (j := 4) (u := .int .i64 cl) (bx_set (j := 3) (u := .int .i64 ct) (bx_set (j := 2) (u := .int .i64 cs) (bx_set (j := 1) (u := .int .i64 ck) hO (by simp)) (by simp)) (by simp)) (by simp)) (by simp)) (by simp)) (by simp)) (by simp))
  have HX4 := hide (bx_other (j := 8) (u := .string cg) (bx_other (j := 7) (u := .float .f64 cp) (bx_other (j := 6) (u := .int .i64 ci) (bx_other (j := 5) (u := .int .i64 cq) (bx_other (j := 4) (u := .int .i64 cl) (bx_other (j := 3) (u := .int .i64 ct) (bx_other (j := 2) (u := .int .i64 cs) (bx_other (j := 1) (u := .int .i64 ck) hX (show w.heap.size ≠ w.heap.size + 2 by omega)) (show w.heap.size ≠ w.heap.size + 2 by omega)) (show w.heap.size ≠ w.heap.size + 2 by omega)) (show w.heap.size ≠ w.heap.size + 2 by omega)) (show w.heap.size ≠ w.heap.size + 2 by omega)) (show w.heap.size ≠ w.heap.size + 2 by omega)) (show w.heap.size ≠ w.heap.size + 2 by omega)) (show w.heap.size ≠ w.heap.size + 2 by omega))
  have HR4 := hide (bx_other (j := 8) (u := .string cg) (bx_other (j := 7) (u := .float .f64 cp) (bx_other (j := 6) (u := .int .i64 ci) (bx_other (j := 5) (u := .int .i64 cq) (bx_other (j := 4) (u := .int .i64 cl) (bx_other (j := 3) (u := .int .i64 ct) (bx_other (j := 2) (u := .int .i64 cs) (bx_other (j := 1) (u := .int .i64 ck) hR (show w.heap.size + 1 ≠ w.heap.size + 2 by omega)) (show w.heap.size + 1 ≠ w.heap.size + 2 by omega)) (show w.heap.size + 1 ≠ w.heap.size + 2 by omega)) (show w.heap.size + 1 ≠ w.heap.size + 2 by omega)) (show w.heap.size + 1 ≠ w.heap.size + 2 by omega)) (show w.heap.size + 1 ≠ w.heap.size + 2 by omega)) (show w.heap.size + 1 ≠ w.heap.size + 2 by omega)) (show w.heap.size + 1 ≠ w.heap.size + 2 by omega))
  have HB4 := hide (((((((((unhide HB3).setCell (p := ⟨w.heap.size + 2, 1, none⟩) (show w.heap.size ≤ w.heap.size + 2 by omega) (.int .i64 ck)).setCell (p := ⟨w.heap.size + 2, 2, none⟩) (show w.heap.size ≤ w.heap.size + 2 by omega) (.int .i64 cs)).setCell (p := ⟨w.heap.size + 2, 3, none⟩) (show w.heap.size ≤ w.heap.size + 2 by omega) (.int .i64 ct)).setCell (p := ⟨w.heap.size + 2, 4, none⟩) (show w.heap.size ≤ w.heap.size + 2 by omega) (.int .i64 cl)).setCell (p := ⟨w.heap.size + 2, 5, none⟩) (show w.heap.size ≤ w.heap.size + 2 by omega) (.int .i64 cq)).setCell (p := ⟨w.heap.size + 2, 6, none⟩) (show w.heap.size ≤ w.heap.size + 2 by omega) (.int .i64 ci)).setCell (p := ⟨w.heap.size + 2, 7, none⟩) (show w.heap.size ≤ w.heap.size + 2 by omega) (.float .f64 cp)).setCell (p := ⟨w.heap.size + 2, 8, none⟩) (show w.heap.size ≤ w.heap.size + 2 by omega) (.string cg))
  clear hX hR hO HX1 HR1 HO1 HB1 HZ1 HB3
  go_wp2_with fail
  refine unhide HK1 _ _ ?_
  clear HK1 o0 fo0 o1 fo1 o2 fo2 o3 fo3 o4 fo4 o5 fo5 o6 fo6 o7 fo7 o8 fo8 o9 fo9 o10 fo10 o11 fo11 o12 fo12 o13 fo13
  generalize ((((((((W3.setCell ⟨w.heap.size + 2, 1, none⟩ (.int .i64 ck)).setCell ⟨w.heap.size + 2, 2, none⟩ (.int .i64 cs)).setCell ⟨w.heap.size + 2, 3, none⟩ (.int .i64 ct)).setCell ⟨w.heap.size + 2, 4, none⟩ (.int .i64 cl)).setCell ⟨w.heap.size + 2, 5, none⟩ (.int .i64 cq)).setCell ⟨w.heap.size + 2, 6, none⟩ (.int .i64 ci)).setCell ⟨w.heap.size + 2, 7, none⟩ (.float .f64 cp)).setCell ⟨w.heap.size + 2, 8, none⟩ (.string cg)) = W4 at HO4 HX4 HR4 HB4 ⊢
  have x9 := bx_cell (unhide HX4) 9 rfl
  have x10 := bx_cell (unhide HX4) 10 rfl
  have x11 := bx_cell (unhide HX4) 11 rfl
  have x12 := bx_cell (unhide HX4) 12 rfl
  have x13 := bx_cell (unhide HX4) 13 rfl
  have o0 := bx_cell (unhide HO4) 0 rfl
  have fo0 := bx_free (unhide HO4) 0 (by simp)
  have o1 := bx_cell (unhide HO4) 1 rfl
  have fo1 := bx_free (unhide HO4) 1 (by simp)
  have o2 := bx_cell (unhide HO4) 2 rfl
  have fo2 := bx_free (unhide HO4) 2 (by simp)
  have o3 := bx_cell (unhide HO4) 3 rfl
  have fo3 := bx_free (unhide HO4) 3 (by simp)
  have o4 := bx_cell (unhide HO4) 4 rfl
  have fo4 := bx_free (unhide HO4) 4 (by simp)
  have o5 := bx_cell (unhide HO4) 5 rfl
  have fo5 := bx_free (unhide HO4) 5 (by simp)
  have o6 := bx_cell (unhide HO4) 6 rfl
  have fo6 := bx_free (unhide HO4) 6 (by simp)
  have o7 := bx_cell (unhide HO4) 7 rfl
  have fo7 := bx_free (unhide HO4) 7 (by simp)
  have o8 := bx_cell (unhide HO4) 8 rfl
  have fo8 := bx_free (unhide HO4) 8 (by simp)
  have o9 := bx_cell (unhide HO4) 9 rfl
  have fo9 := bx_free (unhide HO4) 9 (by simp)
  have o10 := bx_cell (unhide HO4) 10 rfl
  have fo10 := bx_free (unhide HO4) 10 (by simp)
  have o11 := bx_cell (unhide HO4) 11 rfl
  have fo11 := bx_free (unhide HO4) 11 (by simp)
  have o12 := bx_cell (unhide HO4) 12 rfl
  have fo12 := bx_free (unhide HO4) 12 (by simp)
  have o13 := bx_cell (unhide HO4) 13 rfl
  have fo13 := bx_free (unhide HO4) 13 (by simp)
  have HO5 : Hid (Bx (((((W4.setCell ⟨w.heap.size + 2, 9, none⟩ (.int .i64 id)).setCell ⟨w.heap.size + 2, 10, none⟩ (.int .i64 other)).setCell ⟨w.heap.size + 2, 11, none⟩ (.int .i64 qty)).setCell ⟨w.heap.size + 2, 12, none⟩ (.int .i64 price)).setCell ⟨w.heap.size + 2, 13, none⟩ (.int .i64 reason)) (w.heap.size + 2) [.int .i64 kind, .int .i64 ck, .int .i64 cs, .int .i64 ct, .int .i64 cl, .int .i64 cq, .int .i64 ci, .float .f64 cp, .string cg, .int .i64 id, .int .i64 other, .int .i64 qty, .int .i64 price, .int .i64 reason]) := (bx_set (j := 13) (u := .int .i64 reason) (bx_set (j := 12) (u := .int .i64 price) (bx_set (j := 11) (u := .int .i64 qty) (bx_set (j := 10) (u := .int .i64 other) (bx_set (j := 9) (u := .int .i64 id) (unhide HO4) (by simp)) (by simp)) (by simp)) (by simp)) (by simp))
  have HR5 := hide (bx_other (j := 13) (u := .int .i64 reason) (bx_other (j := 12) (u := .int .i64 price) (bx_other (j := 11) (u := .int .i64 qty) (bx_other (j := 10) (u := .int .i64 other) (bx_other (j := 9) (u := .int .i64 id) (unhide HR4) (show w.heap.size + 1 ≠ w.heap.size + 2 by omega)) (show w.heap.size + 1 ≠ w.heap.size + 2 by omega)) (show w.heap.size + 1 ≠ w.heap.size + 2 by omega)) (show w.heap.size + 1 ≠ w.heap.size + 2 by omega)) (show w.heap.size + 1 ≠ w.heap.size + 2 by omega))
  have HB5 := hide ((((((unhide HB4).setCell (p := ⟨w.heap.size + 2, 9, none⟩) (show w.heap.size ≤ w.heap.size + 2 by omega) (.int .i64 id)).setCell (p := ⟨w.heap.size + 2, 10, none⟩) (show w.heap.size ≤ w.heap.size + 2 by omega) (.int .i64 other)).setCell (p := ⟨w.heap.size + 2, 11, none⟩) (show w.heap.size ≤ w.heap.size + 2 by omega) (.int .i64 qty)).setCell (p := ⟨w.heap.size + 2, 12, none⟩) (show w.heap.size ≤ w.heap.size + 2 by omega) (.int .i64 price)).setCell (p := ⟨w.heap.size + 2, 13, none⟩) (show w.heap.size ≤ w.heap.size + 2 by omega) (.int .i64 reason))
  clear HO4 HX4 HR4 HB4
  refine wp_seq_k fun K hK => ?_
  have HK1 := hide hK
  clear hK
  go_wp2_with fail
  refine unhide HK1 _ _ ?_
  clear HK1
  refine wp_seq_k fun K hK => ?_
  have HK1 := hide hK
  clear hK
  go_wp2_with fail
  refine unhide HK1 _ _ ?_
  clear HK1
  refine wp_seq_k fun K hK => ?_
  have HK1 := hide hK
  clear hK
  go_wp2_with fail
  refine unhide HK1 _ _ ?_
  clear HK1
  refine wp_seq_k fun K hK => ?_
  have HK1 := hide hK
  clear hK
  go_wp2_with fail
  refine unhide HK1 _ _ ?_
  clear HK1
  refine wp_seq_k fun K hK => ?_
  have HK1 := hide hK
  clear hK
  go_wp2_with fail
  refine unhide HK1 _ _ ?_
  clear HK1
  clear o0 fo0 o1 fo1 o2 fo2 o3 fo3 o4 fo4 o5 fo5 o6 fo6 o7 fo7 o8 fo8 o9 fo9 o10 fo10 o11 fo11 o12 fo12 o13 fo13 x9 x10 x11 x12 x13
  generalize (((((W4.setCell ⟨w.heap.size + 2, 9, none⟩ (.int .i64 id)).setCell ⟨w.heap.size + 2, 10, none⟩ (.int .i64 other)).setCell ⟨w.heap.size + 2, 11, none⟩ (.int .i64 qty)).setCell ⟨w.heap.size + 2, 12, none⟩ (.int .i64 price)).setCell ⟨w.heap.size + 2, 13, none⟩ (.int .i64 reason)) = W5 at HO5 HR5 HB5 ⊢
  have o0 := bx_cell (unhide HO5) 0 rfl
  have o1 := bx_cell (unhide HO5) 1 rfl
  have o2 := bx_cell (unhide HO5) 2 rfl
  have o3 := bx_cell (unhide HO5) 3 rfl
  have o4 := bx_cell (unhide HO5) 4 rfl
  have o5 := bx_cell (unhide HO5) 5 rfl
  have o6 := bx_cell (unhide HO5) 6 rfl
  have o7 := bx_cell (unhide HO5) 7 rfl
  have o8 := bx_cell (unhide HO5) 8 rfl
  have o9 := bx_cell (unhide HO5) 9 rfl
  have o10 := bx_cell (unhide HO5) 10 rfl
  have o11 := bx_cell (unhide HO5) 11 rfl
  have o12 := bx_cell (unhide HO5) 12 rfl
  have o13 := bx_cell (unhide HO5) 13 rfl
  have r0 := bx_cell (unhide HR5) 0 rfl
  have fr0 := bx_free (unhide HR5) 0 (by simp)
  have r1 := bx_cell (unhide HR5) 1 rfl
  have fr1 := bx_free (unhide HR5) 1 (by simp)
  have r2 := bx_cell (unhide HR5) 2 rfl
  have fr2 := bx_free (unhide HR5) 2 (by simp)
  have r3 := bx_cell (unhide HR5) 3 rfl
  have fr3 := bx_free (unhide HR5) 3 (by simp)
  have r4 := bx_cell (unhide HR5) 4 rfl
  have fr4 := bx_free (unhide HR5) 4 (by simp)
  have r5 := bx_cell (unhide HR5) 5 rfl
  have fr5 := bx_free (unhide HR5) 5 (by simp)
  have r6 := bx_cell (unhide HR5) 6 rfl
  have fr6 := bx_free (unhide HR5) 6 (by simp)
  have r7 := bx_cell (unhide HR5) 7 rfl
  have fr7 := bx_free (unhide HR5) 7 (by simp)
  have r8 := bx_cell (unhide HR5) 8 rfl
  have fr8 := bx_free (unhide HR5) 8 (by simp)
  have r9 := bx_cell (unhide HR5) 9 rfl
  have fr9 := bx_free (unhide HR5) 9 (by simp)
  have r10 := bx_cell (unhide HR5) 10 rfl
  have fr10 := bx_free (unhide HR5) 10 (by simp)
  have r11 := bx_cell (unhide HR5) 11 rfl
  have fr11 := bx_free (unhide HR5) 11 (by simp)
  have r12 := bx_cell (unhide HR5) 12 rfl
  have fr12 := bx_free (unhide HR5) 12 (by simp)
  have r13 := bx_cell (unhide HR5) 13 rfl
  have fr13 := bx_free (unhide HR5) 13 (by simp)
  have HXF := hide (bx_setCells (us := [.int .i64 kind, .int .i64 ck, .int .i64 cs, .int .i64 ct, .int .i64 cl, .int .i64 cq, .int .i64 ci, .float .f64 cp, .string cg, .int .i64 id, .int .i64 other, .int .i64 qty, .int .i64 price, .int .i64 reason]) (unhide HR5) rfl)
  have HBF := hide (below_setCells (w.heap.size + 1) (by omega) [.int .i64 kind, .int .i64 ck, .int .i64 cs, .int .i64 ct, .int .i64 cl, .int .i64 cq, .int .i64 ci, .float .f64 cp, .string cg, .int .i64 id, .int .i64 other, .int .i64 qty, .int .i64 price, .int .i64 reason] 0 W5 (unhide HB5))
  clear HO5 HR5 HB5
  go_wp2_with fail
  rw [set14]
  generalize (W5.setCells (w.heap.size + 1) 0 [.int .i64 kind, .int .i64 ck, .int .i64 cs, .int .i64 ct, .int .i64 cl, .int .i64 cq, .int .i64 ci, .float .f64 cp, .string cg, .int .i64 id, .int .i64 other, .int .i64 qty, .int .i64 price, .int .i64 reason]) = WF at HXF HBF ⊢
  have d0 := bx_cell (unhide HXF) 0 rfl
  have d1 := bx_cell (unhide HXF) 1 rfl
  have d2 := bx_cell (unhide HXF) 2 rfl
  have d3 := bx_cell (unhide HXF) 3 rfl
  have d4 := bx_cell (unhide HXF) 4 rfl
  have d5 := bx_cell (unhide HXF) 5 rfl
  have d6 := bx_cell (unhide HXF) 6 rfl
  have d7 := bx_cell (unhide HXF) 7 rfl
  have d8 := bx_cell (unhide HXF) 8 rfl
  have d9 := bx_cell (unhide HXF) 9 rfl
  have d10 := bx_cell (unhide HXF) 10 rfl
  have d11 := bx_cell (unhide HXF) 11 rfl
  have d12 := bx_cell (unhide HXF) 12 rfl
  have d13 := bx_cell (unhide HXF) 13 rfl
  refine bodyPost_ret (v := .agg #[.int .i64 kind, .int .i64 ck, .int .i64 cs, .int .i64 ct, .int .i64 cl, .int .i64 cq, .int .i64 ci, .float .f64 cp, .string cg, .int .i64 id, .int .i64 other, .int .i64 qty, .int .i64 price, .int .i64 reason]) ?_ rfl ⟨rfl, unhide HBF⟩
  simp [results, Tryz.f17, go_sem, d0, d1, d2, d3, d4, d5, d6, d7, d8, d9, d10, d11, d12, d13]
end Go.Proofs.YtmeekcdoajbjdaaGreatDoor
