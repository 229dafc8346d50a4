/-
  What the face of a reading of an event answers where it fails, proved by walking it.
-/
import Derived.Test.YthkdbjldlfahdaaGreatDoorTj38
namespace Go.Proofs.YthkdbjldlfahdaaGreatDoor
open Go.RowKit
set_option linter.unusedVariables false

set_option maxRecDepth 100000 in
set_option maxHeartbeats 3200000 in
theorem readE_fault (v : Value) (len : Nat) (a : Option Addr) (cap : Nat) (hv : v = .slice a len cap) (at_ c : Int) (w : World) (hE : ErrT w)
    (htry : ∀ w0, w0 = ((w.alloc (Obj.cells #[.int .i64 0, .int .i64 0, .int .i64 0, .int .i64 0, .int .i64 0, .int .i64 0, .int .i64 0, .float .f64 0, .string ⟨#[]⟩, .int .i64 0, .int .i64 0, .int .i64 0, .int .i64 0, .int .i64 0] 32)).alloc (Obj.cells #[v, .int .i64 at_] 76)) → Calls Tryz.prog 61 #[.pointer (some ⟨w.heap.size + 1, 0, none⟩), .func (.func 41) #[] #[]] w0 fun e w' => (∃ p, e = .returned (.tuple #[evV zEv, faultV c p])) ∧ w0.grownBy w' (some (w.heap.size + 1))) :
    Calls Tryz.prog 40 #[v, .int .i64 at_, .func (.func 41) #[] #[]] w fun e w' => e = .returned (tupE zEv (0, c)) ∧ Below w.heap.size w w' := by
  have hsf := sfl
  obtain ⟨hX, hR, hB, hZ⟩ := rdE_box w v at_
  have HT := hide (htry _ rfl)
  subst hv
  have HX := hide hX
  have HB := hide hB
  have HZ := hide hZ
  have HE := hide hE
  clear htry hX hR hB hZ hE
  go_enter Tryz.func40, Tryz.ntmps40
  go_wp2_with fail
  generalize ((w.alloc (Obj.cells #[.int .i64 0, .int .i64 0, .int .i64 0, .int .i64 0, .int .i64 0, .int .i64 0, .int .i64 0, .float .f64 0, .string ⟨#[]⟩, .int .i64 0, .int .i64 0, .int .i64 0, .int .i64 0, .int .i64 0] 32)).alloc (Obj.cells #[.slice a len cap, .int .i64 at_] 76)) = W0 at HT HX HB HZ ⊢
  refine (unhide HT).mono ?_
  rintro e W1 ⟨⟨p, rfl⟩, hg⟩
  have hz := unhide HZ
  have hb1 := (unhide HB).trans (gr_below hg (show w.heap.size ≤ w.heap.size + 1 by omega) (by omega))
  have hX1 := bx_blk (unhide HX) (hg.block w.heap.size (by omega) (by simp))
  have hz1 : w.heap.size + 2 ≤ W1.heap.size := by have := hg.size; omega
  have hba : Below W1.heap.size W1 (W1.alloc (Obj.cells #[.int .i64 0, .int .i64 0, .int .i64 0, .int .i64 0, .int .i64 0, .int .i64 0, .int .i64 0, .float .f64 0, .string ⟨#[]⟩, .int .i64 0, .int .i64 0, .int .i64 0, .int .i64 0, .int .i64 0] 32)) := (Below.refl _ _).alloc (Nat.le_refl _) _
  have hz2 : (W1.alloc (Obj.cells #[.int .i64 0, .int .i64 0, .int .i64 0, .int .i64 0, .int .i64 0, .int .i64 0, .int .i64 0, .float .f64 0, .string ⟨#[]⟩, .int .i64 0, .int .i64 0, .int .i64 0, .int .i64 0, .int .i64 0] 32)).heap.size = W1.heap.size + 1 := by simp
  have hbb : Below (W1.heap.size + 1) (W1.alloc (Obj.cells #[.int .i64 0, .int .i64 0, .int .i64 0, .int .i64 0, .int .i64 0, .int .i64 0, .int .i64 0, .float .f64 0, .string ⟨#[]⟩, .int .i64 0, .int .i64 0, .int .i64 0, .int .i64 0, .int .i64 0] 32)) ((W1.alloc (Obj.cells #[.int .i64 0, .int .i64 0, .int .i64 0, .int .i64 0, .int .i64 0, .int .i64 0, .int .i64 0, .float .f64 0, .string ⟨#[]⟩, .int .i64 0, .int .i64 0, .int .i64 0, .int .i64 0, .int .i64 0] 32)).alloc (Obj.cells #[.int .i64 0, .int .i64 0, .int .i64 0, .int .i64 0, .int .i64 0, .int .i64 0, .int .i64 0, .float .f64 0, .string ⟨#[]⟩, .int .i64 0, .int .i64 0, .int .i64 0, .int .i64 0, .int .i64 0] 32)) := (Below.refl _ _).alloc (by omega) _
  have HXN : Hid (Bx ((W1.alloc (Obj.cells #[.int .i64 0, .int .i64 0, .int .i64 0, .int .i64 0, .int .i64 0, .int .i64 0, .int .i64 0, .float .f64 0, .string ⟨#[]⟩, .int .i64 0, .int .i64 0, .int .i64 0, .int .i64 0, .int .i64 0] 32)).alloc (Obj.cells #[.int .i64 0, .int .i64 0, .int .i64 0, .int .i64 0, .int .i64 0, .int .i64 0, .int .i64 0, .float .f64 0, .string ⟨#[]⟩, .int .i64 0, .int .i64 0, .int .i64 0, .int .i64 0, .int .i64 0] 32)) (W1.heap.size + 1) [.int .i64 0, .int .i64 0, .int .i64 0, .int .i64 0, .int .i64 0, .int .i64 0, .int .i64 0, .float .f64 0, .string ⟨#[]⟩, .int .i64 0, .int .i64 0, .int .i64 0, .int .i64 0, .int .i64 0]) := by
    have h := bx_made (W1.alloc (Obj.cells #[.int .i64 0, .int .i64 0, .int .i64 0, .int .i64 0, .int .i64 0, .int .i64 0, .int .i64 0, .float .f64 0, .string ⟨#[]⟩, .int .i64 0, .int .i64 0, .int .i64 0, .int .i64 0, .int .i64 0] 32)) [.int .i64 0, .int .i64 0, .int .i64 0, .int .i64 0, .int .i64 0, .int .i64 0, .int .i64 0, .float .f64 0, .string ⟨#[]⟩, .int .i64 0, .int .i64 0, .int .i64 0, .int .i64 0, .int .i64 0] 32
    rw [hz2] at h
    exact h
  have HX3 := hide (bx_below (bx_below hX1 hba (by omega)) hbb (by omega))
  have HB3 := hide ((hb1.trans (hba.mono (by omega))).trans (hbb.mono (by omega)))
  have HZ3 : Hid (((W1.alloc (Obj.cells #[.int .i64 0, .int .i64 0, .int .i64 0, .int .i64 0, .int .i64 0, .int .i64 0, .int .i64 0, .float .f64 0, .string ⟨#[]⟩, .int .i64 0, .int .i64 0, .int .i64 0, .int .i64 0, .int .i64 0] 32)).alloc (Obj.cells #[.int .i64 0, .int .i64 0, .int .i64 0, .int .i64 0, .int .i64 0, .int .i64 0, .int .i64 0, .float .f64 0, .string ⟨#[]⟩, .int .i64 0, .int .i64 0, .int .i64 0, .int .i64 0, .int .i64 0] 32)).heap.size = W1.heap.size + 2) := by show _ = _; simp
  have HE3 := hide (errT_below (unhide HE) (unhide HB3) (Nat.le_refl _))
  unfold evV zEv faultV
  simp only
  clear hg HX HB HZ hz hX1 hba hbb hb1 HT hz2
  go_wp2_with fail
  generalize ((W1.alloc (Obj.cells #[.int .i64 0, .int .i64 0, .int .i64 0, .int .i64 0, .int .i64 0, .int .i64 0, .int .i64 0, .float .f64 0, .string ⟨#[]⟩, .int .i64 0, .int .i64 0, .int .i64 0, .int .i64 0, .int .i64 0] 32)).alloc (Obj.cells #[.int .i64 0, .int .i64 0, .int .i64 0, .int .i64 0, .int .i64 0, .int .i64 0, .int .i64 0, .float .f64 0, .string ⟨#[]⟩, .int .i64 0, .int .i64 0, .int .i64 0, .int .i64 0, .int .i64 0] 32)) = W2 at HXN HX3 HB3 HZ3 HE3 ⊢
  have y0 := bx_cell (unhide HXN) 0 rfl
  have y1 := bx_cell (unhide HXN) 1 rfl
  have y2 := bx_cell (unhide HXN) 2 rfl
  have y3 := bx_cell (unhide HXN) 3 rfl
  have y4 := bx_cell (unhide HXN) 4 rfl
  have y5 := bx_cell (unhide HXN) 5 rfl
  have y6 := bx_cell (unhide HXN) 6 rfl
  have y7 := bx_cell (unhide HXN) 7 rfl
  have y8 := bx_cell (unhide HXN) 8 rfl
  have y9 := bx_cell (unhide HXN) 9 rfl
  have y10 := bx_cell (unhide HXN) 10 rfl
  have y11 := bx_cell (unhide HXN) 11 rfl
  have y12 := bx_cell (unhide HXN) 12 rfl
  have y13 := bx_cell (unhide HXN) 13 rfl
  have HCO : Hid (Calls Tryz.prog 62 #[.iface 92 (.agg #[.int .i64 c, .int .i64 p])] W2.drew fun e w3 => e = .returned (.int .i64 c) ∧ Bx w3 (W1.heap.size + 1) [.int .i64 0, .int .i64 0, .int .i64 0, .int .i64 0, .int .i64 0, .int .i64 0, .int .i64 0, .float .f64 0, .string ⟨#[]⟩, .int .i64 0, .int .i64 0, .int .i64 0, .int .i64 0, .int .i64 0] ∧ Bx w3 w.heap.size [.int .i64 0, .int .i64 0, .int .i64 0, .int .i64 0, .int .i64 0, .int .i64 0, .int .i64 0, .float .f64 0, .string ⟨#[]⟩, .int .i64 0, .int .i64 0, .int .i64 0, .int .i64 0, .int .i64 0] ∧ Below w.heap.size w w3) := by
    refine (codeOf_any c p W2.drew (unhide HE3)).mono ?_
    rintro e w3 ⟨rfl, hb3⟩
    have hzz : W2.drew.heap.size = W1.heap.size + 2 := unhide HZ3
    exact ⟨rfl, bx_below (bx_drew (unhide HXN)) hb3 (by omega), bx_below (bx_drew (unhide HX3)) hb3 (by omega), (unhide HB3).drew.trans (hb3.mono (unhide HB3).drew.size)⟩
  go_region_with (go_at_call 62; refine (unhide HCO).mono ?_; rintro e w3 ⟨rfl, hN, hQ, hQB⟩; have HQ := hide hQ; have HQB := hide hQB; have g0 := bx_cell (hN) 0 rfl; have g1 := bx_cell (hN) 1 rfl; have g2 := bx_cell (hN) 2 rfl; have g3 := bx_cell (hN) 3 rfl; have g4 := bx_cell (hN) 4 rfl; have g5 := bx_cell (hN) 5 rfl; have g6 := bx_cell (hN) 6 rfl; have g7 := bx_cell (hN) 7 rfl; have g8 := bx_cell (hN) 8 rfl; have g9 := bx_cell (hN) 9 rfl; have g10 := bx_cell (hN) 10 rfl; have g11 := bx_cell (hN) 11 rfl; have g12 := bx_cell (hN) 12 rfl; have g13 := bx_cell (hN) 13 rfl; have z0 := bx_cell (hQ) 0 rfl; have fz0 := bx_free (hQ) 0 (by decide); have z1 := bx_cell (hQ) 1 rfl; have fz1 := bx_free (hQ) 1 (by decide); have z2 := bx_cell (hQ) 2 rfl; have fz2 := bx_free (hQ) 2 (by decide); have z3 := bx_cell (hQ) 3 rfl; have fz3 := bx_free (hQ) 3 (by decide); have z4 := bx_cell (hQ) 4 rfl; have fz4 := bx_free (hQ) 4 (by decide); have z5 := bx_cell (hQ) 5 rfl; have fz5 := bx_free (hQ) 5 (by decide); have z6 := bx_cell (hQ) 6 rfl; have fz6 := bx_free (hQ) 6 (by decide); have z7 := bx_cell (hQ) 7 rfl; have fz7 := bx_free (hQ) 7 (by decide); have z8 := bx_cell (hQ) 8 rfl; have fz8 := bx_free (hQ) 8 (by decide); have z9 := bx_cell (hQ) 9 rfl; have fz9 := bx_free (hQ) 9 (by decide); have z10 := bx_cell (hQ) 10 rfl; have fz10 := bx_free (hQ) 10 (by decide); have z11 := bx_cell (hQ) 11 rfl; have fz11 := bx_free (hQ) 11 (by decide); have z12 := bx_cell (hQ) 12 rfl; have fz12 := bx_free (hQ) 12 (by decide); have z13 := bx_cell (hQ) 13 rfl; have fz13 := bx_free (hQ) 13 (by decide); clear hN hQ hQB)
  all_goals try go_wp2_with fail
  all_goals
    rw [set14]
    have HXF := hide (bx_setCells (us := [.int .i64 0, .int .i64 0, .int .i64 0, .int .i64 0, .int .i64 0, .int .i64 0, .int .i64 0, .float .f64 0, .string ⟨#[]⟩, .int .i64 0, .int .i64 0, .int .i64 0, .int .i64 0, .int .i64 0]) (unhide HQ) rfl)
    have HBF := hide (below_setCells w.heap.size (Nat.le_refl _) [.int .i64 0, .int .i64 0, .int .i64 0, .int .i64 0, .int .i64 0, .int .i64 0, .int .i64 0, .float .f64 0, .string ⟨#[]⟩, .int .i64 0, .int .i64 0, .int .i64 0, .int .i64 0, .int .i64 0] 0 w3 (unhide HQB))
    generalize (w3.setCells w.heap.size 0 [.int .i64 0, .int .i64 0, .int .i64 0, .int .i64 0, .int .i64 0, .int .i64 0, .int .i64 0, .float .f64 0, .string ⟨#[]⟩, .int .i64 0, .int .i64 0, .int .i64 0, .int .i64 0, .int .i64 0]) = WF at HXF HBF ⊢
    have d0 := bx_cell (unhide HXF) 0 rfl
    have d1 := bx_cell (unhide HXF) 1 rfl
    have d2 := bx_cell (unhide HXF) 2 rfl
    have d3 := bx_cell (unhide HXF) 3 rfl
    have d4 := bx_cell (unhide HXF) 4 rfl
    have d5 := bx_cell (unhide HXF) 5 rfl
    have d6 := bx_cell (unhide HXF) 6 rfl
    have d7 := bx_cell (unhide HXF) 7 rfl
    have d8 := bx_cell (unhide HXF) 8 rfl
    have d9 := bx_cell (unhide HXF) 9 rfl
    have d10 := bx_cell (unhide HXF) 10 rfl
    have d11 := bx_cell (unhide HXF) 11 rfl
    have d12 := bx_cell (unhide HXF) 12 rfl
    have d13 := bx_cell (unhide HXF) 13 rfl
    refine bodyPost_ret (v := tupE zEv (0, c)) ?_ rfl ⟨rfl, unhide HBF⟩
    simp [results, Tryz.f40, go_sem, d0, d1, d2, d3, d4, d5, d6, d7, d8, d9, d10, d11, d12, d13, tupE, evV, zEv]
end Go.Proofs.YthkdbjldlfahdaaGreatDoor
