/-
  The face of a reading of an event, proved by walking it: the deferred function that recovers, and the trying.
-/
import Derived.Test.YtmeekcdoajbjdaaGreatDoorGj16
namespace Go.Proofs.YtmeekcdoajbjdaaGreatDoor
open Go.RowKit
set_option linter.unusedVariables false

theorem tryE_box (w : World) : Bx ((w.alloc (Obj.cells #[.int .i64 0, .int .i64 0, .int .i64 0, .int .i64 0, .int .i64 0, .int .i64 0, .int .i64 0, .float .f64 0, .string ⟨#[]⟩, .int .i64 0, .int .i64 0, .int .i64 0, .int .i64 0, .int .i64 0] 46)).alloc (Obj.cells #[.nilIface] 98)) w.heap.size [.int .i64 0, .int .i64 0, .int .i64 0, .int .i64 0, .int .i64 0, .int .i64 0, .int .i64 0, .float .f64 0, .string ⟨#[]⟩, .int .i64 0, .int .i64 0, .int .i64 0, .int .i64 0, .int .i64 0] :=
  bx_below (bx_made w [.int .i64 0, .int .i64 0, .int .i64 0, .int .i64 0, .int .i64 0, .int .i64 0, .int .i64 0, .float .f64 0, .string ⟨#[]⟩, .int .i64 0, .int .i64 0, .int .i64 0, .int .i64 0, .int .i64 0] 46) ((Below.refl (w.heap.size + 1) _).alloc (by simp) _) (by omega)
theorem tryE_err (w : World) : Bx ((w.alloc (Obj.cells #[.int .i64 0, .int .i64 0, .int .i64 0, .int .i64 0, .int .i64 0, .int .i64 0, .int .i64 0, .float .f64 0, .string ⟨#[]⟩, .int .i64 0, .int .i64 0, .int .i64 0, .int .i64 0, .int .i64 0] 46)).alloc (Obj.cells #[.nilIface] 98)) (w.heap.size + 1) [.nilIface] := by
  have h := bx_made (w.alloc (Obj.cells #[.int .i64 0, .int .i64 0, .int .i64 0, .int .i64 0, .int .i64 0, .int .i64 0, .int .i64 0, .float .f64 0, .string ⟨#[]⟩, .int .i64 0, .int .i64 0, .int .i64 0, .int .i64 0, .int .i64 0] 46)) [.nilIface] 98
  rwa [show (w.alloc (Obj.cells #[.int .i64 0, .int .i64 0, .int .i64 0, .int .i64 0, .int .i64 0, .int .i64 0, .int .i64 0, .float .f64 0, .string ⟨#[]⟩, .int .i64 0, .int .i64 0, .int .i64 0, .int .i64 0, .int .i64 0] 46)).heap.size = w.heap.size + 1 by simp] at h
theorem gr_set1 {w W : World} {R b j : Nat} {u : Value} (h : w.grownBy W (some R)) (hb : w.heap.size ≤ b) : w.grownBy (W.setCell ⟨b, j, none⟩ u) (some R) :=
  ⟨h.os, h.tape, h.output, by have := h.size; simpa [World.setCell] using this, fun i hi hR => by rw [Below.heap_setCell _ _ _ _ (by show i ≠ b; omega)]; exact h.block i hi hR⟩
theorem catch_panickingE (p : Addr) (x : Value) (c k : Int) (older : List PanicEntry) (w : World) (hc : w.cell? p = some x) (hz : w.frozen? p = false) :
    CallsD Tryz.prog 94 #[.pointer (some p)] (.panicking ({ v := faultV c k, recovered := false } :: older)) w fun e u' w' =>
      e = .returned (.tuple #[]) ∧ u' = .panicking ({ v := faultV c k, recovered := true } :: older) ∧ w' = w.setCell p (faultV c k) := by
  refine callsD_of_wpS Tryz.func94 rfl fun c₀ cs hu => ?_
  simp only [faultV] at hu ⊢
  apply wpS_seq
  apply wpS_region
  simp [wpOpsS, go_sem, recoverD, hu, Tryz.ntmps94, Exit.thenS, ta_fault]
  apply wpS_seq
  apply wpS_region
  simp [wpOpsS, go_sem, Exit.thenS]
  refine wpS_cond (t := true) (by simp [Act.eval, Array.replicate]) ?_
  simp only [if_true]
  apply wpS_region
  simp [wpOpsS, go_sem, hc, hz, bodyPostS, results, Tryz.results94]

theorem catch_idleE (p : Addr) (w : World) :
    CallsD Tryz.prog 94 #[.pointer (some p)] .returning w fun e u' w' => e = .returned (.tuple #[]) ∧ u' = .returning ∧ w' = w := by
  refine callsD_of_wpS Tryz.func94 rfl fun c₀ cs hu => ?_
  apply wpS_seq
  apply wpS_region
  simp [wpOpsS, go_sem, recoverD, hu, Tryz.ntmps94, Exit.thenS, ta_nil]
  apply wpS_seq
  apply wpS_region
  simp [wpOpsS, go_sem, Exit.thenS]
  refine wpS_cond (t := false) (by simp [Act.eval, Array.replicate]) ?_
  simp only [Bool.false_eq_true, if_false]
  refine wpS_of_wp (wp_skip ?_)
  cases c₀
  simp_all [bodyPostS, results, Tryz.results94]
set_option maxRecDepth 100000 in
set_option maxHeartbeats 3200000 in
theorem tryE_ok (B : Nat) (a : Option Addr) (len cap : Nat) (k : Int) (x : Ev) (next : Int) (w : World) (hr : Rdr B w (.slice a len cap) k) (h0 : 0 ≤ k) (h1 : k ≤ len) (hl : len ≤ 65536)
    (hread : ∀ w0, Below w.heap.size w w0 → Calls Tryz.prog 63 #[.pointer (some ⟨B, 0, none⟩)] w0 fun e w' => w0.grownBy w' (some B) ∧ e = .returned (evV x) ∧ Rdr B w' (.slice a len cap) next) :
    Calls Tryz.prog 82 #[.pointer (some ⟨B, 0, none⟩), .func (.func 63) #[] #[]] w fun e w' => e = .returned (.tuple #[evV x, .nilIface]) ∧ Rdr B w' (.slice a len cap) next ∧ w.grownBy w' (some B) := by
  have hsf := sfl
  have hmf : ∀ (fn : Fn) (first cap : Array Value) (w : World), (Instr.makeFunc fn first cap).run Tryz.prog w = .ok (.func fn first cap) w := fun _ _ _ _ => rfl
  have hBw := World.block_lt_of_cell? w _ hr.1
  have hb0 : Below w.heap.size w ((w.alloc (Obj.cells #[.int .i64 0, .int .i64 0, .int .i64 0, .int .i64 0, .int .i64 0, .int .i64 0, .int .i64 0, .float .f64 0, .string ⟨#[]⟩, .int .i64 0, .int .i64 0, .int .i64 0, .int .i64 0, .int .i64 0] 46)).alloc (Obj.cells #[.nilIface] 98)) := ((Below.refl _ w).alloc (Nat.le_refl _) _).alloc (by simp) _
  have HR := hide (rdr_below hr hb0 hBw)
  have HX : Hid (Bx ((w.alloc (Obj.cells #[.int .i64 0, .int .i64 0, .int .i64 0, .int .i64 0, .int .i64 0, .int .i64 0, .int .i64 0, .float .f64 0, .string ⟨#[]⟩, .int .i64 0, .int .i64 0, .int .i64 0, .int .i64 0, .int .i64 0] 46)).alloc (Obj.cells #[.nilIface] 98)) w.heap.size [.int .i64 0, .int .i64 0, .int .i64 0, .int .i64 0, .int .i64 0, .int .i64 0, .int .i64 0, .float .f64 0, .string ⟨#[]⟩, .int .i64 0, .int .i64 0, .int .i64 0, .int .i64 0, .int .i64 0]) := tryE_box w
  have HY : Hid (Bx ((w.alloc (Obj.cells #[.int .i64 0, .int .i64 0, .int .i64 0, .int .i64 0, .int .i64 0, .int .i64 0, .int .i64 0, .float .f64 0, .string ⟨#[]⟩, .int .i64 0, .int .i64 0, .int .i64 0, .int .i64 0, .int .i64 0] 46)).alloc (Obj.cells #[.nilIface] 98)) (w.heap.size + 1) [.nilIface]) := tryE_err w
  have HZ : Hid (((w.alloc (Obj.cells #[.int .i64 0, .int .i64 0, .int .i64 0, .int .i64 0, .int .i64 0, .int .i64 0, .int .i64 0, .float .f64 0, .string ⟨#[]⟩, .int .i64 0, .int .i64 0, .int .i64 0, .int .i64 0, .int .i64 0] 46)).alloc (Obj.cells #[.nilIface] 98)).heap.size = w.heap.size + 2) := by show _ = _; simp
  have HB := hide hb0
  have HRd := hide hread
  clear hr hread hb0
  obtain ⟨kind, ⟨ck, cs, ct, cl, cq, ci, cp, cg⟩, id, other, qty, price, reason⟩ := x
  go_enter_defers Tryz.func82, Tryz.ntmps82
  go_wp2_with fail
  generalize ((w.alloc (Obj.cells #[.int .i64 0, .int .i64 0, .int .i64 0, .int .i64 0, .int .i64 0, .int .i64 0, .int .i64 0, .float .f64 0, .string ⟨#[]⟩, .int .i64 0, .int .i64 0, .int .i64 0, .int .i64 0, .int .i64 0] 46)).alloc (Obj.cells #[.nilIface] 98)) = W1 at HR HX HY HZ HB ⊢
  refine (check_ok B k a len cap _ (unhide HR) h0 h1 hl).mono ?_
  rintro e w1 ⟨rfl, q, rfl⟩
  go_wp2_with fail
  refine (unhide HRd _ (below_drewN' (unhide HB) q)).mono ?_
  rintro e w2 ⟨hg, rfl, hr2⟩
  have hz := unhide HZ
  have hX : Bx w2 w.heap.size [.int .i64 0, .int .i64 0, .int .i64 0, .int .i64 0, .int .i64 0, .int .i64 0, .int .i64 0, .float .f64 0, .string ⟨#[]⟩, .int .i64 0, .int .i64 0, .int .i64 0, .int .i64 0, .int .i64 0] := bx_blk (bx_drewN (unhide HX) q) (hg.block w.heap.size (by show w.heap.size < W1.heap.size; omega) (by simp; omega))
  have hY : Bx w2 (w.heap.size + 1) [.nilIface] := bx_blk (bx_drewN (unhide HY) q) (hg.block (w.heap.size + 1) (by show w.heap.size + 1 < W1.heap.size; omega) (by simp; omega))
  have HG : Hid (w.grownBy w2 (some B)) := gr_trans (bel_gr (unhide HB) B) (gr_trans (gr_drewN W1 q _) hg)
  have HR2 := hide hr2
  have HXX := hide hX
  have HYY := hide hY
  have z0 := bx_cell hX 0 rfl
  have f0 := bx_free hX 0 (by decide)
  have z1 := bx_cell hX 1 rfl
  have f1 := bx_free hX 1 (by decide)
  have z2 := bx_cell hX 2 rfl
  have f2 := bx_free hX 2 (by decide)
  have z3 := bx_cell hX 3 rfl
  have f3 := bx_free hX 3 (by decide)
  have z4 := bx_cell hX 4 rfl
  have f4 := bx_free hX 4 (by decide)
  have z5 := bx_cell hX 5 rfl
  have f5 := bx_free hX 5 (by decide)
  have z6 := bx_cell hX 6 rfl
  have f6 := bx_free hX 6 (by decide)
  have z7 := bx_cell hX 7 rfl
  have f7 := bx_free hX 7 (by decide)
  have z8 := bx_cell hX 8 rfl
  have f8 := bx_free hX 8 (by decide)
  have z9 := bx_cell hX 9 rfl
  have f9 := bx_free hX 9 (by decide)
  have z10 := bx_cell hX 10 rfl
  have f10 := bx_free hX 10 (by decide)
  have z11 := bx_cell hX 11 rfl
  have f11 := bx_free hX 11 (by decide)
  have z12 := bx_cell hX 12 rfl
  have f12 := bx_free hX 12 (by decide)
  have z13 := bx_cell hX 13 rfl
  have f13 := bx_free hX 13 (by decide)
  have ze := bx_cell hY 0 rfl
  have fe := bx_free hY 0 (by decide)
  unfold evV
  simp only
  clear hg hr2 hX hY hz HX HY HR HB HZ HRd
  go_wp2_with fail
  rw [set14]
  have HXF0 := bx_setCells (us := [.int .i64 kind, .int .i64 ck, .int .i64 cs, .int .i64 ct, .int .i64 cl, .int .i64 cq, .int .i64 ci, .float .f64 cp, .string cg, .int .i64 id, .int .i64 other, .int .i64 qty, .int .i64 price, .int .i64 reason]) (unhide HXX) rfl
  have HXF := hide (bx_other (j := 0) (u := .nilIface) HXF0 (show w.heap.size ≠ w.heap.size + 1 by omega))
  have HYF := hide (bx_set (j := 0) (u := .nilIface) (bx_others (us := [.int .i64 kind, .int .i64 ck, .int .i64 cs, .int .i64 ct, .int .i64 cl, .int .i64 cq, .int .i64 ci, .float .f64 cp, .string cg, .int .i64 id, .int .i64 other, .int .i64 qty, .int .i64 price, .int .i64 reason]) (unhide HYY) (show w.heap.size + 1 ≠ w.heap.size by omega)) (by decide))
  have HGF := hide (gr_trans (gr_setCells [.int .i64 kind, .int .i64 ck, .int .i64 cs, .int .i64 ct, .int .i64 cl, .int .i64 cq, .int .i64 ci, .float .f64 cp, .string cg, .int .i64 id, .int .i64 other, .int .i64 qty, .int .i64 price, .int .i64 reason] (unhide HG) (Nat.le_refl w.heap.size)) (World.grownBy.refl _ _))
  have HRF0 := rdr_setCells [.int .i64 kind, .int .i64 ck, .int .i64 cs, .int .i64 ct, .int .i64 cl, .int .i64 cq, .int .i64 ci, .float .f64 cp, .string cg, .int .i64 id, .int .i64 other, .int .i64 qty, .int .i64 price, .int .i64 reason] (unhide HR2) (show B ≠ w.heap.size by omega)
  have HRF := hide (rdr_grown HRF0 (gr_set _ ⟨w.heap.size + 1, 0, none⟩ .nilIface) (by show B ≠ w.heap.size + 1; omega))
  have HGF := hide (gr_set1 (j := 0) (u := .nilIface) (unhide HGF) (show w.heap.size ≤ w.heap.size + 1 by omega))
  clear z0 f0 z1 f1 z2 f2 z3 f3 z4 f4 z5 f5 z6 f6 z7 f7 z8 f8 z9 f9 z10 f10 z11 f11 z12 f12 z13 f13 ze fe HXF0 HRF0 HXX HYY HG HR2
  generalize (w2.setCells w.heap.size 0 [.int .i64 kind, .int .i64 ck, .int .i64 cs, .int .i64 ct, .int .i64 cl, .int .i64 cq, .int .i64 ci, .float .f64 cp, .string cg, .int .i64 id, .int .i64 other, .int .i64 qty, .int .i64 price, .int .i64 reason]).setCell ⟨w.heap.size + 1, 0, none⟩ .nilIface = WF at HXF HYF HGF HRF ⊢
  refine leaves_cons (f := 94) (args := #[.pointer (some ⟨w.heap.size + 1, 0, none⟩)]) (by simp) (by simp [go_sem]) ?_
  refine (catch_idleE ⟨w.heap.size + 1, 0, none⟩ _).mono ?_
  rintro e u' w'' ⟨rfl, rfl, hw⟩
  subst hw
  have d0 := bx_cell (unhide HXF) 0 rfl
  have d1 := bx_cell (unhide HXF) 1 rfl
  have d2 := bx_cell (unhide HXF) 2 rfl
  have d3 := bx_cell (unhide HXF) 3 rfl
  have d4 := bx_cell (unhide HXF) 4 rfl
  have d5 := bx_cell (unhide HXF) 5 rfl
  have d6 := bx_cell (unhide HXF) 6 rfl
  have d7 := bx_cell (unhide HXF) 7 rfl
  have d8 := bx_cell (unhide HXF) 8 rfl
  have d9 := bx_cell (unhide HXF) 9 rfl
  have d10 := bx_cell (unhide HXF) 10 rfl
  have d11 := bx_cell (unhide HXF) 11 rfl
  have d12 := bx_cell (unhide HXF) 12 rfl
  have d13 := bx_cell (unhide HXF) 13 rfl
  have de := bx_cell (unhide HYF) 0 rfl
  simp [Leaves, settle, results, Tryz.results82, go_sem, d0, d1, d2, d3, d4, d5, d6, d7, d8, d9, d10, d11, d12, d13, de]
  exact ⟨rfl, unhide HRF, unhide HGF⟩
/-- An event that is nothing. -/
def zEv : Ev := ⟨0, ⟨0, 0, 0, 0, 0, 0, 0, ⟨#[]⟩⟩, 0, 0, 0, 0, 0⟩
set_option maxRecDepth 100000 in
set_option maxHeartbeats 3200000 in
theorem tryE_fail (B : Nat) (a : Option Addr) (len cap : Nat) (k c : Int) (w : World) (hr : Rdr B w (.slice a len cap) k) (h0 : 0 ≤ k) (h1 : k ≤ len) (hl : len ≤ 65536)
    (hread : ∀ w0, Below w.heap.size w w0 → Calls Tryz.prog 63 #[.pointer (some ⟨B, 0, none⟩)] w0 fun e w' => w0.grownBy w' (some B) ∧ ∃ p, e = .panicked (fault c p)) :
    Calls Tryz.prog 82 #[.pointer (some ⟨B, 0, none⟩), .func (.func 63) #[] #[]] w fun e w' => (∃ p, e = .returned (.tuple #[evV zEv, faultV c p])) ∧ w.grownBy w' (some B) := by
  have hsf := sfl
  have hmf : ∀ (fn : Fn) (first cap : Array Value) (w : World), (Instr.makeFunc fn first cap).run Tryz.prog w = .ok (.func fn first cap) w := fun _ _ _ _ => rfl
  have hBw := World.block_lt_of_cell? w _ hr.1
  have hb0 : Below w.heap.size w ((w.alloc (Obj.cells #[.int .i64 0, .int .i64 0, .int .i64 0, .int .i64 0, .int .i64 0, .int .i64 0, .int .i64 0, .float .f64 0, .string ⟨#[]⟩, .int .i64 0, .int .i64 0, .int .i64 0, .int .i64 0, .int .i64 0] 46)).alloc (Obj.cells #[.nilIface] 98)) := ((Below.refl _ w).alloc (Nat.le_refl _) _).alloc (by simp) _
  have HR := hide (rdr_below hr hb0 hBw)
  have HX : Hid (Bx ((w.alloc (Obj.cells #[.int .i64 0, .int .i64 0, .int .i64 0, .int .i64 0, .int .i64 0, .int .i64 0, .int .i64 0, .float .f64 0, .string ⟨#[]⟩, .int .i64 0, .int .i64 0, .int .i64 0, .int .i64 0, .int .i64 0] 46)).alloc (Obj.cells #[.nilIface] 98)) w.heap.size [.int .i64 0, .int .i64 0, .int .i64 0, .int .i64 0, .int .i64 0, .int .i64 0, .int .i64 0, .float .f64 0, .string ⟨#[]⟩, .int .i64 0, .int .i64 0, .int .i64 0, .int .i64 0, .int .i64 0]) := tryE_box w
  have HY : Hid (Bx ((w.alloc (Obj.cells #[.int .i64 0, .int .i64 0, .int .i64 0, .int .i64 0, .int .i64 0, .int .i64 0, .int .i64 0, .float .f64 0, .string ⟨#[]⟩, .int .i64 0, .int .i64 0, .int .i64 0, .int .i64 0, .int .i64 0] 46)).alloc (Obj.cells #[.nilIface] 98)) (w.heap.size + 1) [.nilIface]) := tryE_err w
  have HZ : Hid (((w.alloc (Obj.cells #[.int .i64 0, .int .i64 0, .int .i64 0, .int .i64 0, .int .i64 0, .int .i64 0, .int .i64 0, .float .f64 0, .string ⟨#[]⟩, .int .i64 0, .int .i64 0, .int .i64 0, .int .i64 0, .int .i64 0] 46)).alloc (Obj.cells #[.nilIface] 98)).heap.size = w.heap.size + 2) := by show _ = _; simp
  have HB := hide hb0
  have HRd := hide hread
  clear hr hread hb0
  unfold evV zEv
  simp only
  go_enter_defers Tryz.func82, Tryz.ntmps82
  go_wp2_with fail
  generalize ((w.alloc (Obj.cells #[.int .i64 0, .int .i64 0, .int .i64 0, .int .i64 0, .int .i64 0, .int .i64 0, .int .i64 0, .float .f64 0, .string ⟨#[]⟩, .int .i64 0, .int .i64 0, .int .i64 0, .int .i64 0, .int .i64 0] 46)).alloc (Obj.cells #[.nilIface] 98)) = W1 at HR HX HY HZ HB ⊢
  refine (check_ok B k a len cap _ (unhide HR) h0 h1 hl).mono ?_
  rintro e w1 ⟨rfl, q, rfl⟩
  go_wp2_with fail
  refine (unhide HRd _ (below_drewN' (unhide HB) q)).mono ?_
  rintro e w2 ⟨hg, p, rfl⟩
  have hz := unhide HZ
  have hX : Bx w2 w.heap.size [.int .i64 0, .int .i64 0, .int .i64 0, .int .i64 0, .int .i64 0, .int .i64 0, .int .i64 0, .float .f64 0, .string ⟨#[]⟩, .int .i64 0, .int .i64 0, .int .i64 0, .int .i64 0, .int .i64 0] := bx_blk (bx_drewN (unhide HX) q) (hg.block w.heap.size (by show w.heap.size < W1.heap.size; omega) (by simp; omega))
  have hY : Bx w2 (w.heap.size + 1) [.nilIface] := bx_blk (bx_drewN (unhide HY) q) (hg.block (w.heap.size + 1) (by show w.heap.size + 1 < W1.heap.size; omega) (by simp; omega))
  have HG : Hid (w.grownBy w2 (some B)) := gr_trans (bel_gr (unhide HB) B) (gr_trans (gr_drewN W1 q _) hg)
  clear hg
  have HXF := bx_other (j := 0) (u := faultV c p) hX (show w.heap.size ≠ w.heap.size + 1 by omega)
  have HYF := bx_set (j := 0) (u := faultV c p) hY (by decide)
  have HGF := hide (gr_set1 (j := 0) (u := faultV c p) (unhide HG) (show w.heap.size ≤ w.heap.size + 1 by omega))
  have hcE := bx_cell hY 0 rfl
  have hfE := bx_free hY 0 (by decide)
  clear HX HY HR HB HZ hz
  go_wp2_with fail
  refine leaves_cons (f := 94) (args := #[.pointer (some ⟨w.heap.size + 1, 0, none⟩)]) (by simp) (by simp [go_sem]) ?_
  refine (catch_panickingE ⟨w.heap.size + 1, 0, none⟩ .nilIface c p [] _ hcE hfE).mono ?_
  rintro e u' w'' ⟨rfl, rfl, hw⟩
  rw [hw]
  clear hw
  generalize w2.setCell ⟨w.heap.size + 1, 0, none⟩ (faultV c p) = WF at HXF HYF HGF ⊢
  have d0 := bx_cell HXF 0 rfl
  have d1 := bx_cell HXF 1 rfl
  have d2 := bx_cell HXF 2 rfl
  have d3 := bx_cell HXF 3 rfl
  have d4 := bx_cell HXF 4 rfl
  have d5 := bx_cell HXF 5 rfl
  have d6 := bx_cell HXF 6 rfl
  have d7 := bx_cell HXF 7 rfl
  have d8 := bx_cell HXF 8 rfl
  have d9 := bx_cell HXF 9 rfl
  have d10 := bx_cell HXF 10 rfl
  have d11 := bx_cell HXF 11 rfl
  have d12 := bx_cell HXF 12 rfl
  have d13 := bx_cell HXF 13 rfl
  have de := bx_cell HYF 0 rfl
  simp [Leaves, settle, results, Tryz.results82, go_sem, d0, d1, d2, d3, d4, d5, d6, d7, d8, d9, d10, d11, d12, d13, de]
  exact ⟨⟨p, rfl⟩, unhide HGF⟩
set_option maxRecDepth 100000 in
set_option maxHeartbeats 3200000 in
theorem tryE_check (B : Nat) (a : Option Addr) (len cap : Nat) (k c : Int) (w : World) (hr : Rdr B w (.slice a len cap) k)
    (hchk : ∀ w0, Rdr B w0 (.slice a len cap) k → Calls Tryz.prog 95 #[.pointer (some ⟨B, 0, none⟩)] w0 fun e w' => e = .panicked (fault c k) ∧ ∃ q, w' = w0.drewN q) :
    Calls Tryz.prog 82 #[.pointer (some ⟨B, 0, none⟩), .func (.func 63) #[] #[]] w fun e w' => (∃ p, e = .returned (.tuple #[evV zEv, faultV c p])) ∧ w.grownBy w' (some B) := by
  have hsf := sfl
  have hmf : ∀ (fn : Fn) (first cap : Array Value) (w : World), (Instr.makeFunc fn first cap).run Tryz.prog w = .ok (.func fn first cap) w := fun _ _ _ _ => rfl
  have hBw := World.block_lt_of_cell? w _ hr.1
  have hb0 : Below w.heap.size w ((w.alloc (Obj.cells #[.int .i64 0, .int .i64 0, .int .i64 0, .int .i64 0, .int .i64 0, .int .i64 0, .int .i64 0, .float .f64 0, .string ⟨#[]⟩, .int .i64 0, .int .i64 0, .int .i64 0, .int .i64 0, .int .i64 0] 46)).alloc (Obj.cells #[.nilIface] 98)) := ((Below.refl _ w).alloc (Nat.le_refl _) _).alloc (by simp) _
  have HR := hide (rdr_below hr hb0 hBw)
  have HX : Hid (Bx ((w.alloc (Obj.cells #[.int .i64 0, .int .i64 0, .int .i64 0, .int .i64 0, .int .i64 0, .int .i64 0, .int .i64 0, .float .f64 0, .string ⟨#[]⟩, .int .i64 0, .int .i64 0, .int .i64 0, .int .i64 0, .int .i64 0] 46)).alloc (Obj.cells #[.nilIface] 98)) w.heap.size [.int .i64 0, .int .i64 0, .int .i64 0, .int .i64 0, .int .i64 0, .int .i64 0, .int .i64 0, .float .f64 0, .string ⟨#[]⟩, .int .i64 0, .int .i64 0, .int .i64 0, .int .i64 0, .int .i64 0]) := tryE_box w
  have HY : Hid (Bx ((w.alloc (Obj.cells #[.int .i64 0, .int .i64 0, .int .i64 0, .int .i64 0, .int .i64 0, .int .i64 0, .int .i64 0, .float .f64 0, .string ⟨#[]⟩, .int .i64 0, .int .i64 0, .int .i64 0, .int .i64 0, .int .i64 0] 46)).alloc (Obj.cells #[.nilIface] 98)) (w.heap.size + 1) [.nilIface]) := tryE_err w
  have HZ : Hid (((w.alloc (Obj.cells #[.int .i64 0, .int .i64 0, .int .i64 0, .int .i64 0, .int .i64 0, .int .i64 0, .int .i64 0, .float .f64 0, .string ⟨#[]⟩, .int .i64 0, .int .i64 0, .int .i64 0, .int .i64 0, .int .i64 0] 46)).alloc (Obj.cells #[.nilIface] 98)).heap.size = w.heap.size + 2) := by show _ = _; simp
  have HB := hide hb0
  have HCk := hide hchk
  clear hr hchk hb0
  unfold evV zEv
  simp only
  go_enter_defers Tryz.func82, Tryz.ntmps82
  go_wp2_with fail
  generalize ((w.alloc (Obj.cells #[.int .i64 0, .int .i64 0, .int .i64 0, .int .i64 0, .int .i64 0, .int .i64 0, .int .i64 0, .float .f64 0, .string ⟨#[]⟩, .int .i64 0, .int .i64 0, .int .i64 0, .int .i64 0, .int .i64 0] 46)).alloc (Obj.cells #[.nilIface] 98)) = W1 at HR HX HY HZ HB ⊢
  refine (unhide HCk _ (unhide HR)).mono ?_
  rintro e w2 ⟨rfl, q, hw1⟩
  have hg : (W1.drewN q).grownBy w2 (some B) := by rw [hw1]; exact World.grownBy.refl _ _
  clear hw1
  have hz := unhide HZ
  have hX : Bx w2 w.heap.size [.int .i64 0, .int .i64 0, .int .i64 0, .int .i64 0, .int .i64 0, .int .i64 0, .int .i64 0, .float .f64 0, .string ⟨#[]⟩, .int .i64 0, .int .i64 0, .int .i64 0, .int .i64 0, .int .i64 0] := bx_blk (bx_drewN (unhide HX) q) (hg.block w.heap.size (by show w.heap.size < W1.heap.size; omega) (by simp; omega))
  have hY : Bx w2 (w.heap.size + 1) [.nilIface] := bx_blk (bx_drewN (unhide HY) q) (hg.block (w.heap.size + 1) (by show w.heap.size + 1 < W1.heap.size; omega) (by simp; omega))
  have HG : Hid (w.grownBy w2 (some B)) := gr_trans (bel_gr (unhide HB) B) (gr_trans (gr_drewN W1 q _) hg)
  clear hg
  have HXF := bx_other (j := 0) (u := faultV c k) hX (show w.heap.size ≠ w.heap.size + 1 by omega)
  have HYF := bx_set (j := 0) (u := faultV c k) hY (by decide)
  have HGF := hide (gr_set1 (j := 0) (u := faultV c k) (unhide HG) (show w.heap.size ≤ w.heap.size + 1 by omega))
  have hcE := bx_cell hY 0 rfl
  have hfE := bx_free hY 0 (by decide)
  clear HX HY HR HB HZ hz
  go_wp2_with fail
  refine leaves_cons (f := 94) (args := #[.pointer (some ⟨w.heap.size + 1, 0, none⟩)]) (by simp) (by simp [go_sem]) ?_
  refine (catch_panickingE ⟨w.heap.size + 1, 0, none⟩ .nilIface c k [] _ hcE hfE).mono ?_
  rintro e u' w'' ⟨rfl, rfl, hw⟩
  rw [hw]
  clear hw
  generalize w2.setCell ⟨w.heap.size + 1, 0, none⟩ (faultV c k) = WF at HXF HYF HGF ⊢
  have d0 := bx_cell HXF 0 rfl
  have d1 := bx_cell HXF 1 rfl
  have d2 := bx_cell HXF 2 rfl
  have d3 := bx_cell HXF 3 rfl
  have d4 := bx_cell HXF 4 rfl
  have d5 := bx_cell HXF 5 rfl
  have d6 := bx_cell HXF 6 rfl
  have d7 := bx_cell HXF 7 rfl
  have d8 := bx_cell HXF 8 rfl
  have d9 := bx_cell HXF 9 rfl
  have d10 := bx_cell HXF 10 rfl
  have d11 := bx_cell HXF 11 rfl
  have d12 := bx_cell HXF 12 rfl
  have d13 := bx_cell HXF 13 rfl
  have de := bx_cell HYF 0 rfl
  simp [Leaves, settle, results, Tryz.results82, go_sem, d0, d1, d2, d3, d4, d5, d6, d7, d8, d9, d10, d11, d12, d13, de]
  exact ⟨⟨k, rfl⟩, unhide HGF⟩
end Go.Proofs.YtmeekcdoajbjdaaGreatDoor
