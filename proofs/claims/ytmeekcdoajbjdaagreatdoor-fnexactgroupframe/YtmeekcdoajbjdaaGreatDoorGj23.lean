/-
  What the reading of an event at a place answers, proved by walking it: the program's DecodeEvent.
-/
import Derived.Test.YtmeekcdoajbjdaaGreatDoorGj22
namespace Go.Proofs.YtmeekcdoajbjdaaGreatDoor
open Go.RowKit
set_option linter.unusedVariables false

theorem readE_any (v : Value) (l : List Int) (at_ : Int) (w : World) (hrd : Rd w v l) (hcap : CapOk v) (hb : Bts l) (hE : ErrT w) :
    Calls Tryz.prog 62 #[v, .int .i64 at_, .func (.func 63) #[] #[]] w fun e w' => e = .returned (tupE (evR l at_).1 (evR l at_).2) ∧ Below w.heap.size w w' := by
  obtain ⟨a, cap, hv⟩ := rd_len hrd
  by_cases h1 : 65536 < l.length
  · rw [evR_long h1]
    refine readE_fault v l.length a cap hv at_ 2 w hE fun w0 hw0 => ?_
    subst hw0
    have hr := (rdE_box w v at_).2.1
    subst hv
    exact tryE_check (w.heap.size + 1) a l.length cap at_ 2 _ hr fun w0 h => check_long _ at_ a l.length cap w0 h h1
  by_cases h2 : at_ < 0 ∨ (l.length : Int) < at_
  · rw [evR_out h1 h2]
    refine readE_fault v l.length a cap hv at_ 5 w hE fun w0 hw0 => ?_
    subst hw0
    have hr := (rdE_box w v at_).2.1
    subst hv
    exact tryE_check (w.heap.size + 1) a l.length cap at_ 5 _ hr fun w0 h => check_out _ at_ a l.length cap w0 h h2 (by omega)
  obtain ⟨k, rfl⟩ := Int.eq_ofNat_of_zero_le (show 0 ≤ at_ by omega)
  have hk : k ≤ l.length := by omega
  obtain ⟨_, hr, hbel, hz⟩ := rdE_box w v (k : Int)
  have hev : ∀ w0, Below (w.heap.size + 2) ((w.alloc (Obj.cells #[.int .i64 0, .int .i64 0, .int .i64 0, .int .i64 0, .int .i64 0, .int .i64 0, .int .i64 0, .float .f64 0, .string ⟨#[]⟩, .int .i64 0, .int .i64 0, .int .i64 0, .int .i64 0, .int .i64 0] 46)).alloc (Obj.cells #[v, .int .i64 (k : Int)] 96)) w0 → Calls Tryz.prog 63 #[.pointer (some ⟨w.heap.size + 1, 0, none⟩)] w0 fun e w' => EvEnd (w.heap.size + 1) v w0 (evA l k) e w' := fun w0 hb0 =>
    event_any w (w.heap.size + 1) v l k w0 ⟨hrd, hcap, Nat.le_succ _, hbel.trans (hb0.mono (by omega)), rdr_below hr hb0 (by omega), hk, by omega, hb⟩
  cases hg : evA l k with
  | none =>
    rw [evR_none h1 hk hg]
    refine readE_fault v l.length a cap hv k 3 w hE fun w0 hw0 => ?_
    subst hw0
    rw [hg] at hev
    subst hv
    exact tryE_fail (w.heap.size + 1) a l.length cap k 3 _ hr (by omega) (by omega) (by omega) fun w0 h => (hev w0 (by rw [hz] at h; exact h)).mono fun e w' h => ⟨h.1, h.2.2 rfl⟩
  | some r =>
    obtain ⟨x, n⟩ := r
    rw [evR_some h1 hk hg]
    refine readE_fine v l.length a cap hv k x n w fun w0 hw0 => ?_
    subst hw0
    rw [hg] at hev
    subst hv
    exact tryE_ok (w.heap.size + 1) a l.length cap k x n _ hr (by omega) (by omega) (by omega) fun w0 h => (hev w0 (by rw [hz] at h; exact h)).mono fun e w' h => ⟨h.1, (h.2.1 x n rfl).1, (h.2.1 x n rfl).2⟩
set_option maxRecDepth 100000 in
set_option maxHeartbeats 3200000 in
theorem implDecode_any (v : Value) (l : List Int) (at_ : Int) (w : World) (hrd : Rd w v l) (hcap : CapOk v) (hb : Bts l) (hE : ErrT w) :
    Calls Tryz.prog 43 #[v, .int .i64 at_] w fun e w' => e = .returned (tupE (evR l at_).1 (evR l at_).2) ∧ Below w.heap.size w w' := by
  have hsf := sfl
  have hba : Below w.heap.size w (w.alloc (Obj.cells #[.int .i64 0, .int .i64 0, .int .i64 0, .int .i64 0, .int .i64 0, .int .i64 0, .int .i64 0, .float .f64 0, .string ⟨#[]⟩, .int .i64 0, .int .i64 0, .int .i64 0, .int .i64 0, .int .i64 0] 46)) := (Below.refl _ _).alloc (Nat.le_refl _) _
  have HR := hide (readE_any v l at_ _ (rd_below hrd hba (Nat.le_refl _)) hcap hb (errT_below hE hba (Nat.le_refl _)))
  have HB := hide hba
  have HX : Hid (Bx (w.alloc (Obj.cells #[.int .i64 0, .int .i64 0, .int .i64 0, .int .i64 0, .int .i64 0, .int .i64 0, .int .i64 0, .float .f64 0, .string ⟨#[]⟩, .int .i64 0, .int .i64 0, .int .i64 0, .int .i64 0, .int .i64 0] 46)) w.heap.size [.int .i64 0, .int .i64 0, .int .i64 0, .int .i64 0, .int .i64 0, .int .i64 0, .int .i64 0, .float .f64 0, .string ⟨#[]⟩, .int .i64 0, .int .i64 0, .int .i64 0, .int .i64 0, .int .i64 0]) := bx_made w [.int .i64 0, .int .i64 0, .int .i64 0, .int .i64 0, .int .i64 0, .int .i64 0, .int .i64 0, .float .f64 0, .string ⟨#[]⟩, .int .i64 0, .int .i64 0, .int .i64 0, .int .i64 0, .int .i64 0] 46
  have HZ : Hid ((w.alloc (Obj.cells #[.int .i64 0, .int .i64 0, .int .i64 0, .int .i64 0, .int .i64 0, .int .i64 0, .int .i64 0, .float .f64 0, .string ⟨#[]⟩, .int .i64 0, .int .i64 0, .int .i64 0, .int .i64 0, .int .i64 0] 46)).heap.size = w.heap.size + 1) := by show _ = _; simp
  obtain ⟨a, cap, rfl⟩ := rd_len hrd
  clear hrd hcap hb hE hba
  generalize evR l at_ = r at *
  obtain ⟨⟨kind, ⟨ck, cs, ct, cl, cq, ci, cp, cg⟩, id, other, qty, price, reason⟩, r2, r3⟩ := r
  go_enter Tryz.func43, Tryz.ntmps43
  go_wp2_with fail
  generalize (w.alloc (Obj.cells #[.int .i64 0, .int .i64 0, .int .i64 0, .int .i64 0, .int .i64 0, .int .i64 0, .int .i64 0, .float .f64 0, .string ⟨#[]⟩, .int .i64 0, .int .i64 0, .int .i64 0, .int .i64 0, .int .i64 0] 46)) = W0 at HR HB HX HZ ⊢
  refine (unhide HR).mono ?_
  rintro e W1 ⟨rfl, hb1⟩
  have hX := bx_below (unhide HX) hb1 (by rw [unhide HZ]; omega)
  have HXX := hide hX
  have HB1 := hide ((unhide HB).trans (hb1.mono (unhide HB).size))
  have z0 := bx_cell hX 0 rfl
  have f0 := bx_free hX 0 (by decide)
  have z1 := bx_cell hX 1 rfl
  have f1 := bx_free hX 1 (by decide)
  have z2 := bx_cell hX 2 rfl
  have f2 := bx_free hX 2 (by decide)
  have z3 := bx_cell hX 3 rfl
  have f3 := bx_free hX 3 (by decide)
  have z4 := bx_cell hX 4 rfl
  have f4 := bx_free hX 4 (by decide)
  have z5 := bx_cell hX 5 rfl
  have f5 := bx_free hX 5 (by decide)
  have z6 := bx_cell hX 6 rfl
  have f6 := bx_free hX 6 (by decide)
  have z7 := bx_cell hX 7 rfl
  have f7 := bx_free hX 7 (by decide)
  have z8 := bx_cell hX 8 rfl
  have f8 := bx_free hX 8 (by decide)
  have z9 := bx_cell hX 9 rfl
  have f9 := bx_free hX 9 (by decide)
  have z10 := bx_cell hX 10 rfl
  have f10 := bx_free hX 10 (by decide)
  have z11 := bx_cell hX 11 rfl
  have f11 := bx_free hX 11 (by decide)
  have z12 := bx_cell hX 12 rfl
  have f12 := bx_free hX 12 (by decide)
  have z13 := bx_cell hX 13 rfl
  have f13 := bx_free hX 13 (by decide)
  unfold tupE evV
  simp only
  clear hb1 hX HR HX HZ
  go_wp2_with fail
  rw [set14]
  have HXF := hide (bx_setCells (us := [.int .i64 kind, .int .i64 ck, .int .i64 cs, .int .i64 ct, .int .i64 cl, .int .i64 cq, .int .i64 ci, .float .f64 cp, .string cg, .int .i64 id, .int .i64 other, .int .i64 qty, .int .i64 price, .int .i64 reason]) (unhide HXX) rfl)
  have HBF := hide (below_setCells w.heap.size (Nat.le_refl _) [.int .i64 kind, .int .i64 ck, .int .i64 cs, .int .i64 ct, .int .i64 cl, .int .i64 cq, .int .i64 ci, .float .f64 cp, .string cg, .int .i64 id, .int .i64 other, .int .i64 qty, .int .i64 price, .int .i64 reason] 0 W1 (unhide HB1))
  clear z0 f0 z1 f1 z2 f2 z3 f3 z4 f4 z5 f5 z6 f6 z7 f7 z8 f8 z9 f9 z10 f10 z11 f11 z12 f12 z13 f13 HXX HB1
  generalize (W1.setCells w.heap.size 0 [.int .i64 kind, .int .i64 ck, .int .i64 cs, .int .i64 ct, .int .i64 cl, .int .i64 cq, .int .i64 ci, .float .f64 cp, .string cg, .int .i64 id, .int .i64 other, .int .i64 qty, .int .i64 price, .int .i64 reason]) = WF at HXF HBF ⊢
  have d0 := bx_cell (unhide HXF) 0 rfl
  have d1 := bx_cell (unhide HXF) 1 rfl
  have d2 := bx_cell (unhide HXF) 2 rfl
  have d3 := bx_cell (unhide HXF) 3 rfl
  have d4 := bx_cell (unhide HXF) 4 rfl
  have d5 := bx_cell (unhide HXF) 5 rfl
  have d6 := bx_cell (unhide HXF) 6 rfl
  have d7 := bx_cell (unhide HXF) 7 rfl
  have d8 := bx_cell (unhide HXF) 8 rfl
  have d9 := bx_cell (unhide HXF) 9 rfl
  have d10 := bx_cell (unhide HXF) 10 rfl
  have d11 := bx_cell (unhide HXF) 11 rfl
  have d12 := bx_cell (unhide HXF) 12 rfl
  have d13 := bx_cell (unhide HXF) 13 rfl
  refine bodyPost_ret (v := tupE ⟨kind, ⟨ck, cs, ct, cl, cq, ci, cp, cg⟩, id, other, qty, price, reason⟩ (r2, r3)) ?_ rfl ⟨rfl, unhide HBF⟩
  simp [results, Tryz.f43, go_sem, d0, d1, d2, d3, d4, d5, d6, d7, d8, d9, d10, d11, d12, d13, tupE, evV]
end Go.Proofs.YtmeekcdoajbjdaaGreatDoor
