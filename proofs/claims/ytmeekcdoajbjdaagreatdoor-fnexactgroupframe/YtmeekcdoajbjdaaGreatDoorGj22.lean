/-
  What the face of a reading of an event answers, proved by walking it.
-/
import Derived.Test.YtmeekcdoajbjdaaGreatDoorGj08
import Derived.Test.YtmeekcdoajbjdaaGreatDoorGj21
import Derived.StillTailTactics
import Derived.Deep.RegionWith
namespace Go.Proofs.YtmeekcdoajbjdaaGreatDoor
open Go.RowKit
set_option linter.unusedVariables false

/-- What the reading of an event at a place answers: the event, the place behind it, a code. -/
def evR (l : List Int) (at_ : Int) : Ev × Int × Int :=
  if 65536 < l.length then (zEv, 0, 2) else if at_ < 0 ∨ (l.length : Int) < at_ then (zEv, 0, 5)
  else match evA l at_.toNat with | some (x, n) => (x, (n : Int), 0) | none => (zEv, 0, 3)
def tupE (x : Ev) (y : Int × Int) : Value := .tuple #[evV x, .int .i64 y.1, .int .i64 y.2]
theorem evR_long {l : List Int} {k : Int} (h : 65536 < l.length) : evR l k = (zEv, 0, 2) := by unfold evR; rw [if_pos h]
theorem evR_out {l : List Int} {k : Int} (h : ¬ 65536 < l.length) (h1 : k < 0 ∨ (l.length : Int) < k) : evR l k = (zEv, 0, 5) := by unfold evR; rw [if_neg h, if_pos h1]
theorem evR_some {l : List Int} {k : Nat} {x : Ev} {n : Nat} (h : ¬ 65536 < l.length) (h1 : k ≤ l.length) (hg : evA l k = some (x, n)) : evR l k = (x, (n : Int), 0) := by
  unfold evR; rw [if_neg h, if_neg (by omega), Int.toNat_natCast, hg]
theorem evR_none {l : List Int} {k : Nat} (h : ¬ 65536 < l.length) (h1 : k ≤ l.length) (hg : evA l k = none) : evR l k = (zEv, 0, 3) := by
  unfold evR; rw [if_neg h, if_neg (by omega), Int.toNat_natCast, hg]
theorem rdE_box (w : World) (v : Value) (at_ : Int) : Bx ((w.alloc (Obj.cells #[.int .i64 0, .int .i64 0, .int .i64 0, .int .i64 0, .int .i64 0, .int .i64 0, .int .i64 0, .float .f64 0, .string ⟨#[]⟩, .int .i64 0, .int .i64 0, .int .i64 0, .int .i64 0, .int .i64 0] 46)).alloc (Obj.cells #[v, .int .i64 at_] 96)) w.heap.size [.int .i64 0, .int .i64 0, .int .i64 0, .int .i64 0, .int .i64 0, .int .i64 0, .int .i64 0, .float .f64 0, .string ⟨#[]⟩, .int .i64 0, .int .i64 0, .int .i64 0, .int .i64 0, .int .i64 0] ∧ Rdr (w.heap.size + 1) ((w.alloc (Obj.cells #[.int .i64 0, .int .i64 0, .int .i64 0, .int .i64 0, .int .i64 0, .int .i64 0, .int .i64 0, .float .f64 0, .string ⟨#[]⟩, .int .i64 0, .int .i64 0, .int .i64 0, .int .i64 0, .int .i64 0] 46)).alloc (Obj.cells #[v, .int .i64 at_] 96)) v at_ ∧ Below w.heap.size w ((w.alloc (Obj.cells #[.int .i64 0, .int .i64 0, .int .i64 0, .int .i64 0, .int .i64 0, .int .i64 0, .int .i64 0, .float .f64 0, .string ⟨#[]⟩, .int .i64 0, .int .i64 0, .int .i64 0, .int .i64 0, .int .i64 0] 46)).alloc (Obj.cells #[v, .int .i64 at_] 96)) ∧ ((w.alloc (Obj.cells #[.int .i64 0, .int .i64 0, .int .i64 0, .int .i64 0, .int .i64 0, .int .i64 0, .int .i64 0, .float .f64 0, .string ⟨#[]⟩, .int .i64 0, .int .i64 0, .int .i64 0, .int .i64 0, .int .i64 0] 46)).alloc (Obj.cells #[v, .int .i64 at_] 96)).heap.size = w.heap.size + 2 := by
  have hs : (w.alloc (Obj.cells #[.int .i64 0, .int .i64 0, .int .i64 0, .int .i64 0, .int .i64 0, .int .i64 0, .int .i64 0, .float .f64 0, .string ⟨#[]⟩, .int .i64 0, .int .i64 0, .int .i64 0, .int .i64 0, .int .i64 0] 46)).heap.size = w.heap.size + 1 := by simp
  refine ⟨bx_below (bx_made w [.int .i64 0, .int .i64 0, .int .i64 0, .int .i64 0, .int .i64 0, .int .i64 0, .int .i64 0, .float .f64 0, .string ⟨#[]⟩, .int .i64 0, .int .i64 0, .int .i64 0, .int .i64 0, .int .i64 0] 46) ((Below.refl (w.heap.size + 1) _).alloc (by simp) _) (by omega), ?_, ((Below.refl _ w).alloc (Nat.le_refl _) _).alloc (by simp) _, by simp⟩
  have h := rdr_new (w.alloc (Obj.cells #[.int .i64 0, .int .i64 0, .int .i64 0, .int .i64 0, .int .i64 0, .int .i64 0, .int .i64 0, .float .f64 0, .string ⟨#[]⟩, .int .i64 0, .int .i64 0, .int .i64 0, .int .i64 0, .int .i64 0] 46)) v at_
  rwa [hs] at h
set_option maxRecDepth 100000 in
set_option maxHeartbeats 3200000 in
theorem readE_fine (v : Value) (len : Nat) (a : Option Addr) (cap : Nat) (hv : v = .slice a len cap) (at_ : Int) (x : Ev) (next : Int) (w : World)
    (htry : ∀ w0, w0 = ((w.alloc (Obj.cells #[.int .i64 0, .int .i64 0, .int .i64 0, .int .i64 0, .int .i64 0, .int .i64 0, .int .i64 0, .float .f64 0, .string ⟨#[]⟩, .int .i64 0, .int .i64 0, .int .i64 0, .int .i64 0, .int .i64 0] 46)).alloc (Obj.cells #[v, .int .i64 at_] 96)) → Calls Tryz.prog 82 #[.pointer (some ⟨w.heap.size + 1, 0, none⟩), .func (.func 63) #[] #[]] w0 fun e w' => e = .returned (.tuple #[evV x, .nilIface]) ∧ Rdr (w.heap.size + 1) w' v next ∧ w0.grownBy w' (some (w.heap.size + 1))) :
    Calls Tryz.prog 62 #[v, .int .i64 at_, .func (.func 63) #[] #[]] w fun e w' => e = .returned (tupE x (next, 0)) ∧ Below w.heap.size w w' := by
  have hsf := sfl
  obtain ⟨hX, hR, hB, hZ⟩ := rdE_box w v at_
  have HT := hide (htry _ rfl)
  subst hv
  have HX := hide hX
  have HB := hide hB
  have HZ := hide hZ
  clear htry hX hR hB hZ
  obtain ⟨kind, ⟨ck, cs, ct, cl, cq, ci, cp, cg⟩, id, other, qty, price, reason⟩ := x
  go_enter Tryz.func62, Tryz.ntmps62
  go_wp2_with fail
  generalize ((w.alloc (Obj.cells #[.int .i64 0, .int .i64 0, .int .i64 0, .int .i64 0, .int .i64 0, .int .i64 0, .int .i64 0, .float .f64 0, .string ⟨#[]⟩, .int .i64 0, .int .i64 0, .int .i64 0, .int .i64 0, .int .i64 0] 46)).alloc (Obj.cells #[.slice a len cap, .int .i64 at_] 96)) = W0 at HT HX HB HZ ⊢
  refine (unhide HT).mono ?_
  rintro e W1 ⟨rfl, hr, hg⟩
  have hz := unhide HZ
  have HB1 := hide ((unhide HB).trans (gr_below hg (show w.heap.size ≤ w.heap.size + 1 by omega) (by omega)))
  have hX1 := bx_blk (unhide HX) (hg.block w.heap.size (by omega) (by simp))
  have hz1 : w.heap.size + 2 ≤ W1.heap.size := by have := hg.size; omega
  have hba : Below W1.heap.size W1 (W1.alloc (Obj.cells #[.int .i64 kind, .int .i64 ck, .int .i64 cs, .int .i64 ct, .int .i64 cl, .int .i64 cq, .int .i64 ci, .float .f64 cp, .string cg, .int .i64 id, .int .i64 other, .int .i64 qty, .int .i64 price, .int .i64 reason] 46)) := (Below.refl _ _).alloc (Nat.le_refl _) _
  have HXE : Hid (Bx (W1.alloc (Obj.cells #[.int .i64 kind, .int .i64 ck, .int .i64 cs, .int .i64 ct, .int .i64 cl, .int .i64 cq, .int .i64 ci, .float .f64 cp, .string cg, .int .i64 id, .int .i64 other, .int .i64 qty, .int .i64 price, .int .i64 reason] 46)) W1.heap.size [.int .i64 kind, .int .i64 ck, .int .i64 cs, .int .i64 ct, .int .i64 cl, .int .i64 cq, .int .i64 ci, .float .f64 cp, .string cg, .int .i64 id, .int .i64 other, .int .i64 qty, .int .i64 price, .int .i64 reason]) := bx_made W1 [.int .i64 kind, .int .i64 ck, .int .i64 cs, .int .i64 ct, .int .i64 cl, .int .i64 cq, .int .i64 ci, .float .f64 cp, .string cg, .int .i64 id, .int .i64 other, .int .i64 qty, .int .i64 price, .int .i64 reason] 46
  have HX2 := hide (bx_below hX1 hba (by omega))
  have hr2 := rdr_below hr hba (by omega)
  have HB2 := hide ((unhide HB1).trans (hba.mono (by omega)))
  unfold evV
  simp only
  clear hg HX HB HZ hz hX1 hba HB1 hr HT
  go_wp2_with fail
  generalize (W1.alloc (Obj.cells #[.int .i64 kind, .int .i64 ck, .int .i64 cs, .int .i64 ct, .int .i64 cl, .int .i64 cq, .int .i64 ci, .float .f64 cp, .string cg, .int .i64 id, .int .i64 other, .int .i64 qty, .int .i64 price, .int .i64 reason] 46)) = W2 at HXE HX2 hr2 HB2 ⊢
  obtain ⟨c1, c2, c3⟩ := hr2
  have x0 := bx_cell (unhide HXE) 0 rfl
  have x1 := bx_cell (unhide HXE) 1 rfl
  have x2 := bx_cell (unhide HXE) 2 rfl
  have x3 := bx_cell (unhide HXE) 3 rfl
  have x4 := bx_cell (unhide HXE) 4 rfl
  have x5 := bx_cell (unhide HXE) 5 rfl
  have x6 := bx_cell (unhide HXE) 6 rfl
  have x7 := bx_cell (unhide HXE) 7 rfl
  have x8 := bx_cell (unhide HXE) 8 rfl
  have x9 := bx_cell (unhide HXE) 9 rfl
  have x10 := bx_cell (unhide HXE) 10 rfl
  have x11 := bx_cell (unhide HXE) 11 rfl
  have x12 := bx_cell (unhide HXE) 12 rfl
  have x13 := bx_cell (unhide HXE) 13 rfl
  have z0 := bx_cell (unhide HX2) 0 rfl
  have fz0 := bx_free (unhide HX2) 0 (by decide)
  have z1 := bx_cell (unhide HX2) 1 rfl
  have fz1 := bx_free (unhide HX2) 1 (by decide)
  have z2 := bx_cell (unhide HX2) 2 rfl
  have fz2 := bx_free (unhide HX2) 2 (by decide)
  have z3 := bx_cell (unhide HX2) 3 rfl
  have fz3 := bx_free (unhide HX2) 3 (by decide)
  have z4 := bx_cell (unhide HX2) 4 rfl
  have fz4 := bx_free (unhide HX2) 4 (by decide)
  have z5 := bx_cell (unhide HX2) 5 rfl
  have fz5 := bx_free (unhide HX2) 5 (by decide)
  have z6 := bx_cell (unhide HX2) 6 rfl
  have fz6 := bx_free (unhide HX2) 6 (by decide)
  have z7 := bx_cell (unhide HX2) 7 rfl
  have fz7 := bx_free (unhide HX2) 7 (by decide)
  have z8 := bx_cell (unhide HX2) 8 rfl
  have fz8 := bx_free (unhide HX2) 8 (by decide)
  have z9 := bx_cell (unhide HX2) 9 rfl
  have fz9 := bx_free (unhide HX2) 9 (by decide)
  have z10 := bx_cell (unhide HX2) 10 rfl
  have fz10 := bx_free (unhide HX2) 10 (by decide)
  have z11 := bx_cell (unhide HX2) 11 rfl
  have fz11 := bx_free (unhide HX2) 11 (by decide)
  have z12 := bx_cell (unhide HX2) 12 rfl
  have fz12 := bx_free (unhide HX2) 12 (by decide)
  have z13 := bx_cell (unhide HX2) 13 rfl
  have fz13 := bx_free (unhide HX2) 13 (by decide)
  have HXF := hide (bx_setCells (us := [.int .i64 kind, .int .i64 ck, .int .i64 cs, .int .i64 ct, .int .i64 cl, .int .i64 cq, .int .i64 ci, .float .f64 cp, .string cg, .int .i64 id, .int .i64 other, .int .i64 qty, .int .i64 price, .int .i64 reason]) (unhide HX2) rfl)
  have HBF := hide (below_setCells w.heap.size (Nat.le_refl _) [.int .i64 kind, .int .i64 ck, .int .i64 cs, .int .i64 ct, .int .i64 cl, .int .i64 cq, .int .i64 ci, .float .f64 cp, .string cg, .int .i64 id, .int .i64 other, .int .i64 qty, .int .i64 price, .int .i64 reason] 0 W2 (unhide HB2))
  clear HXE HX2 HB2
  go_region_with (fail)
  all_goals try go_wp2_with fail
  all_goals
    rw [set14]
    generalize (W2.setCells w.heap.size 0 [.int .i64 kind, .int .i64 ck, .int .i64 cs, .int .i64 ct, .int .i64 cl, .int .i64 cq, .int .i64 ci, .float .f64 cp, .string cg, .int .i64 id, .int .i64 other, .int .i64 qty, .int .i64 price, .int .i64 reason]) = WF at HXF HBF ⊢
    have d0 := bx_cell (bx_drew (unhide HXF)) 0 rfl
    have d1 := bx_cell (bx_drew (unhide HXF)) 1 rfl
    have d2 := bx_cell (bx_drew (unhide HXF)) 2 rfl
    have d3 := bx_cell (bx_drew (unhide HXF)) 3 rfl
    have d4 := bx_cell (bx_drew (unhide HXF)) 4 rfl
    have d5 := bx_cell (bx_drew (unhide HXF)) 5 rfl
    have d6 := bx_cell (bx_drew (unhide HXF)) 6 rfl
    have d7 := bx_cell (bx_drew (unhide HXF)) 7 rfl
    have d8 := bx_cell (bx_drew (unhide HXF)) 8 rfl
    have d9 := bx_cell (bx_drew (unhide HXF)) 9 rfl
    have d10 := bx_cell (bx_drew (unhide HXF)) 10 rfl
    have d11 := bx_cell (bx_drew (unhide HXF)) 11 rfl
    have d12 := bx_cell (bx_drew (unhide HXF)) 12 rfl
    have d13 := bx_cell (bx_drew (unhide HXF)) 13 rfl
    refine bodyPost_ret (v := tupE ⟨kind, ⟨ck, cs, ct, cl, cq, ci, cp, cg⟩, id, other, qty, price, reason⟩ (next, 0)) ?_ rfl ⟨rfl, (unhide HBF).drew⟩
    simp [results, Tryz.f62, go_sem, d0, d1, d2, d3, d4, d5, d6, d7, d8, d9, d10, d11, d12, d13, tupE, evV]
end Go.Proofs.YtmeekcdoajbjdaaGreatDoor
namespace Go.Proofs.YtmeekcdoajbjdaaGreatDoor
open Go.RowKit
set_option linter.unusedVariables false

set_option maxRecDepth 100000 in
set_option maxHeartbeats 3200000 in
theorem readE_fault (v : Value) (len : Nat) (a : Option Addr) (cap : Nat) (hv : v = .slice a len cap) (at_ c : Int) (w : World) (hE : ErrT w)
    (htry : ∀ w0, w0 = ((w.alloc (Obj.cells #[.int .i64 0, .int .i64 0, .int .i64 0, .int .i64 0, .int .i64 0, .int .i64 0, .int .i64 0, .float .f64 0, .string ⟨#[]⟩, .int .i64 0, .int .i64 0, .int .i64 0, .int .i64 0, .int .i64 0] 46)).alloc (Obj.cells #[v, .int .i64 at_] 96)) → Calls Tryz.prog 82 #[.pointer (some ⟨w.heap.size + 1, 0, none⟩), .func (.func 63) #[] #[]] w0 fun e w' => (∃ p, e = .returned (.tuple #[evV zEv, faultV c p])) ∧ w0.grownBy w' (some (w.heap.size + 1))) :
    Calls Tryz.prog 62 #[v, .int .i64 at_, .func (.func 63) #[] #[]] w fun e w' => e = .returned (tupE zEv (0, c)) ∧ Below w.heap.size w w' := by
  have hsf := sfl
  obtain ⟨hX, hR, hB, hZ⟩ := rdE_box w v at_
  have HT := hide (htry _ rfl)
  subst hv
  have HX := hide hX
  have HB := hide hB
  have HZ := hide hZ
  have HE := hide hE
  clear htry hX hR hB hZ hE
  go_enter Tryz.func62, Tryz.ntmps62
  go_wp2_with fail
  generalize ((w.alloc (Obj.cells #[.int .i64 0, .int .i64 0, .int .i64 0, .int .i64 0, .int .i64 0, .int .i64 0, .int .i64 0, .float .f64 0, .string ⟨#[]⟩, .int .i64 0, .int .i64 0, .int .i64 0, .int .i64 0, .int .i64 0] 46)).alloc (Obj.cells #[.slice a len cap, .int .i64 at_] 96)) = W0 at HT HX HB HZ ⊢
  refine (unhide HT).mono ?_
  rintro e W1 ⟨⟨p, rfl⟩, hg⟩
  have hz := unhide HZ
  have hb1 := (unhide HB).trans (gr_below hg (show w.heap.size ≤ w.heap.size + 1 by omega) (by omega))
  have hX1 := bx_blk (unhide HX) (hg.block w.heap.size (by omega) (by simp))
  have hz1 : w.heap.size + 2 ≤ W1.heap.size := by have := hg.size; omega
  have hba : Below W1.heap.size W1 (W1.alloc (Obj.cells #[.int .i64 0, .int .i64 0, .int .i64 0, .int .i64 0, .int .i64 0, .int .i64 0, .int .i64 0, .float .f64 0, .string ⟨#[]⟩, .int .i64 0, .int .i64 0, .int .i64 0, .int .i64 0, .int .i64 0] 46)) := (Below.refl _ _).alloc (Nat.le_refl _) _
  have hz2 : (W1.alloc (Obj.cells #[.int .i64 0, .int .i64 0, .int .i64 0, .int .i64 0, .int .i64 0, .int .i64 0, .int .i64 0, .float .f64 0, .string ⟨#[]⟩, .int .i64 0, .int .i64 0, .int .i64 0, .int .i64 0, .int .i64 0] 46)).heap.size = W1.heap.size + 1 := by simp
  have hbb : Below (W1.heap.size + 1) (W1.alloc (Obj.cells #[.int .i64 0, .int .i64 0, .int .i64 0, .int .i64 0, .int .i64 0, .int .i64 0, .int .i64 0, .float .f64 0, .string ⟨#[]⟩, .int .i64 0, .int .i64 0, .int .i64 0, .int .i64 0, .int .i64 0] 46)) ((W1.alloc (Obj.cells #[.int .i64 0, .int .i64 0, .int .i64 0, .int .i64 0, .int .i64 0, .int .i64 0, .int .i64 0, .float .f64 0, .string ⟨#[]⟩, .int .i64 0, .int .i64 0, .int .i64 0, .int .i64 0, .int .i64 0] 46)).alloc (Obj.cells #[.int .i64 0, .int .i64 0, .int .i64 0, .int .i64 0, .int .i64 0, .int .i64 0, .int .i64 0, .float .f64 0, .string ⟨#[]⟩, .int .i64 0, .int .i64 0, .int .i64 0, .int .i64 0, .int .i64 0] 46)) := (Below.refl _ _).alloc (by omega) _
  have HXN : Hid (Bx ((W1.alloc (Obj.cells #[.int .i64 0, .int .i64 0, .int .i64 0, .int .i64 0, .int .i64 0, .int .i64 0, .int .i64 0, .float .f64 0, .string ⟨#[]⟩, .int .i64 0, .int .i64 0, .int .i64 0, .int .i64 0, .int .i64 0] 46)).alloc (Obj.cells #[.int .i64 0, .int .i64 0, .int .i64 0, .int .i64 0, .int .i64 0, .int .i64 0, .int .i64 0, .float .f64 0, .string ⟨#[]⟩, .int .i64 0, .int .i64 0, .int .i64 0, .int .i64 0, .int .i64 0] 46)) (W1.heap.size + 1) [.int .i64 0, .int .i64 0, .int .i64 0, .int .i64 0, .int .i64 0, .int .i64 0, .int .i64 0, .float .f64 0, .string ⟨#[]⟩, .int .i64 0, .int .i64 0, .int .i64 0, .int .i64 0, .int .i64 0]) := by
    have h := bx_made (W1.alloc (Obj.cells #[.int .i64 0, .int .i64 0, .int .i64 0, .int .i64 0, .int .i64 0, .int .i64 0, .int .i64 0, .float .f64 0, .string ⟨#[]⟩, .int .i64 0, .int .i64 0, .int .i64 0, .int .i64 0, .int .i64 0] 46)) [.int .i64 0, .int .i64 0, .int .i64 0, .int .i64 0, .int .i64 0, .int .i64 0, .int .i64 0, .float .f64 0, .string ⟨#[]⟩, .int .i64 0, .int .i64 0, .int .i64 0, .int .i64 0, .int .i64 0] 46
    rw [hz2] at h
    exact h
  have HX3 := hide (bx_below (bx_below hX1 hba (by omega)) hbb (by omega))
  have HB3 := hide ((hb1.trans (hba.mono (by omega))).trans (hbb.mono (by omega)))
  have HZ3 : Hid (((W1.alloc (Obj.cells #[.int .i64 0, .int .i64 0, .int .i64 0, .int .i64 0, .int .i64 0, .int .i64 0, .int .i64 0, .float .f64 0, .string ⟨#[]⟩, .int .i64 0, .int .i64 0, .int .i64 0, .int .i64 0, .int .i64 0] 46)).alloc (Obj.cells #[.int .i64 0, .int .i64 0, .int .i64 0, .int .i64 0, .int .i64 0, .int .i64 0, .int .i64 0, .float .f64 0, .string ⟨#[]⟩, .int .i64 0, .int .i64 0, .int .i64 0, .int .i64 0, .int .i64 0] 46)).heap.size = W1.heap.size + 2) := by show _ = _; simp
  have HE3 := hide (errT_below (unhide HE) (unhide HB3) (Nat.le_refl _))
  unfold evV zEv faultV
  simp only
  clear hg HX HB HZ hz hX1 hba hbb hb1 HT hz2
  go_wp2_with fail
  generalize ((W1.alloc (Obj.cells #[.int .i64 0, .int .i64 0, .int .i64 0, .int .i64 0, .int .i64 0, .int .i64 0, .int .i64 0, .float .f64 0, .string ⟨#[]⟩, .int .i64 0, .int .i64 0, .int .i64 0, .int .i64 0, .int .i64 0] 46)).alloc (Obj.cells #[.int .i64 0, .int .i64 0, .int .i64 0, .int .i64 0, .int .i64 0, .int .i64 0, .int .i64 0, .float .f64 0, .string ⟨#[]⟩, .int .i64 0, .int .i64 0, .int .i64 0, .int .i64 0, .int .i64 0] 46)) = W2 at HXN HX3 HB3 HZ3 HE3 ⊢
  have y0 := bx_cell (unhide HXN) 0 rfl
  have y1 := bx_cell (unhide HXN) 1 rfl
  have y2 := bx_cell (unhide HXN) 2 rfl
  have y3 := bx_cell (unhide HXN) 3 rfl
  have y4 := bx_cell (unhide HXN) 4 rfl
  have y5 := bx_cell (unhide HXN) 5 rfl
  have y6 := bx_cell (unhide HXN) 6 rfl
  have y7 := bx_cell (unhide HXN) 7 rfl
  have y8 := bx_cell (unhide HXN) 8 rfl
  have y9 := bx_cell (unhide HXN) 9 rfl
  have y10 := bx_cell (unhide HXN) 10 rfl
  have y11 := bx_cell (unhide HXN) 11 rfl
  have y12 := bx_cell (unhide HXN) 12 rfl
  have y13 := bx_cell (unhide HXN) 13 rfl
  have HCO : Hid (Calls Tryz.prog 83 #[.iface 109 (.agg #[.int .i64 c, .int .i64 p])] W2.drew fun e w3 => e = .returned (.int .i64 c) ∧ Bx w3 (W1.heap.size + 1) [.int .i64 0, .int .i64 0, .int .i64 0, .int .i64 0, .int .i64 0, .int .i64 0, .int .i64 0, .float .f64 0, .string ⟨#[]⟩, .int .i64 0, .int .i64 0, .int .i64 0, .int .i64 0, .int .i64 0] ∧ Bx w3 w.heap.size [.int .i64 0, .int .i64 0, .int .i64 0, .int .i64 0, .int .i64 0, .int .i64 0, .int .i64 0, .float .f64 0, .string ⟨#[]⟩, .int .i64 0, .int .i64 0, .int .i64 0, .int .i64 0, .int .i64 0] ∧ Below w.heap.size w w3) := by
    refine (codeOf_any c p W2.drew (unhide HE3)).mono ?_
    rintro e w3 ⟨rfl, hb3⟩
    have hzz : W2.drew.heap.size = W1.heap.size + 2 := unhide HZ3
    exact ⟨rfl, bx_below (bx_drew (unhide HXN)) hb3 (by omega), bx_below (bx_drew (unhide HX3)) hb3 (by omega), (unhide HB3).drew.trans (hb3.mono (unhide HB3).drew.size)⟩
  go_region_with (go_at_call 83; refine (unhide HCO).mono ?_; rintro e w3 ⟨rfl, hN, hQ, hQB⟩; have HQ := hide hQ; have HQB := hide hQB; have g0 := bx_cell (hN) 0 rfl; have g1 := bx_cell (hN) 1 rfl; have g2 := bx_cell (hN) 2 rfl; have g3 := bx_cell (hN) 3 rfl; have g4 := bx_cell (hN) 4 rfl; have g5 := bx_cell (hN) 5 rfl; have g6 := bx_cell (hN) 6 rfl; have g7 := bx_cell (hN) 7 rfl; have g8 := bx_cell (hN) 8 rfl; have g9 := bx_cell (hN) 9 rfl; have g10 := bx_cell (hN) 10 rfl; have g11 := bx_cell (hN) 11 rfl; have g12 := bx_cell (hN) 12 rfl; have g13 := bx_cell (hN) 13 rfl; have z0 := bx_cell (hQ) 0 rfl; have fz0 := bx_free (hQ) 0 (by decide); have z1 := bx_cell (hQ) 1 rfl; have fz1 := bx_free (hQ) 1 (by decide); have z2 := bx_cell (hQ) 2 rfl; have fz2 := bx_free (hQ) 2 (by decide); have z3 := bx_cell (hQ) 3 rfl; have fz3 := bx_free (hQ) 3 (by decide); have z4 := bx_cell (hQ) 4 rfl; have fz4 := bx_free (hQ) 4 (by decide); have z5 := bx_cell (hQ) 5 rfl; have fz5 := bx_free (hQ) 5 (by decide); have z6 := bx_cell (hQ) 6 rfl; have fz6 := bx_free (hQ) 6 (by decide); have z7 := bx_cell (hQ) 7 rfl; have fz7 := bx_free (hQ) 7 (by decide); have z8 := bx_cell (hQ) 8 rfl; have fz8 := bx_free (hQ) 8 (by decide); have z9 := bx_cell (hQ) 9 rfl; have fz9 := bx_free (hQ) 9 (by decide); have z10 := bx_cell (hQ) 10 rfl; have fz10 := bx_free (hQ) 10 (by decide); have z11 := bx_cell (hQ) 11 rfl; have fz11 := bx_free (hQ) 11 (by decide); have z12 := bx_cell (hQ) 12 rfl; have fz12 := bx_free (hQ) 12 (by decide); have z13 := bx_cell (hQ) 13 rfl; have fz13 := bx_free (hQ) 13 (by decide); clear hN hQ hQB)
  all_goals try go_wp2_with fail
  all_goals
    rw [set14]
    have HXF := hide (bx_setCells (us := [.int .i64 0, .int .i64 0, .int .i64 0, .int .i64 0, .int .i64 0, .int .i64 0, .int .i64 0, .float .f64 0, .string ⟨#[]⟩, .int .i64 0, .int .i64 0, .int .i64 0, .int .i64 0, .int .i64 0]) (unhide HQ) rfl)
    have HBF := hide (below_setCells w.heap.size (Nat.le_refl _) [.int .i64 0, .int .i64 0, .int .i64 0, .int .i64 0, .int .i64 0, .int .i64 0, .int .i64 0, .float .f64 0, .string ⟨#[]⟩, .int .i64 0, .int .i64 0, .int .i64 0, .int .i64 0, .int .i64 0] 0 w3 (unhide HQB))
    generalize (w3.setCells w.heap.size 0 [.int .i64 0, .int .i64 0, .int .i64 0, .int .i64 0, .int .i64 0, .int .i64 0, .int .i64 0, .float .f64 0, .string ⟨#[]⟩, .int .i64 0, .int .i64 0, .int .i64 0, .int .i64 0, .int .i64 0]) = WF at HXF HBF ⊢
    have d0 := bx_cell (unhide HXF) 0 rfl
    have d1 := bx_cell (unhide HXF) 1 rfl
    have d2 := bx_cell (unhide HXF) 2 rfl
    have d3 := bx_cell (unhide HXF) 3 rfl
    have d4 := bx_cell (unhide HXF) 4 rfl
    have d5 := bx_cell (unhide HXF) 5 rfl
    have d6 := bx_cell (unhide HXF) 6 rfl
    have d7 := bx_cell (unhide HXF) 7 rfl
    have d8 := bx_cell (unhide HXF) 8 rfl
    have d9 := bx_cell (unhide HXF) 9 rfl
    have d10 := bx_cell (unhide HXF) 10 rfl
    have d11 := bx_cell (unhide HXF) 11 rfl
    have d12 := bx_cell (unhide HXF) 12 rfl
    have d13 := bx_cell (unhide HXF) 13 rfl
    refine bodyPost_ret (v := tupE zEv (0, c)) ?_ rfl ⟨rfl, unhide HBF⟩
    simp [results, Tryz.f62, go_sem, d0, d1, d2, d3, d4, d5, d6, d7, d8, d9, d10, d11, d12, d13, tupE, evV, zEv]
end Go.Proofs.YtmeekcdoajbjdaaGreatDoor
