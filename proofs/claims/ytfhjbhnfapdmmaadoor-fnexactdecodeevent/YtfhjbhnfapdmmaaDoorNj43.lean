/-
  The decoding of an event at a place, by the model: proved by walking the function.
-/
import Derived.Test.YtfhjbhnfapdmmaaDoorNj41
import Derived.Test.YtfhjbhnfapdmmaaDoorNj42
import Derived.Deep.RegionWith
namespace Go.Proofs.YtfhjbhnfapdmmaaDoor
open Go.RowKit
set_option linter.unusedVariables false

set_option maxRecDepth 100000 in
set_option maxHeartbeats 3200000 in
theorem specDec_any (v : Value) (l : List Int) (at_ : Int) (w : World) (hrd : Rd w v l) (hcap : CapOk v) (hb : Bts l) :
    Calls Tryd.prog 9 #[v, .int .i64 at_] w fun e w' => e = .returned (tupE (evR l at_).1 (evR l at_).2) ∧ Below w.heap.size w w' := by
  have hsf := sfl
  have hb0 : Below w.heap.size w (w.alloc (Obj.cells #[.int .i64 0, .int .i64 0, .int .i64 0, .int .i64 0, .int .i64 0, .int .i64 0, .int .i64 0, .float .f64 0, .string ⟨#[]⟩, .int .i64 0, .int .i64 0, .int .i64 0, .int .i64 0, .int .i64 0] 31)) := (Below.refl _ _).alloc (Nat.le_refl _) _
  have HX : Hid (Bx (w.alloc (Obj.cells #[.int .i64 0, .int .i64 0, .int .i64 0, .int .i64 0, .int .i64 0, .int .i64 0, .int .i64 0, .float .f64 0, .string ⟨#[]⟩, .int .i64 0, .int .i64 0, .int .i64 0, .int .i64 0, .int .i64 0] 31)) w.heap.size [.int .i64 0, .int .i64 0, .int .i64 0, .int .i64 0, .int .i64 0, .int .i64 0, .int .i64 0, .float .f64 0, .string ⟨#[]⟩, .int .i64 0, .int .i64 0, .int .i64 0, .int .i64 0, .int .i64 0]) := bx_made w [.int .i64 0, .int .i64 0, .int .i64 0, .int .i64 0, .int .i64 0, .int .i64 0, .int .i64 0, .float .f64 0, .string ⟨#[]⟩, .int .i64 0, .int .i64 0, .int .i64 0, .int .i64 0, .int .i64 0] 31
  have HBW := hide hb0
  have HA := hide (l01At_any v l at_ _ (rd_below hrd hb0 (Nat.le_refl _)))
  have HDC := hide (fun (k : Nat) hl hk => decode_any v l k _ (rd_below hrd hb0 (Nat.le_refl _)) hcap hb hl hk)
  obtain ⟨va, vc, hv⟩ := rd_len hrd
  clear hb0 hrd hcap hb
  subst hv
  by_cases h1 : 65536 < l.length
  · skip
    have HF := hide (evR_long (k := at_) h1)
    have HP := hide (show placeC l at_ = 2 from if_pos h1)
    rw [unhide HP] at HA
    rw [unhide HF]
    go_enter Tryd.func9, Tryd.ntmps9
    refine wp_seq_k fun K hK => ?_
    have HK1 := hide hK
    clear hK
    go_wp2_with fail
    refine unhide HK1 _ _ ?_
    clear HK1
    generalize (w.alloc (Obj.cells #[.int .i64 0, .int .i64 0, .int .i64 0, .int .i64 0, .int .i64 0, .int .i64 0, .int .i64 0, .float .f64 0, .string ⟨#[]⟩, .int .i64 0, .int .i64 0, .int .i64 0, .int .i64 0, .int .i64 0] 31)) = W1 at HX HBW HA HDC ⊢
    have z0 := bx_cell (unhide HX) 0 rfl
    have fz0 := bx_free (unhide HX) 0 (by simp)
    have z1 := bx_cell (unhide HX) 1 rfl
    have fz1 := bx_free (unhide HX) 1 (by simp)
    have z2 := bx_cell (unhide HX) 2 rfl
    have fz2 := bx_free (unhide HX) 2 (by simp)
    have z3 := bx_cell (unhide HX) 3 rfl
    have fz3 := bx_free (unhide HX) 3 (by simp)
    have z4 := bx_cell (unhide HX) 4 rfl
    have fz4 := bx_free (unhide HX) 4 (by simp)
    have z5 := bx_cell (unhide HX) 5 rfl
    have fz5 := bx_free (unhide HX) 5 (by simp)
    have z6 := bx_cell (unhide HX) 6 rfl
    have fz6 := bx_free (unhide HX) 6 (by simp)
    have z7 := bx_cell (unhide HX) 7 rfl
    have fz7 := bx_free (unhide HX) 7 (by simp)
    have z8 := bx_cell (unhide HX) 8 rfl
    have fz8 := bx_free (unhide HX) 8 (by simp)
    have z9 := bx_cell (unhide HX) 9 rfl
    have fz9 := bx_free (unhide HX) 9 (by simp)
    have z10 := bx_cell (unhide HX) 10 rfl
    have fz10 := bx_free (unhide HX) 10 (by simp)
    have z11 := bx_cell (unhide HX) 11 rfl
    have fz11 := bx_free (unhide HX) 11 (by simp)
    have z12 := bx_cell (unhide HX) 12 rfl
    have fz12 := bx_free (unhide HX) 12 (by simp)
    have z13 := bx_cell (unhide HX) 13 rfl
    have fz13 := bx_free (unhide HX) 13 (by simp)
    go_wp2_with fail
    refine (unhide HA).mono ?_
    rintro e w1 ⟨rfl, rfl⟩
    go_wp2_with fail
    rw [set14]
    have HXF := hide (bx_setCells (us := [.int .i64 0, .int .i64 0, .int .i64 0, .int .i64 0, .int .i64 0, .int .i64 0, .int .i64 0, .float .f64 0, .string ⟨#[]⟩, .int .i64 0, .int .i64 0, .int .i64 0, .int .i64 0, .int .i64 0]) (unhide HX) rfl)
    have HBF := hide (below_setCells w.heap.size (Nat.le_refl _) [.int .i64 0, .int .i64 0, .int .i64 0, .int .i64 0, .int .i64 0, .int .i64 0, .int .i64 0, .float .f64 0, .string ⟨#[]⟩, .int .i64 0, .int .i64 0, .int .i64 0, .int .i64 0, .int .i64 0] 0 _ (unhide HBW))
    generalize World.setCells _ w.heap.size 0 [.int .i64 0, .int .i64 0, .int .i64 0, .int .i64 0, .int .i64 0, .int .i64 0, .int .i64 0, .float .f64 0, .string ⟨#[]⟩, .int .i64 0, .int .i64 0, .int .i64 0, .int .i64 0, .int .i64 0] = WF at HXF HBF ⊢
    have d0 := bx_cell (unhide HXF) 0 rfl
    have d1 := bx_cell (unhide HXF) 1 rfl
    have d2 := bx_cell (unhide HXF) 2 rfl
    have d3 := bx_cell (unhide HXF) 3 rfl
    have d4 := bx_cell (unhide HXF) 4 rfl
    have d5 := bx_cell (unhide HXF) 5 rfl
    have d6 := bx_cell (unhide HXF) 6 rfl
    have d7 := bx_cell (unhide HXF) 7 rfl
    have d8 := bx_cell (unhide HXF) 8 rfl
    have d9 := bx_cell (unhide HXF) 9 rfl
    have d10 := bx_cell (unhide HXF) 10 rfl
    have d11 := bx_cell (unhide HXF) 11 rfl
    have d12 := bx_cell (unhide HXF) 12 rfl
    have d13 := bx_cell (unhide HXF) 13 rfl
    refine bodyPost_ret (v := tupE zEv (0, 2)) ?_ rfl ⟨rfl, unhide HBF⟩
    simp [results, Tryd.f9, go_sem, d0, d1, d2, d3, d4, d5, d6, d7, d8, d9, d10, d11, d12, d13, evV, zEv, tupE]
  by_cases h2 : at_ < 0 ∨ (l.length : Int) < at_
  · skip
    have HF := hide (evR_out h1 h2)
    have HP := hide (show placeC l at_ = 5 by unfold placeC; rw [if_neg h1, if_pos h2])
    rw [unhide HP] at HA
    rw [unhide HF]
    go_enter Tryd.func9, Tryd.ntmps9
    refine wp_seq_k fun K hK => ?_
    have HK1 := hide hK
    clear hK
    go_wp2_with fail
    refine unhide HK1 _ _ ?_
    clear HK1
    generalize (w.alloc (Obj.cells #[.int .i64 0, .int .i64 0, .int .i64 0, .int .i64 0, .int .i64 0, .int .i64 0, .int .i64 0, .float .f64 0, .string ⟨#[]⟩, .int .i64 0, .int .i64 0, .int .i64 0, .int .i64 0, .int .i64 0] 31)) = W1 at HX HBW HA HDC ⊢
    have z0 := bx_cell (unhide HX) 0 rfl
    have fz0 := bx_free (unhide HX) 0 (by simp)
    have z1 := bx_cell (unhide HX) 1 rfl
    have fz1 := bx_free (unhide HX) 1 (by simp)
    have z2 := bx_cell (unhide HX) 2 rfl
    have fz2 := bx_free (unhide HX) 2 (by simp)
    have z3 := bx_cell (unhide HX) 3 rfl
    have fz3 := bx_free (unhide HX) 3 (by simp)
    have z4 := bx_cell (unhide HX) 4 rfl
    have fz4 := bx_free (unhide HX) 4 (by simp)
    have z5 := bx_cell (unhide HX) 5 rfl
    have fz5 := bx_free (unhide HX) 5 (by simp)
    have z6 := bx_cell (unhide HX) 6 rfl
    have fz6 := bx_free (unhide HX) 6 (by simp)
    have z7 := bx_cell (unhide HX) 7 rfl
    have fz7 := bx_free (unhide HX) 7 (by simp)
    have z8 := bx_cell (unhide HX) 8 rfl
    have fz8 := bx_free (unhide HX) 8 (by simp)
    have z9 := bx_cell (unhide HX) 9 rfl
    have fz9 := bx_free (unhide HX) 9 (by simp)
    have z10 := bx_cell (unhide HX) 10 rfl
    have fz10 := bx_free (unhide HX) 10 (by simp)
    have z11 := bx_cell (unhide HX) 11 rfl
    have fz11 := bx_free (unhide HX) 11 (by simp)
    have z12 := bx_cell (unhide HX) 12 rfl
    have fz12 := bx_free (unhide HX) 12 (by simp)
    have z13 := bx_cell (unhide HX) 13 rfl
    have fz13 := bx_free (unhide HX) 13 (by simp)
    go_wp2_with fail
    refine (unhide HA).mono ?_
    rintro e w1 ⟨rfl, rfl⟩
    go_wp2_with fail
    rw [set14]
    have HXF := hide (bx_setCells (us := [.int .i64 0, .int .i64 0, .int .i64 0, .int .i64 0, .int .i64 0, .int .i64 0, .int .i64 0, .float .f64 0, .string ⟨#[]⟩, .int .i64 0, .int .i64 0, .int .i64 0, .int .i64 0, .int .i64 0]) (unhide HX) rfl)
    have HBF := hide (below_setCells w.heap.size (Nat.le_refl _) [.int .i64 0, .int .i64 0, .int .i64 0, .int .i64 0, .int .i64 0, .int .i64 0, .int .i64 0, .float .f64 0, .string ⟨#[]⟩, .int .i64 0, .int .i64 0, .int .i64 0, .int .i64 0, .int .i64 0] 0 _ (unhide HBW))
    generalize World.setCells _ w.heap.size 0 [.int .i64 0, .int .i64 0, .int .i64 0, .int .i64 0, .int .i64 0, .int .i64 0, .int .i64 0, .float .f64 0, .string ⟨#[]⟩, .int .i64 0, .int .i64 0, .int .i64 0, .int .i64 0, .int .i64 0] = WF at HXF HBF ⊢
    have d0 := bx_cell (unhide HXF) 0 rfl
    have d1 := bx_cell (unhide HXF) 1 rfl
    have d2 := bx_cell (unhide HXF) 2 rfl
    have d3 := bx_cell (unhide HXF) 3 rfl
    have d4 := bx_cell (unhide HXF) 4 rfl
    have d5 := bx_cell (unhide HXF) 5 rfl
    have d6 := bx_cell (unhide HXF) 6 rfl
    have d7 := bx_cell (unhide HXF) 7 rfl
    have d8 := bx_cell (unhide HXF) 8 rfl
    have d9 := bx_cell (unhide HXF) 9 rfl
    have d10 := bx_cell (unhide HXF) 10 rfl
    have d11 := bx_cell (unhide HXF) 11 rfl
    have d12 := bx_cell (unhide HXF) 12 rfl
    have d13 := bx_cell (unhide HXF) 13 rfl
    refine bodyPost_ret (v := tupE zEv (0, 5)) ?_ rfl ⟨rfl, unhide HBF⟩
    simp [results, Tryd.f9, go_sem, d0, d1, d2, d3, d4, d5, d6, d7, d8, d9, d10, d11, d12, d13, evV, zEv, tupE]
  obtain ⟨k, rfl⟩ := Int.eq_ofNat_of_zero_le (show 0 ≤ at_ by omega)
  have HP := hide (show placeC l (k : Int) = 0 by unfold placeC; rw [if_neg h1, if_neg h2])
  rw [unhide HP] at HA
  have HDD := hide (unhide HDC k (by omega) (by omega))
  clear HDC
  go_enter Tryd.func9, Tryd.ntmps9
  refine wp_seq_k fun K hK => ?_
  have HK1 := hide hK
  clear hK
  go_wp2_with fail
  refine unhide HK1 _ _ ?_
  clear HK1
  have HZ : Hid ((w.alloc (Obj.cells #[.int .i64 0, .int .i64 0, .int .i64 0, .int .i64 0, .int .i64 0, .int .i64 0, .int .i64 0, .float .f64 0, .string ⟨#[]⟩, .int .i64 0, .int .i64 0, .int .i64 0, .int .i64 0, .int .i64 0] 31)).heap.size = w.heap.size + 1) := by show _ = _; simp
  generalize (w.alloc (Obj.cells #[.int .i64 0, .int .i64 0, .int .i64 0, .int .i64 0, .int .i64 0, .int .i64 0, .int .i64 0, .float .f64 0, .string ⟨#[]⟩, .int .i64 0, .int .i64 0, .int .i64 0, .int .i64 0, .int .i64 0] 31)) = W1 at HX HBW HA HDD HZ ⊢
  cases hg : evA l k with
  | none =>
    have HF := hide (evR_none h1 (by omega) hg)
    rw [hg] at HDD
    rw [unhide HF]
    clear hg h1 h2
    refine wp_seq_k fun K hK => ?_
    have HK1 := hide hK
    clear hK
    go_wp2_with fail
    refine (unhide HA).mono ?_
    rintro e w1 ⟨rfl, rfl⟩
    go_wp2_with fail
    refine unhide HK1 _ _ ?_
    clear HK1
    refine wp_seq_k fun K hK => ?_
    have HK1 := hide hK
    clear hK
    go_wp2_with fail
    refine (unhide HDD).mono ?_
    rintro e W2 ⟨rfl, hb2⟩
    have HX2 := hide (bx_below (unhide HX) hb2 (by rw [unhide HZ]; omega))
    have HB2 := hide ((unhide HBW).trans (hb2.mono (unhide HBW).size))
    have hz2 : w.heap.size < W2.heap.size := by have := hb2.size; rw [unhide HZ] at this; omega
    have hb3 : Below W2.heap.size W2 (W2.alloc (Obj.cells #[.int .i64 0, .int .i64 0, .int .i64 0, .int .i64 0, .int .i64 0, .int .i64 0, .int .i64 0, .float .f64 0, .string ⟨#[]⟩, .int .i64 0, .int .i64 0, .int .i64 0, .int .i64 0, .int .i64 0] 31)) := (Below.refl _ _).alloc (Nat.le_refl _) _
    have HX3 := hide (bx_below (unhide HX2) hb3 hz2)
    have HB3 := hide ((unhide HB2).trans (hb3.mono (unhide HB2).size))
    unfold evT evV zEv
    simp only
    clear hb2 hb3 HX2 HB2
    go_wp2_with fail
    refine unhide HK1 _ _ ?_
    clear HK1
    generalize (W2.alloc (Obj.cells #[.int .i64 0, .int .i64 0, .int .i64 0, .int .i64 0, .int .i64 0, .int .i64 0, .int .i64 0, .float .f64 0, .string ⟨#[]⟩, .int .i64 0, .int .i64 0, .int .i64 0, .int .i64 0, .int .i64 0] 31)) = W3 at HX3 HB3 ⊢
    have y0 := bx_cell (unhide HX3) 0 rfl
    have fy0 := bx_free (unhide HX3) 0 (by simp)
    have y1 := bx_cell (unhide HX3) 1 rfl
    have fy1 := bx_free (unhide HX3) 1 (by simp)
    have y2 := bx_cell (unhide HX3) 2 rfl
    have fy2 := bx_free (unhide HX3) 2 (by simp)
    have y3 := bx_cell (unhide HX3) 3 rfl
    have fy3 := bx_free (unhide HX3) 3 (by simp)
    have y4 := bx_cell (unhide HX3) 4 rfl
    have fy4 := bx_free (unhide HX3) 4 (by simp)
    have y5 := bx_cell (unhide HX3) 5 rfl
    have fy5 := bx_free (unhide HX3) 5 (by simp)
    have y6 := bx_cell (unhide HX3) 6 rfl
    have fy6 := bx_free (unhide HX3) 6 (by simp)
    have y7 := bx_cell (unhide HX3) 7 rfl
    have fy7 := bx_free (unhide HX3) 7 (by simp)
    have y8 := bx_cell (unhide HX3) 8 rfl
    have fy8 := bx_free (unhide HX3) 8 (by simp)
    have y9 := bx_cell (unhide HX3) 9 rfl
    have fy9 := bx_free (unhide HX3) 9 (by simp)
    have y10 := bx_cell (unhide HX3) 10 rfl
    have fy10 := bx_free (unhide HX3) 10 (by simp)
    have y11 := bx_cell (unhide HX3) 11 rfl
    have fy11 := bx_free (unhide HX3) 11 (by simp)
    have y12 := bx_cell (unhide HX3) 12 rfl
    have fy12 := bx_free (unhide HX3) 12 (by simp)
    have y13 := bx_cell (unhide HX3) 13 rfl
    have fy13 := bx_free (unhide HX3) 13 (by simp)
    go_wp2_with fail
    rw [set14]
    have HXF := hide (bx_setCells (us := [.int .i64 0, .int .i64 0, .int .i64 0, .int .i64 0, .int .i64 0, .int .i64 0, .int .i64 0, .float .f64 0, .string ⟨#[]⟩, .int .i64 0, .int .i64 0, .int .i64 0, .int .i64 0, .int .i64 0]) (unhide HX3) rfl)
    have HBF := hide (below_setCells w.heap.size (Nat.le_refl _) [.int .i64 0, .int .i64 0, .int .i64 0, .int .i64 0, .int .i64 0, .int .i64 0, .int .i64 0, .float .f64 0, .string ⟨#[]⟩, .int .i64 0, .int .i64 0, .int .i64 0, .int .i64 0, .int .i64 0] 0 _ (unhide HB3))
    generalize World.setCells _ w.heap.size 0 [.int .i64 0, .int .i64 0, .int .i64 0, .int .i64 0, .int .i64 0, .int .i64 0, .int .i64 0, .float .f64 0, .string ⟨#[]⟩, .int .i64 0, .int .i64 0, .int .i64 0, .int .i64 0, .int .i64 0] = WF at HXF HBF ⊢
    have d0 := bx_cell (unhide HXF) 0 rfl
    have d1 := bx_cell (unhide HXF) 1 rfl
    have d2 := bx_cell (unhide HXF) 2 rfl
    have d3 := bx_cell (unhide HXF) 3 rfl
    have d4 := bx_cell (unhide HXF) 4 rfl
    have d5 := bx_cell (unhide HXF) 5 rfl
    have d6 := bx_cell (unhide HXF) 6 rfl
    have d7 := bx_cell (unhide HXF) 7 rfl
    have d8 := bx_cell (unhide HXF) 8 rfl
    have d9 := bx_cell (unhide HXF) 9 rfl
    have d10 := bx_cell (unhide HXF) 10 rfl
    have d11 := bx_cell (unhide HXF) 11 rfl
    have d12 := bx_cell (unhide HXF) 12 rfl
    have d13 := bx_cell (unhide HXF) 13 rfl
    refine bodyPost_ret (v := tupE zEv (0, 3)) ?_ rfl ⟨rfl, unhide HBF⟩
    simp [results, Tryd.f9, go_sem, d0, d1, d2, d3, d4, d5, d6, d7, d8, d9, d10, d11, d12, d13, evV, zEv, tupE]
  | some x =>
    obtain ⟨x, n⟩ := x
    have HF := hide (evR_some h1 (by omega) hg)
    rw [hg] at HDD
    rw [unhide HF]
    clear hg h1 h2
    obtain ⟨kind, ⟨ck, cs, ct, cl, cq, ci, cp, cg⟩, id, other, qty, price, reason⟩ := x
    refine wp_seq_k fun K hK => ?_
    have HK1 := hide hK
    clear hK
    go_wp2_with fail
    refine (unhide HA).mono ?_
    rintro e w1 ⟨rfl, rfl⟩
    go_wp2_with fail
    refine unhide HK1 _ _ ?_
    clear HK1
    refine wp_seq_k fun K hK => ?_
    have HK1 := hide hK
    clear hK
    go_wp2_with fail
    refine (unhide HDD).mono ?_
    rintro e W2 ⟨rfl, hb2⟩
    have HX2 := hide (bx_below (unhide HX) hb2 (by rw [unhide HZ]; omega))
    have HB2 := hide ((unhide HBW).trans (hb2.mono (unhide HBW).size))
    have hz2 : w.heap.size < W2.heap.size := by have := hb2.size; rw [unhide HZ] at this; omega
    have hb3 : Below W2.heap.size W2 (W2.alloc (Obj.cells #[.int .i64 kind, .int .i64 ck, .int .i64 cs, .int .i64 ct, .int .i64 cl, .int .i64 cq, .int .i64 ci, .float .f64 cp, .string cg, .int .i64 id, .int .i64 other, .int .i64 qty, .int .i64 price, .int .i64 reason] 31)) := (Below.refl _ _).alloc (Nat.le_refl _) _
    have HE3 : Hid (Bx (W2.alloc (Obj.cells #[.int .i64 kind, .int .i64 ck, .int .i64 cs, .int .i64 ct, .int .i64 cl, .int .i64 cq, .int .i64 ci, .float .f64 cp, .string cg, .int .i64 id, .int .i64 other, .int .i64 qty, .int .i64 price, .int .i64 reason] 31)) W2.heap.size [.int .i64 kind, .int .i64 ck, .int .i64 cs, .int .i64 ct, .int .i64 cl, .int .i64 cq, .int .i64 ci, .float .f64 cp, .string cg, .int .i64 id, .int .i64 other, .int .i64 qty, .int .i64 price, .int .i64 reason]) := bx_made W2 [.int .i64 kind, .int .i64 ck, .int .i64 cs, .int .i64 ct, .int .i64 cl, .int .i64 cq, .int .i64 ci, .float .f64 cp, .string cg, .int .i64 id, .int .i64 other, .int .i64 qty, .int .i64 price, .int .i64 reason] 31
    have HX3 := hide (bx_below (unhide HX2) hb3 hz2)
    have HB3 := hide ((unhide HB2).trans (hb3.mono (unhide HB2).size))
    unfold evT evV
    simp only
    clear hb2 hb3 HX2 HB2
    go_wp2_with fail
    refine unhide HK1 _ _ ?_
    clear HK1
    generalize (W2.alloc (Obj.cells #[.int .i64 kind, .int .i64 ck, .int .i64 cs, .int .i64 ct, .int .i64 cl, .int .i64 cq, .int .i64 ci, .float .f64 cp, .string cg, .int .i64 id, .int .i64 other, .int .i64 qty, .int .i64 price, .int .i64 reason] 31)) = W3 at HX3 HB3 HE3 ⊢
    have y0 := bx_cell (unhide HX3) 0 rfl
    have fy0 := bx_free (unhide HX3) 0 (by simp)
    have y1 := bx_cell (unhide HX3) 1 rfl
    have fy1 := bx_free (unhide HX3) 1 (by simp)
    have y2 := bx_cell (unhide HX3) 2 rfl
    have fy2 := bx_free (unhide HX3) 2 (by simp)
    have y3 := bx_cell (unhide HX3) 3 rfl
    have fy3 := bx_free (unhide HX3) 3 (by simp)
    have y4 := bx_cell (unhide HX3) 4 rfl
    have fy4 := bx_free (unhide HX3) 4 (by simp)
    have y5 := bx_cell (unhide HX3) 5 rfl
    have fy5 := bx_free (unhide HX3) 5 (by simp)
    have y6 := bx_cell (unhide HX3) 6 rfl
    have fy6 := bx_free (unhide HX3) 6 (by simp)
    have y7 := bx_cell (unhide HX3) 7 rfl
    have fy7 := bx_free (unhide HX3) 7 (by simp)
    have y8 := bx_cell (unhide HX3) 8 rfl
    have fy8 := bx_free (unhide HX3) 8 (by simp)
    have y9 := bx_cell (unhide HX3) 9 rfl
    have fy9 := bx_free (unhide HX3) 9 (by simp)
    have y10 := bx_cell (unhide HX3) 10 rfl
    have fy10 := bx_free (unhide HX3) 10 (by simp)
    have y11 := bx_cell (unhide HX3) 11 rfl
    have fy11 := bx_free (unhide HX3) 11 (by simp)
    have y12 := bx_cell (unhide HX3) 12 rfl
    have fy12 := bx_free (unhide HX3) 12 (by simp)
    have y13 := bx_cell (unhide HX3) 13 rfl
    have fy13 := bx_free (unhide HX3) 13 (by simp)
    have q0 := bx_cell (unhide HE3) 0 rfl
    have q1 := bx_cell (unhide HE3) 1 rfl
    have q2 := bx_cell (unhide HE3) 2 rfl
    have q3 := bx_cell (unhide HE3) 3 rfl
    have q4 := bx_cell (unhide HE3) 4 rfl
    have q5 := bx_cell (unhide HE3) 5 rfl
    have q6 := bx_cell (unhide HE3) 6 rfl
    have q7 := bx_cell (unhide HE3) 7 rfl
    have q8 := bx_cell (unhide HE3) 8 rfl
    have q9 := bx_cell (unhide HE3) 9 rfl
    have q10 := bx_cell (unhide HE3) 10 rfl
    have q11 := bx_cell (unhide HE3) 11 rfl
    have q12 := bx_cell (unhide HE3) 12 rfl
    have q13 := bx_cell (unhide HE3) 13 rfl
    go_wp2_with fail
    rw [set14]
    have HXF := hide (bx_setCells (us := [.int .i64 kind, .int .i64 ck, .int .i64 cs, .int .i64 ct, .int .i64 cl, .int .i64 cq, .int .i64 ci, .float .f64 cp, .string cg, .int .i64 id, .int .i64 other, .int .i64 qty, .int .i64 price, .int .i64 reason]) (unhide HX3) rfl)
    have HBF := hide (below_setCells w.heap.size (Nat.le_refl _) [.int .i64 kind, .int .i64 ck, .int .i64 cs, .int .i64 ct, .int .i64 cl, .int .i64 cq, .int .i64 ci, .float .f64 cp, .string cg, .int .i64 id, .int .i64 other, .int .i64 qty, .int .i64 price, .int .i64 reason] 0 _ (unhide HB3))
    generalize World.setCells _ w.heap.size 0 [.int .i64 kind, .int .i64 ck, .int .i64 cs, .int .i64 ct, .int .i64 cl, .int .i64 cq, .int .i64 ci, .float .f64 cp, .string cg, .int .i64 id, .int .i64 other, .int .i64 qty, .int .i64 price, .int .i64 reason] = WF at HXF HBF ⊢
    have d0 := bx_cell (unhide HXF) 0 rfl
    have d1 := bx_cell (unhide HXF) 1 rfl
    have d2 := bx_cell (unhide HXF) 2 rfl
    have d3 := bx_cell (unhide HXF) 3 rfl
    have d4 := bx_cell (unhide HXF) 4 rfl
    have d5 := bx_cell (unhide HXF) 5 rfl
    have d6 := bx_cell (unhide HXF) 6 rfl
    have d7 := bx_cell (unhide HXF) 7 rfl
    have d8 := bx_cell (unhide HXF) 8 rfl
    have d9 := bx_cell (unhide HXF) 9 rfl
    have d10 := bx_cell (unhide HXF) 10 rfl
    have d11 := bx_cell (unhide HXF) 11 rfl
    have d12 := bx_cell (unhide HXF) 12 rfl
    have d13 := bx_cell (unhide HXF) 13 rfl
    refine bodyPost_ret (v := tupE ⟨kind, ⟨ck, cs, ct, cl, cq, ci, cp, cg⟩, id, other, qty, price, reason⟩ (n, 0)) ?_ rfl ⟨rfl, unhide HBF⟩
    simp [results, Tryd.f9, go_sem, d0, d1, d2, d3, d4, d5, d6, d7, d8, d9, d10, d11, d12, d13, evV, tupE]
end Go.Proofs.YtfhjbhnfapdmmaaDoor
