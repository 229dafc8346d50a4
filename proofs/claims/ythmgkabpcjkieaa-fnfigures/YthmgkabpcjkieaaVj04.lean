/-
  Floats drawn out of the source, and what stands of them as prices: proved by walking the method.
-/
import Derived.Test.YthmgkabpcjkieaaVj03
namespace Go.Proofs.Ythmgkabpcjkieaa
open Go.RowKit Ieee
set_option linter.unusedVariables false

def prB (p : Nat) : Bool := !tkOk p || (decide (1 ≤ tk p) && decide (tk p ≤ 1000000))
theorem prW_of {p : Nat} (h : prB p = true) : PrW p := fun hk => by
  rw [prB, hk] at h
  simpa using h
theorem prW_nan {x : Nat} (h : nanB x = true) : PrW x := fun hk => by
  exfalso
  have h1 := (nan_iff x).1 h
  have e : FloatKind.f64.format.order x 0 = none := by
    show (double.read x).order (double.read 0) = none
    cases hx : double.read x with
    | nan s f => rfl
    | infinity s => rw [hx] at h1; simp [Datum.isNaN] at h1
    | number s m i => rw [hx] at h1; simp [Datum.isNaN] at h1
  rw [tkOk, e] at hk
  simp at hk
theorem nanOf_prW (W : World) : PrW (nanOf W) := by
  have h : nanOf W = (W.tape W.drawn (.nanBits .f64 0 0) % 2) * 2 ^ 63 + 0x7ff0000000000000 + 1 + (W.tape W.drawn (.nanBits .f64 0 0) / 2) % (2 ^ 52 - 1) := rfl
  rw [h]
  exact prW_nan (nan_drawn _)
theorem copysign_anyT (w : World) : Calls Try.prog 89 #[.float .f64 0, .float .f64 13830554455654793216] w fun e w' => ∃ y : Nat, e = .returned (.float .f64 y) ∧ PrW y ∧ w' = w := by
  have h1 := fbits
  have h2 := frombitsS
  go_enter Try.func89, Try.ntmps89
  go_wp2_with fail
  go_ret
  exact ⟨_, rfl, prW_of (by kernel_rfl), rfl⟩
theorem float_rowT (k n y : Nat) (w : World) (t : TypeId) (h : k < 15) (hn : PrW n) (hy : PrW y) :
    ∃ z : Nat, PrW z ∧ (w.alloc (.cells #[.float .f64 0, .float .f64 9223372036854775808, .float .f64 n, .float .f64 9218868437227405312, .float .f64 18442240474082181120, .float .f64 4598175219545276416, .float .f64 4636737291354636288, .float .f64 4636719699168591872,
      .float .f64 4687829947429945344, .float .f64 4687829956019879936, .float .f64 4591870180066957722, .float .f64 13830554455654793216, .float .f64 y, .float .f64 9094988921128908188, .float .f64 1] t)).cell? ⟨w.heap.size, k, none⟩ = some (.float .f64 z) := by
  rcases (show k = 0 ∨ k = 1 ∨ k = 2 ∨ k = 3 ∨ k = 4 ∨ k = 5 ∨ k = 6 ∨ k = 7 ∨ k = 8 ∨ k = 9 ∨ k = 10 ∨ k = 11 ∨ k = 12 ∨ k = 13 ∨ k = 14 by omega) with rfl | rfl | rfl | rfl | rfl | rfl | rfl | rfl | rfl | rfl | rfl | rfl | rfl | rfl | rfl
  all_goals first | exact ⟨_, hn, cell_of_row _ _ _ _ _ (0, 0) (heap_alloc_new w _)⟩ | exact ⟨_, hy, cell_of_row _ _ _ _ _ (0, 0) (heap_alloc_new w _)⟩ | exact ⟨_, prW_of (by kernel_rfl), cell_of_row _ _ _ _ _ (0, 0) (heap_alloc_new w _)⟩
set_option maxRecDepth 100000 in
set_option maxHeartbeats 800000 in
theorem float_drawnT (B : Nat) (v : Value) (l : List Int) (m : Int) (w : World) (h : Src B w v l m) (hm : m ≤ 900000000) :
    Calls Try.prog 78 #[.pointer (some ⟨B, 0, none⟩)] w fun e w' => ∃ y : Nat, e = .returned (.float .f64 y) ∧ PrW y ∧ SrcEnd B w v l (m + 3) w' := by
  have HS := hide h
  have hB := src_lt h
  clear h
  have e1 := neg_zero
  have e2 := one_zero
  have e3 := less_zero
  have e4 := zero_zero
  go_enter Try.func78, Try.ntmps78
  go_wp2_with (first | (go_at_call 21; refine (zero_any _).mono ?_; rintro e w' ⟨rfl, rfl⟩) | (go_at_call 89; refine (copysign_anyT _).mono ?_; rintro e w' ⟨y0, rfl, hy0, rfl⟩))
  have hn := nanOf_prW w'
  generalize nanOf w' = n0 at *
  refine (next_any B v l m 15 _ (src_drew (src_alloc (src_refl (unhide HS)) _) 1).1 (by omega) (by omega) (by omega)).mono ?_
  rintro e w1 ⟨y, rfl, hy0', hy1, hE⟩
  obtain ⟨k, rfl⟩ := Int.eq_ofNat_of_zero_le hy0'
  obtain ⟨z, hz1, hz⟩ := float_rowT k n0 y0 w' 35 (by omega) hn hy0
  have HE := hide (show SrcEnd B w' v l (m + 3) w1 from ⟨hE.1, gr_trans (gr_trans (gr_alloc w' _ _) (gr_drewN _ 1 _)) hE.2⟩)
  have hc := hE.2.cell (show (World.drewN _ 1).cell? _ = _ from hz) (by simp; omega)
  clear hE hz e1 e2 e3 e4
  go_wp2_with fail
  go_ret
  exact ⟨_, rfl, hz1, unhide HE⟩
end Go.Proofs.Ythmgkabpcjkieaa
namespace Go.Proofs.Ythmgkabpcjkieaa
open Go.RowKit
set_option linter.unusedVariables false

/-- What stands of a drawn command. -/
def DrOk (c : Cm) : Prop := c.g.size ≤ 20 ∧ PrW c.p
set_option maxRecDepth 100000 in
set_option maxHeartbeats 3200000 in
theorem rawCmd_drawn (B : Nat) (v : Value) (l : List Int) (m : Int) (w : World) (h : Src B w v l m) (hm : m ≤ 800000000) :
    Calls Try.prog 55 #[.pointer (some ⟨B, 0, none⟩)] w fun e w' => ∃ c : Cm, e = .returned (.agg c.vs.toArray) ∧ DrOk c ∧ SrcEnd B w v l (m + 30) w' := by
  have HV := hide (src_far h)
  have hB := src_lt h
  have HD0 : Hid (DrC B w.heap.size w v l m (w.alloc (Obj.cells #[.int .i64 0, .int .i64 0, .int .i64 0, .int .i64 0, .int .i64 0, .int .i64 0, .float .f64 0, .string ⟨#[]⟩] 66))) := ⟨src_alloc (src_refl h) _, (bx_made w [.int .i64 0, .int .i64 0, .int .i64 0, .int .i64 0, .int .i64 0, .int .i64 0, .float .f64 0, .string ⟨#[]⟩] 66).t⟩
  have hs0 : w.heap.size < (w.alloc (Obj.cells #[.int .i64 0, .int .i64 0, .int .i64 0, .int .i64 0, .int .i64 0, .int .i64 0, .float .f64 0, .string ⟨#[]⟩] 66)).heap.size := by simp
  clear h
  go_enter Try.func55, Try.ntmps55
  go_wp2_with fail
  generalize (w.alloc (Obj.cells #[.int .i64 0, .int .i64 0, .int .i64 0, .int .i64 0, .int .i64 0, .int .i64 0, .float .f64 0, .string ⟨#[]⟩] 66)) = W0 at HD0 hs0 ⊢
  refine (next_any B v l (m) 6 W0 (unhide HD0).e.1 (by omega) (by omega) (by omega)).mono ?_
  rintro e W1 ⟨y1, rfl, -, -, hE⟩
  have HD1 := hide (drC_step (unhide HD0) hB hE hs0)
  have hs1 : w.heap.size < W1.heap.size := Nat.lt_of_lt_of_le hs0 hE.2.size
  clear hE HD0 hs0
  go_wp2_with fail
  refine (next_any B v l (m + 3) 4 W1 (unhide HD1).e.1 (by omega) (by omega) (by omega)).mono ?_
  rintro e W2 ⟨y2, rfl, -, -, hE⟩
  have HD2 := hide (drC_step (unhide HD1) hB hE hs1)
  have hs2 : w.heap.size < W2.heap.size := Nat.lt_of_lt_of_le hs1 hE.2.size
  clear hE HD1 hs1
  go_wp2_with fail
  refine (next_any B v l (m + 3 + 3) 7 W2 (unhide HD2).e.1 (by omega) (by omega) (by omega)).mono ?_
  rintro e W3 ⟨y3, rfl, -, -, hE⟩
  have HD3 := hide (drC_step (unhide HD2) hB hE hs2)
  have hs3 : w.heap.size < W3.heap.size := Nat.lt_of_lt_of_le hs2 hE.2.size
  clear hE HD2 hs2
  go_wp2_with fail
  refine (next_any B v l (m + 3 + 3 + 3) 3 W3 (unhide HD3).e.1 (by omega) (by omega) (by omega)).mono ?_
  rintro e W4 ⟨y4, rfl, -, -, hE⟩
  have HD4 := hide (drC_step (unhide HD3) hB hE hs3)
  have hs4 : w.heap.size < W4.heap.size := Nat.lt_of_lt_of_le hs3 hE.2.size
  clear hE HD3 hs3
  go_wp2_with fail
  refine (number_drawn B v l (m + 3 + 3 + 3 + 3) W4 (unhide HD4).e.1 (by omega)).mono ?_
  rintro e W5 ⟨y5, rfl, -, -, hE⟩
  have HD5 := hide (drC_step (unhide HD4) hB hE hs4)
  have hs5 : w.heap.size < W5.heap.size := Nat.lt_of_lt_of_le hs4 hE.2.size
  clear hE HD4 hs4
  go_wp2_with fail
  refine (next_any B v l (m + 3 + 3 + 3 + 3 + 6) 3 W5 (unhide HD5).e.1 (by omega) (by omega) (by omega)).mono ?_
  rintro e W6 ⟨y6, rfl, -, -, hE⟩
  have HD6 := hide (drC_step (unhide HD5) hB hE hs5)
  have hs6 : w.heap.size < W6.heap.size := Nat.lt_of_lt_of_le hs5 hE.2.size
  clear hE HD5 hs5
  go_wp2_with fail
  refine (float_drawnT B v l (m + 3 + 3 + 3 + 3 + 6 + 3) W6 (unhide HD6).e.1 (by omega)).mono ?_
  rintro e W7 ⟨y7, rfl, hy7, hE⟩
  have HD7 := hide (drC_step (unhide HD6) hB hE hs6)
  have hs7 : w.heap.size < W7.heap.size := Nat.lt_of_lt_of_le hs6 hE.2.size
  clear hE HD6 hs6
  go_wp2_with fail
  refine (tag_drawn B v l (m + 3 + 3 + 3 + 3 + 6 + 3 + 3) W7 (unhide HD7).e.1 (by omega)).mono ?_
  rintro e W8 ⟨y8, rfl, hy8, hE⟩
  have HD8 := hide (drC_step (unhide HD7) hB hE hs7)
  have hs8 : w.heap.size < W8.heap.size := Nat.lt_of_lt_of_le hs7 hE.2.size
  clear hE HD7 hs7
  have HTH := hide (unhide HD8).t
  have HSC : Hid ((W8.setCells w.heap.size 0 [.int .i64 y1, .int .i64 y2, .int .i64 y3, .int .i64 y4, .int .i64 y5, .int .i64 y6, .float .f64 y7, .string y8]).rangeAt w.heap.size 0 [.int .i64 y1, .int .i64 y2, .int .i64 y3, .int .i64 y4, .int .i64 y5, .int .i64 y6, .float .f64 y7, .string y8]) := World.rangeAt_setCells_same _ _ _ _ (unhide HD8).t
  have HEN : Hid (SrcEnd B w v l (m + 3 + 3 + 3 + 3 + 6 + 3 + 3 + 3) (W8.setCells w.heap.size 0 [.int .i64 y1, .int .i64 y2, .int .i64 y3, .int .i64 y4, .int .i64 y5, .int .i64 y6, .float .f64 y7, .string y8])) := srcE_set (unhide HV) (unhide HD8).e hB (Nat.le_refl _) _
  try dsimp only
  rename_i K1 hK1 K2 hK2
  refine hK2 _ _ ?_
  have HK1 := hide hK1
  clear hK1 hK2
  refine wpList_step fun K3 hK3 => ?_
  have HK3 := hide hK3
  clear hK3
  rw [if_pos (by rfl)]
  unfold Oper.wp
  go_simp
  refine unhide HK3 _ _ ?_
  clear HK3
  refine wpList_store_mid rfl 66 (.tmp 2) (.tmp 19) rfl w.heap.size 0 #[.int .i64 y1, .int .i64 y2, .int .i64 y3, .int .i64 y4, .int .i64 y5, .int .i64 y6, .float .f64 y7, .string y8] rfl rfl (unhide HTH) (by kernel_rfl) (by simp [Value.oneCell']) ?_
  change wpList _ _ _ _ _ (W8.setCells w.heap.size 0 [.int .i64 y1, .int .i64 y2, .int .i64 y3, .int .i64 y4, .int .i64 y5, .int .i64 y6, .float .f64 y7, .string y8])
  generalize W8.setCells w.heap.size 0 [.int .i64 y1, .int .i64 y2, .int .i64 y3, .int .i64 y4, .int .i64 y5, .int .i64 y6, .float .f64 y7, .string y8] = WF at HSC HEN ⊢
  have hK1 := unhide HK1
  go_wp2_with fail
  have d0 := unhide HSC 0 _ rfl
  have d1 := unhide HSC 1 _ rfl
  have d2 := unhide HSC 2 _ rfl
  have d3 := unhide HSC 3 _ rfl
  have d4 := unhide HSC 4 _ rfl
  have d5 := unhide HSC 5 _ rfl
  have d6 := unhide HSC 6 _ rfl
  have d7 := unhide HSC 7 _ rfl
  simp only [Nat.zero_add] at d0 d1 d2 d3 d4 d5 d6 d7
  refine bodyPost_ret (by simp [results, Try.results55, go_sem, d0, d1, d2, d3, d4, d5, d6, d7]; try rfl) rfl ?_
  exact ⟨⟨y1, y2, y3, y4, y5, y6, y7, y8⟩, rfl, ⟨hy8, hy7⟩, src_more (unhide HEN).1 (by omega), (unhide HEN).2⟩
end Go.Proofs.Ythmgkabpcjkieaa
