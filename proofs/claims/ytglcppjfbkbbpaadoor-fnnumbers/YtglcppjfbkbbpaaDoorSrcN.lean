/-
  The source of drawn things: numbers, proved by walking its methods.
-/
import Derived.Test.YtglcppjfbkbbpaaDoorSrcC
import Derived.Test.YtglcppjfbkbbpaaDoorSrcB
namespace Go.Proofs.YtglcppjfbkbbpaaDoor
open Go.RowKit
set_option linter.unusedVariables false

theorem odd_row (k : Nat) (w : World) (t : TypeId) (h : k < 12) :
    ∃ z : Int, -9223372036854775808 ≤ z ∧ z ≤ 9223372036854775807 ∧ (w.alloc (.cells #[.int .i64 0, .int .i64 (-1), .int .i64 1, .int .i64 2, .int .i64 63, .int .i64 64, .int .i64 65, .int .i64 4096, .int .i64 4097, .int .i64 9223372036854775807, .int .i64 (-9223372036854775808), .int .i64 30] t)).cell? ⟨w.heap.size, k, none⟩ = some (.int .i64 z) := by
  rcases (show k = 0 ∨ k = 1 ∨ k = 2 ∨ k = 3 ∨ k = 4 ∨ k = 5 ∨ k = 6 ∨ k = 7 ∨ k = 8 ∨ k = 9 ∨ k = 10 ∨ k = 11 by omega) with rfl | rfl | rfl | rfl | rfl | rfl | rfl | rfl | rfl | rfl | rfl | rfl
  all_goals exact ⟨_, by decide, by decide, cell_of_row _ _ _ _ _ (0, 0) (heap_alloc_new w _)⟩

set_option maxRecDepth 100000 in
set_option maxHeartbeats 800000 in
theorem odd_any (B : Nat) (v : Value) (l : List Int) (m : Int) (w : World) (h : Src B w v l m) (hm : m ≤ 1000000000) :
    Calls Tryd.prog 22 #[.pointer (some ⟨B, 0, none⟩)] w fun e w' => ∃ y : Int, e = .returned (.int .i64 y) ∧ -9223372036854775808 ≤ y ∧ y ≤ 9223372036854775807 ∧ SrcEnd B w v l (m + 3) w' := by
  have HS := hide h
  have hB := src_lt h
  clear h
  go_enter Tryd.func22, Tryd.ntmps22
  go_wp2_with fail
  refine (next_any B v l m 12 _ (src_alloc (src_refl (unhide HS)) _).1 hm (by omega) (by omega)).mono ?_
  rintro e w1 ⟨y, rfl, hy0, hy1, hE⟩
  obtain ⟨k, rfl⟩ := Int.eq_ofNat_of_zero_le hy0
  obtain ⟨z, hz0, hz1, hz⟩ := odd_row k w 3 (by omega)
  have HE := hide (show SrcEnd B w v l (m + 3) w1 from ⟨hE.1, gr_trans (gr_alloc w _ _) hE.2⟩)
  have hc := hE.2.cell hz (by simp; omega)
  clear hE hz
  go_wp2_with fail
  go_ret
  exact ⟨_, rfl, hz0, hz1, unhide HE⟩

set_option maxRecDepth 100000 in
set_option maxHeartbeats 800000 in
theorem number_drawn (B : Nat) (v : Value) (l : List Int) (m : Int) (w : World) (h : Src B w v l m) (hm : m ≤ 900000000) :
    Calls Tryd.prog 13 #[.pointer (some ⟨B, 0, none⟩)] w fun e w' => ∃ y : Int, e = .returned (.int .i64 y) ∧ -9223372036854775808 ≤ y ∧ y ≤ 9223372036854775807 ∧ SrcEnd B w v l (m + 6) w' := by
  have HS := hide h
  clear h
  go_enter Tryd.func13, Tryd.ntmps13
  go_wp2_with fail
  refine (chance_any B v l m 4 _ (unhide HS) (by omega) (by omega) (by omega)).mono ?_
  rintro e w1 ⟨b, rfl, hE⟩
  have HE := hide hE
  clear hE
  cases b
  · go_wp2_with fail
    refine (next_any B v l _ 400 _ (unhide HE).1 (by omega) (by omega) (by omega)).mono ?_
    rintro e w2 ⟨y, rfl, hy0, hy1, hE2⟩
    have HE2 := hide hE2
    clear hE2
    go_wp2_with fail
    go_ret
    exact ⟨_, rfl, by omega, by omega, src_more (unhide HE2).1 (by omega), gr_trans (unhide HE).2 (unhide HE2).2⟩
  · go_wp2_with fail
    refine (odd_any B v l _ _ (unhide HE).1 (by omega)).mono ?_
    rintro e w2 ⟨y, rfl, hy0, hy1, hE2⟩
    have HE2 := hide hE2
    clear hE2
    go_wp2_with fail
    go_ret
    exact ⟨_, rfl, hy0, hy1, src_more (unhide HE2).1 (by omega), gr_trans (unhide HE).2 (unhide HE2).2⟩

theorem numberOf_any (v : Value) (l : List Int) (w : World) (h : Rd w v l) (hb : Bts l) :
    Calls Tryd.prog 5 #[v] w fun e w' => ∃ y : Int, e = .returned (.int .i64 y) ∧ -9223372036854775808 ≤ y ∧ y ≤ 9223372036854775807 ∧ Below w.heap.size w w' := by
  have HR := hide h
  have HB := hide hb
  obtain ⟨a, cap, rfl, hl, _⟩ := h
  clear hb
  go_enter Tryd.func5, Tryd.ntmps5
  go_wp2_with fail
  refine (source_any _ l _ (unhide HR) (unhide HB)).mono ?_
  rintro e w1 ⟨rfl, hS, hb1⟩
  have HS := hide hS
  have HB1 := hide hb1
  clear hS hb1
  go_wp2_with fail
  refine (number_drawn _ _ l _ _ (unhide HS) (by omega)).mono ?_
  rintro e w2 ⟨y, rfl, hy0, hy1, hE⟩
  have HE := hide hE
  clear hE
  go_wp2_with fail
  go_ret
  exact ⟨_, rfl, hy0, hy1, own_below_grown (unhide HB1) (Nat.le_refl _) (unhide HE).2⟩
end Go.Proofs.YtglcppjfbkbbpaaDoor
