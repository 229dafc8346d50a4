/-
  The shape of whatever kind, as the program makes it: proved by walking the function.
-/
import Derived.Test.YtfhjbhnfapdmmaaDoorOj06
namespace Go.Proofs.YtfhjbhnfapdmmaaDoor
open Go.RowKit
set_option linter.unusedVariables false
set_option maxRecDepth 100000 in
set_option maxHeartbeats 1600000 in
theorem shapeN_any (k : Int) (w : World) (h : ¬ (1 ≤ k ∧ k ≤ 9)) : Calls Tryd.prog 19 #[.int .i64 k] w fun e w' => ShEnd k w e w' := by
  have HE : Hid (∀ w', Below w.heap.size w w' → ShEnd k w (.returned (.agg #[.int .i64 0, .slice none 0 0])) w') := fun w' hb => by
    have h1 : shC k = 0 := if_neg (by omega)
    have h2 : shF k = [] := by unfold shF; rw [if_neg (by omega), if_neg (by omega), if_neg (by omega), if_neg (by omega), if_neg (by omega)]
    unfold ShEnd
    rw [h1, h2]
    exact ⟨_, [], rfl, ⟨none, 0, rfl, by simp, fun h => absurd rfl h⟩, trivial, hb⟩
  have e1 : (k == 1) = false := beq_eq_false_iff_ne.2 (by omega)
  have e2 : (k == 2) = false := beq_eq_false_iff_ne.2 (by omega)
  have e3 : (k == 3) = false := beq_eq_false_iff_ne.2 (by omega)
  have e4 : (k == 4) = false := beq_eq_false_iff_ne.2 (by omega)
  have e5 : (k == 5) = false := beq_eq_false_iff_ne.2 (by omega)
  have e6 : (k == 6) = false := beq_eq_false_iff_ne.2 (by omega)
  have e7 : (k == 7) = false := beq_eq_false_iff_ne.2 (by omega)
  have e8 : (k == 8) = false := beq_eq_false_iff_ne.2 (by omega)
  have e9 : (k == 9) = false := beq_eq_false_iff_ne.2 (by omega)
  clear h
  go_enter Tryd.func19, Tryd.ntmps19
  go_wp2_with fail
  go_returns
  exact unhide HE _ (by go_grown)
theorem shape_any (k : Int) (w : World) : Calls Tryd.prog 19 #[.int .i64 k] w fun e w' => ShEnd k w e w' := by
  by_cases h : 1 ≤ k ∧ k ≤ 9
  · rcases (show k = 1 ∨ k = 2 ∨ k = 3 ∨ k = 4 ∨ k = 5 ∨ k = 6 ∨ k = 7 ∨ k = 8 ∨ k = 9 by omega) with rfl | rfl | rfl | rfl | rfl | rfl | rfl | rfl | rfl
    · exact shape1_any w
    · exact shape2_any w
    · exact shape3_any w
    · exact shape4_any w
    · exact shape5_any w
    · exact shape6_any w
    · exact shape7_any w
    · exact shape8_any w
    · exact shape9_any w
  · exact shapeN_any k w h
end Go.Proofs.YtfhjbhnfapdmmaaDoor
