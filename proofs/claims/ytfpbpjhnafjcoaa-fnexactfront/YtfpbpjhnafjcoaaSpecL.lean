/-
  How many levels orders have, as the model counts them: proved by walking the function.
-/
import Derived.Test.YtfpbpjhnafjcoaaSpecW
namespace Go.Proofs.Ytfpbpjhnafjcoaa
open Go.RowKit
set_option linter.unusedVariables false

def difB (c y : Od) : Bool := decide (y.side ≠ c.side) || decide (y.ticks ≠ c.ticks)
def freshB (c : Od) (L : List Od) : Bool := L.all (difB c)
theorem nlev_fresh (l : List Od) (x : Od) : nlev (l ++ [x]) = nlev l + (freshB x l).toNat := by
  rw [nlev_snoc]
  congr 1
  by_cases h : ∃ y ∈ l, y.side = x.side ∧ y.ticks = x.ticks
  · rw [if_pos h]
    have : freshB x l = false := by
      obtain ⟨y, h1, h2, h3⟩ := h
      rw [freshB, List.all_eq_false]
      exact ⟨y, h1, by simp [difB, h2, h3]⟩
    rw [this]; rfl
  · rw [if_neg h]
    have : freshB x l = true := by
      rw [freshB, List.all_eq_true]
      intro y hy
      simp only [difB, ne_eq, Bool.or_eq_true, decide_eq_true_eq]
      by_cases h1 : y.side = x.side
      · exact .inr fun h2 => h ⟨y, hy, h1, h2⟩
      · exact .inl h1
    rw [this]; rfl
end Go.Proofs.Ytfpbpjhnafjcoaa
