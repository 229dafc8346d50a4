/-
  Two small facts: a cell that is there, and a place of a list of flags. No function walked.
-/
import Derived.Test.YtamijniaepanhaaRecB
namespace Go.Proofs.Ytamijniaepanhaa
open Go.RowKit
set_option linter.unusedVariables false

theorem there_any {W : World} {b n j : Nat} (h : W.there b 0 n) (hj : j < n) : ∃ u, W.cell? ⟨b, j, none⟩ = some u ∧ W.frozen? ⟨b, j, none⟩ = false := by
  obtain ⟨h1, h2⟩ := h j hj
  rw [Nat.zero_add] at h1 h2
  obtain ⟨u, hu⟩ := Option.isSome_iff_exists.1 h1
  exact ⟨u, hu, h2⟩
theorem bit_or {x : List Bool} {n j : Nat} (hx : x.length = n) (hj : j < n) : x[j]? = some false ∨ x[j]? = some true := by
  rw [List.getElem?_eq_getElem (by omega)]
  cases x[j] <;> simp
end Go.Proofs.Ytamijniaepanhaa
