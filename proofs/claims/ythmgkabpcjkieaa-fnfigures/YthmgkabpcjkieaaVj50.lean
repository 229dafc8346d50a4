/-
  The law of the figures at every slice of bytes: by the walk, and where the slice is too long by itself.
-/
import Derived.Test.YthmgkabpcjkieaaVj49
namespace Go.Proofs.Ythmgkabpcjkieaa
open Go.RowKit

set_option maxRecDepth 100000 in
set_option maxHeartbeats 800000 in
theorem lawFigures (a0 : Option Addr) (len0 cap0 : Nat) (z0 : List Int) (w : World)
    (w0 : (a0 = none ∧ len0 = 0 ∧ cap0 = 0 ∧ z0 = []) ∨ ∃ x, a0 = some x ∧ len0 ≤ cap0 ∧ cap0 ≤ maxLen ∧ z0.length = cap0 ∧ (∀ i, i < z0.length → w.cell? (x.add i) = some (.int .u8 (z0.getD i 0))) ∧ ∀ n ∈ z0, (Lit.int .u8 n).wf = true) :
    Calls Try.prog 3 #[.slice a0 len0 cap0] w fun e w' => e = .returned (.bool true) ∧ Below w.heap.size w w' := by
  by_cases h0 : 1048576 < len0
  · have h0' : (1048576 : Int) < len0 := by omega
    clear w0
    go_enter Try.func3, Try.ntmps3
    go_wp2_with fail
    go_ret
    exact ⟨rfl, Below.refl _ _⟩
  obtain ⟨e0, r0, b0⟩ := rd_of_row w0 (by omega)
  exact figLaw _ _ w r0 b0 (by omega)
end Go.Proofs.Ythmgkabpcjkieaa
