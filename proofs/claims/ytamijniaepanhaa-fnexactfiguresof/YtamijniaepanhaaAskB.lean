/-
  A side's tree, asked by its three methods: proved by walking the function that binds them.
-/
import Derived.Test.YtamijniaepanhaaFrontB
import Derived.Laws.EntriesVeiled
namespace Go.Proofs.Ytamijniaepanhaa
open Go.RowKit
set_option linter.unusedVariables false

/-- The three methods of the tree in block b, bound. -/
def side_b (b : Nat) : Value := .agg #[.func (.func 100) #[.pointer (some ⟨b, 0, none⟩)] #[], .func (.func 101) #[.pointer (some ⟨b, 0, none⟩)] #[], .func (.func 102) #[.pointer (some ⟨b, 0, none⟩)] #[]]

theorem ask_b (b : Nat) (w : World) :
    Calls Try.prog 71 #[.pointer (some ⟨b, 0, none⟩)] w fun e w' => e = .returned (side_b b) ∧ Below w.heap.size w w' := by
  have hmf : ∀ (fn : Fn) (first cap : Array Value) (w : World), (Instr.makeFunc fn first cap).run Try.prog w = .ok (.func fn first cap) w := fun _ _ _ _ => rfl
  go_enter Try.func71, Try.ntmps71
  go_wp2_with fail
  go_returns
  refine ⟨rfl, ?_⟩
  go_grown
end Go.Proofs.Ytamijniaepanhaa
