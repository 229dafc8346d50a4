/-
  A side's tree, asked by its three methods: proved by walking the function that binds them.
-/
import Derived.Test.YtamijniaepanhaaFrontS
import Derived.Laws.EntriesVeiled
namespace Go.Proofs.Ytamijniaepanhaa
open Go.RowKit
set_option linter.unusedVariables false

/-- The three methods of the tree in block b, bound. -/
def side_s (b : Nat) : Value := .agg #[.func (.func 104) #[.pointer (some ⟨b, 0, none⟩)] #[], .func (.func 105) #[.pointer (some ⟨b, 0, none⟩)] #[], .func (.func 106) #[.pointer (some ⟨b, 0, none⟩)] #[]]

theorem ask_s (b : Nat) (w : World) :
    Calls Try.prog 73 #[.pointer (some ⟨b, 0, none⟩)] w fun e w' => e = .returned (side_s b) ∧ Below w.heap.size w w' := by
  have hmf : ∀ (fn : Fn) (first cap : Array Value) (w : World), (Instr.makeFunc fn first cap).run Try.prog w = .ok (.func fn first cap) w := fun _ _ _ _ => rfl
  go_enter Try.func73, Try.ntmps73
  go_wp2_with fail
  go_returns
  refine ⟨rfl, ?_⟩
  go_grown
end Go.Proofs.Ytamijniaepanhaa
