/-
  A side's tree, asked by its three methods: proved by walking the function that binds them.
-/
import Derived.Test.YtfpbpjhnafjcoaaFrontB
import Derived.Laws.EntriesVeiled
namespace Go.Proofs.Ytfpbpjhnafjcoaa
open Go.RowKit
set_option linter.unusedVariables false

/-- The three methods of the tree in block b, bound. -/
def side_b (b : Nat) : Value := .agg #[.func (.func 63) #[.pointer (some ⟨b, 0, none⟩)] #[], .func (.func 64) #[.pointer (some ⟨b, 0, none⟩)] #[], .func (.func 65) #[.pointer (some ⟨b, 0, none⟩)] #[]]

theorem ask_b (b : Nat) (w : World) :
    Calls Try.prog 59 #[.pointer (some ⟨b, 0, none⟩)] w fun e w' => e = .returned (side_b b) ∧ Below w.heap.size w w' := by
  have hmf : ∀ (fn : Fn) (first cap : Array Value) (w : World), (Instr.makeFunc fn first cap).run Try.prog w = .ok (.func fn first cap) w := fun _ _ _ _ => rfl
  go_enter Try.func59, Try.ntmps59
  go_wp2_with fail
  go_returns
  refine ⟨rfl, ?_⟩
  go_grown
end Go.Proofs.Ytfpbpjhnafjcoaa
