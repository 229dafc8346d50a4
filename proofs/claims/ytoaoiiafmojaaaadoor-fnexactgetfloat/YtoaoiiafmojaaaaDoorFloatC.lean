/-
  A float's bits, and the test for a number that is none: what they return.
-/
import Derived.Test.YtoaoiiafmojaaaaDoorNanB
import Derived.Laws.Externs
import Derived.WalkLawsBesides
import Derived.WalkSpells
namespace Go.Proofs.YtoaoiiafmojaaaaDoor
open Go.RowKit

theorem fbits (x : Nat) (w : World) : (callFunc 38 #[.float .f64 x]).run Tryd.prog w = .ok (.value (.int .u64 x)) w := by
  rw [run_callFunc_extern (e := Extern.MathFloatBits.float64bits) Tryd.func38 (by kernel_rfl) (by kernel_rfl) (by kernel_rfl) (by kernel_rfl)]
  rfl

theorem isNaN_any (x : Nat) (w : World) :
    Calls Tryd.prog 33 #[.float .f64 x] w fun e w' => e = .returned (.bool (nanB x)) ∧ w' = w := by
  go_enter Tryd.func33, Tryd.ntmps33
  go_wp2
  go_ret
  exact ⟨rfl, rfl⟩
end Go.Proofs.YtoaoiiafmojaaaaDoor
