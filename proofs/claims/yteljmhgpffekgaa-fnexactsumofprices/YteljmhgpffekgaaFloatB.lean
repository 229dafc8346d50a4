/-
  A float's bits, as the program takes them: proved by walking the function.
-/
import Derived.Test.YteljmhgpffekgaaFloatC
import Derived.Laws.Externs
import Derived.WalkLawsBesides
import Derived.WalkSpells
namespace Go.Proofs.Yteljmhgpffekgaa
open Go.RowKit

/-- A float's bits; of every NaN the same. -/
def fbit (x : Nat) : Nat := if nanB x = true then 9221120237041090560 else x
theorem floatBits_any (x : Nat) (w : World) :
    Calls Try.prog 59 #[.float .f64 x] w fun e w' => e = .returned (.int .u64 (fbit x)) ∧ w' = w := by
  have hb := fbits
  cases h : nanB x
  case true =>
    have HX : Hid (fbit x = 9221120237041090560) := if_pos h
    go_enter Try.func59, Try.ntmps59
    go_wp2_with (go_at_call 35; refine (isNaN_any _ _).mono ?_; rintro e w' ⟨rfl, rfl⟩)
    go_ret
    exact ⟨by rw [unhide HX]; rfl, rfl⟩
  case false =>
    have HX : Hid (fbit x = x) := if_neg (by rw [h]; decide)
    go_enter Try.func59, Try.ntmps59
    go_wp2_with (go_at_call 35; refine (isNaN_any _ _).mono ?_; rintro e w' ⟨rfl, rfl⟩)
    go_ret
    exact ⟨by rw [unhide HX]; rfl, rfl⟩
end Go.Proofs.Yteljmhgpffekgaa
