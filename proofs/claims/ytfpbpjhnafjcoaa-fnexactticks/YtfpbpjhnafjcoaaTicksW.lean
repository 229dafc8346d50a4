/-
  The exact law of Ticks, walked: it returns true, and nothing is turned.
-/
import Derived.Test.YtfpbpjhnafjcoaaBase
import Derived.Test.YtfpbpjhnafjcoaaTickB
import Derived.WalkLawsBesides
namespace Go.Proofs.Ytfpbpjhnafjcoaa
open Go.RowKit

set_option maxRecDepth 100000 in
set_option maxHeartbeats 1000000 in
theorem lawTicks (x : Nat) (w : World) :
    Calls Try.prog 4 #[.float .f64 x] w fun e w' => e = .returned (.bool true) ∧ w' = w := by
  by_cases h0 : FloatKind.f64.format.order x 0 = some Ordering.gt
  · by_cases h1 : FloatKind.f64.format.order x 4687829947429945344 = some Ordering.lt ∨ FloatKind.f64.format.order x 4687829947429945344 = some Ordering.eq
    · obtain ⟨r, n, hmul, hint, hn⟩ := price_four h0 h1
      have hn' : (n : Int) < 9007199254740992 := by omega
      have hm : ∀ W, (binOp .mul 27 (.float .f64 x) (.float .f64 4616189618054758400)).run Try.prog W = .ok (.float .f64 r) W := fun W => by
        have : FloatKind.f64.format.mul x 4616189618054758400 = some r := hmul
        simp [binOp, Op.floatArith, this]
      have hc : ∀ W, (convert 27 3 (.float .f64 r)).run Try.prog W = .ok (.int .i64 n) W := fun W => by
        have h2 : (FloatKind.f64.decode r).toInt .zero = some (n : Int) := hint
        have hb : IntKind.i64.min ≤ (n : Int) ∧ (n : Int) ≤ IntKind.i64.max := by
          rw [show IntKind.i64.min = -9223372036854775808 by decide, show IntKind.i64.max = 9223372036854775807 by decide]; omega
        simp [convert, run_underlying Try.underlying27, run_underlying Try.underlying3, Conv.floatToInt, h2, hb.1]
        intro h
        omega
      have b0 : (FloatKind.f64.format.order x 0 == some Ordering.gt) = true := by rw [h0]; rfl
      clear hmul hint h0
      cases he : (FloatKind.f64.format.order (floatOfInt .f64 n) r == some Ordering.eq)
      all_goals
        have he2 : (FloatKind.f64.format.order (floatOfInt .f64 n) r != some Ordering.eq) = !(FloatKind.f64.format.order (floatOfInt .f64 n) r == some Ordering.eq) := rfl
        rw [he] at he2
        rcases h1 with h1 | h1
        · have b1 : (FloatKind.f64.format.order x 4687829947429945344 == some Ordering.lt) = true := by rw [h1]; rfl
          have b2 : (FloatKind.f64.format.order x 4687829947429945344 == some Ordering.eq) = false := by rw [h1]; rfl
          clear h1
          go_enter Try.func4, Try.ntmps4
          go_wp2
          go_ret
          exact ⟨rfl, rfl⟩
        · have b1 : (FloatKind.f64.format.order x 4687829947429945344 == some Ordering.lt) = false := by rw [h1]; rfl
          have b2 : (FloatKind.f64.format.order x 4687829947429945344 == some Ordering.eq) = true := by rw [h1]; rfl
          clear h1
          go_enter Try.func4, Try.ntmps4
          go_wp2
          go_ret
          exact ⟨rfl, rfl⟩
    · have b0 : (FloatKind.f64.format.order x 0 == some Ordering.gt) = true := by rw [h0]; rfl
      have b1 : (FloatKind.f64.format.order x 4687829947429945344 == some Ordering.lt) = false := by rw [beq_eq_false_iff_ne]; exact fun h => h1 (.inl h)
      have b2 : (FloatKind.f64.format.order x 4687829947429945344 == some Ordering.eq) = false := by rw [beq_eq_false_iff_ne]; exact fun h => h1 (.inr h)
      clear h0 h1
      go_enter Try.func4, Try.ntmps4
      go_wp2
      go_ret
      exact ⟨rfl, rfl⟩
  · have b0 : (FloatKind.f64.format.order x 0 == some Ordering.gt) = false := by rw [beq_eq_false_iff_ne]; exact h0
    clear h0
    go_enter Try.func4, Try.ntmps4
    go_wp2
    go_ret
    exact ⟨rfl, rfl⟩
end Go.Proofs.Ytfpbpjhnafjcoaa
