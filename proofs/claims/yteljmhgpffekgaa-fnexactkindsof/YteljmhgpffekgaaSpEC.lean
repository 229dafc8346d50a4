/-
  The ticks of a price, by the model: proved by walking the function.
-/
import Derived.Test.YteljmhgpffekgaaEngA
namespace Go.Proofs.Yteljmhgpffekgaa
open Go.RowKit
set_option linter.unusedVariables false

/-- The whole quarters of a float within the bounds of prices, be it a price or not. -/
def tkS (x : Nat) : Int := if ((FloatKind.f64.format.order x 0 == some Ordering.gt) && ((FloatKind.f64.format.order x 4687829947429945344 == some Ordering.lt) || (FloatKind.f64.format.order x 4687829947429945344 == some Ordering.eq))) = true then tkN x else 0
theorem tkS_ok {x : Nat} (h : tkOk x = true) : tkS x = tk x := by
  unfold tk tkS
  rw [if_pos h]
  unfold tkOk at h
  rw [Bool.and_eq_true] at h
  rw [if_pos h.1]
set_option maxRecDepth 100000 in
set_option maxHeartbeats 1000000 in
theorem l01Ticks_any (x : Nat) (w : World) :
    Calls Try.prog 33 #[.float .f64 x] w fun e w' => e = .returned (.tuple #[.int .i64 (tkS x), .bool (tkOk x)]) ∧ w' = w := by
  by_cases h0 : FloatKind.f64.format.order x 0 = some Ordering.gt
  · by_cases h1 : FloatKind.f64.format.order x 4687829947429945344 = some Ordering.lt ∨ FloatKind.f64.format.order x 4687829947429945344 = some Ordering.eq
    · obtain ⟨r, n, hmul, hint, hn⟩ := price_four h0 h1
      have hn' : (n : Int) < 9007199254740992 := by omega
      have eR : tkR x = r := by unfold tkR; rw [show FloatKind.f64.format.mul x 4616189618054758400 = some r from hmul]; rfl
      have eN : tkN x = n := by unfold tkN; rw [eR, show (FloatKind.f64.decode r).toInt .zero = some (n : Int) from hint]; rfl
      have b0 : (FloatKind.f64.format.order x 0 == some Ordering.gt) = true := by rw [h0]; rfl
      have hm : ∀ W, (binOp .mul 29 (.float .f64 x) (.float .f64 4616189618054758400)).run Try.prog W = .ok (.float .f64 r) W := fun W => by
        have : FloatKind.f64.format.mul x 4616189618054758400 = some r := hmul
        simp [binOp, Op.floatArith, this]
      have hc : ∀ W, (convert 29 3 (.float .f64 r)).run Try.prog W = .ok (.int .i64 n) W := fun W => by
        have h2 : (FloatKind.f64.decode r).toInt .zero = some (n : Int) := hint
        have hb : IntKind.i64.min ≤ (n : Int) ∧ (n : Int) ≤ IntKind.i64.max := by
          rw [show IntKind.i64.min = -9223372036854775808 by decide, show IntKind.i64.max = 9223372036854775807 by decide]; omega
        simp [convert, run_underlying Try.underlying29, run_underlying Try.underlying3, Conv.floatToInt, h2, hb.1]
        intro h
        omega
      have h12 : ((FloatKind.f64.format.order x 4687829947429945344 == some Ordering.lt) || (FloatKind.f64.format.order x 4687829947429945344 == some Ordering.eq)) = true := by
        rcases h1 with h1 | h1 <;> rw [h1] <;> rfl
      have hok : tkOk x = (FloatKind.f64.format.order (floatOfInt .f64 n) r == some Ordering.eq) := by unfold tkOk; rw [eN, eR, b0, h12]; rfl
      have hS : tkS x = n := by unfold tkS; rw [b0, h12, eN]; rfl
      clear hmul hint h0 h12
      cases he : (FloatKind.f64.format.order (floatOfInt .f64 n) r == some Ordering.eq)
      all_goals
        have he2 : (FloatKind.f64.format.order (floatOfInt .f64 n) r != some Ordering.eq) = !(FloatKind.f64.format.order (floatOfInt .f64 n) r == some Ordering.eq) := rfl
        rw [he] at he2
        rw [he] at hok
      · have HT : Hid (tkS x = n ∧ tkOk x = false) := ⟨hS, hok⟩
        clear hok eN eR hS
        rcases h1 with h1 | h1
        · have b1 : (FloatKind.f64.format.order x 4687829947429945344 == some Ordering.lt) = true := by rw [h1]; rfl
          have b2 : (FloatKind.f64.format.order x 4687829947429945344 == some Ordering.eq) = false := by rw [h1]; rfl
          clear h1
          go_enter Try.func33, Try.ntmps33
          go_wp2
          go_ret2
          exact ⟨by rw [(unhide HT).1, (unhide HT).2]; rfl, rfl⟩
        · have b1 : (FloatKind.f64.format.order x 4687829947429945344 == some Ordering.lt) = false := by rw [h1]; rfl
          have b2 : (FloatKind.f64.format.order x 4687829947429945344 == some Ordering.eq) = true := by rw [h1]; rfl
          clear h1
          go_enter Try.func33, Try.ntmps33
          go_wp2
          go_ret2
          exact ⟨by rw [(unhide HT).1, (unhide HT).2]; rfl, rfl⟩
      · have HT : Hid (tkS x = n ∧ tkOk x = true) := ⟨hS, hok⟩
        clear hok eN eR hS
        rcases h1 with h1 | h1
        · have b1 : (FloatKind.f64.format.order x 4687829947429945344 == some Ordering.lt) = true := by rw [h1]; rfl
          have b2 : (FloatKind.f64.format.order x 4687829947429945344 == some Ordering.eq) = false := by rw [h1]; rfl
          clear h1
          go_enter Try.func33, Try.ntmps33
          go_wp2
          go_ret2
          exact ⟨by rw [(unhide HT).1, (unhide HT).2]; rfl, rfl⟩
        · have b1 : (FloatKind.f64.format.order x 4687829947429945344 == some Ordering.lt) = false := by rw [h1]; rfl
          have b2 : (FloatKind.f64.format.order x 4687829947429945344 == some Ordering.eq) = true := by rw [h1]; rfl
          clear h1
          go_enter Try.func33, Try.ntmps33
          go_wp2
          go_ret2
          exact ⟨by rw [(unhide HT).1, (unhide HT).2]; rfl, rfl⟩
    · have b0 : (FloatKind.f64.format.order x 0 == some Ordering.gt) = true := by rw [h0]; rfl
      have b1 : (FloatKind.f64.format.order x 4687829947429945344 == some Ordering.lt) = false := by rw [beq_eq_false_iff_ne]; exact fun h => h1 (.inl h)
      have b2 : (FloatKind.f64.format.order x 4687829947429945344 == some Ordering.eq) = false := by rw [beq_eq_false_iff_ne]; exact fun h => h1 (.inr h)
      have hok : tkOk x = false := by unfold tkOk; rw [b0, b1, b2]; rfl
      have HT : Hid (tkS x = 0 ∧ tkOk x = false) := ⟨by unfold tkS; rw [b0, b1, b2]; rfl, hok⟩
      clear h0 h1 hok
      go_enter Try.func33, Try.ntmps33
      go_wp2
      go_ret2
      exact ⟨by rw [(unhide HT).1, (unhide HT).2]; rfl, rfl⟩
  · have b0 : (FloatKind.f64.format.order x 0 == some Ordering.gt) = false := by rw [beq_eq_false_iff_ne]; exact h0
    have hok : tkOk x = false := by unfold tkOk; rw [b0]; rfl
    have HT : Hid (tkS x = 0 ∧ tkOk x = false) := ⟨by unfold tkS; rw [b0]; rfl, hok⟩
    clear h0 hok
    go_enter Try.func33, Try.ntmps33
    go_wp2
    go_ret2
    exact ⟨by rw [(unhide HT).1, (unhide HT).2]; rfl, rfl⟩
end Go.Proofs.Yteljmhgpffekgaa
