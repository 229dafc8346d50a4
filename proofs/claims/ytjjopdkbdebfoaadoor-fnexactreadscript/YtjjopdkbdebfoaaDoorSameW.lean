/-
  What the laws' own comparison of floats answers, proved by walking it.
-/
import Derived.Test.YtjjopdkbdebfoaaDoorNanB
namespace Go.Proofs.YtjjopdkbdebfoaaDoor
open Go.RowKit
set_option linter.unusedVariables false

theorem zero_read : FloatKind.f64.format.read 0 = .number false 0 FloatKind.f64.format.leastPlace := by decide
theorem one_read : ∃ m j, FloatKind.f64.format.read 4607182418800017408 = .number false m j ∧ m ≠ 0 := ⟨_, _, rfl, by decide⟩
theorem zero_mag (s : Bool) (m a b : Nat) (h : Ieee.signed s m a = Ieee.signed false 0 b) : m = 0 := by
  have h0 : Ieee.signed false 0 b = 0 := by simp [Ieee.signed]
  rw [h0] at h
  have h2 : m <<< a = 0 := by
    cases s
    · have h' : ((m <<< a : Nat) : Int) = 0 := h
      omega
    · have h' : -((m <<< a : Nat) : Int) = 0 := h
      omega
  rw [Nat.shiftLeft_eq] at h2
  have := Nat.two_pow_pos a
  rcases Nat.mul_eq_zero.1 h2 with h | h
  · exact h
  · omega
theorem div_zero (x : Nat) (h : FloatKind.f64.format.order x 0 = some Ordering.eq) : ∃ r, FloatKind.f64.format.div 4607182418800017408 x = some r := by
  obtain ⟨m1, j1, h1, hm1⟩ := one_read
  unfold Ieee.Format.order at h
  rw [zero_read] at h
  unfold Ieee.Format.div
  rw [h1]
  cases hx : FloatKind.f64.format.read x with
  | nan s f => rw [hx] at h; simp [Ieee.Datum.order] at h
  | infinity s => rw [hx] at h; cases s <;> simp [Ieee.Datum.order] at h
  | number s m i =>
    rw [hx] at h
    simp only [Ieee.Datum.order, Option.some.injEq] at h
    have hm := zero_mag s m _ _ (Std.LawfulEqCmp.eq_of_compare h)
    subst hm
    exact ⟨FloatKind.f64.format.write (.infinity s), by simp [Ieee.Datum.quotient, hm1]⟩

set_option maxRecDepth 100000 in
set_option maxHeartbeats 400000 in
theorem sameFloat_any (x : Nat) (w : World) :
    Calls Tryd.prog 17 #[.float .f64 x, .float .f64 x] w fun e w' => e = .returned (.bool true) ∧ w' = w := by
  cases hn : nanB x with
  | true =>
    have h' : (FloatKind.f64.format.order x x != some Ordering.eq) = true := hn
    clear hn
    go_enter Tryd.func17, Tryd.ntmps17
    go_wp2
    go_ret
    exact ⟨rfl, rfl⟩
  | false =>
    have h' : (FloatKind.f64.format.order x x != some Ordering.eq) = false := hn
    have h2 : FloatKind.f64.format.order x x = some Ordering.eq := by simpa using h'
    clear hn
    by_cases hz : FloatKind.f64.format.order x 0 = some Ordering.eq
    · obtain ⟨r, hr⟩ := div_zero x hz
      have hq : ∀ W, (binOp .quo 22 (.float .f64 4607182418800017408) (.float .f64 x)).run Tryd.prog W = .ok (.float .f64 r) W := fun W => by simp [binOp, Op.floatArith, hr]
      have hz' : (FloatKind.f64.format.order x 0 == some Ordering.eq) = true := by rw [hz]; rfl
      clear hz hr
      go_enter Tryd.func17, Tryd.ntmps17
      go_wp2
      all_goals go_ret
      all_goals exact ⟨ret_bool (by simp), rfl⟩
    · have hz' : (FloatKind.f64.format.order x 0 == some Ordering.eq) = false := by simpa using hz
      clear hz
      go_enter Tryd.func17, Tryd.ntmps17
      go_wp2
      go_ret
      exact ⟨ret_bool (by simp), rfl⟩
theorem sameFloat_nan (x y : Nat) (w : World) (hx : nanB x = true) (hy : nanB y = true) :
    Calls Tryd.prog 17 #[.float .f64 x, .float .f64 y] w fun e w' => e = .returned (.bool true) ∧ w' = w := by
  have h1 : (FloatKind.f64.format.order x x != some Ordering.eq) = true := hx
  have h2 : (FloatKind.f64.format.order y y != some Ordering.eq) = true := hy
  clear hx hy
  go_enter Tryd.func17, Tryd.ntmps17
  go_wp2
  go_ret
  exact ⟨rfl, rfl⟩
end Go.Proofs.YtjjopdkbdebfoaaDoor
