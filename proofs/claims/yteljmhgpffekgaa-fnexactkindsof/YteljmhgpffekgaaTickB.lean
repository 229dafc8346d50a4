/-
  A price times four, in the bits of floats: it is a number, and its whole part fits an int; plain facts, no program.
-/
import GoSem.Core.Float
namespace Go.Proofs.Yteljmhgpffekgaa
open Go Ieee

theorem fb : double.fractionBits = 52 := rfl
theorem lp : double.leastPlace = -1074 := by decide
theorem bin : double.binade = 4503599627370496 := by decide
theorem inf : double.infRung = 9218868437227405312 := by decide
theorem sw : double.signWeight = 9223372036854775808 := by decide

/-- What a word that is a number stands for has at most 53 digits. -/
theorem read_mag {x : Nat} {s : Bool} {m : Nat} {i : Int} (h : double.read x = .number s m i) : m < 9007199254740992 := by
  unfold Format.read at h
  simp only [bin, inf, sw] at h
  split at h
  · simp only [Datum.number.injEq] at h; omega
  · split at h
    · simp only [Datum.number.injEq] at h; omega
    · split at h <;> cases h

theorem read_zero : double.read 0 = .number false 0 (-1074) := by decide
theorem read_top : double.read 4687829947429945344 = .number false 8589934592000000 (-35) := by decide
theorem read_four : double.read 4616189618054758400 = .number false 4503599627370496 (-50) := by decide

theorem signed_neg (m a : Nat) : signed true m a ≤ 0 := by
  show -((m <<< a : Nat) : Int) ≤ 0
  exact Int.neg_nonpos_of_nonneg (Int.natCast_nonneg _)
theorem above_zero {x : Nat} (h : double.order x 0 = some .gt) : double.read x = .infinity false ∨ ∃ m i, double.read x = .number false m i ∧ m ≠ 0 := by
  unfold Format.order at h
  rw [read_zero] at h
  cases hx : double.read x with
  | nan s f => rw [hx] at h; simp [Datum.order] at h
  | infinity s => cases s with
    | false => exact .inl rfl
    | true => rw [hx] at h; simp [Datum.order] at h
  | number s m i =>
    rw [hx] at h
    simp only [Datum.order, Option.some.injEq] at h
    have hz : ∀ b, signed false 0 b = 0 := fun b => by simp [signed]
    rw [hz] at h
    have hgt := Std.compare_eq_gt.1 h
    cases s with
    | false =>
      refine .inr ⟨m, i, rfl, fun e => ?_⟩
      subst e
      rw [hz] at hgt
      exact absurd hgt (by decide)
    | true =>
      exact absurd hgt (Int.not_lt.2 (signed_neg m _))

theorem log_le {m k : Nat} (hm : m ≠ 0) (h : m < 2 ^ k) : m.log2 < k := (Nat.log2_lt hm).2 h

theorem within {m : Nat} {i : Int} {x : Nat} (hx : double.read x = .number false m i) (hm : m ≠ 0) (h : double.order x 4687829947429945344 = some .lt ∨ double.order x 4687829947429945344 = some .eq) : i + m.log2 ≤ 17 := by
  have hmag := read_mag hx
  unfold Format.order at h
  rw [read_top, hx] at h
  simp only [Datum.order, Option.some.injEq] at h
  have hle : signed false m (i - min i (-35)).toNat ≤ signed false 8589934592000000 (-35 - min i (-35)).toNat := by
    rcases h with h | h
    · exact Int.le_of_lt (Std.compare_eq_lt.1 h)
    · exact Int.le_of_eq (Std.LawfulEqCmp.eq_of_compare h)
  by_cases hi : i < -35
  · have := log_le hm (show m < 2 ^ 53 by omega)
    omega
  · have e1 : min i (-35) = -35 := by omega
    rw [e1] at hle
    have e2 : ((-35 : Int) - -35).toNat = 0 := by decide
    rw [e2] at hle
    have hle' : (m <<< (i - -35).toNat : Nat) ≤ (8589934592000000 <<< 0 : Nat) := by
      have : ((m <<< (i - -35).toNat : Nat) : Int) ≤ ((8589934592000000 <<< 0 : Nat) : Int) := hle
      omega
    rw [Nat.shiftLeft_eq, Nat.shiftLeft_zero] at hle'
    have hlog : m.log2 + (i - -35).toNat < 53 := by
      have h1 : 2 ^ m.log2 ≤ m := Nat.log2_self_le hm
      have h2 : 2 ^ (m.log2 + (i - -35).toNat) ≤ m * 2 ^ (i - -35).toNat := by
        rw [Nat.pow_add]; exact Nat.mul_le_mul_right _ h1
      have h3 : 2 ^ (m.log2 + (i - -35).toNat) < 2 ^ 53 := by omega
      exact (Nat.pow_lt_pow_iff_right (by decide)).1 h3
    omega

theorem log_up {m : Nat} (hm : m ≠ 0) : (m * 4503599627370496).log2 = m.log2 + 52 := by
  have h := (Nat.log2_eq_iff hm).1 rfl
  refine (Nat.log2_eq_iff (by omega)).2 ?_
  rw [Nat.pow_add, show m.log2 + 52 + 1 = (m.log2 + 1) + 52 by omega, Nat.pow_add 2 (m.log2 + 1) 52, show (2 : Nat) ^ 52 = 4503599627370496 from rfl]
  exact ⟨Nat.mul_le_mul_right _ h.1, Nat.mul_lt_mul_of_pos_right h.2 (by decide)⟩

/-- A cut to the nearest of a number below 2^(p + 53), at least p digits dropped. -/
theorem cut_le (n p drop : Nat) (hn : n < 2 ^ (p + 53)) (hp : p ≤ drop) (hl : p ≤ n.log2 + 2) : Toward.even.cut false n drop ≤ 9007199254740993 := by
  unfold Toward.cut
  simp only
  have hg : 2 ^ p ≤ 1 <<< min drop (n.log2 + 2) := by
    rw [Nat.one_shiftLeft]
    exact Nat.pow_le_pow_right (by decide) (by omega)
  have hq : n / (1 <<< min drop (n.log2 + 2)) ≤ 9007199254740992 := by
    refine Nat.le_trans (Nat.div_le_div_left hg (Nat.two_pow_pos p)) ?_
    have : n / 2 ^ p < 2 ^ 53 := by
      rw [Nat.div_lt_iff_lt_mul (Nat.two_pow_pos p), ← Nat.pow_add, Nat.add_comm]
      exact hn
    omega
  have hb : ∀ b : Bool, b.toNat ≤ 1 := by decide
  have := hb (decide (1 <<< min drop (n.log2 + 2) < 2 * (n % 1 <<< min drop (n.log2 + 2))) || (1 <<< min drop (n.log2 + 2) == 2 * (n % 1 <<< min drop (n.log2 + 2)) && n / 1 <<< min drop (n.log2 + 2) % 2 == 1))
  omega

/-- Rounding a number of that size to a word gives a word below a known one. -/
theorem near_le {m : Nat} {i : Int} (hm : m ≠ 0) (hi : i + m.log2 ≤ 17) : double.nearest false (m * 4503599627370496) (i + -50) < 1075 * 4503599627370496 := by
  have hmag : ¬ m * 4503599627370496 = 0 := by omega
  have hlog := log_up hm
  have hlt : m * 4503599627370496 < 2 ^ (m.log2 + 53) := by
    have h := ((Nat.log2_eq_iff hm).1 rfl).2
    rw [show m.log2 + 53 = (m.log2 + 1) + 52 by omega, Nat.pow_add 2 (m.log2 + 1) 52, show (2 : Nat) ^ 52 = 4503599627370496 from rfl]
    exact Nat.mul_lt_mul_of_pos_right h (by decide)
  unfold Format.nearest
  rw [if_neg hmag]
  simp only [hlog, fb, lp, bin, inf, Format.word, Bool.false_eq_true, if_false]
  have hlast : i + -50 + ((m.log2 + 52 : Nat) : Int) - (52 : Nat) ≤ max (i + -50 + ((m.log2 + 52 : Nat) : Int) - (52 : Nat)) (-1074) := Int.le_max_left _ _
  have hup : max (i + -50 + ((m.log2 + 52 : Nat) : Int) - (52 : Nat)) (-1074) ≤ -33 := Int.max_le.2 ⟨by omega, by omega⟩
  generalize max (i + -50 + ((m.log2 + 52 : Nat) : Int) - (52 : Nat)) (-1074) = last at *
  have e0 : (i + -50 - last).toNat = 0 := by omega
  rw [e0, Nat.shiftLeft_zero]
  have hc := cut_le (m * 4503599627370496) m.log2 (last - (i + -50)).toNat hlt (by omega) (by omega)
  generalize Toward.even.cut false (m * 4503599627370496) (last - (i + -50)).toNat = kept at *
  have e1 : (last - -1074).toNat ≤ 1041 := by omega
  have e2 : (last - -1074).toNat * 4503599627370496 ≤ 1041 * 4503599627370496 := Nat.mul_le_mul_right _ e1
  omega

/-- The whole part of a word below that one fits an int. -/
theorem whole {r : Nat} (h : r < 1075 * 4503599627370496) : ∃ n : Nat, (double.read r).toInt .zero = some (n : Int) ∧ n < 9007199254740992 := by
  have hneg : (r / 9223372036854775808 % 2 == 1) = false := by simp; omega
  have hr : r % 9223372036854775808 = r := by omega
  have cutz : ∀ (n d : Nat), Toward.zero.cut false n d ≤ n := by
    intro n d
    unfold Toward.cut
    simp only [Bool.toNat_false, Nat.add_zero]
    exact Nat.div_le_self _ _
  unfold Format.read
  simp only [bin, inf, sw, hneg, hr, lp]
  split
  · refine ⟨Toward.zero.cut false (r <<< (-1074 : Int).toNat) (1074 : Int).toNat, ?_, ?_⟩
    · simp [Datum.toInt, Datum.integral, signed]
    · have := cutz (r <<< (-1074 : Int).toNat) (1074 : Int).toNat
      rw [show (-1074 : Int).toNat = 0 from rfl, Nat.shiftLeft_zero] at this ⊢
      omega
  · rw [if_pos (by omega)]
    have hi : (-1074 + ((r / 4503599627370496 - 1 : Nat) : Int)).toNat = 0 := by omega
    refine ⟨Toward.zero.cut false ((4503599627370496 + r % 4503599627370496) <<< (-1074 + ((r / 4503599627370496 - 1 : Nat) : Int)).toNat) (-(-1074 + ((r / 4503599627370496 - 1 : Nat) : Int))).toNat, ?_, ?_⟩
    · simp [Datum.toInt, Datum.integral, signed]
    · have := cutz ((4503599627370496 + r % 4503599627370496) <<< (-1074 + ((r / 4503599627370496 - 1 : Nat) : Int)).toNat) (-(-1074 + ((r / 4503599627370496 - 1 : Nat) : Int))).toNat
      rw [hi, Nat.shiftLeft_zero] at this ⊢
      omega

/-- A price times four. -/
theorem price_four {x : Nat} (h0 : double.order x 0 = some .gt) (h1 : double.order x 4687829947429945344 = some .lt ∨ double.order x 4687829947429945344 = some .eq) :
    ∃ (r n : Nat), double.mul x 4616189618054758400 = some r ∧ (double.read r).toInt .zero = some (n : Int) ∧ n < 9007199254740992 := by
  rcases above_zero h0 with hx | ⟨m, i, hx, hm⟩
  · exfalso
    unfold Format.order at h1
    rw [hx, read_top] at h1
    simp [Datum.order] at h1
  · have hw := within hx hm h1
    have hmul : double.mul x 4616189618054758400 = some (double.nearest false (m * 4503599627370496) (i + -50)) := by
      unfold Format.mul
      rw [hx, read_four]
      rfl
    obtain ⟨n, h2, h3⟩ := whole (near_le hm hw)
    exact ⟨_, n, hmul, h2, h3⟩
end Go.Proofs.Yteljmhgpffekgaa
