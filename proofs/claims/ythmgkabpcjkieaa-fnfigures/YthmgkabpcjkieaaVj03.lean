/-
  A price times four, in the bits of floats: it is a number, and its whole part fits an int; plain facts, no program.
-/
import Derived.Test.YthmgkabpcjkieaaVj02
import GoSem.Core.Float
namespace Go.Proofs.Ythmgkabpcjkieaa
open Go Ieee

theorem fb : double.fractionBits = 52 := rfl
theorem lp : double.leastPlace = -1074 := by decide
theorem bin : double.binade = 4503599627370496 := by decide
theorem inf : double.infRung = 9218868437227405312 := by decide
theorem sw : double.signWeight = 9223372036854775808 := by decide
/-- What a word that is a number stands for has at most 53 digits. -/
theorem read_mag {x : Nat} {s : Bool} {m : Nat} {i : Int} (h : double.read x = .number s m i) : m < 9007199254740992 := by
  unfold Format.read at h
  simp only [bin, inf, sw] at h
  split at h
  · simp only [Datum.number.injEq] at h; omega
  · split at h
    · simp only [Datum.number.injEq] at h; omega
    · split at h <;> cases h
theorem read_zero : double.read 0 = .number false 0 (-1074) := by decide
theorem read_top : double.read 4687829947429945344 = .number false 8589934592000000 (-35) := by decide
theorem read_four : double.read 4616189618054758400 = .number false 4503599627370496 (-50) := by decide
theorem signed_neg (m a : Nat) : signed true m a ≤ 0 := by
  show -((m <<< a : Nat) : Int) ≤ 0
  exact Int.neg_nonpos_of_nonneg (Int.natCast_nonneg _)
theorem above_zero {x : Nat} (h : double.order x 0 = some .gt) : double.read x = .infinity false ∨ ∃ m i, double.read x = .number false m i ∧ m ≠ 0 := by
  unfold Format.order at h
  rw [read_zero] at h
  cases hx : double.read x with
  | nan s f => rw [hx] at h; simp [Datum.order] at h
  | infinity s => cases s with
    | false => exact .inl rfl
    | true => rw [hx] at h; simp [Datum.order] at h
  | number s m i =>
    rw [hx] at h
    simp only [Datum.order, Option.some.injEq] at h
    have hz : ∀ b, signed false 0 b = 0 := fun b => by simp [signed]
    rw [hz] at h
    have hgt := Std.compare_eq_gt.1 h
    cases s with
    | false =>
      refine .inr ⟨m, i, rfl, fun e => ?_⟩
      subst e
      rw [hz] at hgt
      exact absurd hgt (by decide)
    | true =>
      exact absurd hgt (Int.not_lt.2 (signed_neg m _))
theorem log_le {m k : Nat} (hm : m ≠ 0) (h : m < 2 ^ k) : m.log2 < k := (Nat.log2_lt hm).2 h
theorem within {m : Nat} {i : Int} {x : Nat} (hx : double.read x = .number false m i) (hm : m ≠ 0) (h : double.order x 4687829947429945344 = some .lt ∨ double.order x 4687829947429945344 = some .eq) : i + m.log2 ≤ 17 := by
  have hmag := read_mag hx
  unfold Format.order at h
  rw [read_top, hx] at h
  simp only [Datum.order, Option.some.injEq] at h
  have hle : signed false m (i - min i (-35)).toNat ≤ signed false 8589934592000000 (-35 - min i (-35)).toNat := by
    rcases h with h | h
    · exact Int.le_of_lt (Std.compare_eq_lt.1 h)
    · exact Int.le_of_eq (Std.LawfulEqCmp.eq_of_compare h)
  by_cases hi : i < -35
  · have := log_le hm (show m < 2 ^ 53 by omega)
    omega
  · have e1 : min i (-35) = -35 := by omega
    rw [e1] at hle
    have e2 : ((-35 : Int) - -35).toNat = 0 := by decide
    rw [e2] at hle
    have hle' : (m <<< (i - -35).toNat : Nat) ≤ (8589934592000000 <<< 0 : Nat) := by
      have : ((m <<< (i - -35).toNat : Nat) : Int) ≤ ((8589934592000000 <<< 0 : Nat) : Int) := hle
      omega
    rw [Nat.shiftLeft_eq, Nat.shiftLeft_zero] at hle'
    have hlog : m.log2 + (i - -35).toNat < 53 := by
      have h1 : 2 ^ m.log2 ≤ m := Nat.log2_self_le hm
      have h2 : 2 ^ (m.log2 + (i - -35).toNat) ≤ m * 2 ^ (i - -35).toNat := by
        rw [Nat.pow_add]; exact Nat.mul_le_mul_right _ h1
      have h3 : 2 ^ (m.log2 + (i - -35).toNat) < 2 ^ 53 := by omega
      exact (Nat.pow_lt_pow_iff_right (by decide)).1 h3
    omega
theorem log_up {m : Nat} (hm : m ≠ 0) : (m * 4503599627370496).log2 = m.log2 + 52 := by
  have h := (Nat.log2_eq_iff hm).1 rfl
  refine (Nat.log2_eq_iff (by omega)).2 ?_
  rw [Nat.pow_add, show m.log2 + 52 + 1 = (m.log2 + 1) + 52 by omega, Nat.pow_add 2 (m.log2 + 1) 52, show (2 : Nat) ^ 52 = 4503599627370496 from rfl]
  exact ⟨Nat.mul_le_mul_right _ h.1, Nat.mul_lt_mul_of_pos_right h.2 (by decide)⟩
/-- A cut to the nearest of a number below 2^(p + 53), at least p digits dropped. -/
theorem cut_le (n p drop : Nat) (hn : n < 2 ^ (p + 53)) (hp : p ≤ drop) (hl : p ≤ n.log2 + 2) : Toward.even.cut false n drop ≤ 9007199254740993 := by
  unfold Toward.cut
  simp only
  have hg : 2 ^ p ≤ 1 <<< min drop (n.log2 + 2) := by
    rw [Nat.one_shiftLeft]
    exact Nat.pow_le_pow_right (by decide) (by omega)
  have hq : n / (1 <<< min drop (n.log2 + 2)) ≤ 9007199254740992 := by
    refine Nat.le_trans (Nat.div_le_div_left hg (Nat.two_pow_pos p)) ?_
    have : n / 2 ^ p < 2 ^ 53 := by
      rw [Nat.div_lt_iff_lt_mul (Nat.two_pow_pos p), ← Nat.pow_add, Nat.add_comm]
      exact hn
    omega
  have hb : ∀ b : Bool, b.toNat ≤ 1 := by decide
  have := hb (decide (1 <<< min drop (n.log2 + 2) < 2 * (n % 1 <<< min drop (n.log2 + 2))) || (1 <<< min drop (n.log2 + 2) == 2 * (n % 1 <<< min drop (n.log2 + 2)) && n / 1 <<< min drop (n.log2 + 2) % 2 == 1))
  omega
/-- Rounding a number of that size to a word gives a word below a known one. -/
theorem near_le {m : Nat} {i : Int} (hm : m ≠ 0) (hi : i + m.log2 ≤ 17) : double.nearest false (m * 4503599627370496) (i + -50) < 1075 * 4503599627370496 := by
  have hmag : ¬ m * 4503599627370496 = 0 := by omega
  have hlog := log_up hm
  have hlt : m * 4503599627370496 < 2 ^ (m.log2 + 53) := by
    have h := ((Nat.log2_eq_iff hm).1 rfl).2
    rw [show m.log2 + 53 = (m.log2 + 1) + 52 by omega, Nat.pow_add 2 (m.log2 + 1) 52, show (2 : Nat) ^ 52 = 4503599627370496 from rfl]
    exact Nat.mul_lt_mul_of_pos_right h (by decide)
  unfold Format.nearest
  rw [if_neg hmag]
  simp only [hlog, fb, lp, bin, inf, Format.word, Bool.false_eq_true, if_false]
  have hlast : i + -50 + ((m.log2 + 52 : Nat) : Int) - (52 : Nat) ≤ max (i + -50 + ((m.log2 + 52 : Nat) : Int) - (52 : Nat)) (-1074) := Int.le_max_left _ _
  have hup : max (i + -50 + ((m.log2 + 52 : Nat) : Int) - (52 : Nat)) (-1074) ≤ -33 := Int.max_le.2 ⟨by omega, by omega⟩
  generalize max (i + -50 + ((m.log2 + 52 : Nat) : Int) - (52 : Nat)) (-1074) = last at *
  have e0 : (i + -50 - last).toNat = 0 := by omega
  rw [e0, Nat.shiftLeft_zero]
  have hc := cut_le (m * 4503599627370496) m.log2 (last - (i + -50)).toNat hlt (by omega) (by omega)
  generalize Toward.even.cut false (m * 4503599627370496) (last - (i + -50)).toNat = kept at *
  have e1 : (last - -1074).toNat ≤ 1041 := by omega
  have e2 : (last - -1074).toNat * 4503599627370496 ≤ 1041 * 4503599627370496 := Nat.mul_le_mul_right _ e1
  omega
/-- The whole part of a word below that one fits an int. -/
theorem whole {r : Nat} (h : r < 1075 * 4503599627370496) : ∃ n : Nat, (double.read r).toInt .zero = some (n : Int) ∧ n < 9007199254740992 := by
  have hneg : (r / 9223372036854775808 % 2 == 1) = false := by simp; omega
  have hr : r % 9223372036854775808 = r := by omega
  have cutz : ∀ (n d : Nat), Toward.zero.cut false n d ≤ n := by
    intro n d
    unfold Toward.cut
    simp only [Bool.toNat_false, Nat.add_zero]
    exact Nat.div_le_self _ _
  unfold Format.read
  simp only [bin, inf, sw, hneg, hr, lp]
  split
  · refine ⟨Toward.zero.cut false (r <<< (-1074 : Int).toNat) (1074 : Int).toNat, ?_, ?_⟩
    · simp [Datum.toInt, Datum.integral, signed]
    · have := cutz (r <<< (-1074 : Int).toNat) (1074 : Int).toNat
      rw [show (-1074 : Int).toNat = 0 from rfl, Nat.shiftLeft_zero] at this ⊢
      omega
  · rw [if_pos (by omega)]
    have hi : (-1074 + ((r / 4503599627370496 - 1 : Nat) : Int)).toNat = 0 := by omega
    refine ⟨Toward.zero.cut false ((4503599627370496 + r % 4503599627370496) <<< (-1074 + ((r / 4503599627370496 - 1 : Nat) : Int)).toNat) (-(-1074 + ((r / 4503599627370496 - 1 : Nat) : Int))).toNat, ?_, ?_⟩
    · simp [Datum.toInt, Datum.integral, signed]
    · have := cutz ((4503599627370496 + r % 4503599627370496) <<< (-1074 + ((r / 4503599627370496 - 1 : Nat) : Int)).toNat) (-(-1074 + ((r / 4503599627370496 - 1 : Nat) : Int))).toNat
      rw [hi, Nat.shiftLeft_zero] at this ⊢
      omega
/-- A price times four. -/
theorem price_four {x : Nat} (h0 : double.order x 0 = some .gt) (h1 : double.order x 4687829947429945344 = some .lt ∨ double.order x 4687829947429945344 = some .eq) :
    ∃ (r n : Nat), double.mul x 4616189618054758400 = some r ∧ (double.read r).toInt .zero = some (n : Int) ∧ n < 9007199254740992 := by
  rcases above_zero h0 with hx | ⟨m, i, hx, hm⟩
  · exfalso
    unfold Format.order at h1
    rw [hx, read_top] at h1
    simp [Datum.order] at h1
  · have hw := within hx hm h1
    have hmul : double.mul x 4616189618054758400 = some (double.nearest false (m * 4503599627370496) (i + -50)) := by
      unfold Format.mul
      rw [hx, read_four]
      rfl
    obtain ⟨n, h2, h3⟩ := whole (near_le hm hw)
    exact ⟨_, n, hmul, h2, h3⟩
end Go.Proofs.Ythmgkabpcjkieaa
namespace Go.Proofs.Ythmgkabpcjkieaa
open Go.RowKit
set_option linter.unusedVariables false

/-- A price in quarters: the product, its whole part, whether it is a price, and its ticks. -/
def tkR (x : Nat) : Nat := (FloatKind.f64.format.mul x 4616189618054758400).getD 0
def tkN (x : Nat) : Int := ((FloatKind.f64.decode (tkR x)).toInt .zero).getD 0
def tkOk (x : Nat) : Bool := (FloatKind.f64.format.order x 0 == some Ordering.gt) && ((FloatKind.f64.format.order x 4687829947429945344 == some Ordering.lt) || (FloatKind.f64.format.order x 4687829947429945344 == some Ordering.eq)) &&
  (FloatKind.f64.format.order (floatOfInt .f64 (tkN x)) (tkR x) == some Ordering.eq)
def tk (x : Nat) : Int := if tkOk x = true then tkN x else 0
end Go.Proofs.Ythmgkabpcjkieaa
namespace Go.Proofs.Ythmgkabpcjkieaa
open Go.RowKit

/-- A price that is one is within the ticks' bounds. -/
def PrW (p : Nat) : Prop := tkOk p = true → 1 ≤ tk p ∧ tk p ≤ 1000000
end Go.Proofs.Ythmgkabpcjkieaa
namespace Go.Proofs.Ythmgkabpcjkieaa
open Go Ieee

theorem d_bin : double.binade = 4503599627370496 := by decide
theorem d_inf : double.infRung = 9218868437227405312 := by decide
theorem d_sw : double.signWeight = 9223372036854775808 := by decide
theorem d_lp : double.leastPlace = -1074 := by decide
theorem nan_iff (x : Nat) : nanB x = true ↔ (double.read x).isNaN = true := by
  constructor
  · intro h
    by_cases hn : (double.read x).isNaN = true
    · exact hn
    · have := datum_self _ hn
      have e : FloatKind.f64.format.order x x = some Ordering.eq := this
      simp [nanB, e] at h
  · intro h
    cases hx : double.read x with
    | nan s f =>
      have e : FloatKind.f64.format.order x x = none := by
        show (double.read x).order (double.read x) = none
        rw [hx]; rfl
      simp [nanB, e]
    | infinity s => rw [hx] at h; simp [Datum.isNaN] at h
    | number s m i => rw [hx] at h; simp [Datum.isNaN] at h
theorem nan_rung (x : Nat) : nanB x = true ↔ 9218868437227405312 < x % 9223372036854775808 := by
  rw [nan_iff]
  unfold Format.read
  simp only [d_bin, d_inf, d_sw, d_lp]
  split
  · simp [Datum.isNaN]; omega
  · split
    · simp [Datum.isNaN]; omega
    · split
      · simp [Datum.isNaN]; omega
      · simp [Datum.isNaN]; omega
/-- The word of a NaN that an operation draws. -/
theorem nan_drawn (t : Nat) : nanB ((t % 2) * 2 ^ 63 + 0x7ff0000000000000 + 1 + (t / 2) % (2 ^ 52 - 1)) = true := by
  rw [nan_rung]
  have h1 : t % 2 < 2 := Nat.mod_lt _ (by decide)
  have h2 : (t / 2) % (2 ^ 52 - 1) < 2 ^ 52 - 1 := Nat.mod_lt _ (by decide)
  rw [show (2 : Nat) ^ 63 = 9223372036854775808 from rfl]
  rw [show (2 : Nat) ^ 52 - 1 = 4503599627370495 from rfl] at *
  generalize (t / 2) % 4503599627370495 = b at *
  generalize t % 2 = a at *
  rcases (show a = 0 ∨ a = 1 by omega) with rfl | rfl <;> omega
theorem sum_nanL (d e : Datum) (h : d.isNaN = true) : d.sum e = none := by
  cases d <;> simp [Datum.isNaN] at h
  cases e <;> rfl
theorem sum_nanR (d e : Datum) (h : e.isNaN = true) : d.sum e = none := by
  cases e <;> simp [Datum.isNaN] at h
  cases d <;> rfl
/-- A word's place among all: its sign before its rung. -/
def keyF (x : Nat) : Int := if x / 9223372036854775808 % 2 = 1 then -((x % 9223372036854775808 : Nat) : Int) else ((x % 9223372036854775808 : Nat) : Int)
/-- What a rung is worth, in units of the least place. -/
def rungV (r : Nat) : Nat := if r < 4503599627370496 then r else (4503599627370496 + r % 4503599627370496) * 2 ^ (r / 4503599627370496 - 1)
theorem rungV_step (r : Nat) : rungV r < rungV (r + 1) := by
  unfold rungV
  by_cases h1 : r + 1 < 4503599627370496
  · rw [if_pos (by omega), if_pos h1]; omega
  · rw [if_neg h1]
    by_cases h2 : r < 4503599627370496
    · have e : r + 1 = 4503599627370496 := by omega
      rw [if_pos h2, e]; simp; omega
    · rw [if_neg h2]
      by_cases h3 : (r + 1) % 4503599627370496 = 0
      · have e1 : (r + 1) / 4503599627370496 - 1 = (r / 4503599627370496 - 1) + 1 := by omega
        have e2 : r % 4503599627370496 = 4503599627370495 := by omega
        rw [h3, e1, e2, Nat.pow_succ]
        have := Nat.two_pow_pos (r / 4503599627370496 - 1)
        generalize 2 ^ (r / 4503599627370496 - 1) = p at *
        omega
      · have e1 : (r + 1) / 4503599627370496 = r / 4503599627370496 := by omega
        have e2 : (r + 1) % 4503599627370496 = r % 4503599627370496 + 1 := by omega
        rw [e1, e2]
        exact Nat.mul_lt_mul_of_pos_right (by omega) (Nat.two_pow_pos _)
theorem rungV_lt {a b : Nat} (h : a < b) : rungV a < rungV b := by
  induction b with
  | zero => omega
  | succ b ih =>
    by_cases e : a = b
    · subst e; exact rungV_step a
    · exact Nat.lt_trans (ih (by omega)) (rungV_step b)
theorem rungV_zero : rungV 0 = 0 := by decide
theorem compare_of {a b : Int} {c d : Int} (h1 : a < b ↔ c < d) (h2 : b < a ↔ d < c) : compare a b = compare c d := by
  rcases Int.lt_trichotomy a b with h | h | h
  · rw [Std.compare_eq_lt.2 h, Std.compare_eq_lt.2 (h1.1 h)]
  · subst h
    have e : c = d := by
      have p1 : ¬ c < d := fun k => absurd (h1.2 k) (Int.lt_irrefl _)
      have p2 : ¬ d < c := fun k => absurd (h2.2 k) (Int.lt_irrefl _)
      omega
    subst e
    exact (Std.ReflCmp.compare_self (cmp := compare) (a := a)).trans (Std.ReflCmp.compare_self (cmp := compare) (a := c)).symm
  · rw [Std.compare_eq_gt.2 h, Std.compare_eq_gt.2 (h2.1 h)]
/-- What a rung below that of no end reads as, and what it is worth. -/
theorem read_rungV (x : Nat) (h : x % 9223372036854775808 < 9218868437227405312) : ∃ m i, double.read x = .number (x / 9223372036854775808 % 2 == 1) m i ∧ -1074 ≤ i ∧ rungV (x % 9223372036854775808) = m * 2 ^ (i + 1074).toNat := by
  unfold Format.read rungV
  simp only [d_bin, d_inf, d_sw, d_lp]
  split
  · refine ⟨_, _, rfl, by omega, ?_⟩
    rw [show ((-1074 : Int) + 1074).toNat = 0 from rfl]; simp
  · refine ⟨_, _, rfl, by omega, ?_⟩
    rw [show (-1074 + ((x % 9223372036854775808 / 4503599627370496 - 1 : Nat) : Int) + 1074).toNat = x % 9223372036854775808 / 4503599627370496 - 1 by omega]
theorem signed_mul (s : Bool) (m a b : Nat) : signed s m a * (2 ^ b : Nat) = signed s m (a + b) := by
  cases s <;> simp [signed, Nat.shiftLeft_eq, Nat.pow_add, Int.mul_assoc, Int.neg_mul]
theorem order_key (x y : Nat) (hx : nanB x = false) (hy : nanB y = false) : double.order x y = some (compare (keyF x) (keyF y)) := by
  have hx' : x % 9223372036854775808 ≤ 9218868437227405312 := by
    have := mt (nan_rung x).2 (by rw [hx]; decide)
    omega
  have hy' : y % 9223372036854775808 ≤ 9218868437227405312 := by
    have := mt (nan_rung y).2 (by rw [hy]; decide)
    omega
  have hinf : ∀ z, z % 9223372036854775808 = 9218868437227405312 → double.read z = .infinity (z / 9223372036854775808 % 2 == 1) := by
    intro z hz
    unfold Format.read
    simp only [d_bin, d_inf, d_sw, d_lp]
    rw [if_neg (by omega), if_neg (by omega), if_pos hz]
  unfold Format.order
  by_cases ix : x % 9223372036854775808 = 9218868437227405312
  · rw [hinf x ix]
    by_cases iy : y % 9223372036854775808 = 9218868437227405312
    · rw [hinf y iy]
      simp only [Datum.order, keyF, ix, iy]
      have hb : ∀ n : Nat, (n % 2 == 1) = decide (n % 2 = 1) := fun n => by rw [Bool.eq_iff_iff]; simp
      rw [hb, hb]
      by_cases sx : x / 9223372036854775808 % 2 = 1 <;> by_cases sy : y / 9223372036854775808 % 2 = 1 <;> simp only [sx, sy, decide_true, decide_false, if_true, if_false] <;> decide
    · obtain ⟨m, i, hr, _⟩ := read_rungV y (by omega)
      rw [hr]
      simp only [Datum.order, keyF, ix]
      by_cases sx : x / 9223372036854775808 % 2 = 1
      · simp only [sx, beq_self_eq_true, if_true]
        rw [Std.compare_eq_lt.2 (by split <;> omega)]
      · simp only [beq_iff_eq, sx, if_false]
        rw [Std.compare_eq_gt.2 (by split <;> omega)]
  · obtain ⟨m, i, hr, hi, hv⟩ := read_rungV x (by omega)
    rw [hr]
    by_cases iy : y % 9223372036854775808 = 9218868437227405312
    · rw [hinf y iy]
      simp only [Datum.order, keyF, iy]
      by_cases sy : y / 9223372036854775808 % 2 = 1
      · simp only [sy, beq_self_eq_true, if_true]
        rw [Std.compare_eq_gt.2 (by split <;> omega)]
      · simp only [beq_iff_eq, sy, if_false]
        rw [Std.compare_eq_lt.2 (by split <;> omega)]
    · obtain ⟨n, j, hq, hj, hu⟩ := read_rungV y (by omega)
      rw [hq]
      simp only [Datum.order]
      congr 1
      have hb : -1074 ≤ min i j := by omega
      have hbi : min i j ≤ i := Int.min_le_left _ _
      have hbj : min i j ≤ j := Int.min_le_right _ _
      generalize min i j = base at *
      have hp : (0 : Int) < ((2 ^ (base + 1074).toNat : Nat) : Int) := by have := Nat.two_pow_pos (base + 1074).toNat; omega
      have e1 := signed_mul (x / 9223372036854775808 % 2 == 1) m (i - base).toNat (base + 1074).toNat
      have e2 := signed_mul (y / 9223372036854775808 % 2 == 1) n (j - base).toNat (base + 1074).toNat
      rw [show (i - base).toNat + (base + 1074).toNat = (i + 1074).toNat by omega] at e1
      rw [show (j - base).toNat + (base + 1074).toNat = (j + 1074).toNat by omega] at e2
      have v1 : signed (x / 9223372036854775808 % 2 == 1) m (i + 1074).toNat = if x / 9223372036854775808 % 2 = 1 then -(rungV (x % 9223372036854775808) : Int) else (rungV (x % 9223372036854775808) : Int) := by
        rw [hv]; simp [signed, Nat.shiftLeft_eq]
      have v2 : signed (y / 9223372036854775808 % 2 == 1) n (j + 1074).toNat = if y / 9223372036854775808 % 2 = 1 then -(rungV (y % 9223372036854775808) : Int) else (rungV (y % 9223372036854775808) : Int) := by
        rw [hu]; simp [signed, Nat.shiftLeft_eq]
      have hm : ∀ a b : Int, (a < b ↔ a * ((2 ^ (base + 1074).toNat : Nat) : Int) < b * ((2 ^ (base + 1074).toNat : Nat) : Int)) := fun a b => ⟨fun h => Int.mul_lt_mul_of_pos_right h hp, fun h => Int.lt_of_mul_lt_mul_right h (Int.le_of_lt hp)⟩
      have lt1 : ∀ a b, a < b → rungV a < rungV b := fun _ _ => rungV_lt
      have key : (if x / 9223372036854775808 % 2 = 1 then -(rungV (x % 9223372036854775808) : Int) else (rungV (x % 9223372036854775808) : Int)) < (if y / 9223372036854775808 % 2 = 1 then -(rungV (y % 9223372036854775808) : Int) else (rungV (y % 9223372036854775808) : Int)) ↔ keyF x < keyF y := by
        unfold keyF
        generalize x % 9223372036854775808 = a
        generalize y % 9223372036854775808 = b
        have h1 := lt1 a b
        have h2 := lt1 b a
        have h3 := lt1 0 a
        have h4 := lt1 0 b
        rw [rungV_zero] at h3 h4
        have h5 : a = b → rungV a = rungV b := fun e => by rw [e]
        have h6 : a = 0 → rungV a = 0 := fun e => by rw [e, rungV_zero]
        have h7 : b = 0 → rungV b = 0 := fun e => by rw [e, rungV_zero]
        split <;> split <;> omega
      have key2 : (if y / 9223372036854775808 % 2 = 1 then -(rungV (y % 9223372036854775808) : Int) else (rungV (y % 9223372036854775808) : Int)) < (if x / 9223372036854775808 % 2 = 1 then -(rungV (x % 9223372036854775808) : Int) else (rungV (x % 9223372036854775808) : Int)) ↔ keyF y < keyF x := by
        unfold keyF
        generalize x % 9223372036854775808 = a
        generalize y % 9223372036854775808 = b
        have h1 := lt1 a b
        have h2 := lt1 b a
        have h3 := lt1 0 a
        have h4 := lt1 0 b
        rw [rungV_zero] at h3 h4
        have h5 : a = b → rungV a = rungV b := fun e => by rw [e]
        have h6 : a = 0 → rungV a = 0 := fun e => by rw [e, rungV_zero]
        have h7 : b = 0 → rungV b = 0 := fun e => by rw [e, rungV_zero]
        split <;> split <;> omega
      rw [← v1, ← v2, ← e1, ← e2, ← hm] at key
      rw [← v1, ← v2, ← e1, ← e2, ← hm] at key2
      exact compare_of key key2
end Go.Proofs.Ythmgkabpcjkieaa
