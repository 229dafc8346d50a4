/-
  Floats as words: which are no numbers, how two stand to each other by their words, what a float less itself is; plain facts, no program.
-/
import Derived.Test.YteljmhgpffekgaaFj10
namespace Go.Proofs.Yteljmhgpffekgaa
open Go Ieee

theorem d_bin : double.binade = 4503599627370496 := by decide
theorem d_inf : double.infRung = 9218868437227405312 := by decide
theorem d_sw : double.signWeight = 9223372036854775808 := by decide
theorem d_lp : double.leastPlace = -1074 := by decide

theorem nan_iff (x : Nat) : nanB x = true ↔ (double.read x).isNaN = true := by
  constructor
  · intro h
    by_cases hn : (double.read x).isNaN = true
    · exact hn
    · have := datum_self _ hn
      have e : FloatKind.f64.format.order x x = some Ordering.eq := this
      simp [nanB, e] at h
  · intro h
    cases hx : double.read x with
    | nan s f =>
      have e : FloatKind.f64.format.order x x = none := by
        show (double.read x).order (double.read x) = none
        rw [hx]; rfl
      simp [nanB, e]
    | infinity s => rw [hx] at h; simp [Datum.isNaN] at h
    | number s m i => rw [hx] at h; simp [Datum.isNaN] at h
theorem nan_rung (x : Nat) : nanB x = true ↔ 9218868437227405312 < x % 9223372036854775808 := by
  rw [nan_iff]
  unfold Format.read
  simp only [d_bin, d_inf, d_sw, d_lp]
  split
  · simp [Datum.isNaN]; omega
  · split
    · simp [Datum.isNaN]; omega
    · split
      · simp [Datum.isNaN]; omega
      · simp [Datum.isNaN]; omega
/-- The word of a NaN that an operation draws. -/
theorem nan_drawn (t : Nat) : nanB ((t % 2) * 2 ^ 63 + 0x7ff0000000000000 + 1 + (t / 2) % (2 ^ 52 - 1)) = true := by
  rw [nan_rung]
  have h1 : t % 2 < 2 := Nat.mod_lt _ (by decide)
  have h2 : (t / 2) % (2 ^ 52 - 1) < 2 ^ 52 - 1 := Nat.mod_lt _ (by decide)
  rw [show (2 : Nat) ^ 63 = 9223372036854775808 from rfl]
  rw [show (2 : Nat) ^ 52 - 1 = 4503599627370495 from rfl] at *
  generalize (t / 2) % 4503599627370495 = b at *
  generalize t % 2 = a at *
  rcases (show a = 0 ∨ a = 1 by omega) with rfl | rfl <;> omega
theorem sum_nanL (d e : Datum) (h : d.isNaN = true) : d.sum e = none := by
  cases d <;> simp [Datum.isNaN] at h
  cases e <;> rfl
theorem sum_nanR (d e : Datum) (h : e.isNaN = true) : d.sum e = none := by
  cases e <;> simp [Datum.isNaN] at h
  cases d <;> rfl
theorem add_nan (x y : Nat) (h : nanB x = true) : double.add x y = none := by
  unfold Format.add
  rw [sum_nanL _ _ ((nan_iff x).1 h)]; rfl
/-- A float less itself: none of a number that is none or has no end, else nought. -/
theorem sub_self (x : Nat) (h : x % 9223372036854775808 < 9218868437227405312) : double.sub x x = some 0 := by
  have hr : ∃ s m i, double.read x = .number s m i := by
    unfold Format.read
    simp only [d_bin, d_inf, d_sw, d_lp]
    split
    · exact ⟨_, _, _, rfl⟩
    · exact ⟨_, _, _, rfl⟩
  obtain ⟨s, m, i, hx⟩ := hr
  unfold Format.sub
  rw [hx]
  have e : signed s m (i - min i i).toNat + signed (!s) m (i - min i i).toNat = 0 := by
    cases s <;> simp [signed] <;> omega
  simp only [Datum.opposite, Datum.sum, e]
  cases s <;> simp [Format.write, Format.nearest, Format.word]
theorem sub_inf (x : Nat) (h : 9218868437227405312 ≤ x % 9223372036854775808) : double.sub x x = none := by
  unfold Format.sub Format.read
  simp only [d_bin, d_inf, d_sw, d_lp]
  rw [if_neg (by omega), if_neg (by omega)]
  split
  · simp only [Datum.opposite, Datum.sum]
    generalize (x / 9223372036854775808 % 2 == 1) = s
    cases s <;> simp
  · rfl

/-- A word's place among all: its sign before its rung. -/
def keyF (x : Nat) : Int := if x / 9223372036854775808 % 2 = 1 then -((x % 9223372036854775808 : Nat) : Int) else ((x % 9223372036854775808 : Nat) : Int)
/-- What a rung is worth, in units of the least place. -/
def rungV (r : Nat) : Nat := if r < 4503599627370496 then r else (4503599627370496 + r % 4503599627370496) * 2 ^ (r / 4503599627370496 - 1)
theorem rungV_step (r : Nat) : rungV r < rungV (r + 1) := by
  unfold rungV
  by_cases h1 : r + 1 < 4503599627370496
  · rw [if_pos (by omega), if_pos h1]; omega
  · rw [if_neg h1]
    by_cases h2 : r < 4503599627370496
    · have e : r + 1 = 4503599627370496 := by omega
      rw [if_pos h2, e]; simp; omega
    · rw [if_neg h2]
      by_cases h3 : (r + 1) % 4503599627370496 = 0
      · have e1 : (r + 1) / 4503599627370496 - 1 = (r / 4503599627370496 - 1) + 1 := by omega
        have e2 : r % 4503599627370496 = 4503599627370495 := by omega
        rw [h3, e1, e2, Nat.pow_succ]
        have := Nat.two_pow_pos (r / 4503599627370496 - 1)
        generalize 2 ^ (r / 4503599627370496 - 1) = p at *
        omega
      · have e1 : (r + 1) / 4503599627370496 = r / 4503599627370496 := by omega
        have e2 : (r + 1) % 4503599627370496 = r % 4503599627370496 + 1 := by omega
        rw [e1, e2]
        exact Nat.mul_lt_mul_of_pos_right (by omega) (Nat.two_pow_pos _)
theorem rungV_lt {a b : Nat} (h : a < b) : rungV a < rungV b := by
  induction b with
  | zero => omega
  | succ b ih =>
    by_cases e : a = b
    · subst e; exact rungV_step a
    · exact Nat.lt_trans (ih (by omega)) (rungV_step b)
theorem rungV_zero : rungV 0 = 0 := by decide
theorem compare_of {a b : Int} {c d : Int} (h1 : a < b ↔ c < d) (h2 : b < a ↔ d < c) : compare a b = compare c d := by
  rcases Int.lt_trichotomy a b with h | h | h
  · rw [Std.compare_eq_lt.2 h, Std.compare_eq_lt.2 (h1.1 h)]
  · subst h
    have e : c = d := by
      have p1 : ¬ c < d := fun k => absurd (h1.2 k) (Int.lt_irrefl _)
      have p2 : ¬ d < c := fun k => absurd (h2.2 k) (Int.lt_irrefl _)
      omega
    subst e
    exact (Std.ReflCmp.compare_self (cmp := compare) (a := a)).trans (Std.ReflCmp.compare_self (cmp := compare) (a := c)).symm
  · rw [Std.compare_eq_gt.2 h, Std.compare_eq_gt.2 (h2.1 h)]
/-- What a rung below that of no end reads as, and what it is worth. -/
theorem read_rungV (x : Nat) (h : x % 9223372036854775808 < 9218868437227405312) : ∃ m i, double.read x = .number (x / 9223372036854775808 % 2 == 1) m i ∧ -1074 ≤ i ∧ rungV (x % 9223372036854775808) = m * 2 ^ (i + 1074).toNat := by
  unfold Format.read rungV
  simp only [d_bin, d_inf, d_sw, d_lp]
  split
  · refine ⟨_, _, rfl, by omega, ?_⟩
    rw [show ((-1074 : Int) + 1074).toNat = 0 from rfl]; simp
  · refine ⟨_, _, rfl, by omega, ?_⟩
    rw [show (-1074 + ((x % 9223372036854775808 / 4503599627370496 - 1 : Nat) : Int) + 1074).toNat = x % 9223372036854775808 / 4503599627370496 - 1 by omega]
theorem signed_mul (s : Bool) (m a b : Nat) : signed s m a * (2 ^ b : Nat) = signed s m (a + b) := by
  cases s <;> simp [signed, Nat.shiftLeft_eq, Nat.pow_add, Int.mul_assoc, Int.neg_mul]
theorem order_key (x y : Nat) (hx : nanB x = false) (hy : nanB y = false) : double.order x y = some (compare (keyF x) (keyF y)) := by
  have hx' : x % 9223372036854775808 ≤ 9218868437227405312 := by
    have := mt (nan_rung x).2 (by rw [hx]; decide)
    omega
  have hy' : y % 9223372036854775808 ≤ 9218868437227405312 := by
    have := mt (nan_rung y).2 (by rw [hy]; decide)
    omega
  have hinf : ∀ z, z % 9223372036854775808 = 9218868437227405312 → double.read z = .infinity (z / 9223372036854775808 % 2 == 1) := by
    intro z hz
    unfold Format.read
    simp only [d_bin, d_inf, d_sw, d_lp]
    rw [if_neg (by omega), if_neg (by omega), if_pos hz]
  unfold Format.order
  by_cases ix : x % 9223372036854775808 = 9218868437227405312
  · rw [hinf x ix]
    by_cases iy : y % 9223372036854775808 = 9218868437227405312
    · rw [hinf y iy]
      simp only [Datum.order, keyF, ix, iy]
      have hb : ∀ n : Nat, (n % 2 == 1) = decide (n % 2 = 1) := fun n => by rw [Bool.eq_iff_iff]; simp
      rw [hb, hb]
      by_cases sx : x / 9223372036854775808 % 2 = 1 <;> by_cases sy : y / 9223372036854775808 % 2 = 1 <;> simp only [sx, sy, decide_true, decide_false, if_true, if_false] <;> decide
    · obtain ⟨m, i, hr, _⟩ := read_rungV y (by omega)
      rw [hr]
      simp only [Datum.order, keyF, ix]
      by_cases sx : x / 9223372036854775808 % 2 = 1
      · simp only [sx, beq_self_eq_true, if_true]
        rw [Std.compare_eq_lt.2 (by split <;> omega)]
      · simp only [beq_iff_eq, sx, if_false]
        rw [Std.compare_eq_gt.2 (by split <;> omega)]
  · obtain ⟨m, i, hr, hi, hv⟩ := read_rungV x (by omega)
    rw [hr]
    by_cases iy : y % 9223372036854775808 = 9218868437227405312
    · rw [hinf y iy]
      simp only [Datum.order, keyF, iy]
      by_cases sy : y / 9223372036854775808 % 2 = 1
      · simp only [sy, beq_self_eq_true, if_true]
        rw [Std.compare_eq_gt.2 (by split <;> omega)]
      · simp only [beq_iff_eq, sy, if_false]
        rw [Std.compare_eq_lt.2 (by split <;> omega)]
    · obtain ⟨n, j, hq, hj, hu⟩ := read_rungV y (by omega)
      rw [hq]
      simp only [Datum.order]
      congr 1
      have hb : -1074 ≤ min i j := by omega
      have hbi : min i j ≤ i := Int.min_le_left _ _
      have hbj : min i j ≤ j := Int.min_le_right _ _
      generalize min i j = base at *
      have hp : (0 : Int) < ((2 ^ (base + 1074).toNat : Nat) : Int) := by have := Nat.two_pow_pos (base + 1074).toNat; omega
      have e1 := signed_mul (x / 9223372036854775808 % 2 == 1) m (i - base).toNat (base + 1074).toNat
      have e2 := signed_mul (y / 9223372036854775808 % 2 == 1) n (j - base).toNat (base + 1074).toNat
      rw [show (i - base).toNat + (base + 1074).toNat = (i + 1074).toNat by omega] at e1
      rw [show (j - base).toNat + (base + 1074).toNat = (j + 1074).toNat by omega] at e2
      have v1 : signed (x / 9223372036854775808 % 2 == 1) m (i + 1074).toNat = if x / 9223372036854775808 % 2 = 1 then -(rungV (x % 9223372036854775808) : Int) else (rungV (x % 9223372036854775808) : Int) := by
        rw [hv]; simp [signed, Nat.shiftLeft_eq]
      have v2 : signed (y / 9223372036854775808 % 2 == 1) n (j + 1074).toNat = if y / 9223372036854775808 % 2 = 1 then -(rungV (y % 9223372036854775808) : Int) else (rungV (y % 9223372036854775808) : Int) := by
        rw [hu]; simp [signed, Nat.shiftLeft_eq]
      have hm : ∀ a b : Int, (a < b ↔ a * ((2 ^ (base + 1074).toNat : Nat) : Int) < b * ((2 ^ (base + 1074).toNat : Nat) : Int)) := fun a b => ⟨fun h => Int.mul_lt_mul_of_pos_right h hp, fun h => Int.lt_of_mul_lt_mul_right h (Int.le_of_lt hp)⟩
      have lt1 : ∀ a b, a < b → rungV a < rungV b := fun _ _ => rungV_lt
      have key : (if x / 9223372036854775808 % 2 = 1 then -(rungV (x % 9223372036854775808) : Int) else (rungV (x % 9223372036854775808) : Int)) < (if y / 9223372036854775808 % 2 = 1 then -(rungV (y % 9223372036854775808) : Int) else (rungV (y % 9223372036854775808) : Int)) ↔ keyF x < keyF y := by
        unfold keyF
        generalize x % 9223372036854775808 = a
        generalize y % 9223372036854775808 = b
        have h1 := lt1 a b
        have h2 := lt1 b a
        have h3 := lt1 0 a
        have h4 := lt1 0 b
        rw [rungV_zero] at h3 h4
        have h5 : a = b → rungV a = rungV b := fun e => by rw [e]
        have h6 : a = 0 → rungV a = 0 := fun e => by rw [e, rungV_zero]
        have h7 : b = 0 → rungV b = 0 := fun e => by rw [e, rungV_zero]
        split <;> split <;> omega
      have key2 : (if y / 9223372036854775808 % 2 = 1 then -(rungV (y % 9223372036854775808) : Int) else (rungV (y % 9223372036854775808) : Int)) < (if x / 9223372036854775808 % 2 = 1 then -(rungV (x % 9223372036854775808) : Int) else (rungV (x % 9223372036854775808) : Int)) ↔ keyF y < keyF x := by
        unfold keyF
        generalize x % 9223372036854775808 = a
        generalize y % 9223372036854775808 = b
        have h1 := lt1 a b
        have h2 := lt1 b a
        have h3 := lt1 0 a
        have h4 := lt1 0 b
        rw [rungV_zero] at h3 h4
        have h5 : a = b → rungV a = rungV b := fun e => by rw [e]
        have h6 : a = 0 → rungV a = 0 := fun e => by rw [e, rungV_zero]
        have h7 : b = 0 → rungV b = 0 := fun e => by rw [e, rungV_zero]
        split <;> split <;> omega
      rw [← v1, ← v2, ← e1, ← e2, ← hm] at key
      rw [← v1, ← v2, ← e1, ← e2, ← hm] at key2
      exact compare_of key key2

/-- How a float ranks by its bits, -0 ahead of +0. -/
def rankF (x : Nat) : Nat := if 9223372036854775808 ≤ x then 18446744073709551615 - x else x + 9223372036854775808
/-- The model's: a is less than b. -/
def lessF (a b : Nat) : Bool := if FloatKind.f64.format.order a 0 == some Ordering.eq && FloatKind.f64.format.order b 0 == some Ordering.eq then decide (b < a) else FloatKind.f64.format.order a b == some Ordering.lt
theorem less_rank (a b : Nat) (ha : a < 18446744073709551616) (hb : b < 18446744073709551616) (na : nanB a = false) (nb : nanB b = false) : lessF a b = decide (rankF a < rankF b) := by
  have n0 : nanB 0 = false := by decide
  have o1 : FloatKind.f64.format.order a 0 = _ := order_key a 0 na n0
  have o2 : FloatKind.f64.format.order b 0 = _ := order_key b 0 nb n0
  have o3 : FloatKind.f64.format.order a b = _ := order_key a b na nb
  have k0 : keyF 0 = 0 := by decide
  have ra : a % 9223372036854775808 ≤ 9218868437227405312 := by
    have := mt (nan_rung a).2 (by rw [na]; decide)
    omega
  have rb : b % 9223372036854775808 ≤ 9218868437227405312 := by
    have := mt (nan_rung b).2 (by rw [nb]; decide)
    omega
  unfold lessF
  rw [o1, o2, o3, k0]
  have q1 : (some (compare (keyF a) 0) == some Ordering.eq) = decide (keyF a = 0) := by
    rw [Bool.eq_iff_iff]; simp [Std.LawfulEqCmp.compare_eq_iff_eq]
  have q2 : (some (compare (keyF b) 0) == some Ordering.eq) = decide (keyF b = 0) := by
    rw [Bool.eq_iff_iff]; simp [Std.LawfulEqCmp.compare_eq_iff_eq]
  have q3 : (some (compare (keyF a) (keyF b)) == some Ordering.lt) = decide (keyF a < keyF b) := by
    rw [Bool.eq_iff_iff]; simp [Std.compare_eq_lt]
  rw [q1, q2, q3]
  have ka : keyF a = if 9223372036854775808 ≤ a then -((a - 9223372036854775808 : Nat) : Int) else (a : Int) := by
    unfold keyF; split <;> split <;> omega
  have kb : keyF b = if 9223372036854775808 ≤ b then -((b - 9223372036854775808 : Nat) : Int) else (b : Int) := by
    unfold keyF; split <;> split <;> omega
  rw [ka, kb]
  unfold rankF
  by_cases s1 : 9223372036854775808 ≤ a <;> by_cases s2 : 9223372036854775808 ≤ b <;> simp only [s1, s2, if_true, if_false]
  all_goals
    rw [Bool.eq_iff_iff]
    split <;> simp_all <;> omega
end Go.Proofs.Yteljmhgpffekgaa
