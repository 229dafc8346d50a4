/-
  Floats of whole numbers, and what their quotients and differences come to: plain facts, no program.
-/
import Derived.Test.YthmgkabpcjkieaaVj03
namespace Go.Proofs.Ythmgkabpcjkieaa
open Go Ieee

theorem word_key (neg : Bool) (r : Nat) (h : r ≤ 9218868437227405312) : double.word neg r % 9223372036854775808 = r ∧ (double.word neg r / 9223372036854775808 % 2 = 1 ↔ neg = true) := by
  unfold Format.word
  rw [d_sw]
  cases neg
  · simp; omega
  · simp; omega
theorem write_fits (d : Datum) (h : d.isNaN = false) : nanB (double.write d) = false := by
  have key : ∀ (neg : Bool) (r : Nat), r ≤ 9218868437227405312 → nanB (double.word neg r) = false := by
    intro neg r hr
    cases hn : nanB (double.word neg r)
    · rfl
    · rw [nan_rung, (word_key neg r hr).1] at hn; omega
  cases d with
  | nan s f => simp [Datum.isNaN] at h
  | infinity s => exact key s _ (by rw [d_inf]; exact Nat.le_refl _)
  | number s m i =>
    show nanB (double.nearest s m i) = false
    unfold Format.nearest
    split
    · exact key s 0 (by omega)
    · exact key s _ (by rw [d_inf]; exact Nat.min_le_right _ _)
theorem cut_none (neg : Bool) (n : Nat) : Toward.even.cut neg n 0 = n := by
  unfold Toward.cut
  simp [Nat.mod_one]
theorem cut_whole (neg : Bool) (n d : Nat) (h : n ≠ 0) : Toward.even.cut neg (n * 2 ^ d) d = n := by
  have hl : d ≤ (n * 2 ^ d).log2 := by
    rw [Nat.le_log2 (Nat.mul_ne_zero h (Nat.pos_iff_ne_zero.1 (Nat.two_pow_pos d)))]
    exact Nat.le_mul_of_pos_left _ (Nat.pos_of_ne_zero h)
  unfold Toward.cut
  rw [Nat.min_eq_left (by omega), Nat.shiftLeft_eq, Nat.one_mul]
  simp only [Nat.mul_div_cancel _ (Nat.two_pow_pos d), Nat.mul_mod_left]
  have := Nat.two_pow_pos d
  simp
theorem cut_most (neg : Bool) (n d : Nat) (h : n / 2 ^ d < 9007199254740992) : Toward.even.cut neg n d ≤ 9007199254740992 := by
  unfold Toward.cut
  have key : n / (1 <<< min d (n.log2 + 2)) < 9007199254740992 := by
    rw [Nat.shiftLeft_eq, Nat.one_mul]
    by_cases hd : d ≤ n.log2 + 2
    · rw [Nat.min_eq_left hd]; exact h
    · rw [Nat.min_eq_right (by omega), Nat.div_eq_of_lt]
      · omega
      · have : n < 2 ^ (n.log2 + 1) := Nat.lt_log2_self
        rw [Nat.pow_add_one] at this
        rw [Nat.pow_add]; omega
  simp only
  generalize n / (1 <<< min d (n.log2 + 2)) = a at key ⊢
  generalize (_ || _ : Bool) = b
  have : b.toNat ≤ 1 := Bool.toNat_le _
  omega
/-- The float of a whole number of at most 53 digits. -/
theorem read_int (n : Int) (h0 : n ≠ 0) (h1 : n.natAbs < 9007199254740992) :
    double.read (floatOfInt .f64 n) = .number (decide (n < 0)) (n.natAbs * 2 ^ (52 - n.natAbs.log2)) ((n.natAbs.log2 : Int) - 52) ∧ n.natAbs.log2 ≤ 52 ∧ (n.natAbs * 2 ^ (52 - n.natAbs.log2)).log2 = 52 := by
  have hz : n.natAbs ≠ 0 := by omega
  generalize hA : n.natAbs = A at hz h1 ⊢
  have hL : A.log2 ≤ 52 := by
    have := (Nat.log2_lt hz (k := 53)).2 (by omega)
    omega
  have hlo : 2 ^ A.log2 ≤ A := Nat.log2_self_le hz
  have hhi : A < 2 ^ (A.log2 + 1) := Nat.lt_log2_self
  have k1 : 4503599627370496 ≤ A * 2 ^ (52 - A.log2) := by
    have := Nat.mul_le_mul_right (2 ^ (52 - A.log2)) hlo
    rw [← Nat.pow_add, show A.log2 + (52 - A.log2) = 52 by omega] at this
    exact this
  have k2 : A * 2 ^ (52 - A.log2) < 9007199254740992 := by
    have := Nat.mul_lt_mul_of_pos_right hhi (Nat.two_pow_pos (52 - A.log2))
    rw [← Nat.pow_add, show A.log2 + 1 + (52 - A.log2) = 53 by omega] at this
    exact this
  have hlog : (A * 2 ^ (52 - A.log2)).log2 = 52 := by
    rw [Nat.log2_eq_iff (by omega)]
    exact ⟨k1, k2⟩
  refine ⟨?_, hL, hlog⟩
  have hw : floatOfInt .f64 n = double.word (decide (n < 0)) ((A.log2 + 1022) * 4503599627370496 + A * 2 ^ (52 - A.log2)) := by
    show double.nearest (decide (n < 0)) n.natAbs 0 = _
    rw [hA]
    unfold Format.nearest
    rw [if_neg hz]
    have e1 : max ((0 : Int) + (A.log2 : Nat) - (double.fractionBits : Nat)) double.leastPlace = (A.log2 : Int) - 52 := by
      rw [d_lp, show (double.fractionBits : Nat) = 52 from rfl]; omega
    simp only [e1]
    rw [show ((A.log2 : Int) - 52 - 0).toNat = 0 by omega, show (0 - ((A.log2 : Int) - 52)).toNat = 52 - A.log2 by omega, cut_none, Nat.shiftLeft_eq, d_lp, d_bin, d_inf, show ((A.log2 : Int) - 52 - -1074).toNat = A.log2 + 1022 by omega]
    rw [Nat.min_eq_left (by omega)]
  generalize A * 2 ^ (52 - A.log2) = K at *
  obtain ⟨e1, e2⟩ := word_key (decide (n < 0)) ((A.log2 + 1022) * 4503599627370496 + K) (by omega)
  rw [hw]
  generalize double.word (decide (n < 0)) ((A.log2 + 1022) * 4503599627370496 + K) = x at e1 e2 ⊢
  unfold Format.read
  simp only [d_bin, d_inf, d_sw, d_lp, e1]
  rw [if_neg (by omega), if_pos (by omega)]
  have e3 : (x / 9223372036854775808 % 2 == 1) = decide (n < 0) := by
    rw [Bool.eq_iff_iff]
    simp only [beq_iff_eq]
    exact e2
  rw [e3]
  congr 1
  · omega
  · omega
theorem int_zero : floatOfInt .f64 0 = 0 := by decide
theorem read_nought : double.read 0 = .number false 0 (-1074) := by decide
/-- A number of at most one has a rung of at most one's. -/
theorem near_one (neg : Bool) (M E : Nat) (p : Int) (hp : p = -(E : Int)) (h : M ≤ 2 ^ E) : ∃ r, double.nearest neg M p = double.word neg r ∧ r ≤ 4607182418800017408 := by
  unfold Format.nearest
  by_cases hz : M = 0
  · rw [if_pos hz]; exact ⟨0, rfl, by omega⟩
  rw [if_neg hz]
  have hlo : 2 ^ M.log2 ≤ M := Nat.log2_self_le hz
  have hhi : M < 2 ^ (M.log2 + 1) := Nat.lt_log2_self
  have hL : M.log2 ≤ E := (Nat.pow_le_pow_iff_right (by omega : 1 < 2)).1 (Nat.le_trans hlo h)
  refine ⟨_, rfl, Nat.le_trans (Nat.min_le_left _ _) ?_⟩
  rw [d_lp, d_bin, show (double.fractionBits : Nat) = 52 from rfl]
  subst hp
  by_cases he : M.log2 = E
  · obtain rfl : M = 2 ^ E := by rw [he] at hlo; omega
    rw [he]
    have e1 : max (-(E : Int) + (E : Nat) - (52 : Nat)) (-1074) = -52 := by omega
    rw [e1]
    by_cases h5 : 52 ≤ E
    · have : (2 : Nat) ^ E = 4503599627370496 * 2 ^ (E - 52) := by
        rw [show (4503599627370496 : Nat) = 2 ^ 52 from rfl, ← Nat.pow_add]; congr 1; omega
      rw [show (-(E : Int) - -52).toNat = 0 by omega, show ((-52 : Int) - -(E : Int)).toNat = E - 52 by omega, Nat.shiftLeft_zero, this, cut_whole _ _ _ (by omega)]
      show ((-52 : Int) - -1074).toNat * 4503599627370496 + 4503599627370496 ≤ _
      decide
    · have : (2 : Nat) ^ E <<< (52 - E) = 4503599627370496 := by
        rw [Nat.shiftLeft_eq, ← Nat.pow_add, show E + (52 - E) = 52 by omega]
      rw [show (-(E : Int) - -52).toNat = 52 - E by omega, show ((-52 : Int) - -(E : Int)).toNat = 0 by omega, cut_none, this]
      decide
  · have hE : M.log2 < E := by omega
    generalize hla : max (-(E : Int) + (M.log2 : Nat) - (52 : Nat)) (-1074) = last
    have l1 : last ≤ -53 := by omega
    have l2 : -(E : Int) + M.log2 - 52 ≤ last := by omega
    have key : Toward.even.cut neg (M <<< (-(E : Int) - last).toNat) (last - -(E : Int)).toNat ≤ 9007199254740992 := by
      refine cut_most _ _ _ ?_
      by_cases hc : -(E : Int) ≤ last
      · rw [show (-(E : Int) - last).toNat = 0 by omega, Nat.shiftLeft_zero]
        obtain ⟨d, hd⟩ : ∃ d : Nat, (last - -(E : Int)).toNat = d := ⟨_, rfl⟩
        rw [hd]
        rw [Nat.div_lt_iff_lt_mul (Nat.two_pow_pos d)]
        refine Nat.lt_of_lt_of_le hhi ?_
        rw [show (9007199254740992 : Nat) = 2 ^ 53 from rfl, ← Nat.pow_add]
        exact Nat.pow_le_pow_right (by omega) (by omega)
      · rw [show (last - -(E : Int)).toNat = 0 by omega, Nat.pow_zero, Nat.div_one, Nat.shiftLeft_eq]
        refine Nat.lt_of_lt_of_le (Nat.mul_lt_mul_of_pos_right hhi (Nat.two_pow_pos _)) ?_
        rw [show (9007199254740992 : Nat) = 2 ^ 53 from rfl, ← Nat.pow_add]
        exact Nat.pow_le_pow_right (by omega) (by omega)
    omega
theorem key_word (neg : Bool) (r : Nat) (h : r ≤ 4607182418800017408) : -4607182418800017408 ≤ keyF (double.word neg r) ∧ keyF (double.word neg r) ≤ 4607182418800017408 := by
  obtain ⟨e1, e2⟩ := word_key neg r (by omega)
  unfold keyF
  rw [e1]
  split <;> omega
/-- A whole number by one that is not less is within one. -/
theorem div_one (a b : Int) (hb : 0 < b) (hl : b < 9007199254740992) (hab : a.natAbs ≤ b.natAbs) : ∃ r, FloatKind.f64.format.div (floatOfInt .f64 a) (floatOfInt .f64 b) = some r ∧ nanB r = false ∧ -4607182418800017408 ≤ keyF r ∧ keyF r ≤ 4607182418800017408 := by
  obtain ⟨rb, hlb, lb⟩ := read_int b (by omega) (by omega)
  show ∃ r, ((double.read (floatOfInt .f64 a)).quotient 54 (double.read (floatOfInt .f64 b))).map double.write = some r ∧ _
  have nz : b.natAbs * 2 ^ (52 - b.natAbs.log2) ≠ 0 := fun h => by rw [h] at lb; cases lb
  by_cases ha : a = 0
  · subst ha
    rw [int_zero, read_nought, rb, Datum.quotient, if_neg nz]
    refine ⟨_, rfl, write_fits _ rfl, ?_⟩
    simp only [Nat.zero_shiftLeft, Nat.zero_div, Nat.zero_mod]
    rw [show decide (b < 0) = false by simp; omega]
    show -4607182418800017408 ≤ keyF (double.nearest _ 0 _) ∧ _
    have : ∀ neg p, double.nearest neg 0 p = double.word neg 0 := fun _ _ => rfl
    refine ⟨?_, ?_⟩
    · show _ ≤ keyF (double.nearest _ 0 _); rw [this]; exact (key_word _ 0 (by omega)).1
    · show keyF (double.nearest _ 0 _) ≤ _; rw [this]; exact (key_word _ 0 (by omega)).2
  · obtain ⟨ra, hla, la⟩ := read_int a ha (by omega)
    rw [ra, rb, Datum.quotient, if_neg nz, la, lb]
    refine ⟨_, rfl, write_fits _ rfl, ?_⟩
    have hAB : a.natAbs.log2 ≤ b.natAbs.log2 := by
      rw [Nat.le_log2 (by omega)]
      exact Nat.le_trans (Nat.log2_self_le (by omega)) hab
    have hcmp : a.natAbs * 2 ^ (52 - a.natAbs.log2) * 2 ^ 54 ≤ b.natAbs * 2 ^ (52 - b.natAbs.log2) * 2 ^ (54 + b.natAbs.log2 - a.natAbs.log2) := by
      have e : b.natAbs * 2 ^ (52 - b.natAbs.log2) * 2 ^ (54 + b.natAbs.log2 - a.natAbs.log2) = b.natAbs * 2 ^ (52 - a.natAbs.log2) * 2 ^ 54 := by
        rw [Nat.mul_assoc, ← Nat.pow_add, Nat.mul_assoc, ← Nat.pow_add]; congr 2; omega
      rw [e]
      exact Nat.mul_le_mul_right _ (Nat.mul_le_mul_right _ hab)
    generalize a.natAbs.log2 = La at *
    generalize b.natAbs.log2 = Lb at *
    generalize a.natAbs * 2 ^ (52 - La) = m at *
    generalize b.natAbs * 2 ^ (52 - Lb) = n at *
    have hM : 2 * (m <<< (54 + 52 - 52) / n) + (m <<< (54 + 52 - 52) % n != 0).toNat ≤ 2 ^ (55 + Lb - La) := by
      rw [Nat.shiftLeft_eq, show 54 + 52 - 52 = 54 from rfl]
      have eT : 2 ^ (55 + Lb - La) = 2 * 2 ^ (54 + Lb - La) := by rw [← Nat.pow_succ']; congr 1; omega
      rw [eT]
      generalize 2 ^ (54 + Lb - La) = T at *
      generalize m * 2 ^ 54 = D at *
      have hn : 0 < n := Nat.pos_of_ne_zero nz
      have hq : D / n ≤ T := Nat.div_le_of_le_mul hcmp
      by_cases hT : D / n = T
      · have h1 : n * (D / n) + D % n = D := Nat.div_add_mod D n
        rw [hT] at h1
        have h2 : D % n = 0 := by omega
        rw [hT, h2]; simp
      · have : (D % n != 0).toNat ≤ 1 := Bool.toNat_le _
        omega
    generalize 2 * (m <<< (54 + 52 - 52) / n) + (m <<< (54 + 52 - 52) % n != 0).toNat = M at hM
    obtain ⟨r, hr, hr1⟩ := near_one (decide (a < 0) ^^ decide (b < 0)) M (55 + Lb - La) ((La : Int) - 52 - ((Lb : Int) - 52) - ((54 + 52 - 52 : Nat) : Int) - 1) (by omega) hM
    show -4607182418800017408 ≤ keyF (double.nearest _ M _) ∧ keyF (double.nearest _ M _) ≤ _
    rw [hr]
    exact key_word _ r hr1
/-- A float by a whole number that is not nought is no NaN. -/
theorem div_fits (x : Nat) (b : Int) (hx : nanB x = false) (hb : b ≠ 0) (hl : b.natAbs < 9007199254740992) : ∃ r, FloatKind.f64.format.div x (floatOfInt .f64 b) = some r ∧ nanB r = false := by
  obtain ⟨rb, hlb, lb⟩ := read_int b hb hl
  have nz : b.natAbs * 2 ^ (52 - b.natAbs.log2) ≠ 0 := fun h => by rw [h] at lb; cases lb
  show ∃ r, ((double.read x).quotient 54 (double.read (floatOfInt .f64 b))).map double.write = some r ∧ _
  rw [rb]
  have hn : ¬ (double.read x).isNaN = true := fun h => by rw [(nan_iff x).2 h] at hx; cases hx
  cases hd : double.read x with
  | nan s f => rw [hd] at hn; simp [Datum.isNaN] at hn
  | infinity s => exact ⟨_, rfl, write_fits _ rfl⟩
  | number s m i => rw [Datum.quotient, if_neg nz]; exact ⟨_, rfl, write_fits _ rfl⟩
theorem read_word (a K : Nat) (h1 : 4503599627370496 ≤ K) (h2 : K < 9007199254740992) (ha : a ≤ 2000) : double.read (double.word false (a * 4503599627370496 + K)) = .number false K ((a : Int) - 1074) := by
  obtain ⟨e1, e2⟩ := word_key false (a * 4503599627370496 + K) (by omega)
  generalize double.word false (a * 4503599627370496 + K) = x at e1 e2 ⊢
  have e3 : (x / 9223372036854775808 % 2 == 1) = false := by
    rw [Bool.eq_false_iff]
    intro h
    have := e2.1 (by simpa using h)
    cases this
  unfold Format.read
  simp only [d_bin, d_inf, d_sw, d_lp, e1, e3]
  rw [if_neg (by omega), if_pos (by omega)]
  congr 1
  · omega
  · omega
theorem near_qtr (K L : Nat) (p : Int) (h1 : 4503599627370496 ≤ K) (h2 : K < 9007199254740992) (hL : L ≤ 52) (hp : p = (L : Int) - 57) : double.nearest false (K * 2 ^ 3) p = double.word false ((L + 1020) * 4503599627370496 + K) := by
  unfold Format.nearest
  rw [if_neg (by omega)]
  have e0 : (K * 2 ^ 3).log2 = 55 := by
    rw [Nat.log2_eq_iff (by omega)]; omega
  have e1 : max (p + ((K * 2 ^ 3).log2 : Nat) - (double.fractionBits : Nat)) double.leastPlace = (L : Int) - 54 := by
    rw [e0, d_lp, show (double.fractionBits : Nat) = 52 from rfl]; omega
  simp only [e1]
  rw [show (p - ((L : Int) - 54)).toNat = 0 by omega, show ((L : Int) - 54 - p).toNat = 3 by omega, Nat.shiftLeft_zero, cut_whole _ _ _ (by omega), d_lp, d_bin, d_inf, show ((L : Int) - 54 - -1074).toNat = L + 1020 by omega]
  rw [Nat.min_eq_left (by omega)]
theorem quot_qtr (K N : Nat) (hN : N = 4503599627370496) : 2 * (K <<< 54 / N) + (K <<< 54 % N != 0).toNat = K * 2 ^ 3 := by
  rw [hN, Nat.shiftLeft_eq]
  have a1 : K * 2 ^ 54 = 4503599627370496 * (K * 4) := by
    rw [show (2 : Nat) ^ 54 = 4503599627370496 * 4 from rfl, ← Nat.mul_assoc, Nat.mul_comm K, Nat.mul_assoc]
  rw [a1, Nat.mul_div_cancel_left _ (by decide), Nat.mul_mod_right]
  simp; omega
theorem quot_num (s t : Bool) (m n : Nat) (i j : Int) (hn : n ≠ 0) (hm : m.log2 = 52) (hl : n.log2 = 52) : (Datum.number s m i).quotient 54 (.number t n j) = some (.number (s ^^ t) (2 * (m <<< 54 / n) + (m <<< 54 % n != 0).toNat) (i - j - (54 : Nat) - 1)) := by
  rw [Datum.quotient, if_neg hn, hm, hl]
/-- A whole number by four. -/
theorem read_qtr (n : Int) (h0 : 0 < n) (h1 : n < 9007199254740992) : ∃ r, FloatKind.f64.format.div (floatOfInt .f64 n) 4616189618054758400 = some r ∧ double.read r = .number false (n.natAbs * 2 ^ (52 - n.natAbs.log2)) ((n.natAbs.log2 : Int) - 54) := by
  obtain ⟨rn, hln, ln⟩ := read_int n (by omega) (by omega)
  obtain ⟨N, hN, lN, h4⟩ : ∃ N : Nat, N = 4503599627370496 ∧ N.log2 = 52 ∧ double.read 4616189618054758400 = .number false N (-50) := ⟨4503599627370496, rfl, by rw [Nat.log2_eq_iff (by decide)]; decide, by decide⟩
  have hneg : decide (n < 0) = false := by simp; omega
  rw [hneg] at rn
  have hz : n.natAbs * 2 ^ (52 - n.natAbs.log2) ≠ 0 := fun h => by rw [h] at ln; cases ln
  generalize n.natAbs.log2 = L at rn hln ln hz ⊢
  generalize n.natAbs * 2 ^ (52 - L) = K at rn ln hz ⊢
  have k1 := (Nat.log2_eq_iff hz).1 ln
  refine ⟨double.word false ((L + 1020) * 4503599627370496 + K), ?_, ?_⟩
  · show ((double.read (floatOfInt .f64 n)).quotient 54 (double.read 4616189618054758400)).map double.write = _
    rw [rn, h4, quot_num _ _ _ _ _ _ (by omega) ln lN, quot_qtr K N hN, Option.map_some]
    have hq := near_qtr K L ((L : Int) - 52 - -50 - ((54 : Nat) : Int) - 1) (by omega) (by omega) hln (by omega)
    rw [← hq]
    rfl
  · rw [read_word (L + 1020) K (by omega) (by omega) (by omega), show ((L + 1020 : Nat) : Int) - 1074 = (L : Int) - 54 by omega]
set_option maxHeartbeats 1600000 in
/-- A greater one less a smaller one is above nought. -/
theorem sub_pos (a b : Int) (h0 : 0 < a) (h1 : a < b) (h2 : b < 9007199254740992) (x y : Nat) (hx : FloatKind.f64.format.div (floatOfInt .f64 a) 4616189618054758400 = some x) (hy : FloatKind.f64.format.div (floatOfInt .f64 b) 4616189618054758400 = some y) : ∃ r, FloatKind.f64.format.sub y x = some r ∧ nanB r = false ∧ 0 < keyF r := by
  obtain ⟨x', e1, rx⟩ := read_qtr a h0 (by omega)
  obtain ⟨y', e2, ry⟩ := read_qtr b (by omega) h2
  rw [hx] at e1
  rw [hy] at e2
  obtain rfl := Option.some.inj e1
  obtain rfl := Option.some.inj e2
  show ∃ r, ((double.read y).sum (double.read x).opposite).map double.write = some r ∧ _
  have hla := (read_int a (by omega) (by omega)).2.1
  have hAB : a.natAbs.log2 ≤ b.natAbs.log2 := by
    rw [Nat.le_log2 (by omega)]
    exact Nat.le_trans (Nat.log2_self_le (by omega)) (by omega)
  have hlb := (read_int b (by omega) (by omega)).2.1
  have hcmp : a.natAbs * 2 ^ (52 - a.natAbs.log2) < b.natAbs * 2 ^ (52 - b.natAbs.log2) * 2 ^ (b.natAbs.log2 - a.natAbs.log2) := by
    rw [Nat.mul_assoc, ← Nat.pow_add, show 52 - b.natAbs.log2 + (b.natAbs.log2 - a.natAbs.log2) = 52 - a.natAbs.log2 by omega]
    exact Nat.mul_lt_mul_of_pos_right (by omega) (Nat.two_pow_pos _)
  rw [rx, ry]
  generalize a.natAbs.log2 = La at *
  generalize b.natAbs.log2 = Lb at *
  generalize a.natAbs * 2 ^ (52 - La) = m at *
  generalize b.natAbs * 2 ^ (52 - Lb) = n at *
  rw [Datum.opposite, Datum.sum]
  rw [Int.min_eq_right (by omega), show ((Lb : Int) - 54 - ((La : Int) - 54)).toNat = Lb - La by omega, show ((La : Int) - 54 - ((La : Int) - 54)).toNat = 0 by omega]
  have et : signed false n (Lb - La) + signed (!false) m 0 = ((n * 2 ^ (Lb - La) - m : Nat) : Int) := by
    show ((n <<< (Lb - La) : Nat) : Int) + -((m <<< 0 : Nat) : Int) = _
    rw [Nat.shiftLeft_eq, Nat.shiftLeft_zero]
    generalize n * 2 ^ (Lb - La) = X at hcmp ⊢
    omega
  rw [et]
  generalize hg : n * 2 ^ (Lb - La) - m = G
  have hG : G ≠ 0 := by omega
  rw [if_neg (by omega), show decide ((G : Int) < 0) = false by simp, Int.natAbs_natCast]
  refine ⟨_, rfl, write_fits _ rfl, ?_⟩
  show 0 < keyF (double.nearest false G _)
  unfold Format.nearest
  rw [if_neg hG]
  simp only
  generalize hla : max ((La : Int) - 54 + (G.log2 : Nat) - (double.fractionBits : Nat)) double.leastPlace = last
  rw [d_lp, show (double.fractionBits : Nat) = 52 from rfl] at hla
  rw [d_lp, d_bin, d_inf]
  have hpos : 0 < (last - -1074).toNat * 4503599627370496 + Toward.even.cut false (G <<< ((La : Int) - 54 - last).toNat) (last - ((La : Int) - 54)).toNat := by
    by_cases hc : last = -1074
    · rw [show (last - ((La : Int) - 54)).toNat = 0 by omega, cut_none, Nat.shiftLeft_eq]
      have := Nat.mul_pos (Nat.pos_of_ne_zero hG) (Nat.two_pow_pos ((La : Int) - 54 - last).toNat)
      omega
    · omega
  generalize (last - -1074).toNat * 4503599627370496 + Toward.even.cut false (G <<< ((La : Int) - 54 - last).toNat) (last - ((La : Int) - 54)).toNat = R at hpos
  obtain ⟨f1, f2⟩ := word_key false (min R 9218868437227405312) (Nat.min_le_right _ _)
  unfold keyF
  rw [f1, if_neg (fun h => by have := f2.1 h; cases this)]
  omega
end Go.Proofs.Ythmgkabpcjkieaa
