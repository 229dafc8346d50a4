/-
  The ticks of a price, by the model: proved by walking the function.
-/
import Derived.Test.YtmeceabaamdgbaaRj03
import Derived.Test.YtmeceabaamdgbaaRj38
namespace Go.Proofs.Ytmeceabaamdgbaa
open Go.RowKit
set_option linter.unusedVariables false

/-- The whole quarters of a float within the bounds of prices, be it a price or not. -/
def tkS (x : Nat) : Int := if ((FloatKind.f64.format.order x 0 == some Ordering.gt) && ((FloatKind.f64.format.order x 4687829947429945344 == some Ordering.lt) || (FloatKind.f64.format.order x 4687829947429945344 == some Ordering.eq))) = true then tkN x else 0
theorem tkS_ok {x : Nat} (h : tkOk x = true) : tkS x = tk x := by
  unfold tk tkS
  rw [if_pos h]
  unfold tkOk at h
  rw [Bool.and_eq_true] at h
  rw [if_pos h.1]
set_option maxRecDepth 100000 in
set_option maxHeartbeats 1000000 in
theorem l01Ticks_any (x : Nat) (w : World) :
    Calls Try.prog 42 #[.float .f64 x] w fun e w' => e = .returned (.tuple #[.int .i64 (tkS x), .bool (tkOk x)]) ∧ w' = w := by
  by_cases h0 : FloatKind.f64.format.order x 0 = some Ordering.gt
  · by_cases h1 : FloatKind.f64.format.order x 4687829947429945344 = some Ordering.lt ∨ FloatKind.f64.format.order x 4687829947429945344 = some Ordering.eq
    · obtain ⟨r, n, hmul, hint, hn⟩ := price_four h0 h1
      have hn' : (n : Int) < 9007199254740992 := by omega
      have eR : tkR x = r := by unfold tkR; rw [show FloatKind.f64.format.mul x 4616189618054758400 = some r from hmul]; rfl
      have eN : tkN x = n := by unfold tkN; rw [eR, show (FloatKind.f64.decode r).toInt .zero = some (n : Int) from hint]; rfl
      have b0 : (FloatKind.f64.format.order x 0 == some Ordering.gt) = true := by rw [h0]; rfl
      have hm : ∀ W, (binOp .mul 25 (.float .f64 x) (.float .f64 4616189618054758400)).run Try.prog W = .ok (.float .f64 r) W := fun W => by
        have : FloatKind.f64.format.mul x 4616189618054758400 = some r := hmul
        simp [binOp, Op.floatArith, this]
      have hc : ∀ W, (convert 25 3 (.float .f64 r)).run Try.prog W = .ok (.int .i64 n) W := fun W => by
        have h2 : (FloatKind.f64.decode r).toInt .zero = some (n : Int) := hint
        have hb : IntKind.i64.min ≤ (n : Int) ∧ (n : Int) ≤ IntKind.i64.max := by
          rw [show IntKind.i64.min = -9223372036854775808 by decide, show IntKind.i64.max = 9223372036854775807 by decide]; omega
        simp [convert, run_underlying Try.underlying25, run_underlying Try.underlying3, Conv.floatToInt, h2, hb.1]
        intro h
        omega
      have h12 : ((FloatKind.f64.format.order x 4687829947429945344 == some Ordering.lt) || (FloatKind.f64.format.order x 4687829947429945344 == some Ordering.eq)) = true := by
        rcases h1 with h1 | h1 <;> rw [h1] <;> rfl
      have hok : tkOk x = (FloatKind.f64.format.order (floatOfInt .f64 n) r == some Ordering.eq) := by unfold tkOk; rw [eN, eR, b0, h12]; rfl
      have hS : tkS x = n := by unfold tkS; rw [b0, h12, eN]; rfl
      clear hmul hint h0 h12
      cases he : (FloatKind.f64.format.order (floatOfInt .f64 n) r == some Ordering.eq)
      all_goals
        have he2 : (FloatKind.f64.format.order (floatOfInt .f64 n) r != some Ordering.eq) = !(FloatKind.f64.format.order (floatOfInt .f64 n) r == some Ordering.eq) := rfl
        rw [he] at he2
        rw [he] at hok
      · have HT : Hid (tkS x = n ∧ tkOk x = false) := ⟨hS, hok⟩
        clear hok eN eR hS
        rcases h1 with h1 | h1
        · have b1 : (FloatKind.f64.format.order x 4687829947429945344 == some Ordering.lt) = true := by rw [h1]; rfl
          have b2 : (FloatKind.f64.format.order x 4687829947429945344 == some Ordering.eq) = false := by rw [h1]; rfl
          clear h1
          go_enter Try.func42, Try.ntmps42
          go_wp2
          go_ret2
          exact ⟨by rw [(unhide HT).1, (unhide HT).2]; rfl, rfl⟩
        · have b1 : (FloatKind.f64.format.order x 4687829947429945344 == some Ordering.lt) = false := by rw [h1]; rfl
          have b2 : (FloatKind.f64.format.order x 4687829947429945344 == some Ordering.eq) = true := by rw [h1]; rfl
          clear h1
          go_enter Try.func42, Try.ntmps42
          go_wp2
          go_ret2
          exact ⟨by rw [(unhide HT).1, (unhide HT).2]; rfl, rfl⟩
      · have HT : Hid (tkS x = n ∧ tkOk x = true) := ⟨hS, hok⟩
        clear hok eN eR hS
        rcases h1 with h1 | h1
        · have b1 : (FloatKind.f64.format.order x 4687829947429945344 == some Ordering.lt) = true := by rw [h1]; rfl
          have b2 : (FloatKind.f64.format.order x 4687829947429945344 == some Ordering.eq) = false := by rw [h1]; rfl
          clear h1
          go_enter Try.func42, Try.ntmps42
          go_wp2
          go_ret2
          exact ⟨by rw [(unhide HT).1, (unhide HT).2]; rfl, rfl⟩
        · have b1 : (FloatKind.f64.format.order x 4687829947429945344 == some Ordering.lt) = false := by rw [h1]; rfl
          have b2 : (FloatKind.f64.format.order x 4687829947429945344 == some Ordering.eq) = true := by rw [h1]; rfl
          clear h1
          go_enter Try.func42, Try.ntmps42
          go_wp2
          go_ret2
          exact ⟨by rw [(unhide HT).1, (unhide HT).2]; rfl, rfl⟩
    · have b0 : (FloatKind.f64.format.order x 0 == some Ordering.gt) = true := by rw [h0]; rfl
      have b1 : (FloatKind.f64.format.order x 4687829947429945344 == some Ordering.lt) = false := by rw [beq_eq_false_iff_ne]; exact fun h => h1 (.inl h)
      have b2 : (FloatKind.f64.format.order x 4687829947429945344 == some Ordering.eq) = false := by rw [beq_eq_false_iff_ne]; exact fun h => h1 (.inr h)
      have hok : tkOk x = false := by unfold tkOk; rw [b0, b1, b2]; rfl
      have HT : Hid (tkS x = 0 ∧ tkOk x = false) := ⟨by unfold tkS; rw [b0, b1, b2]; rfl, hok⟩
      clear h0 h1 hok
      go_enter Try.func42, Try.ntmps42
      go_wp2
      go_ret2
      exact ⟨by rw [(unhide HT).1, (unhide HT).2]; rfl, rfl⟩
  · have b0 : (FloatKind.f64.format.order x 0 == some Ordering.gt) = false := by rw [beq_eq_false_iff_ne]; exact h0
    have hok : tkOk x = false := by unfold tkOk; rw [b0]; rfl
    have HT : Hid (tkS x = 0 ∧ tkOk x = false) := ⟨by unfold tkS; rw [b0]; rfl, hok⟩
    clear h0 hok
    go_enter Try.func42, Try.ntmps42
    go_wp2
    go_ret2
    exact ⟨by rw [(unhide HT).1, (unhide HT).2]; rfl, rfl⟩
end Go.Proofs.Ytmeceabaamdgbaa
/-
  The order that a new command brings, by the model: proved by walking the function.
-/
namespace Go.Proofs.Ytmeceabaamdgbaa
open Go.RowKit
set_option linter.unusedVariables false

set_option maxRecDepth 100000 in
set_option maxHeartbeats 800000 in
theorem l04Taker_any (next : Int) (a : Option Addr) (n cap : Nat) (c : Cm) (w : World) :
    Calls Try.prog 45 #[.agg #[.int .i64 next, .slice a n cap], cmV c] w fun e w' => e = .returned (.agg #[.int .i64 next, .int .i64 c.s, .int .i64 (tkS c.p), .int .i64 c.q, .int .i64 c.l, .string c.g]) ∧ Below w.heap.size w w' := by
  obtain ⟨k, s, t, l, q, i, p, g⟩ := c
  unfold cmV
  simp only
  have HT := hide (fun W => l01Ticks_any p W)
  generalize tkS p = tt at HT ⊢
  generalize tkOk p = tb at HT
  go_enter Try.func45, Try.ntmps45
  go_wp2_with fail
  refine (unhide HT _).mono ?_
  rintro e w' ⟨rfl, rfl⟩
  go_wp2_with fail
  go_returns
  exact ⟨rfl, by go_grown⟩
end Go.Proofs.Ytmeceabaamdgbaa
/-
  Whether the fields that a command's kind has not are zero, by the model: proved by walking the function.
-/
namespace Go.Proofs.Ytmeceabaamdgbaa
open Go.RowKit
set_option linter.unusedVariables false

/-- Whether the fields that a command's kind has not are zero. -/
def formB (c : Cm) : Bool :=
  if c.k = 1 then (c.i == 0) else if c.s ≠ 0 ∨ c.t ≠ 0 ∨ c.l ≠ 0 ∨ fbit c.p ≠ 0 ∨ c.g.toList.isEmpty = false then false else ((c.k == 3) || (c.q == 0)) && ((c.k != 4) || (c.i == 0))
set_option maxRecDepth 100000 in
set_option maxHeartbeats 800000 in
theorem l04Form_any (c : Cm) (w : World) :
    Calls Try.prog 23 #[cmV c] w fun e w' => e = .returned (.bool (formB c)) ∧ Below w.heap.size w w' := by
  obtain ⟨k, s, t, l, q, i, p, g⟩ := c
  unfold cmV
  simp only
  by_cases h1 : k = 1
  · subst h1
    have HK : Hid (formB ⟨1, s, t, l, q, i, p, g⟩ = (i == 0)) := by show _ = _; simp [formB]
    go_enter Try.func23, Try.ntmps23
    go_wp2_with fail
    go_ret
    exact ⟨ret_bool (unhide HK).symm, by go_grown⟩
  have b1 : (k == 1) = false := by rw [beq_eq_false_iff_ne]; exact h1
  by_cases hs : s = 0
  · subst hs
    by_cases ht : t = 0
    · subst ht
      by_cases hl : l = 0
      · subst hl
        have HZ := hide (fun W => l04Zero_any p W)
        have HFI : Hid (∀ z : Bool, decide (fbit p = 0) = z → formB ⟨k, 0, 0, 0, q, i, p, g⟩ = if z = true then (if g.toList.isEmpty = false then false else ((k == 3) || (q == 0)) && ((k != 4) || (i == 0))) else false) := by
          intro z hz
          subst hz
          by_cases hp : fbit p = 0 <;> simp [formB, h1, hp]
        have HFJ := hide (unhide HFI _ rfl)
        generalize decide (fbit p = 0) = z at HZ HFJ
        clear HFI h1
        go_enter Try.func23, Try.ntmps23
        go_wp2_with fail
        refine (unhide HZ _).mono ?_
        rintro e w' ⟨rfl, rfl⟩
        cases z
        · have HK : Hid (formB ⟨k, 0, 0, 0, q, i, p, g⟩ = false) := unhide HFJ
          go_wp2_with fail
          go_ret
          exact ⟨ret_bool (unhide HK).symm, by go_grown⟩
        · have HFK : Hid (formB ⟨k, 0, 0, 0, q, i, p, g⟩ = if g.toList.isEmpty = false then false else ((k == 3) || (q == 0)) && ((k != 4) || (i == 0))) := by
            show _ = _
            have := unhide HFJ
            simpa using this
          clear HFJ HZ
          cases hg : g.toList.isEmpty
          · have bg : (!g.toList.isEmpty) = true := by rw [hg]; rfl
            have HK : Hid (formB ⟨k, 0, 0, 0, q, i, p, g⟩ = false) := (unhide HFK).trans (if_pos hg)
            clear hg
            go_wp2_with fail
            go_ret
            exact ⟨ret_bool (unhide HK).symm, by go_grown⟩
          have bg : (!g.toList.isEmpty) = false := by rw [hg]; rfl
          have HFL : Hid (formB ⟨k, 0, 0, 0, q, i, p, g⟩ = (((k == 3) || (q == 0)) && ((k != 4) || (i == 0)))) := (unhide HFK).trans (if_neg (by rw [hg]; simp))
          clear hg HFK
          by_cases h3 : k = 3
          · subst h3
            have HK : Hid (formB ⟨3, 0, 0, 0, q, i, p, g⟩ = true) := (unhide HFL).trans (by simp)
            go_wp2_with fail
            go_ret
            exact ⟨ret_bool (unhide HK).symm, by go_grown⟩
          have b3 : (k == 3) = false := by rw [beq_eq_false_iff_ne]; exact h3
          by_cases hq : q = 0
          · subst hq
            by_cases h4 : k = 4
            · subst h4
              have HK : Hid (formB ⟨4, 0, 0, 0, 0, i, p, g⟩ = (i == 0)) := (unhide HFL).trans (by simp)
              clear h3
              go_wp2_with fail
              go_ret
              exact ⟨ret_bool (unhide HK).symm, by go_grown⟩
            · have b4 : (k != 4) = true := by simpa using h4
              have HK : Hid (formB ⟨k, 0, 0, 0, 0, i, p, g⟩ = true) := (unhide HFL).trans (by simp [h4])
              clear h3 h4
              go_wp2_with fail
              go_ret
              exact ⟨ret_bool (unhide HK).symm, by go_grown⟩
          · have bq : (q == 0) = false := by rw [beq_eq_false_iff_ne]; exact hq
            have HK : Hid (formB ⟨k, 0, 0, 0, q, i, p, g⟩ = false) := (unhide HFL).trans (by simp [h3, hq])
            clear h3 hq
            go_wp2_with fail
            go_ret
            exact ⟨ret_bool (unhide HK).symm, by go_grown⟩
      · have HK : Hid (formB ⟨k, 0, 0, l, q, i, p, g⟩ = false) := by show _ = _; simp [formB, h1, hl]
        have bl : (l != 0) = true := by simpa using hl
        clear h1 hl
        go_enter Try.func23, Try.ntmps23
        go_wp2_with fail
        go_ret
        exact ⟨ret_bool (unhide HK).symm, by go_grown⟩
    · have HK : Hid (formB ⟨k, 0, t, l, q, i, p, g⟩ = false) := by show _ = _; simp [formB, h1, ht]
      have bl : (t != 0) = true := by simpa using ht
      clear h1 ht
      go_enter Try.func23, Try.ntmps23
      go_wp2_with fail
      go_ret
      exact ⟨ret_bool (unhide HK).symm, by go_grown⟩
  · have HK : Hid (formB ⟨k, s, t, l, q, i, p, g⟩ = false) := by show _ = _; simp [formB, h1, hs]
    have bl : (s != 0) = true := by simpa using hs
    clear h1 hs
    go_enter Try.func23, Try.ntmps23
    go_wp2_with fail
    go_ret
    exact ⟨ret_bool (unhide HK).symm, by go_grown⟩
end Go.Proofs.Ytmeceabaamdgbaa
/-
  A price times four is above nought: so a price's ticks are; plain facts, no program.
-/
namespace Go.Proofs.Ytmeceabaamdgbaa
open Go Ieee

theorem read_place {x : Nat} {s : Bool} {m : Nat} {i : Int} (h : double.read x = .number s m i) : -1074 ≤ i := by
  unfold Format.read at h
  simp only [bin, inf, sw, lp] at h
  split at h
  · simp only [Datum.number.injEq] at h; omega
  · split at h
    · simp only [Datum.number.injEq] at h; omega
    · split at h <;> cases h
theorem cut_pos {n drop : Nat} (h : 2 ^ drop ≤ n) : 0 < Toward.even.cut false n drop := by
  unfold Toward.cut
  simp only
  have hg : 1 <<< min drop (n.log2 + 2) ≤ n := by
    rw [Nat.one_shiftLeft]
    exact Nat.le_trans (Nat.pow_le_pow_right (by decide) (Nat.min_le_left _ _)) h
  have hp : 0 < 1 <<< min drop (n.log2 + 2) := by rw [Nat.one_shiftLeft]; exact Nat.two_pow_pos _
  have := Nat.div_pos hg hp
  omega
theorem near_pos {m : Nat} {i : Int} (hm : m ≠ 0) (hi : -1074 ≤ i) : 0 < double.nearest false (m * 4503599627370496) (i + -50) := by
  have hmag : ¬ m * 4503599627370496 = 0 := by omega
  have hlog := log_up hm
  have h2 : 2 ^ (m.log2 + 52) ≤ m * 4503599627370496 := by
    have h := ((Nat.log2_eq_iff hm).1 rfl).1
    rw [Nat.pow_add, show (2 : Nat) ^ 52 = 4503599627370496 from rfl]
    exact Nat.mul_le_mul_right _ h
  unfold Format.nearest
  rw [if_neg hmag]
  simp only [hlog, fb, lp, bin, inf, Format.word, Bool.false_eq_true, if_false]
  have hlast : i + -50 + ((m.log2 + 52 : Nat) : Int) - (52 : Nat) ≤ max (i + -50 + ((m.log2 + 52 : Nat) : Int) - (52 : Nat)) (-1074) := Int.le_max_left _ _
  have hup : max (i + -50 + ((m.log2 + 52 : Nat) : Int) - (52 : Nat)) (-1074) ≤ i + -50 + ((m.log2 + 52 : Nat) : Int) := Int.max_le.2 ⟨by omega, by omega⟩
  generalize max (i + -50 + ((m.log2 + 52 : Nat) : Int) - (52 : Nat)) (-1074) = last at *
  have e0 : (i + -50 - last).toNat = 0 := by omega
  rw [e0, Nat.shiftLeft_zero]
  have hc := cut_pos (n := m * 4503599627370496) (drop := (last - (i + -50)).toNat) (Nat.le_trans (Nat.pow_le_pow_right (by decide) (by omega)) h2)
  generalize Toward.even.cut false (m * 4503599627370496) (last - (i + -50)).toNat = kept at *
  omega
/-- A price times four is not the same as nought. -/
theorem four_pos {x r : Nat} (h0 : double.order x 0 = some .gt) (h1 : double.order x 4687829947429945344 = some .lt ∨ double.order x 4687829947429945344 = some .eq) (hr : double.mul x 4616189618054758400 = some r) : double.order 0 r ≠ some .eq := by
  rcases above_zero h0 with hx | ⟨m, i, hx, hm⟩
  · exfalso
    unfold Format.order at h1
    rw [hx, read_top] at h1
    simp [Datum.order] at h1
  · have hw := within hx hm h1
    have hmul : double.mul x 4616189618054758400 = some (double.nearest false (m * 4503599627370496) (i + -50)) := by
      unfold Format.mul
      rw [hx, read_four]
      rfl
    rw [hmul] at hr
    have hr := Option.some.inj hr
    have hpos := near_pos hm (read_place hx)
    have hlt := near_le hm hw
    rw [hr] at hpos hlt
    clear hr hmul
    have hneg : (r / 9223372036854775808 % 2 == 1) = false := by simp; omega
    have hrr : r % 9223372036854775808 = r := by omega
    obtain ⟨m', i', e, hm'⟩ : ∃ m' i', double.read r = .number false m' i' ∧ m' ≠ 0 := by
      unfold Format.read
      simp only [bin, inf, sw, hneg, hrr, lp]
      split
      · exact ⟨_, _, rfl, by omega⟩
      · rw [if_pos (by omega)]
        exact ⟨_, _, rfl, by omega⟩
    unfold Format.order
    rw [read_zero, e]
    simp only [Datum.order, ne_eq, Option.some.injEq]
    intro h
    have h := Std.LawfulEqCmp.eq_of_compare h
    simp only [signed, Bool.false_eq_true, if_false, Nat.shiftLeft_eq, Nat.zero_mul] at h
    have hne : m' * 2 ^ (i' - min (-1074) i').toNat ≠ 0 := Nat.mul_ne_zero hm' (Nat.pos_iff_ne_zero.1 (Nat.two_pow_pos _))
    omega
end Go.Proofs.Ytmeceabaamdgbaa
