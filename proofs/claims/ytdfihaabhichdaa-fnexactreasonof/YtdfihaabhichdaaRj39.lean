/-
  Whether the fields that a command's kind has not are zero, by the model: proved by walking the function.
-/
import Derived.Test.YtdfihaabhichdaaRj12
import Derived.Test.YtdfihaabhichdaaRj38
namespace Go.Proofs.Ytdfihaabhichdaa
open Go.RowKit
set_option linter.unusedVariables false

/-- Whether the fields that a command's kind has not are zero. -/
def formB (c : Cm) : Bool :=
  if c.k = 1 then (c.i == 0) else if c.s ≠ 0 ∨ c.t ≠ 0 ∨ c.l ≠ 0 ∨ fbit c.p ≠ 0 ∨ c.g.toList.isEmpty = false then false else ((c.k == 3) || (c.q == 0)) && ((c.k != 4) || (c.i == 0))
set_option maxRecDepth 100000 in
set_option maxHeartbeats 800000 in
theorem l04Form_any (c : Cm) (w : World) :
    Calls Try.prog 23 #[cmV c] w fun e w' => e = .returned (.bool (formB c)) ∧ Below w.heap.size w w' := by
  obtain ⟨k, s, t, l, q, i, p, g⟩ := c
  unfold cmV
  simp only
  by_cases h1 : k = 1
  · subst h1
    have HK : Hid (formB ⟨1, s, t, l, q, i, p, g⟩ = (i == 0)) := by show _ = _; simp [formB]
    go_enter Try.func23, Try.ntmps23
    go_wp2_with fail
    go_ret
    exact ⟨ret_bool (unhide HK).symm, by go_grown⟩
  have b1 : (k == 1) = false := by rw [beq_eq_false_iff_ne]; exact h1
  by_cases hs : s = 0
  · subst hs
    by_cases ht : t = 0
    · subst ht
      by_cases hl : l = 0
      · subst hl
        have HZ := hide (fun W => l04Zero_any p W)
        have HFI : Hid (∀ z : Bool, decide (fbit p = 0) = z → formB ⟨k, 0, 0, 0, q, i, p, g⟩ = if z = true then (if g.toList.isEmpty = false then false else ((k == 3) || (q == 0)) && ((k != 4) || (i == 0))) else false) := by
          intro z hz
          subst hz
          by_cases hp : fbit p = 0 <;> simp [formB, h1, hp]
        have HFJ := hide (unhide HFI _ rfl)
        generalize decide (fbit p = 0) = z at HZ HFJ
        clear HFI h1
        go_enter Try.func23, Try.ntmps23
        go_wp2_with fail
        refine (unhide HZ _).mono ?_
        rintro e w' ⟨rfl, rfl⟩
        cases z
        · have HK : Hid (formB ⟨k, 0, 0, 0, q, i, p, g⟩ = false) := unhide HFJ
          go_wp2_with fail
          go_ret
          exact ⟨ret_bool (unhide HK).symm, by go_grown⟩
        · have HFK : Hid (formB ⟨k, 0, 0, 0, q, i, p, g⟩ = if g.toList.isEmpty = false then false else ((k == 3) || (q == 0)) && ((k != 4) || (i == 0))) := by
            show _ = _
            have := unhide HFJ
            simpa using this
          clear HFJ HZ
          cases hg : g.toList.isEmpty
          · have bg : (!g.toList.isEmpty) = true := by rw [hg]; rfl
            have HK : Hid (formB ⟨k, 0, 0, 0, q, i, p, g⟩ = false) := (unhide HFK).trans (if_pos hg)
            clear hg
            go_wp2_with fail
            go_ret
            exact ⟨ret_bool (unhide HK).symm, by go_grown⟩
          have bg : (!g.toList.isEmpty) = false := by rw [hg]; rfl
          have HFL : Hid (formB ⟨k, 0, 0, 0, q, i, p, g⟩ = (((k == 3) || (q == 0)) && ((k != 4) || (i == 0)))) := (unhide HFK).trans (if_neg (by rw [hg]; simp))
          clear hg HFK
          by_cases h3 : k = 3
          · subst h3
            have HK : Hid (formB ⟨3, 0, 0, 0, q, i, p, g⟩ = true) := (unhide HFL).trans (by simp)
            go_wp2_with fail
            go_ret
            exact ⟨ret_bool (unhide HK).symm, by go_grown⟩
          have b3 : (k == 3) = false := by rw [beq_eq_false_iff_ne]; exact h3
          by_cases hq : q = 0
          · subst hq
            by_cases h4 : k = 4
            · subst h4
              have HK : Hid (formB ⟨4, 0, 0, 0, 0, i, p, g⟩ = (i == 0)) := (unhide HFL).trans (by simp)
              clear h3
              go_wp2_with fail
              go_ret
              exact ⟨ret_bool (unhide HK).symm, by go_grown⟩
            · have b4 : (k != 4) = true := by simpa using h4
              have HK : Hid (formB ⟨k, 0, 0, 0, 0, i, p, g⟩ = true) := (unhide HFL).trans (by simp [h4])
              clear h3 h4
              go_wp2_with fail
              go_ret
              exact ⟨ret_bool (unhide HK).symm, by go_grown⟩
          · have bq : (q == 0) = false := by rw [beq_eq_false_iff_ne]; exact hq
            have HK : Hid (formB ⟨k, 0, 0, 0, q, i, p, g⟩ = false) := (unhide HFL).trans (by simp [h3, hq])
            clear h3 hq
            go_wp2_with fail
            go_ret
            exact ⟨ret_bool (unhide HK).symm, by go_grown⟩
      · have HK : Hid (formB ⟨k, 0, 0, l, q, i, p, g⟩ = false) := by show _ = _; simp [formB, h1, hl]
        have bl : (l != 0) = true := by simpa using hl
        clear h1 hl
        go_enter Try.func23, Try.ntmps23
        go_wp2_with fail
        go_ret
        exact ⟨ret_bool (unhide HK).symm, by go_grown⟩
    · have HK : Hid (formB ⟨k, 0, t, l, q, i, p, g⟩ = false) := by show _ = _; simp [formB, h1, ht]
      have bl : (t != 0) = true := by simpa using ht
      clear h1 ht
      go_enter Try.func23, Try.ntmps23
      go_wp2_with fail
      go_ret
      exact ⟨ret_bool (unhide HK).symm, by go_grown⟩
  · have HK : Hid (formB ⟨k, s, t, l, q, i, p, g⟩ = false) := by show _ = _; simp [formB, h1, hs]
    have bl : (s != 0) = true := by simpa using hs
    clear h1 hs
    go_enter Try.func23, Try.ntmps23
    go_wp2_with fail
    go_ret
    exact ⟨ret_bool (unhide HK).symm, by go_grown⟩
end Go.Proofs.Ytdfihaabhichdaa
namespace Go.Proofs.Ytdfihaabhichdaa
open Go Ieee

theorem read_place {x : Nat} {s : Bool} {m : Nat} {i : Int} (h : double.read x = .number s m i) : -1074 ≤ i := by
  unfold Format.read at h
  simp only [bin, inf, sw, lp] at h
  split at h
  · simp only [Datum.number.injEq] at h; omega
  · split at h
    · simp only [Datum.number.injEq] at h; omega
    · split at h <;> cases h
theorem cut_pos {n drop : Nat} (h : 2 ^ drop ≤ n) : 0 < Toward.even.cut false n drop := by
  unfold Toward.cut
  simp only
  have hg : 1 <<< min drop (n.log2 + 2) ≤ n := by
    rw [Nat.one_shiftLeft]
    exact Nat.le_trans (Nat.pow_le_pow_right (by decide) (Nat.min_le_left _ _)) h
  have hp : 0 < 1 <<< min drop (n.log2 + 2) := by rw [Nat.one_shiftLeft]; exact Nat.two_pow_pos _
  have := Nat.div_pos hg hp
  omega
theorem near_pos {m : Nat} {i : Int} (hm : m ≠ 0) (hi : -1074 ≤ i) : 0 < double.nearest false (m * 4503599627370496) (i + -50) := by
  have hmag : ¬ m * 4503599627370496 = 0 := by omega
  have hlog := log_up hm
  have h2 : 2 ^ (m.log2 + 52) ≤ m * 4503599627370496 := by
    have h := ((Nat.log2_eq_iff hm).1 rfl).1
    rw [Nat.pow_add, show (2 : Nat) ^ 52 = 4503599627370496 from rfl]
    exact Nat.mul_le_mul_right _ h
  unfold Format.nearest
  rw [if_neg hmag]
  simp only [hlog, fb, lp, bin, inf, Format.word, Bool.false_eq_true, if_false]
  have hlast : i + -50 + ((m.log2 + 52 : Nat) : Int) - (52 : Nat) ≤ max (i + -50 + ((m.log2 + 52 : Nat) : Int) - (52 : Nat)) (-1074) := Int.le_max_left _ _
  have hup : max (i + -50 + ((m.log2 + 52 : Nat) : Int) - (52 : Nat)) (-1074) ≤ i + -50 + ((m.log2 + 52 : Nat) : Int) := Int.max_le.2 ⟨by omega, by omega⟩
  generalize max (i + -50 + ((m.log2 + 52 : Nat) : Int) - (52 : Nat)) (-1074) = last at *
  have e0 : (i + -50 - last).toNat = 0 := by omega
  rw [e0, Nat.shiftLeft_zero]
  have hc := cut_pos (n := m * 4503599627370496) (drop := (last - (i + -50)).toNat) (Nat.le_trans (Nat.pow_le_pow_right (by decide) (by omega)) h2)
  generalize Toward.even.cut false (m * 4503599627370496) (last - (i + -50)).toNat = kept at *
  omega
/-- A price times four is not the same as nought. -/
theorem four_pos {x r : Nat} (h0 : double.order x 0 = some .gt) (h1 : double.order x 4687829947429945344 = some .lt ∨ double.order x 4687829947429945344 = some .eq) (hr : double.mul x 4616189618054758400 = some r) : double.order 0 r ≠ some .eq := by
  rcases above_zero h0 with hx | ⟨m, i, hx, hm⟩
  · exfalso
    unfold Format.order at h1
    rw [hx, read_top] at h1
    simp [Datum.order] at h1
  · have hw := within hx hm h1
    have hmul : double.mul x 4616189618054758400 = some (double.nearest false (m * 4503599627370496) (i + -50)) := by
      unfold Format.mul
      rw [hx, read_four]
      rfl
    rw [hmul] at hr
    have hr := Option.some.inj hr
    have hpos := near_pos hm (read_place hx)
    have hlt := near_le hm hw
    rw [hr] at hpos hlt
    clear hr hmul
    have hneg : (r / 9223372036854775808 % 2 == 1) = false := by simp; omega
    have hrr : r % 9223372036854775808 = r := by omega
    obtain ⟨m', i', e, hm'⟩ : ∃ m' i', double.read r = .number false m' i' ∧ m' ≠ 0 := by
      unfold Format.read
      simp only [bin, inf, sw, hneg, hrr, lp]
      split
      · exact ⟨_, _, rfl, by omega⟩
      · rw [if_pos (by omega)]
        exact ⟨_, _, rfl, by omega⟩
    unfold Format.order
    rw [read_zero, e]
    simp only [Datum.order, ne_eq, Option.some.injEq]
    intro h
    have h := Std.LawfulEqCmp.eq_of_compare h
    simp only [signed, Bool.false_eq_true, if_false, Nat.shiftLeft_eq, Nat.zero_mul] at h
    have hne : m' * 2 ^ (i' - min (-1074) i').toNat ≠ 0 := Nat.mul_ne_zero hm' (Nat.pos_iff_ne_zero.1 (Nat.two_pow_pos _))
    omega
end Go.Proofs.Ytdfihaabhichdaa
namespace Go.Proofs.Ytdfihaabhichdaa
open Go.RowKit
set_option linter.unusedVariables false

theorem float_nought : floatOfInt .f64 0 = 0 := by decide
theorem tkS_pos {x : Nat} (h : tkOk x = true) : tkS x ≠ 0 := by
  rw [tkS_ok h]
  unfold tk
  rw [if_pos h]
  unfold tkOk at h
  simp only [Bool.and_eq_true, Bool.or_eq_true, beq_iff_eq] at h
  obtain ⟨⟨h0, h1⟩, h2⟩ := h
  intro e
  rw [e, float_nought] at h2
  obtain ⟨r, n, hm, _⟩ := price_four h0 h1
  have hr : tkR x = r := by
    unfold tkR
    rw [show FloatKind.f64.format.mul x 4616189618054758400 = some r from hm]
    rfl
  rw [hr] at h2
  exact four_pos h0 h1 hm h2
theorem fbit_zero {x : Nat} (h : fbit x = 0) : x = 0 := by
  unfold fbit at h
  split at h
  · omega
  · exact h
theorem tkS_zero {x : Nat} (h : fbit x = 0) : tkS x = 0 := by
  rw [fbit_zero h]
  decide
theorem side_of {s : Int} (h : betB s 1 2 = true) : s = 1 ∨ s = 2 := by
  simp [betB] at h; omega
theorem oth_of {s : Int} (h : s = 1 ∨ s = 2) : 3 - s = othS s := by
  rcases h with rfl | rfl <;> rfl
theorem cross_meet {c : Cm} (hp : prcB c = true) (o : Od) : crossS c.s (tkS c.p) o = meetO c o := by
  unfold prcB at hp
  by_cases h2 : c.t = 2
  · rw [if_pos h2] at hp
    rw [tkS_zero (of_decide_eq_true hp), crossS, if_pos rfl, meetO, if_pos h2]
  · rw [if_neg h2] at hp
    rw [crossS, if_neg (tkS_pos hp), meetO, if_neg h2, tkS_ok hp]
/-- The place of the order with which a taker trades next. -/
def NexS (l : List Od) (t : Od) (k : Int) : Prop :=
  (k = -1 ∧ (t.left = 0 ∨ frontO l (othS t.side) = none ∨ ∃ o, frontO l (othS t.side) = some o ∧ crossS t.side t.ticks o = false)) ∨
  ∃ (i : Nat) (o : Od), k = i ∧ i < l.length ∧ l[i]? = some o ∧ frontO l (othS t.side) = some o ∧ crossS t.side t.ticks o = true ∧ t.left ≠ 0
theorem front_pre {l : List Od} {sd k : Int} (hr : Rising l) (h : FrPre l sd l.length k) : (k = -1 ∧ frontO l sd = none) ∨ ∃ (i : Nat) (o : Od), k = i ∧ i < l.length ∧ l[i]? = some o ∧ frontO l sd = some o := by
  rcases frPre_end h with ⟨rfl, hno⟩ | ⟨i, o, rfl, hi, hfo⟩
  · refine .inl ⟨rfl, ?_⟩
    rcases front_head (s := decide (sd = 1)) (sd := sd) hr with ⟨h1, _⟩ | ⟨j, o', h1, hf'⟩
    · exact h1
    · exact absurd hf'.2.1 (hno o' (List.mem_of_getElem? hf'.1))
  · refine .inr ⟨i, o, rfl, hi, hfo.1, ?_⟩
    rcases front_head (s := decide (sd = 1)) (sd := sd) hr with ⟨_, hno⟩ | ⟨j, o', h1, hf'⟩
    · exact absurd hfo.2.1 (hno o (List.mem_of_getElem? hfo.1))
    · rw [frontO, h1, (front_unique hf' hfo).2]
end Go.Proofs.Ytdfihaabhichdaa
