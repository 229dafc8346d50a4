/-
  A price times four is above nought: so a price's ticks are; plain facts, no program.
-/
import Derived.Test.YthmgkabpcjkieaaVj22
namespace Go.Proofs.Ythmgkabpcjkieaa
open Go Ieee

theorem read_place {x : Nat} {s : Bool} {m : Nat} {i : Int} (h : double.read x = .number s m i) : -1074 ≤ i := by
  unfold Format.read at h
  simp only [bin, inf, sw, lp] at h
  split at h
  · simp only [Datum.number.injEq] at h; omega
  · split at h
    · simp only [Datum.number.injEq] at h; omega
    · split at h <;> cases h
theorem cut_pos {n drop : Nat} (h : 2 ^ drop ≤ n) : 0 < Toward.even.cut false n drop := by
  unfold Toward.cut
  simp only
  have hg : 1 <<< min drop (n.log2 + 2) ≤ n := by
    rw [Nat.one_shiftLeft]
    exact Nat.le_trans (Nat.pow_le_pow_right (by decide) (Nat.min_le_left _ _)) h
  have hp : 0 < 1 <<< min drop (n.log2 + 2) := by rw [Nat.one_shiftLeft]; exact Nat.two_pow_pos _
  have := Nat.div_pos hg hp
  omega
theorem near_pos {m : Nat} {i : Int} (hm : m ≠ 0) (hi : -1074 ≤ i) : 0 < double.nearest false (m * 4503599627370496) (i + -50) := by
  have hmag : ¬ m * 4503599627370496 = 0 := by omega
  have hlog := log_up hm
  have h2 : 2 ^ (m.log2 + 52) ≤ m * 4503599627370496 := by
    have h := ((Nat.log2_eq_iff hm).1 rfl).1
    rw [Nat.pow_add, show (2 : Nat) ^ 52 = 4503599627370496 from rfl]
    exact Nat.mul_le_mul_right _ h
  unfold Format.nearest
  rw [if_neg hmag]
  simp only [hlog, fb, lp, bin, inf, Format.word, Bool.false_eq_true, if_false]
  have hlast : i + -50 + ((m.log2 + 52 : Nat) : Int) - (52 : Nat) ≤ max (i + -50 + ((m.log2 + 52 : Nat) : Int) - (52 : Nat)) (-1074) := Int.le_max_left _ _
  have hup : max (i + -50 + ((m.log2 + 52 : Nat) : Int) - (52 : Nat)) (-1074) ≤ i + -50 + ((m.log2 + 52 : Nat) : Int) := Int.max_le.2 ⟨by omega, by omega⟩
  generalize max (i + -50 + ((m.log2 + 52 : Nat) : Int) - (52 : Nat)) (-1074) = last at *
  have e0 : (i + -50 - last).toNat = 0 := by omega
  rw [e0, Nat.shiftLeft_zero]
  have hc := cut_pos (n := m * 4503599627370496) (drop := (last - (i + -50)).toNat) (Nat.le_trans (Nat.pow_le_pow_right (by decide) (by omega)) h2)
  generalize Toward.even.cut false (m * 4503599627370496) (last - (i + -50)).toNat = kept at *
  omega
/-- A price times four is not the same as nought. -/
theorem four_pos {x r : Nat} (h0 : double.order x 0 = some .gt) (h1 : double.order x 4687829947429945344 = some .lt ∨ double.order x 4687829947429945344 = some .eq) (hr : double.mul x 4616189618054758400 = some r) : double.order 0 r ≠ some .eq := by
  rcases above_zero h0 with hx | ⟨m, i, hx, hm⟩
  · exfalso
    unfold Format.order at h1
    rw [hx, read_top] at h1
    simp [Datum.order] at h1
  · have hw := within hx hm h1
    have hmul : double.mul x 4616189618054758400 = some (double.nearest false (m * 4503599627370496) (i + -50)) := by
      unfold Format.mul
      rw [hx, read_four]
      rfl
    rw [hmul] at hr
    have hr := Option.some.inj hr
    have hpos := near_pos hm (read_place hx)
    have hlt := near_le hm hw
    rw [hr] at hpos hlt
    clear hr hmul
    have hneg : (r / 9223372036854775808 % 2 == 1) = false := by simp; omega
    have hrr : r % 9223372036854775808 = r := by omega
    obtain ⟨m', i', e, hm'⟩ : ∃ m' i', double.read r = .number false m' i' ∧ m' ≠ 0 := by
      unfold Format.read
      simp only [bin, inf, sw, hneg, hrr, lp]
      split
      · exact ⟨_, _, rfl, by omega⟩
      · rw [if_pos (by omega)]
        exact ⟨_, _, rfl, by omega⟩
    unfold Format.order
    rw [read_zero, e]
    simp only [Datum.order, ne_eq, Option.some.injEq]
    intro h
    have h := Std.LawfulEqCmp.eq_of_compare h
    simp only [signed, Bool.false_eq_true, if_false, Nat.shiftLeft_eq, Nat.zero_mul] at h
    have hne : m' * 2 ^ (i' - min (-1074) i').toNat ≠ 0 := Nat.mul_ne_zero hm' (Nat.pos_iff_ne_zero.1 (Nat.two_pow_pos _))
    omega
end Go.Proofs.Ythmgkabpcjkieaa
namespace Go.Proofs.Ythmgkabpcjkieaa
open Go.RowKit
set_option linter.unusedVariables false

theorem float_nought : floatOfInt .f64 0 = 0 := by decide
theorem tkS_pos {x : Nat} (h : tkOk x = true) : tkS x ≠ 0 := by
  rw [tkS_ok h]
  unfold tk
  rw [if_pos h]
  unfold tkOk at h
  simp only [Bool.and_eq_true, Bool.or_eq_true, beq_iff_eq] at h
  obtain ⟨⟨h0, h1⟩, h2⟩ := h
  intro e
  rw [e, float_nought] at h2
  obtain ⟨r, n, hm, _⟩ := price_four h0 h1
  have hr : tkR x = r := by
    unfold tkR
    rw [show FloatKind.f64.format.mul x 4616189618054758400 = some r from hm]
    rfl
  rw [hr] at h2
  exact four_pos h0 h1 hm h2
theorem fbit_zero {x : Nat} (h : fbit x = 0) : x = 0 := by
  unfold fbit at h
  split at h
  · omega
  · exact h
theorem tkS_zero {x : Nat} (h : fbit x = 0) : tkS x = 0 := by
  rw [fbit_zero h]
  decide
theorem side_of {s : Int} (h : betB s 1 2 = true) : s = 1 ∨ s = 2 := by
  simp [betB] at h; omega
theorem oth_of {s : Int} (h : s = 1 ∨ s = 2) : 3 - s = othS s := by
  rcases h with rfl | rfl <;> rfl
theorem cross_meet {c : Cm} (hp : prcB c = true) (o : Od) : crossS c.s (tkS c.p) o = meetO c o := by
  unfold prcB at hp
  by_cases h2 : c.t = 2
  · rw [if_pos h2] at hp
    rw [tkS_zero (of_decide_eq_true hp), crossS, if_pos rfl, meetO, if_pos h2]
  · rw [if_neg h2] at hp
    rw [crossS, if_neg (tkS_pos hp), meetO, if_neg h2, tkS_ok hp]
/-- The place of the order with which a taker trades next. -/
def NexS (l : List Od) (t : Od) (k : Int) : Prop :=
  (k = -1 ∧ (t.left = 0 ∨ frontO l (othS t.side) = none ∨ ∃ o, frontO l (othS t.side) = some o ∧ crossS t.side t.ticks o = false)) ∨
  ∃ (i : Nat) (o : Od), k = i ∧ i < l.length ∧ l[i]? = some o ∧ frontO l (othS t.side) = some o ∧ crossS t.side t.ticks o = true ∧ t.left ≠ 0
theorem front_pre {l : List Od} {sd k : Int} (hr : Rising l) (h : FrPre l sd l.length k) : (k = -1 ∧ frontO l sd = none) ∨ ∃ (i : Nat) (o : Od), k = i ∧ i < l.length ∧ l[i]? = some o ∧ frontO l sd = some o := by
  rcases frPre_end h with ⟨rfl, hno⟩ | ⟨i, o, rfl, hi, hfo⟩
  · refine .inl ⟨rfl, ?_⟩
    rcases front_head (s := decide (sd = 1)) (sd := sd) hr with ⟨h1, _⟩ | ⟨j, o', h1, hf'⟩
    · exact h1
    · exact absurd hf'.2.1 (hno o' (List.mem_of_getElem? hf'.1))
  · refine .inr ⟨i, o, rfl, hi, hfo.1, ?_⟩
    rcases front_head (s := decide (sd = 1)) (sd := sd) hr with ⟨_, hno⟩ | ⟨j, o', h1, hf'⟩
    · exact absurd hfo.2.1 (hno o (List.mem_of_getElem? hfo.1))
    · rw [frontO, h1, (front_unique hf' hfo).2]
end Go.Proofs.Ythmgkabpcjkieaa
namespace Go.Proofs.Ythmgkabpcjkieaa
open Go.RowKit
set_option linter.unusedVariables false

theorem hit_side {l : List Od} {k : Nat} {o : Od} {q : Int} (hk : l[k]? = some o) (hs : ∀ x ∈ l, x.side = 1 ∨ x.side = 2) : ∀ x ∈ hitAt l k o q, x.side = 1 ∨ x.side = 2 := by
  intro x hx
  unfold hitAt at hx
  split at hx
  · rcases List.mem_append.1 hx with h | h
    · exact hs x (List.mem_of_mem_take h)
    · exact hs x (List.mem_of_mem_drop h)
  · rcases List.mem_or_eq_of_mem_set hx with h | rfl
    · exact hs x h
    · exact hs o (List.mem_of_getElem? hk)
theorem matL_side {c : Cm} {id : Int} : ∀ (n : Nat) (l : List Od) (left : Int) (ts : List Ev), Rising l → GoodL l → 0 ≤ left → left ≤ 1000000 → (∀ x ∈ l, x.side = 1 ∨ x.side = 2) → ∀ x ∈ (matL c id n l left ts).1, x.side = 1 ∨ x.side = 2
  | 0, l, left, ts, _, _, _, _, hs => hs
  | n + 1, l, left, ts, hr, hg, h0, h1, hs => by
    rw [matL]
    by_cases hl : 0 < left
    · rw [if_pos hl]
      cases hf : frontO l (othS c.s) with
      | none => exact hs
      | some o =>
        simp only
        by_cases hm : meetO c o = true
        · rw [if_pos hm]
          obtain ⟨hmem, _⟩ := front_mem hf
          obtain ⟨k, hk⟩ := List.getElem?_of_mem hmem
          have ho := hg.left o hmem
          rw [plc_at hr hk, Int.toNat_natCast]
          have hg2 := (good_hit hg hk (qty := min left o.left) (by omega) (by omega)).1
          exact matL_side n _ _ _ hg2.rise hg2 (by omega) (by omega) (hit_side hk hs)
        · rw [if_neg hm]; exact hs
    · rw [if_neg hl]; exact hs
/-- Whether there is no room for one order more, by the model. -/
def fullS (l : List Od) (t : Od) : Bool := decide (l.length = 20) || decide (8 < nlev (l ++ [t]))
theorem full_eq {l : List Od} {t : Od} (hl : l.length ≤ 20) (hs : ∀ x ∈ l ++ [t], x.side = 1 ∨ x.side = 2) : fullB (l ++ [t]) = fullS l t := by
  unfold fullB fullS
  have hn := nlev_eq hs (isT_tks true _) (isT_tks false _)
  by_cases h : l.length = 20
  · rw [if_pos (by simp; omega)]; simp [h]
  · rw [if_neg (by simp; omega), lvsOf, lvsOf, List.length_map, List.length_map, hn]
    simp only [h, decide_false, Bool.false_or]
    rw [Bool.eq_iff_iff]
    simp only [decide_eq_true_eq]
    omega
/-- The reason that hangs on what would come of an order, by the model. -/
def matS (next : Int) (c : Cm) (F : List Od × Int × List Ev) : Int :=
  if c.t = 5 ∧ 0 < F.2.2.length then 11 else if c.t = 4 ∧ 0 < F.2.1 then 12 else if next = 1000000 then 13
  else if restB c.t = true then (if 0 < F.2.1 then (if F.1.length = 20 then 13 else if 8 < nlev (F.1 ++ [⟨next, c.s, tkS c.p, F.2.1, c.l, c.g⟩]) then 13 else 0) else 0) else 0
theorem matS_eq {next : Int} {c : Cm} {l : List Od} (hg : GoodL l) (hsd : ∀ x ∈ l, x.side = 1 ∨ x.side = 2) (hs : betB c.s 1 2 = true) (hp : prcB c = true) (hq : betB c.q 1 1000000 = true) : matS next c (matL c next 21 l c.q []) = matR next c (matL c next 21 l c.q []) := by
  have hq' : 1 ≤ c.q ∧ c.q ≤ 1000000 := by simpa [betB] using hq
  have hgood := matL_good (c := c) (id := next) 21 l c.q [] hg (by omega) (by omega)
  have hside := matL_side (c := c) (id := next) 21 l c.q [] hg.rise hg (by omega) (by omega) hsd
  generalize matL c next 21 l c.q [] = F at *
  unfold matS matR
  by_cases h1 : c.t = 5 ∧ 0 < F.2.2.length
  · rw [if_pos h1, if_pos h1]
  rw [if_neg h1, if_neg h1]
  by_cases h2 : c.t = 4 ∧ 0 < F.2.1
  · rw [if_pos h2, if_pos h2]
  rw [if_neg h2, if_neg h2]
  by_cases h3 : next = 1000000
  · rw [if_pos h3, if_pos h3]
  rw [if_neg h3, if_neg h3]
  by_cases h4 : restB c.t = true
  · by_cases h5 : 0 < F.2.1
    · rw [if_pos h4, if_pos h5, if_pos (show restB c.t = true ∧ 0 < F.2.1 from ⟨h4, h5⟩)]
      have ht2 : c.t ≠ 2 := by
        intro e; rw [e] at h4; exact absurd h4 (by decide)
      have hok : tkOk c.p = true := by unfold prcB at hp; rw [if_neg ht2] at hp; exact hp
      have ho : ({ ordO c next with left := F.2.1 } : Od) = ⟨next, c.s, tkS c.p, F.2.1, c.l, c.g⟩ := by
        unfold ordO; rw [tkS_ok hok]
      rw [ho]
      have hfe := full_eq (l := F.1) (t := ⟨next, c.s, tkS c.p, F.2.1, c.l, c.g⟩) hgood.1.len (fun x hx => by
        rcases List.mem_append.1 hx with h | h
        · exact hside x h
        · simp at h; subst h; exact side_of hs)
      rw [hfe]
      unfold fullS
      by_cases h6 : F.1.length = 20
      · simp [h6]
      · by_cases h7 : 8 < nlev (F.1 ++ [⟨next, c.s, tkS c.p, F.2.1, c.l, c.g⟩])
        · simp [h6, h7]
        · simp [h6, h7]
    · rw [if_pos h4, if_neg h5, if_neg (by simp [h5])]
  · rw [if_neg h4, if_neg (by simp [h4])]
/-- The reason why a command is refused, by the model. -/
def refS (next : Int) (l : List Od) (c : Cm) : Int :=
  if betB c.k 1 4 = false then 1 else if formB c = false then 2 else if c.k = 1 then newR next l c else if c.k = 4 then 0
  else if c.k = 3 ∧ betB c.q 1 1000000 = false then 7 else if plc l c.i < 0 then 9
  else match l[(plc l c.i).toNat]? with | some o => if c.k = 3 ∧ o.left ≤ c.q then 10 else 0 | none => 0
theorem same_form {k s t l q i : Int} {p : Nat} {g : ByteArray} (hk : k = 1 ∨ k = 2 ∨ k = 3 ∨ k = 4) : formB ⟨k, s, t, l, q, i, p, g⟩ = (if k = 1 then sameC ⟨1, s, t, l, q, 0, p, g⟩ ⟨k, s, t, l, q, i, p, g⟩ else if k = 2 then sameC ⟨2, 0, 0, 0, 0, i, 0, ⟨#[]⟩⟩ ⟨k, s, t, l, q, i, p, g⟩ else if k = 3 then sameC ⟨3, 0, 0, 0, q, i, 0, ⟨#[]⟩⟩ ⟨k, s, t, l, q, i, p, g⟩ else sameC ⟨4, 0, 0, 0, 0, 0, 0, ⟨#[]⟩⟩ ⟨k, s, t, l, q, i, p, g⟩) := by
  have hz : fbit 0 = 0 := by decide
  have he : (⟨#[]⟩ : ByteArray).toList = [] := by unfold ByteArray.toList; rw [ByteArray.toList.loop]; rfl
  have hg : ∀ x : List UInt8, decide ([] = x) = x.isEmpty := by intro x; cases x <;> rfl
  rw [Bool.eq_iff_iff]
  rcases hk with rfl | rfl | rfl | rfl
  · simp [formB, sameC]; omega
  · simp [formB, sameC, hz, he]
    constructor
    · rintro ⟨⟨h1, h2, h3, h4, h5⟩, h6⟩
      exact ⟨h1.symm, h2.symm, h3.symm, h6.symm, h4.symm, h5⟩
    · rintro ⟨h1, h2, h3, h6, h4, h5⟩
      exact ⟨⟨h1.symm, h2.symm, h3.symm, h4.symm, h5⟩, h6.symm⟩
  · simp [formB, sameC, hz, he]
    constructor
    · rintro ⟨h1, h2, h3, h4, h5⟩
      exact ⟨h1.symm, h2.symm, h3.symm, h4.symm, h5⟩
    · rintro ⟨h1, h2, h3, h4, h5⟩
      exact ⟨h1.symm, h2.symm, h3.symm, h4.symm, h5⟩
  · simp [formB, sameC, hz, he]
    constructor
    · rintro ⟨⟨h1, h2, h3, h4, h5⟩, h6, h7⟩
      exact ⟨h1.symm, h2.symm, h3.symm, h6.symm, h7.symm, h4.symm, h5⟩
    · rintro ⟨h1, h2, h3, h6, h7, h4, h5⟩
      exact ⟨⟨h1.symm, h2.symm, h3.symm, h4.symm, h5⟩, h6.symm, h7.symm⟩
theorem ref_eq (next : Int) (l : List Od) (c : Cm) : refS next l c = refR next l c := by
  obtain ⟨k, s, t, li, q, i, p, g⟩ := c
  by_cases hk : k = 1 ∨ k = 2 ∨ k = 3 ∨ k = 4
  · have hb : betB k 1 4 = true := by simp [betB]; omega
    have hf := same_form (s := s) (t := t) (l := li) (q := q) (i := i) (p := p) (g := g) hk
    unfold refS refR
    simp only [hb, hf]
    rcases hk with rfl | rfl | rfl | rfl
    · simp
      cases sameC ⟨1, s, t, li, q, 0, p, g⟩ ⟨1, s, t, li, q, i, p, g⟩ <;> simp
    · simp
      cases sameC ⟨2, 0, 0, 0, 0, i, 0, ⟨#[]⟩⟩ ⟨2, s, t, li, q, i, p, g⟩ <;> simp [idR]
      rcases plc_cases l i with e | ⟨k, o, e, ho⟩
      · rw [e]; rfl
      · rw [e]; simp [ho]
    · simp
      cases sameC ⟨3, 0, 0, 0, q, i, 0, ⟨#[]⟩⟩ ⟨3, s, t, li, q, i, p, g⟩ <;> simp [redR]
      cases betB q 1 1000000 <;> simp
      rcases plc_cases l i with e | ⟨k, o, e, ho⟩
      · rw [e]; rfl
      · rw [e]; simp [ho]
    · simp
      cases sameC ⟨4, 0, 0, 0, 0, 0, 0, ⟨#[]⟩⟩ ⟨4, s, t, li, q, i, p, g⟩ <;> simp
  · have hb : betB k 1 4 = false := by
      cases h : betB k 1 4
      · rfl
      · simp [betB] at h; omega
    unfold refS refR
    simp only [hb]
    simp
    rw [if_neg (by omega), if_neg (by omega), if_neg (by omega), if_neg (by omega)]
end Go.Proofs.Ythmgkabpcjkieaa
