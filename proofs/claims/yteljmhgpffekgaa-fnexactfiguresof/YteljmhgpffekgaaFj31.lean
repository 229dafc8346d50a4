/-
  Whether a book is right, as the model says it: proved by walking the function.
-/
import Derived.Test.YteljmhgpffekgaaFj29
import Derived.Test.YteljmhgpffekgaaFj30
namespace Go.Proofs.Yteljmhgpffekgaa
open Go.RowKit
set_option linter.unusedVariables false

def allR (next : Int) : Int → List Od → Bool
  | _, [] => true
  | last, o :: r => ordB o && decide (last < o.id) && decide (o.id < next) && allR next o.id r
theorem allR_rising {next : Int} : ∀ {l : List Od} {last : Int}, allR next last l = true → Rising l ∧ ∀ o ∈ l, last < o.id
  | [], _, _ => ⟨by simp [Rising], by simp⟩
  | a :: r, last, h => by
    simp only [allR, Bool.and_eq_true, decide_eq_true_eq] at h
    obtain ⟨ih1, ih2⟩ := allR_rising h.2
    refine ⟨List.pairwise_cons.2 ⟨ih2, ih1⟩, fun o ho => ?_⟩
    rcases List.mem_cons.1 ho with rfl | ho
    · exact h.1.1.2
    · have := ih2 o ho; have := h.1.1.2; omega
theorem allR_sides {next : Int} : ∀ {l : List Od} {last : Int}, allR next last l = true → ∀ o ∈ l, ordB o = true
  | [], _, _ => by simp
  | a :: r, last, h => by
    simp only [allR, Bool.and_eq_true, decide_eq_true_eq] at h
    intro o ho
    rcases List.mem_cons.1 ho with rfl | ho
    · exact h.1.1.1
    · exact allR_sides h.2 o ho
/-- No bid meets an ask. -/
def xB (a b : Od) : Bool := !(decide (a.side = 1) && decide (b.side = 2)) || decide (a.ticks < b.ticks)
def noX (l : List Od) : Bool := l.all fun a => l.all fun b => xB a b
theorem noX_iff (l : List Od) : noX l = true ↔ ∀ a ∈ l, a.side = 1 → ∀ b ∈ l, b.side = 2 → a.ticks < b.ticks := by
  simp only [noX, List.all_eq_true, xB, Bool.or_eq_true, Bool.not_eq_true', Bool.and_eq_false_iff, decide_eq_false_iff_not, decide_eq_true_eq]
  constructor
  · intro h a ha h1 b hb h2
    rcases h a ha b hb with (h3 | h3) | h3
    · exact absurd h1 h3
    · exact absurd h2 h3
    · exact h3
  · intro h a ha b hb
    by_cases h1 : a.side = 1
    · by_cases h2 : b.side = 2
      · exact .inr (h a ha h1 b hb h2)
      · exact .inl (.inr h2)
    · exact .inl (.inl h1)
theorem noX_none1 {l : List Od} (h : ∀ o ∈ l, o.side ≠ 1) : noX l = true := (noX_iff l).2 fun a ha h1 => absurd h1 (h a ha)
theorem noX_none2 {l : List Od} (h : ∀ o ∈ l, o.side ≠ 2) : noX l = true := (noX_iff l).2 fun a ha h1 b hb h2 => absurd h2 (h b hb)
theorem noX_fronts {l : List Od} {i j : Nat} {a b : Od} (ha : IsFront true l 1 i a) (hb : IsFront false l 2 j b) : noX l = decide (a.ticks < b.ticks) := by
  rw [Bool.eq_iff_iff, noX_iff, decide_eq_true_eq]
  constructor
  · exact fun h => h a (List.mem_of_getElem? ha.1) ha.2.1 b (List.mem_of_getElem? hb.1) hb.2.1
  · intro h x hx h1 y hy h2
    obtain ⟨m, hm⟩ := List.mem_iff_getElem?.1 hx
    obtain ⟨n, hn⟩ := List.mem_iff_getElem?.1 hy
    have hxa : x.ticks ≤ a.ticks := by
      by_cases hmi : m = i
      · subst hmi; rw [ha.1] at hm; obtain rfl := Option.some.inj hm; exact Int.le_refl _
      · rcases ha.2.2 m x hm h1 hmi with h3 | h3
        · simp only [bt] at h3; omega
        · omega
    have hyb : b.ticks ≤ y.ticks := by
      by_cases hnj : n = j
      · subst hnj; rw [hb.1] at hn; obtain rfl := Option.some.inj hn; exact Int.le_refl _
      · rcases hb.2.2 n y hn h2 hnj with h3 | h3
        · simp only [bt] at h3; omega
        · omega
    omega
theorem frPre_end {l : List Od} {sd : Int} {k : Int} (h : FrPre l sd l.length k) : (k = -1 ∧ ∀ o ∈ l, o.side ≠ sd) ∨ ∃ (i : Nat) (o : Od), k = i ∧ i < l.length ∧ IsFront (decide (sd = 1)) l sd i o := by
  rcases h with ⟨rfl, h⟩ | ⟨i, o, rfl, h1, h2, h3, h4⟩
  · refine .inl ⟨rfl, fun o ho => ?_⟩
    obtain ⟨j, hj⟩ := List.mem_iff_getElem?.1 ho
    exact h j o (List.getElem?_eq_some_iff.1 hj).1 hj
  · exact .inr ⟨i, o, rfl, h1, h2, h3, fun j o' ho hs hne => h4 j o' (List.getElem?_eq_some_iff.1 ho).1 ho hs hne⟩

/-- A book is right, as the model asks it. -/
def okS (next : Int) (l : List Od) : Bool := betB next 1 1000000 && decide (l.length ≤ 20) && allR next 0 l && (decide (nlev l ≤ 8) && noX l)
end Go.Proofs.Yteljmhgpffekgaa
namespace Go.Proofs.Yteljmhgpffekgaa
open Go.RowKit
set_option linter.unusedVariables false

theorem allR_eq (next : Int) : ∀ (l : List Od) (last : Int), allR next last l = (idsR next last l && l.all ordB)
  | [], _ => rfl
  | a :: r, last => by
    rw [allR, idsR, List.all_cons, allR_eq next r a.id]
    cases ordB a <;> cases decide (last < a.id) <;> cases decide (a.id < next) <;> simp
theorem front_head {s : Bool} {l : List Od} {sd : Int} (hr : Rising l) : ((quOf s (ofSide l sd)).head? = none ∧ ∀ o ∈ l, o.side ≠ sd) ∨ ∃ i o, (quOf s (ofSide l sd)).head? = some o ∧ IsFront s l sd i o := by
  cases h : (quOf s (ofSide l sd)).head? with
  | none => exact .inl ⟨rfl, queue_none (isT_tks s _) h⟩
  | some o =>
    obtain ⟨i, hi⟩ := queue_front hr (isT_tks s _) h
    exact .inr ⟨i, o, rfl, hi⟩
theorem meet_noX {l : List Od} (hr : Rising l) : (!meetB (quOf true (ofSide l 1)) (quOf false (ofSide l 2))) = noX l := by
  rcases front_head (s := true) (sd := 1) hr with ⟨h1, hn⟩ | ⟨i, a, h1, hf1⟩
  · rw [noX_none1 hn]; simp [meetB, hdF, h1]
  · rcases front_head (s := false) (sd := 2) hr with ⟨h2, hn⟩ | ⟨j, b, h2, hf2⟩
    · rw [noX_none2 hn]; simp [meetB, hdF, h2]
    · rw [noX_fronts hf1 hf2]
      simp only [meetB, hdF, hdO, h1, h2, Option.isSome_some, Option.getD_some, Bool.true_and]
      rw [Bool.eq_iff_iff]; simp
theorem okI_eq (next : Int) (l : List Od) : okI next l = okS next l := by
  unfold okI okS
  rw [allR_eq]
  cases h : (idsR next 0 l && l.all ordB)
  · rw [Bool.and_assoc (betB next 1 1000000 && decide (l.length ≤ 20)) (idsR next 0 l), h]; simp
  · have hall : allR next 0 l = true := by rw [allR_eq]; exact h
    have hr := (allR_rising hall).1
    have hs : ∀ o ∈ l, o.side = 1 ∨ o.side = 2 := fun o ho => by
      have := allR_sides hall o ho
      simp [ordB, betB] at this
      omega
    rw [Bool.and_assoc (betB next 1 1000000 && decide (l.length ≤ 20)) (idsR next 0 l), h, meet_noX hr]
    have := nlev_eq hs (isT_tks true _) (isT_tks false _)
    rw [lvsOf, lvsOf, List.length_map, List.length_map, this]
end Go.Proofs.Yteljmhgpffekgaa
