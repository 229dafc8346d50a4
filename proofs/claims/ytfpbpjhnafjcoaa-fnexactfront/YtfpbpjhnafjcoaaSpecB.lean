/-
  Whether a book is right, as the model says it: proved by walking the function.
-/
import Derived.Test.YtfpbpjhnafjcoaaSpecL
namespace Go.Proofs.Ytfpbpjhnafjcoaa
open Go.RowKit
set_option linter.unusedVariables false

def allR (next : Int) : Int → List Od → Bool
  | _, [] => true
  | last, o :: r => ordB o && decide (last < o.id) && decide (o.id < next) && allR next o.id r
theorem allR_rising {next : Int} : ∀ {l : List Od} {last : Int}, allR next last l = true → Rising l ∧ ∀ o ∈ l, last < o.id
  | [], _, _ => ⟨by simp [Rising], by simp⟩
  | a :: r, last, h => by
    simp only [allR, Bool.and_eq_true, decide_eq_true_eq] at h
    obtain ⟨ih1, ih2⟩ := allR_rising h.2
    refine ⟨List.pairwise_cons.2 ⟨ih2, ih1⟩, fun o ho => ?_⟩
    rcases List.mem_cons.1 ho with rfl | ho
    · exact h.1.1.2
    · have := ih2 o ho; have := h.1.1.2; omega
theorem allR_sides {next : Int} : ∀ {l : List Od} {last : Int}, allR next last l = true → ∀ o ∈ l, ordB o = true
  | [], _, _ => by simp
  | a :: r, last, h => by
    simp only [allR, Bool.and_eq_true, decide_eq_true_eq] at h
    intro o ho
    rcases List.mem_cons.1 ho with rfl | ho
    · exact h.1.1.1
    · exact allR_sides h.2 o ho
/-- No bid meets an ask. -/
def xB (a b : Od) : Bool := !(decide (a.side = 1) && decide (b.side = 2)) || decide (a.ticks < b.ticks)
def noX (l : List Od) : Bool := l.all fun a => l.all fun b => xB a b
theorem noX_iff (l : List Od) : noX l = true ↔ ∀ a ∈ l, a.side = 1 → ∀ b ∈ l, b.side = 2 → a.ticks < b.ticks := by
  simp only [noX, List.all_eq_true, xB, Bool.or_eq_true, Bool.not_eq_true', Bool.and_eq_false_iff, decide_eq_false_iff_not, decide_eq_true_eq]
  constructor
  · intro h a ha h1 b hb h2
    rcases h a ha b hb with (h3 | h3) | h3
    · exact absurd h1 h3
    · exact absurd h2 h3
    · exact h3
  · intro h a ha b hb
    by_cases h1 : a.side = 1
    · by_cases h2 : b.side = 2
      · exact .inr (h a ha h1 b hb h2)
      · exact .inl (.inr h2)
    · exact .inl (.inl h1)
theorem noX_none1 {l : List Od} (h : ∀ o ∈ l, o.side ≠ 1) : noX l = true := (noX_iff l).2 fun a ha h1 => absurd h1 (h a ha)
theorem noX_none2 {l : List Od} (h : ∀ o ∈ l, o.side ≠ 2) : noX l = true := (noX_iff l).2 fun a ha h1 b hb h2 => absurd h2 (h b hb)
theorem noX_fronts {l : List Od} {i j : Nat} {a b : Od} (ha : IsFront true l 1 i a) (hb : IsFront false l 2 j b) : noX l = decide (a.ticks < b.ticks) := by
  rw [Bool.eq_iff_iff, noX_iff, decide_eq_true_eq]
  constructor
  · exact fun h => h a (List.mem_of_getElem? ha.1) ha.2.1 b (List.mem_of_getElem? hb.1) hb.2.1
  · intro h x hx h1 y hy h2
    obtain ⟨m, hm⟩ := List.mem_iff_getElem?.1 hx
    obtain ⟨n, hn⟩ := List.mem_iff_getElem?.1 hy
    have hxa : x.ticks ≤ a.ticks := by
      by_cases hmi : m = i
      · subst hmi; rw [ha.1] at hm; obtain rfl := Option.some.inj hm; exact Int.le_refl _
      · rcases ha.2.2 m x hm h1 hmi with h3 | h3
        · simp only [bt] at h3; omega
        · omega
    have hyb : b.ticks ≤ y.ticks := by
      by_cases hnj : n = j
      · subst hnj; rw [hb.1] at hn; obtain rfl := Option.some.inj hn; exact Int.le_refl _
      · rcases hb.2.2 n y hn h2 hnj with h3 | h3
        · simp only [bt] at h3; omega
        · omega
    omega
theorem frPre_end {l : List Od} {sd : Int} {k : Int} (h : FrPre l sd l.length k) : (k = -1 ∧ ∀ o ∈ l, o.side ≠ sd) ∨ ∃ (i : Nat) (o : Od), k = i ∧ i < l.length ∧ IsFront (decide (sd = 1)) l sd i o := by
  rcases h with ⟨rfl, h⟩ | ⟨i, o, rfl, h1, h2, h3, h4⟩
  · refine .inl ⟨rfl, fun o ho => ?_⟩
    obtain ⟨j, hj⟩ := List.mem_iff_getElem?.1 ho
    exact h j o (List.getElem?_eq_some_iff.1 hj).1 hj
  · exact .inr ⟨i, o, rfl, h1, h2, h3, fun j o' ho hs hne => h4 j o' (List.getElem?_eq_some_iff.1 ho).1 ho hs hne⟩

/-- A book is right, as the model asks it. -/
def okS (next : Int) (l : List Od) : Bool := betB next 1 1000000 && decide (l.length ≤ 20) && allR next 0 l && (decide (nlev l ≤ 8) && noX l)
end Go.Proofs.Ytfpbpjhnafjcoaa
