/-
  The model's small functions over a book: who is better, the front, how many levels: proved by walking them.
-/
import Derived.Test.YteljmhgpffekgaaFj08
import Derived.Test.YteljmhgpffekgaaFj25
import Derived.BigQuiet
namespace Go.Proofs.Yteljmhgpffekgaa
open Go.RowKit
set_option linter.unusedVariables false

def ahdB (a b : Od) : Bool := if a.ticks = b.ticks then decide (a.id < b.id) else (decide (b.ticks < a.ticks) == decide (a.side = 1))
theorem ahd_iff (a b : Od) : ahdB a b = true ↔ ahd (decide (a.side = 1)) a b := by
  unfold ahdB ahd
  by_cases h : a.ticks = b.ticks
  · rw [if_pos h]
    simp only [decide_eq_true_eq]
    constructor
    · exact fun h1 => .inr ⟨h, h1⟩
    · rintro (h1 | h1)
      · rw [h] at h1; exact absurd h1 (bt_irr _ _)
      · exact h1.2
  · rw [if_neg h]
    by_cases hs : a.side = 1
    · simp only [hs, decide_true, beq_true, decide_eq_true_eq, bt]
      constructor
      · exact fun h1 => .inl h1
      · rintro (h1 | h1)
        · exact h1
        · exact absurd h1.1 h
    · simp only [hs, decide_false, beq_false, Bool.not_eq_true', decide_eq_false_iff_not, bt]
      constructor
      · exact fun h1 => .inl (by omega)
      · rintro (h1 | h1)
        · omega
        · exact absurd h1.1 h

/-- The place of the front among the first k orders. -/
def FrPre (l : List Od) (sd : Int) (k : Nat) (best : Int) : Prop :=
  (best = -1 ∧ ∀ j o, j < k → l[j]? = some o → o.side ≠ sd) ∨
  ∃ (i : Nat) (o : Od), best = i ∧ i < k ∧ l[i]? = some o ∧ o.side = sd ∧ ∀ j o', j < k → l[j]? = some o' → o'.side = sd → j ≠ i → ahd (decide (sd = 1)) o o'
theorem frPre_skip {l : List Od} {sd : Int} {k : Nat} {best : Int} {c : Od} (h : FrPre l sd k best) (hc : l[k]? = some c) (hs : c.side ≠ sd) : FrPre l sd (k + 1) best := by
  rcases h with ⟨rfl, h⟩ | ⟨i, o, rfl, h1, h2, h3, h4⟩
  · refine .inl ⟨rfl, fun j o hj ho => ?_⟩
    by_cases hjk : j = k
    · subst hjk; rw [hc] at ho; obtain rfl := Option.some.inj ho; exact hs
    · exact h j o (by omega) ho
  · refine .inr ⟨i, o, rfl, by omega, h2, h3, fun j o' hj ho hso hne => ?_⟩
    by_cases hjk : j = k
    · subst hjk; rw [hc] at ho; obtain rfl := Option.some.inj ho; exact absurd hso hs
    · exact h4 j o' (by omega) ho hso hne
theorem frPre_first {l : List Od} {sd : Int} {k : Nat} {c : Od} (h : FrPre l sd k (-1)) (hc : l[k]? = some c) (hs : c.side = sd) : FrPre l sd (k + 1) k := by
  rcases h with ⟨_, h⟩ | ⟨i, o, h0, _⟩
  · refine .inr ⟨k, c, rfl, by omega, hc, hs, fun j o' hj ho hso hne => ?_⟩
    exact absurd hso (h j o' (by omega) ho)
  · omega
theorem rising_ne {l : List Od} (hr : Rising l) {i j : Nat} {a b : Od} (ha : l[i]? = some a) (hb : l[j]? = some b) (hne : i ≠ j) : a.id ≠ b.id := by
  obtain ⟨h1, rfl⟩ := List.getElem?_eq_some_iff.1 ha
  obtain ⟨h2, rfl⟩ := List.getElem?_eq_some_iff.1 hb
  have hp := List.pairwise_iff_getElem.1 hr
  rcases Nat.lt_or_gt_of_ne hne with h | h
  · have := hp i j h1 h2 h; omega
  · have := hp j i h2 h1 h; omega
theorem frPre_better {l : List Od} {sd : Int} {k i : Nat} {c o : Od} (hr : Rising l) (h : FrPre l sd k i) (ho : l[i]? = some o) (hc : l[k]? = some c) (hs : c.side = sd) (hb : ahdB c o = true) : FrPre l sd (k + 1) k := by
  rcases h with ⟨h0, h⟩ | ⟨i', o', h0, h1, h2, h3, h4⟩
  · omega
  · obtain rfl : i = i' := by omega
    rw [ho] at h2; obtain rfl := Option.some.inj h2
    have hco : ahd (decide (sd = 1)) c o := by rw [← hs]; exact (ahd_iff c o).1 hb
    refine .inr ⟨k, c, rfl, by omega, hc, hs, fun j o' hj ho' hso hne => ?_⟩
    by_cases hji : j = i
    · subst hji; rw [ho] at ho'; obtain rfl := Option.some.inj ho'; exact hco
    · exact ahd_trans hco (h4 j o' (by omega) ho' hso hji)
theorem frPre_worse {l : List Od} {sd : Int} {k i : Nat} {c o : Od} (hr : Rising l) (h : FrPre l sd k i) (ho : l[i]? = some o) (hc : l[k]? = some c) (hs : c.side = sd) (hb : ahdB c o = false) : FrPre l sd (k + 1) i := by
  rcases h with ⟨h0, h⟩ | ⟨i', o', h0, h1, h2, h3, h4⟩
  · omega
  · obtain rfl : i = i' := by omega
    rw [ho] at h2; obtain rfl := Option.some.inj h2
    have hnco : ¬ ahd (decide (sd = 1)) c o := by rw [← hs]; intro hh; rw [(ahd_iff c o).2 hh] at hb; cases hb
    have hoc : ahd (decide (sd = 1)) o c := by
      rcases ahd_total (s := decide (sd = 1)) (rising_ne hr hc ho (by omega)) with hh | hh
      · exact absurd hh hnco
      · exact hh
    refine .inr ⟨i, o, rfl, by omega, ho, h3, fun j o' hj ho' hso hne => ?_⟩
    by_cases hjk : j = k
    · subst hjk; rw [hc] at ho'; obtain rfl := Option.some.inj ho'; exact hoc
    · exact h4 j o' (by omega) ho' hso hne

/-- The worlds into which a world may grow. -/
structure GW (W : World) where
  val : World
  property : W.grownBy val none
theorem gw_ne (W : World) : Nonempty (GW W) := ⟨⟨W, World.grownBy.refl _ _⟩⟩
theorem wp_region_gw {P : Program} {id : Nat} {Q : Exit → Act → World → Prop} {a : Act} {w W : World} {l : List Oper} (hm : P.follows .mixedOrders = true) (hB : Region.lexB .any l.toArray = true) (hg : W.grownBy w none)
    (h : wpQuiet P l.toArray (fun w' => ∃ u : GW W, w' = u.val) (fun a' => ∀ w', (∃ u : GW W, w' = u.val) → Q .normal a' w') l a) : (Code.region id l.toArray true).wp P Q a w :=
  wp_region_quiet (C := fun w' => ∃ u : GW W, w' = u.val) hm hB ⟨⟨{ w with drawn := w.drawn + 1 }, ⟨hg.os, hg.tape, hg.output, hg.size, hg.block⟩⟩, rfl⟩ (by simpa using h)
theorem quiet_skip {P : Program} {ops : Array Oper} {C : World → Prop} {Q : Act → Prop} {a : Act} {o : Oper} {rest : List Oper} (h1 : Region.wanted o (yielded ops a.tmps) = false)
    (h3 : ∀ K : Act → Prop, (∀ a, wpQuiet P ops C Q rest a → K a) → K (a.put o.dst undef)) : wpQuiet P ops C Q (o :: rest) a :=
  wpQuiet_step fun K hK => by rw [if_neg (by rw [h1]; decide)]; exact h3 K hK
end Go.Proofs.Yteljmhgpffekgaa
namespace Go.Proofs.Yteljmhgpffekgaa
open Go.RowKit
set_option linter.unusedVariables false

def difB (c y : Od) : Bool := decide (y.side ≠ c.side) || decide (y.ticks ≠ c.ticks)
def freshB (c : Od) (L : List Od) : Bool := L.all (difB c)
theorem nlev_fresh (l : List Od) (x : Od) : nlev (l ++ [x]) = nlev l + (freshB x l).toNat := by
  rw [nlev_snoc]
  congr 1
  by_cases h : ∃ y ∈ l, y.side = x.side ∧ y.ticks = x.ticks
  · rw [if_pos h]
    have : freshB x l = false := by
      obtain ⟨y, h1, h2, h3⟩ := h
      rw [freshB, List.all_eq_false]
      exact ⟨y, h1, by simp [difB, h2, h3]⟩
    rw [this]; rfl
  · rw [if_neg h]
    have : freshB x l = true := by
      rw [freshB, List.all_eq_true]
      intro y hy
      simp only [difB, ne_eq, Bool.or_eq_true, decide_eq_true_eq]
      by_cases h1 : y.side = x.side
      · exact .inr fun h2 => h ⟨y, hy, h1, h2⟩
      · exact .inl h1
    rw [this]; rfl
end Go.Proofs.Yteljmhgpffekgaa
