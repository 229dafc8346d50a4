/-
  The model's small functions over a book: who is better, the front, how many levels: proved by walking them.
-/
import Derived.Test.YthmgkabpcjkieaaVj16
import Derived.Laws.AppendOwnNone
namespace Go.Proofs.Ythmgkabpcjkieaa
open Go.RowKit
set_option linter.unusedVariables false

def ahdB (a b : Od) : Bool := if a.ticks = b.ticks then decide (a.id < b.id) else (decide (b.ticks < a.ticks) == decide (a.side = 1))
theorem ahd_iff (a b : Od) : ahdB a b = true ↔ ahd (decide (a.side = 1)) a b := by
  unfold ahdB ahd
  by_cases h : a.ticks = b.ticks
  · rw [if_pos h]
    simp only [decide_eq_true_eq]
    constructor
    · exact fun h1 => .inr ⟨h, h1⟩
    · rintro (h1 | h1)
      · rw [h] at h1; exact absurd h1 (bt_irr _ _)
      · exact h1.2
  · rw [if_neg h]
    by_cases hs : a.side = 1
    · simp only [hs, decide_true, beq_true, decide_eq_true_eq, bt]
      constructor
      · exact fun h1 => .inl h1
      · rintro (h1 | h1)
        · exact h1
        · exact absurd h1.1 h
    · simp only [hs, decide_false, beq_false, Bool.not_eq_true', decide_eq_false_iff_not, bt]
      constructor
      · exact fun h1 => .inl (by omega)
      · rintro (h1 | h1)
        · omega
        · exact absurd h1.1 h
/-- The place of the front among the first k orders. -/
def FrPre (l : List Od) (sd : Int) (k : Nat) (best : Int) : Prop :=
  (best = -1 ∧ ∀ j o, j < k → l[j]? = some o → o.side ≠ sd) ∨
  ∃ (i : Nat) (o : Od), best = i ∧ i < k ∧ l[i]? = some o ∧ o.side = sd ∧ ∀ j o', j < k → l[j]? = some o' → o'.side = sd → j ≠ i → ahd (decide (sd = 1)) o o'
theorem frPre_skip {l : List Od} {sd : Int} {k : Nat} {best : Int} {c : Od} (h : FrPre l sd k best) (hc : l[k]? = some c) (hs : c.side ≠ sd) : FrPre l sd (k + 1) best := by
  rcases h with ⟨rfl, h⟩ | ⟨i, o, rfl, h1, h2, h3, h4⟩
  · refine .inl ⟨rfl, fun j o hj ho => ?_⟩
    by_cases hjk : j = k
    · subst hjk; rw [hc] at ho; obtain rfl := Option.some.inj ho; exact hs
    · exact h j o (by omega) ho
  · refine .inr ⟨i, o, rfl, by omega, h2, h3, fun j o' hj ho hso hne => ?_⟩
    by_cases hjk : j = k
    · subst hjk; rw [hc] at ho; obtain rfl := Option.some.inj ho; exact absurd hso hs
    · exact h4 j o' (by omega) ho hso hne
theorem frPre_first {l : List Od} {sd : Int} {k : Nat} {c : Od} (h : FrPre l sd k (-1)) (hc : l[k]? = some c) (hs : c.side = sd) : FrPre l sd (k + 1) k := by
  rcases h with ⟨_, h⟩ | ⟨i, o, h0, _⟩
  · refine .inr ⟨k, c, rfl, by omega, hc, hs, fun j o' hj ho hso hne => ?_⟩
    exact absurd hso (h j o' (by omega) ho)
  · omega
theorem rising_ne {l : List Od} (hr : Rising l) {i j : Nat} {a b : Od} (ha : l[i]? = some a) (hb : l[j]? = some b) (hne : i ≠ j) : a.id ≠ b.id := by
  obtain ⟨h1, rfl⟩ := List.getElem?_eq_some_iff.1 ha
  obtain ⟨h2, rfl⟩ := List.getElem?_eq_some_iff.1 hb
  have hp := List.pairwise_iff_getElem.1 hr
  rcases Nat.lt_or_gt_of_ne hne with h | h
  · have := hp i j h1 h2 h; omega
  · have := hp j i h2 h1 h; omega
theorem frPre_better {l : List Od} {sd : Int} {k i : Nat} {c o : Od} (hr : Rising l) (h : FrPre l sd k i) (ho : l[i]? = some o) (hc : l[k]? = some c) (hs : c.side = sd) (hb : ahdB c o = true) : FrPre l sd (k + 1) k := by
  rcases h with ⟨h0, h⟩ | ⟨i', o', h0, h1, h2, h3, h4⟩
  · omega
  · obtain rfl : i = i' := by omega
    rw [ho] at h2; obtain rfl := Option.some.inj h2
    have hco : ahd (decide (sd = 1)) c o := by rw [← hs]; exact (ahd_iff c o).1 hb
    refine .inr ⟨k, c, rfl, by omega, hc, hs, fun j o' hj ho' hso hne => ?_⟩
    by_cases hji : j = i
    · subst hji; rw [ho] at ho'; obtain rfl := Option.some.inj ho'; exact hco
    · exact ahd_trans hco (h4 j o' (by omega) ho' hso hji)
theorem frPre_worse {l : List Od} {sd : Int} {k i : Nat} {c o : Od} (hr : Rising l) (h : FrPre l sd k i) (ho : l[i]? = some o) (hc : l[k]? = some c) (hs : c.side = sd) (hb : ahdB c o = false) : FrPre l sd (k + 1) i := by
  rcases h with ⟨h0, h⟩ | ⟨i', o', h0, h1, h2, h3, h4⟩
  · omega
  · obtain rfl : i = i' := by omega
    rw [ho] at h2; obtain rfl := Option.some.inj h2
    have hnco : ¬ ahd (decide (sd = 1)) c o := by rw [← hs]; intro hh; rw [(ahd_iff c o).2 hh] at hb; cases hb
    have hoc : ahd (decide (sd = 1)) o c := by
      rcases ahd_total (s := decide (sd = 1)) (rising_ne hr hc ho (by omega)) with hh | hh
      · exact absurd hh hnco
      · exact hh
    refine .inr ⟨i, o, rfl, by omega, ho, h3, fun j o' hj ho' hso hne => ?_⟩
    by_cases hjk : j = k
    · subst hjk; rw [hc] at ho'; obtain rfl := Option.some.inj ho'; exact hoc
    · exact h4 j o' (by omega) ho' hso hne
/-- The worlds into which a world may grow. -/
structure GW (W : World) where
  val : World
  property : W.grownBy val none
theorem gw_ne (W : World) : Nonempty (GW W) := ⟨⟨W, World.grownBy.refl _ _⟩⟩
theorem wp_region_gw {P : Program} {id : Nat} {Q : Exit → Act → World → Prop} {a : Act} {w W : World} {l : List Oper} (hm : P.follows .mixedOrders = true) (hB : Region.lexB .any l.toArray = true) (hg : W.grownBy w none)
    (h : wpQuiet P l.toArray (fun w' => ∃ u : GW W, w' = u.val) (fun a' => ∀ w', (∃ u : GW W, w' = u.val) → Q .normal a' w') l a) : (Code.region id l.toArray true).wp P Q a w :=
  wp_region_quiet (C := fun w' => ∃ u : GW W, w' = u.val) hm hB ⟨⟨{ w with drawn := w.drawn + 1 }, ⟨hg.os, hg.tape, hg.output, hg.size, hg.block⟩⟩, rfl⟩ (by simpa using h)
end Go.Proofs.Ythmgkabpcjkieaa
namespace Go.Proofs.Ythmgkabpcjkieaa
open Go.RowKit
set_option linter.unusedVariables false

def difB (c y : Od) : Bool := decide (y.side ≠ c.side) || decide (y.ticks ≠ c.ticks)
def freshB (c : Od) (L : List Od) : Bool := L.all (difB c)
theorem nlev_fresh (l : List Od) (x : Od) : nlev (l ++ [x]) = nlev l + (freshB x l).toNat := by
  rw [nlev_snoc]
  congr 1
  by_cases h : ∃ y ∈ l, y.side = x.side ∧ y.ticks = x.ticks
  · rw [if_pos h]
    have : freshB x l = false := by
      obtain ⟨y, h1, h2, h3⟩ := h
      rw [freshB, List.all_eq_false]
      exact ⟨y, h1, by simp [difB, h2, h3]⟩
    rw [this]; rfl
  · rw [if_neg h]
    have : freshB x l = true := by
      rw [freshB, List.all_eq_true]
      intro y hy
      simp only [difB, ne_eq, Bool.or_eq_true, decide_eq_true_eq]
      by_cases h1 : y.side = x.side
      · exact .inr fun h2 => h ⟨y, hy, h1, h2⟩
      · exact .inl h1
    rw [this]; rfl
end Go.Proofs.Ythmgkabpcjkieaa
namespace Go.Proofs.Ythmgkabpcjkieaa
open Go.RowKit
set_option linter.unusedVariables false

def allR (next : Int) : Int → List Od → Bool
  | _, [] => true
  | last, o :: r => ordB o && decide (last < o.id) && decide (o.id < next) && allR next o.id r
theorem allR_rising {next : Int} : ∀ {l : List Od} {last : Int}, allR next last l = true → Rising l ∧ ∀ o ∈ l, last < o.id
  | [], _, _ => ⟨by simp [Rising], by simp⟩
  | a :: r, last, h => by
    simp only [allR, Bool.and_eq_true, decide_eq_true_eq] at h
    obtain ⟨ih1, ih2⟩ := allR_rising h.2
    refine ⟨List.pairwise_cons.2 ⟨ih2, ih1⟩, fun o ho => ?_⟩
    rcases List.mem_cons.1 ho with rfl | ho
    · exact h.1.1.2
    · have := ih2 o ho; have := h.1.1.2; omega
theorem allR_sides {next : Int} : ∀ {l : List Od} {last : Int}, allR next last l = true → ∀ o ∈ l, ordB o = true
  | [], _, _ => by simp
  | a :: r, last, h => by
    simp only [allR, Bool.and_eq_true, decide_eq_true_eq] at h
    intro o ho
    rcases List.mem_cons.1 ho with rfl | ho
    · exact h.1.1.1
    · exact allR_sides h.2 o ho
/-- No bid meets an ask. -/
def xB (a b : Od) : Bool := !(decide (a.side = 1) && decide (b.side = 2)) || decide (a.ticks < b.ticks)
def noX (l : List Od) : Bool := l.all fun a => l.all fun b => xB a b
theorem noX_iff (l : List Od) : noX l = true ↔ ∀ a ∈ l, a.side = 1 → ∀ b ∈ l, b.side = 2 → a.ticks < b.ticks := by
  simp only [noX, List.all_eq_true, xB, Bool.or_eq_true, Bool.not_eq_true', Bool.and_eq_false_iff, decide_eq_false_iff_not, decide_eq_true_eq]
  constructor
  · intro h a ha h1 b hb h2
    rcases h a ha b hb with (h3 | h3) | h3
    · exact absurd h1 h3
    · exact absurd h2 h3
    · exact h3
  · intro h a ha b hb
    by_cases h1 : a.side = 1
    · by_cases h2 : b.side = 2
      · exact .inr (h a ha h1 b hb h2)
      · exact .inl (.inr h2)
    · exact .inl (.inl h1)
theorem noX_none1 {l : List Od} (h : ∀ o ∈ l, o.side ≠ 1) : noX l = true := (noX_iff l).2 fun a ha h1 => absurd h1 (h a ha)
theorem noX_none2 {l : List Od} (h : ∀ o ∈ l, o.side ≠ 2) : noX l = true := (noX_iff l).2 fun a ha h1 b hb h2 => absurd h2 (h b hb)
theorem noX_fronts {l : List Od} {i j : Nat} {a b : Od} (ha : IsFront true l 1 i a) (hb : IsFront false l 2 j b) : noX l = decide (a.ticks < b.ticks) := by
  rw [Bool.eq_iff_iff, noX_iff, decide_eq_true_eq]
  constructor
  · exact fun h => h a (List.mem_of_getElem? ha.1) ha.2.1 b (List.mem_of_getElem? hb.1) hb.2.1
  · intro h x hx h1 y hy h2
    obtain ⟨m, hm⟩ := List.mem_iff_getElem?.1 hx
    obtain ⟨n, hn⟩ := List.mem_iff_getElem?.1 hy
    have hxa : x.ticks ≤ a.ticks := by
      by_cases hmi : m = i
      · subst hmi; rw [ha.1] at hm; obtain rfl := Option.some.inj hm; exact Int.le_refl _
      · rcases ha.2.2 m x hm h1 hmi with h3 | h3
        · simp only [bt] at h3; omega
        · omega
    have hyb : b.ticks ≤ y.ticks := by
      by_cases hnj : n = j
      · subst hnj; rw [hb.1] at hn; obtain rfl := Option.some.inj hn; exact Int.le_refl _
      · rcases hb.2.2 n y hn h2 hnj with h3 | h3
        · simp only [bt] at h3; omega
        · omega
    omega
theorem frPre_end {l : List Od} {sd : Int} {k : Int} (h : FrPre l sd l.length k) : (k = -1 ∧ ∀ o ∈ l, o.side ≠ sd) ∨ ∃ (i : Nat) (o : Od), k = i ∧ i < l.length ∧ IsFront (decide (sd = 1)) l sd i o := by
  rcases h with ⟨rfl, h⟩ | ⟨i, o, rfl, h1, h2, h3, h4⟩
  · refine .inl ⟨rfl, fun o ho => ?_⟩
    obtain ⟨j, hj⟩ := List.mem_iff_getElem?.1 ho
    exact h j o (List.getElem?_eq_some_iff.1 hj).1 hj
  · exact .inr ⟨i, o, rfl, h1, h2, h3, fun j o' ho hs hne => h4 j o' (List.getElem?_eq_some_iff.1 ho).1 ho hs hne⟩
/-- A book is right, as the model asks it. -/
def okS (next : Int) (l : List Od) : Bool := betB next 1 1000000 && decide (l.length ≤ 20) && allR next 0 l && (decide (nlev l ≤ 8) && noX l)
end Go.Proofs.Ythmgkabpcjkieaa
namespace Go.Proofs.Ythmgkabpcjkieaa
open Go.RowKit
set_option linter.unusedVariables false

theorem allR_eq (next : Int) : ∀ (l : List Od) (last : Int), allR next last l = (idsR next last l && l.all ordB)
  | [], _ => rfl
  | a :: r, last => by
    rw [allR, idsR, List.all_cons, allR_eq next r a.id]
    cases ordB a <;> cases decide (last < a.id) <;> cases decide (a.id < next) <;> simp
theorem front_head {s : Bool} {l : List Od} {sd : Int} (hr : Rising l) : ((quOf s (ofSide l sd)).head? = none ∧ ∀ o ∈ l, o.side ≠ sd) ∨ ∃ i o, (quOf s (ofSide l sd)).head? = some o ∧ IsFront s l sd i o := by
  cases h : (quOf s (ofSide l sd)).head? with
  | none => exact .inl ⟨rfl, queue_none (isT_tks s _) h⟩
  | some o =>
    obtain ⟨i, hi⟩ := queue_front hr (isT_tks s _) h
    exact .inr ⟨i, o, rfl, hi⟩
theorem meet_noX {l : List Od} (hr : Rising l) : (!meetB (quOf true (ofSide l 1)) (quOf false (ofSide l 2))) = noX l := by
  rcases front_head (s := true) (sd := 1) hr with ⟨h1, hn⟩ | ⟨i, a, h1, hf1⟩
  · rw [noX_none1 hn]; simp [meetB, hdF, h1]
  · rcases front_head (s := false) (sd := 2) hr with ⟨h2, hn⟩ | ⟨j, b, h2, hf2⟩
    · rw [noX_none2 hn]; simp [meetB, hdF, h2]
    · rw [noX_fronts hf1 hf2]
      simp only [meetB, hdF, hdO, h1, h2, Option.isSome_some, Option.getD_some, Bool.true_and]
      rw [Bool.eq_iff_iff]; simp
theorem okI_eq (next : Int) (l : List Od) : okI next l = okS next l := by
  unfold okI okS
  rw [allR_eq]
  cases h : (idsR next 0 l && l.all ordB)
  · rw [Bool.and_assoc (betB next 1 1000000 && decide (l.length ≤ 20)) (idsR next 0 l), h]; simp
  · have hall : allR next 0 l = true := by rw [allR_eq]; exact h
    have hr := (allR_rising hall).1
    have hs : ∀ o ∈ l, o.side = 1 ∨ o.side = 2 := fun o ho => by
      have := allR_sides hall o ho
      simp [ordB, betB] at this
      omega
    rw [Bool.and_assoc (betB next 1 1000000 && decide (l.length ≤ 20)) (idsR next 0 l), h, meet_noX hr]
    have := nlev_eq hs (isT_tks true _) (isT_tks false _)
    rw [lvsOf, lvsOf, List.length_map, List.length_map, this]
end Go.Proofs.Ythmgkabpcjkieaa
namespace Go.Proofs.Ythmgkabpcjkieaa
open Go.RowKit
set_option linter.unusedVariables false

/-- The place of an order of an Id among the first ones from k on. -/
def plcF (id : Int) : List Od → Nat → Int
  | [], _ => -1
  | o :: r, k => if o.id = id then k else plcF id r (k + 1)
def plc (l : List Od) (id : Int) : Int := plcF id l 0
theorem plcF_spec (id : Int) : ∀ (l : List Od) (k : Nat), (plcF id l k = -1 ∧ ∀ o ∈ l, o.id ≠ id) ∨ ∃ i o, plcF id l k = ((k + i : Nat) : Int) ∧ l[i]? = some o ∧ o.id = id ∧ ∀ j o', j < i → l[j]? = some o' → o'.id ≠ id
  | [], k => .inl ⟨rfl, by simp⟩
  | o :: r, k => by
    by_cases h : o.id = id
    · exact .inr ⟨0, o, by rw [plcF, if_pos h]; rfl, rfl, h, by simp⟩
    · rcases plcF_spec id r (k + 1) with ⟨h1, h2⟩ | ⟨i, o', h1, h2, h3, h4⟩
      · refine .inl ⟨by rw [plcF, if_neg h, h1], fun x hx => ?_⟩
        rcases List.mem_cons.1 hx with rfl | hx
        · exact h
        · exact h2 x hx
      · refine .inr ⟨i + 1, o', by rw [plcF, if_neg h, h1]; congr 1; omega, h2, h3, fun j x hj hx => ?_⟩
        cases j with
        | zero => simp at hx; subst hx; exact h
        | succ j => exact h4 j x (by omega) (by simpa using hx)
theorem drop_get {l : List Od} {k : Nat} {c : Od} (h : l[k]? = some c) : l.drop k = c :: l.drop (k + 1) := by
  obtain ⟨h1, rfl⟩ := List.getElem?_eq_some_iff.1 h
  exact List.drop_eq_getElem_cons h1
end Go.Proofs.Ythmgkabpcjkieaa
namespace Go.Proofs.Ythmgkabpcjkieaa
open Go.RowKit
set_option linter.unusedVariables false

abbrev ORow (W : World) (B : Nat) (v : Value) (l : List Od) : Prop := W.ownsRow B 61 6 v l.length (l.flatMap Od.vs)
theorem oRow_rd {W : World} {B : Nat} {v : Value} {l : List Od} (h : ORow W B v l) (hl : l.length ≤ 1073741824) : RdR Od.vs 6 W v l := ownR_rd (ownR_row Od.len hl h)
theorem cellsQ (w : World) (cs : List Value) (t : TypeId) (j : Nat) (u : Value) (h : cs[j]? = some u) : (w.alloc (Obj.cells cs.toArray t)).cell? ((⟨w.heap.size, 0, none⟩ : Addr).add j) = some u := by
  rw [Addr.add_mid, cell_of_row _ w.heap.size (0 + j) cs.toArray t (0, 0) (heap_alloc_new w _)]
  simpa using h
/-- The cells of a part of a row. -/
theorem row_cells {W : World} {g off : Nat} {l : List Od} (h : ∀ i c, l[i]? = some c → W.rangeAt g (off + i * 6) c.vs) (a n : Nat) : ∀ j u, (((l.drop a).take n).flatMap Od.vs)[j]? = some u → W.cell? ((⟨g, off + a * 6, none⟩ : Addr).add j) = some u := by
  intro j u hu
  have hlt := (List.getElem?_eq_some_iff.1 hu).1
  rw [flat_len Od.len] at hlt
  have hq : j / 6 < ((l.drop a).take n).length := by omega
  obtain ⟨c, hc⟩ : ∃ c, ((l.drop a).take n)[j / 6]? = some c := ⟨_, List.getElem?_eq_getElem hq⟩
  have h1 := flat_get Od.len _ (j / 6) (j % 6) c hc (by omega)
  rw [show j / 6 * 6 + j % 6 = j by omega, hu] at h1
  have hc' : l[a + j / 6]? = some c := by
    rw [List.getElem?_take] at hc
    split at hc
    · rw [List.getElem?_drop] at hc; exact hc
    · cases hc
  have := h _ c hc' (j % 6) u h1.symm
  rw [Addr.add_mid]
  rw [show off + (a + j / 6) * 6 + j % 6 = off + a * 6 + j by omega] at this
  exact this
theorem one_all (l : List Od) : ∀ u ∈ l.flatMap Od.vs, u.oneCell' = true := by
  intro u hu
  obtain ⟨o, _, ho⟩ := List.mem_flatMap.1 hu
  simp [Od.vs] at ho
  rcases ho with rfl | rfl | rfl | rfl | rfl | rfl <;> rfl
/-- What holds while a list without its front is laid anew. -/
structure R7 (LV : Value) (W0 : World) (C : Nat → Value → Prop) (L1 L2 : List Od) (x : List Bool) (f : Nat → Value) (W : World) : Prop where
  bel : Below W0.heap.size W0 W
  c : ∀ j, x[j]? = some true → C j (f j)
  s5 : x[10]? = some false → f 10 = LV
  m0 : x[0]? = some true → x[4]? = some false → ORow W W0.heap.size (f 0) []
  m4 : x[4]? = some true → x[9]? = some false → ORow W W0.heap.size (f 4) L1
  m9 : x[9]? = some true → ORow W W0.heap.size (f 9) L2
  m10 : x[10]? = some true → f 10 = f 9
  o4 : x[4]? = some true → x[0]? = some true
  o9 : x[9]? = some true → x[4]? = some true
  o10 : x[10]? = some true → ∀ j, j < 10 → x[j]? = some true
theorem gq {x : List Bool} {i j : Nat} (h : i ≠ j) : (x.set i true)[j]? = x[j]? := List.getElem?_set_ne h
theorem set_mono {x : List Bool} {i j : Nat} (h : x[j]? = some true) : (x.set i true)[j]? = some true := by
  by_cases hij : i = j
  · subst hij; exact List.getElem?_set_self (List.getElem?_eq_some_iff.1 h).1
  · rw [List.getElem?_set_ne hij]; exact h
theorem gqs {x : List Bool} {i : Nat} (h : x[i]? = some false) : (x.set i true)[i]? = some true := List.getElem?_set_self (List.getElem?_eq_some_iff.1 h).1
section
variable {LV : Value} {W0 W W' : World} {C : Nat → Value → Prop} {L1 L2 : List Od} {x : List Bool} {f : Nat → Value}
theorem r7_val (h : R7 LV W0 C L1 L2 x f W) (i : Nat) (v : Value) (hv : C i v) (h0 : i ≠ 0) (h4 : i ≠ 4) (h9 : i ≠ 9) (h10 : i ≠ 10) : R7 LV W0 C L1 L2 (x.set i true) (upd f i v) W := by
  refine ⟨h.bel, step_upd h.c hv, ?_, ?_, ?_, ?_, ?_, ?_, ?_, ?_⟩ <;> simp only [gq h0, gq h4, gq h9, gq h10, upd_ne f v h0.symm, upd_ne f v h4.symm, upd_ne f v h9.symm, upd_ne f v h10.symm]
  · exact h.s5
  · exact h.m0
  · exact h.m4
  · exact h.m9
  · exact h.m10
  · exact h.o4
  · exact h.o9
  · exact fun e j hj => set_mono (h.o10 e j hj)
theorem no_of {b : Option Bool} (h : b = some false) : b ≠ some true := by rw [h]; simp
theorem r7_0 (h : R7 LV W0 C L1 L2 x f W) (h0 : x[0]? = some false) (hv : ∀ v, C 0 v) : R7 LV W0 C L1 L2 (x.set 0 true) (upd f 0 (.slice (some ⟨W.heap.size, 0, none⟩) 0 0)) (W.alloc (Obj.cells #[] 61)) := by
  have n4 : x[4]? ≠ some true := fun e => no_of h0 (h.o4 e)
  have n9 : x[9]? ≠ some true := fun e => n4 (h.o9 e)
  have n10 : x[10]? ≠ some true := fun e => n9 (h.o10 e 9 (by omega))
  refine ⟨h.bel.alloc h.bel.size _, step_upd h.c (hv _), ?_, ?_, ?_, ?_, ?_, ?_, ?_, ?_⟩ <;> try simp only [gq (show 0 ≠ 4 by decide), gq (show 0 ≠ 9 by decide), gq (show 0 ≠ 10 by decide), upd_ne f _ (show 10 ≠ 0 by decide), upd_ne f _ (show 9 ≠ 0 by decide), upd_ne f _ (show 4 ≠ 0 by decide)]
  · exact h.s5
  · intro _ _; rw [upd_same]; exact World.ownsRow_made W #[] 0 h.bel.size (by decide) rfl
  · exact fun e => absurd e n4
  · exact fun e => absurd e n9
  · exact fun e => absurd e n10
  · exact fun e => absurd e n4
  · exact h.o9
  · exact fun e j hj => set_mono (h.o10 e j hj)
theorem r7_4 (h : R7 LV W0 C L1 L2 x f W) (h0 : x[0]? = some true) (h4 : x[4]? = some false) (hv : ∀ v, C 4 v) {v' : Value} (ho : ORow W' W0.heap.size v' L1) (hg : W.grownBy W' (f 0).ownBlock) : R7 LV W0 C L1 L2 (x.set 4 true) (upd f 4 v') W' := by
  have n9 : x[9]? ≠ some true := fun e => no_of h4 (h.o9 e)
  have n10 : x[10]? ≠ some true := fun e => n9 (h.o10 e 9 (by omega))
  refine ⟨h.bel.grown hg h.bel.size (fun k hk => ((h.m0 h0 h4).lt k hk).1), step_upd h.c (hv _), ?_, ?_, ?_, ?_, ?_, ?_, ?_, ?_⟩ <;> try simp only [gq (show 4 ≠ 0 by decide), gq (show 4 ≠ 9 by decide), gq (show 4 ≠ 10 by decide), upd_ne f _ (show 10 ≠ 4 by decide), upd_ne f _ (show 9 ≠ 4 by decide), upd_ne f _ (show 0 ≠ 4 by decide)]
  · exact h.s5
  · intro _ e; rw [gqs h4] at e; cases e
  · intro _ _; rw [upd_same]; exact ho
  · exact fun e => absurd e n9
  · exact fun e => absurd e n10
  · exact fun _ => h0
  · exact fun e => absurd e n9
  · exact fun e j hj => set_mono (h.o10 e j hj)
theorem r7_9 (h : R7 LV W0 C L1 L2 x f W) (h4 : x[4]? = some true) (h9 : x[9]? = some false) (hv : ∀ v, C 9 v) {v' : Value} (ho : ORow W' W0.heap.size v' L2) (hg : W.grownBy W' (f 4).ownBlock) : R7 LV W0 C L1 L2 (x.set 9 true) (upd f 9 v') W' := by
  have n10 : x[10]? ≠ some true := fun e => no_of h9 (h.o10 e 9 (by omega))
  refine ⟨h.bel.grown hg h.bel.size (fun k hk => ((h.m4 h4 h9).lt k hk).1), step_upd h.c (hv _), ?_, ?_, ?_, ?_, ?_, ?_, ?_, ?_⟩ <;> try simp only [gq (show 9 ≠ 0 by decide), gq (show 9 ≠ 4 by decide), gq (show 9 ≠ 10 by decide), upd_ne f _ (show 10 ≠ 9 by decide), upd_ne f _ (show 4 ≠ 9 by decide), upd_ne f _ (show 0 ≠ 9 by decide)]
  · exact h.s5
  · exact fun _ e => absurd e (by rw [h4]; simp)
  · intro _ e; rw [gqs h9] at e; cases e
  · intro _; rw [upd_same]; exact ho
  · exact fun e => absurd e n10
  · exact h.o4
  · exact fun _ => h4
  · exact fun e => absurd e n10
theorem r7_10 (h : R7 LV W0 C L1 L2 x f W) (hA : ∀ j, j < 10 → x[j]? = some true) (h10 : x[10]? = some false) (hv : ∀ v, C 10 v) : R7 LV W0 C L1 L2 (x.set 10 true) (upd f 10 (f 9)) W := by
  refine ⟨h.bel, step_upd h.c (hv _), ?_, ?_, ?_, ?_, ?_, ?_, ?_, ?_⟩ <;> try simp only [gq (show 10 ≠ 0 by decide), gq (show 10 ≠ 4 by decide), gq (show 10 ≠ 9 by decide), upd_ne f _ (show 9 ≠ 10 by decide), upd_ne f _ (show 4 ≠ 10 by decide), upd_ne f _ (show 0 ≠ 10 by decide)]
  · intro e; rw [gqs h10] at e; cases e
  · exact h.m0
  · exact h.m4
  · exact h.m9
  · exact fun _ => upd_same _ _ _
  · exact h.o4
  · exact h.o9
  · exact fun _ j hj => set_mono (hA j hj)
end
def C7 (LV : Value) (g n cp i : Nat) : Nat → Value → Prop
  | 1, v => v = LV
  | 2, v => v = .int .i64 i
  | 3, v => v = .slice (some ⟨g, 0, none⟩) i cp
  | 5, v => v = LV
  | 6, v => v = .int .i64 i
  | 7, v => v = .int .i64 ((i : Int) + 1)
  | 8, v => ∃ ad c, v = .slice (some ad) (n - (i + 1)) c ∧ (i + 1 < n → ad = ⟨g, (i + 1) * 6, none⟩)
  | _, _ => True
/-- The frame, the invariant behind a name. -/
def R7A (LV : Value) (W0 : World) (C : Nat → Value → Prop) (L1 L2 : List Od) (F : (Nat → Value) → Act) (x : List Bool) (A : Act) (W : World) : Prop := ∃ f, A = F f ∧ R7 LV W0 C L1 L2 x f W
theorem oRow_some {W : World} {B : Nat} {v : Value} {l : List Od} (h : ORow W B v l) (hne : l ≠ []) : ∃ g cap, v = .slice (some ⟨g, 0, none⟩) l.length cap ∧ l.length ≤ cap ∧ B ≤ g ∧ g < W.heap.size := by
  rcases h.2 with ⟨rfl, h0⟩ | ⟨g, cap, cur, rfl, hb, hg, hcap, _⟩
  · exact absurd (List.length_eq_zero_iff.1 h0) hne
  · exact ⟨g, cap, rfl, hcap, hb, (Array.getElem?_eq_some_iff.1 hg).1⟩
end Go.Proofs.Ythmgkabpcjkieaa
namespace Go.Proofs.Ythmgkabpcjkieaa
open Go.RowKit
set_option linter.unusedVariables false

/-- A slice that is nil, or has a place. -/
def SlOk (v : Value) : Prop := v = .slice none 0 0 ∨ ∃ ad n c, v = .slice (some ad) n c
theorem oRow_sl {W : World} {B : Nat} {v : Value} {l : List Od} (h : ORow W B v l) : SlOk v := by
  rcases h.2 with ⟨h1, _⟩ | ⟨g, cap, cur, h1, _⟩
  · exact .inl h1
  · exact .inr ⟨_, _, _, h1⟩
theorem rd_src {W : World} {ad : Addr} {cap : Nat} {l : List Od} (hr : RdR Od.vs 6 W (.slice (some ad) l.length cap) l) : ∀ j u, (l.flatMap Od.vs)[j]? = some u → W.cell? (ad.add j) = some u := by
  intro j u hu
  obtain ⟨a', cap', e1, _, hc⟩ := hr
  simp only [Value.slice.injEq] at e1
  have hne : l ≠ [] := by rintro rfl; simp at hu
  obtain ⟨b, off, e2, hb, hcl⟩ := hc hne
  rw [e2] at e1
  simp only [Option.some.injEq] at e1
  obtain ⟨rfl, -, -⟩ := e1
  have h := row_cells (W := W) (g := b) (off := off) (l := l) hcl 0 l.length j u (by simpa using hu)
  simpa using h
theorem there_set1 {W : World} {b c o k j : Nat} {u : Value} (h : W.there b o k) : (W.setCell ⟨c, j, none⟩ u).there b o k := World.there_setCells (vs := [u]) h c j
theorem oRow_set {W : World} {B : Nat} {v : Value} {l : List Od} (h : ORow W B v l) {b : Nat} (hb : b < B) (o : Nat) (u : Value) : ORow (W.setCell ⟨b, o, none⟩ u) B v l :=
  ownsRow_setCell_below h (a := ⟨b, o, none⟩) hb u
end Go.Proofs.Ythmgkabpcjkieaa
