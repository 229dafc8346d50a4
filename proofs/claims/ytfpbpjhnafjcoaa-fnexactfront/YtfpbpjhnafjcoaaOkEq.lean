/-
  The program and the model say the same of every book; no function walked.
-/
import Derived.Test.YtfpbpjhnafjcoaaBookI
import Derived.Test.YtfpbpjhnafjcoaaSpecB
namespace Go.Proofs.Ytfpbpjhnafjcoaa
open Go.RowKit
set_option linter.unusedVariables false

theorem allR_eq (next : Int) : ∀ (l : List Od) (last : Int), allR next last l = (idsR next last l && l.all ordB)
  | [], _ => rfl
  | a :: r, last => by
    rw [allR, idsR, List.all_cons, allR_eq next r a.id]
    cases ordB a <;> cases decide (last < a.id) <;> cases decide (a.id < next) <;> simp
theorem front_head {s : Bool} {l : List Od} {sd : Int} (hr : Rising l) : ((quOf s (ofSide l sd)).head? = none ∧ ∀ o ∈ l, o.side ≠ sd) ∨ ∃ i o, (quOf s (ofSide l sd)).head? = some o ∧ IsFront s l sd i o := by
  cases h : (quOf s (ofSide l sd)).head? with
  | none => exact .inl ⟨rfl, queue_none (isT_tks s _) h⟩
  | some o =>
    obtain ⟨i, hi⟩ := queue_front hr (isT_tks s _) h
    exact .inr ⟨i, o, rfl, hi⟩
theorem meet_noX {l : List Od} (hr : Rising l) : (!meetB (quOf true (ofSide l 1)) (quOf false (ofSide l 2))) = noX l := by
  rcases front_head (s := true) (sd := 1) hr with ⟨h1, hn⟩ | ⟨i, a, h1, hf1⟩
  · rw [noX_none1 hn]; simp [meetB, hdF, h1]
  · rcases front_head (s := false) (sd := 2) hr with ⟨h2, hn⟩ | ⟨j, b, h2, hf2⟩
    · rw [noX_none2 hn]; simp [meetB, hdF, h2]
    · rw [noX_fronts hf1 hf2]
      simp only [meetB, hdF, hdO, h1, h2, Option.isSome_some, Option.getD_some, Bool.true_and]
      rw [Bool.eq_iff_iff]; simp
theorem okI_eq (next : Int) (l : List Od) : okI next l = okS next l := by
  unfold okI okS
  rw [allR_eq]
  cases h : (idsR next 0 l && l.all ordB)
  · rw [Bool.and_assoc (betB next 1 1000000 && decide (l.length ≤ 20)) (idsR next 0 l), h]; simp
  · have hall : allR next 0 l = true := by rw [allR_eq]; exact h
    have hr := (allR_rising hall).1
    have hs : ∀ o ∈ l, o.side = 1 ∨ o.side = 2 := fun o ho => by
      have := allR_sides hall o ho
      simp [ordB, betB] at this
      omega
    rw [Bool.and_assoc (betB next 1 1000000 && decide (l.length ≤ 20)) (idsR next 0 l), h, meet_noX hr]
    have := nlev_eq hs (isT_tks true _) (isT_tks false _)
    rw [lvsOf, lvsOf, List.length_map, List.length_map, this]
end Go.Proofs.Ytfpbpjhnafjcoaa
