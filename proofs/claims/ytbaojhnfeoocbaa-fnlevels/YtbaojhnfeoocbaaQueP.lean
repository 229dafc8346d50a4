/-
  A list without its front, again and again: the queue, as pure data; no function walked.
-/
import Derived.Test.YtbaojhnfeoocbaaOkEq
namespace Go.Proofs.Ytbaojhnfeoocbaa
open Go.RowKit
set_option linter.unusedVariables false

/-- What has been chosen so far, and what is left. -/
structure Sel (l : List Od) (sd : Int) (left out : List Od) : Prop where
  sub : left.Sublist l
  perm : List.Perm (out ++ ofSide left sd) (ofSide l sd)
  sorted : out.Pairwise (ahd (decide (sd = 1)))
  ahead : ∀ a ∈ out, ∀ b ∈ ofSide left sd, ahd (decide (sd = 1)) a b
theorem sel_start (l : List Od) (sd : Int) : Sel l sd l [] := ⟨List.Sublist.refl _, by simp, by simp, by simp⟩
theorem erase_split {left : List Od} {i : Nat} {o : Od} (h : left[i]? = some o) : left = left.take i ++ o :: left.drop (i + 1) := by
  obtain ⟨h1, rfl⟩ := List.getElem?_eq_some_iff.1 h
  rw [← List.drop_eq_getElem_cons h1, List.take_append_drop]
theorem sel_step {l : List Od} {sd : Int} {left out : List Od} {i : Nat} {o : Od} (h : Sel l sd left out) (hf : IsFront (decide (sd = 1)) left sd i o) (hr : Rising l) : Sel l sd (left.take i ++ left.drop (i + 1)) (out ++ [o]) := by
  have hsp := erase_split hf.1
  have hsub : (left.take i ++ left.drop (i + 1)).Sublist left := by
    conv => rhs; rw [hsp]
    exact List.Sublist.append (List.Sublist.refl _) (List.sublist_cons_self _ _)
  have hof : ofSide left sd = ofSide (left.take i) sd ++ o :: ofSide (left.drop (i + 1)) sd := by
    conv => lhs; rw [hsp]
    unfold ofSide
    rw [List.filter_append, List.filter_cons]; simp [hf.2.1]
  have hof2 : ofSide (left.take i ++ left.drop (i + 1)) sd = ofSide (left.take i) sd ++ ofSide (left.drop (i + 1)) sd := by unfold ofSide; rw [List.filter_append]
  have hmem : ∀ b ∈ ofSide (left.take i ++ left.drop (i + 1)) sd, ahd (decide (sd = 1)) o b := fun b hb => by
    have hb' : b ∈ left.take i ++ left.drop (i + 1) ∧ b.side = sd := by
      have h1 := List.mem_filter.1 hb
      exact ⟨h1.1, by simpa using h1.2⟩
    have hne : b.id ≠ o.id := by
      have hrl : Rising left := List.Pairwise.sublist h.sub hr
      rw [hsp] at hrl
      obtain ⟨p1, p2, p3⟩ := List.pairwise_append.1 hrl
      rcases List.mem_append.1 hb'.1 with hm | hm
      · have := p3 b hm o (by simp); omega
      · have := (List.pairwise_cons.1 p2).1 b hm; omega
    obtain ⟨j, hj⟩ := List.mem_iff_getElem?.1 (hsub.subset hb'.1)
    refine hf.2.2 j b hj hb'.2 (fun e => ?_)
    subst e
    rw [hf.1] at hj
    exact hne (by rw [Option.some.inj hj])
  refine ⟨hsub.trans h.sub, ?_, ?_, ?_⟩
  · refine List.Perm.trans ?_ h.perm
    rw [hof, hof2, List.append_assoc]
    exact List.Perm.append_left _ (by simpa using List.perm_middle.symm)
  · rw [List.pairwise_append]
    exact ⟨h.sorted, by simp, fun a ha b hb => by simp at hb; subst hb; exact h.ahead a ha _ (by rw [hof]; simp)⟩
  · intro a ha b hb
    rcases List.mem_append.1 ha with ha | ha
    · exact h.ahead a ha b (by rw [hof]; rw [hof2] at hb; simp only [List.mem_append, List.mem_cons] at hb ⊢; rcases hb with h | h <;> simp [h])
    · simp at ha; subst ha; exact hmem b hb
theorem sel_end {l : List Od} {sd : Int} {left out : List Od} (h : Sel l sd left out) (hno : ∀ o ∈ left, o.side ≠ sd) (hr : Rising l) : out = quOf (decide (sd = 1)) (ofSide l sd) := by
  have h0 : ofSide left sd = [] := by
    unfold ofSide; rw [List.filter_eq_nil_iff]; intro o ho; simpa using hno o ho
  have hp := h.perm
  rw [h0, List.append_nil] at hp
  have hT := isT_tks (decide (sd = 1)) (ofSide l sd)
  have hrs : Rising (ofSide l sd) := List.Pairwise.sublist List.filter_sublist hr
  exact sorted_unique (hp.trans (flat_perm _ _ (bt_nodup hT.sorted) (fun o ho => (hT.mem _).2 ⟨o, ho, rfl⟩)).symm) h.sorted (flat_sorted hT.sorted hrs)
theorem sel_len {l : List Od} {sd : Int} {left out : List Od} (h : Sel l sd left out) : out.length ≤ l.length ∧ left.length ≤ l.length := by
  refine ⟨?_, h.sub.length_le⟩
  have h1 := h.perm.length_eq
  rw [List.length_append] at h1
  have h2 : (ofSide l sd).length ≤ l.length := List.length_filter_le _ _
  omega
end Go.Proofs.Ytbaojhnfeoocbaa
