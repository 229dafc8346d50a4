/-
  A drawn book is right, as pure data; no function walked.
-/
import Derived.Test.YtadnjcgfoofjiaaLj29
namespace Go.Proofs.Ytadnjcgfoofjiaa
open Go.RowKit
set_option linter.unusedVariables false

/-- An order as it is drawn. -/
def DrO (o : Od) : Prop := (o.side = 1 ∧ 396 ≤ o.ticks ∧ o.ticks ≤ 399 ∨ o.side = 2 ∧ 400 ≤ o.ticks ∧ o.ticks ≤ 403) ∧ 1 ≤ o.left ∧ o.left ≤ 9 ∧ 0 ≤ o.life ∧ o.life ≤ 1 ∧ tagB o.tag = true
/-- A book as it is drawn. -/
def DrB (n : Int) (q : List Od) : Prop := (∀ o ∈ q, DrO o ∧ 1 ≤ o.id ∧ o.id < n) ∧ Rising q
theorem drB_nil : DrB 1 [] := ⟨by simp, by simp [Rising]⟩
theorem drB_push {n k : Int} {q : List Od} {o : Od} (h : DrB n q) (ho : DrO o) (hid : o.id = n + k) (hk : 0 ≤ k) (hn : 1 ≤ n) : DrB (n + k + 1) (q ++ [o]) := by
  refine ⟨fun x hx => ?_, ?_⟩
  · rcases List.mem_append.1 hx with hx | hx
    · have := h.1 x hx
      exact ⟨this.1, this.2.1, by omega⟩
    · simp at hx; subst hx
      exact ⟨ho, by omega, by omega⟩
  · unfold Rising
    rw [List.pairwise_append]
    refine ⟨h.2, by simp, fun a ha b hb => ?_⟩
    simp at hb; subst hb
    have := (h.1 a ha).2.2
    omega
theorem allR_of {next : Int} : ∀ (l : List Od) (last : Int), (∀ o ∈ l, ordB o = true ∧ last < o.id ∧ o.id < next) → Rising l → allR next last l = true
  | [], _, _, _ => rfl
  | a :: r, last, h, hr => by
    obtain ⟨h1, h2, h3⟩ := h a (by simp)
    obtain ⟨p1, p2⟩ := List.pairwise_cons.1 hr
    rw [allR, h1, decide_eq_true h2, decide_eq_true h3, allR_of r a.id (fun o ho => ⟨(h o (by simp [ho])).1, p1 o ho, (h o (by simp [ho])).2.2⟩) p2]
    rfl
theorem up_len : ∀ (T : List Int) (a b : Int), T.Pairwise (bt false) → (∀ x ∈ T, a ≤ x ∧ x ≤ b) → a ≤ b + 1 → (T.length : Int) ≤ b + 1 - a
  | [], a, b, _, _, h => by simp; omega
  | x :: r, a, b, hp, hx, h => by
    obtain ⟨p1, p2⟩ := List.pairwise_cons.1 hp
    have hxa := hx x (by simp)
    have := up_len r (x + 1) b p2 (fun y hy => ⟨by have := p1 y hy; simp [bt] at this; omega, (hx y (by simp [hy])).2⟩) (by omega)
    simp only [List.length_cons]; omega
theorem down_len : ∀ (T : List Int) (a b : Int), T.Pairwise (bt true) → (∀ x ∈ T, a ≤ x ∧ x ≤ b) → a ≤ b + 1 → (T.length : Int) ≤ b + 1 - a
  | [], a, b, _, _, h => by simp; omega
  | x :: r, a, b, hp, hx, h => by
    obtain ⟨p1, p2⟩ := List.pairwise_cons.1 hp
    have hxa := hx x (by simp)
    have := down_len r a (x - 1) p2 (fun y hy => ⟨(hx y (by simp [hy])).1, by have := p1 y hy; simp [bt] at this; omega⟩) (by omega)
    simp only [List.length_cons]; omega
theorem drO_ord {o : Od} (h : DrO o) : ordB o = true := by
  obtain ⟨h1, h2, h3, h4, h5, h6⟩ := h
  simp only [ordB, betB, h6, Bool.and_true, Bool.and_eq_true, decide_eq_true_eq]
  omega
theorem drB_ok {n : Int} {q : List Od} (h : DrB n q) (h1 : 1 ≤ n) (h2 : n ≤ 1000000) (hl : q.length ≤ 20) : okS n q = true := by
  have hal := allR_of q 0 (fun o ho => ⟨drO_ord (h.1 o ho).1, by have := (h.1 o ho).2; omega, (h.1 o ho).2.2⟩) h.2 (next := n)
  have hT1 := isT_tks true (ofSide q 1)
  have hT2 := isT_tks false (ofSide q 2)
  have hm : ∀ sd o, o ∈ ofSide q sd → o ∈ q ∧ o.side = sd := fun sd o ho => by
    have := List.mem_filter.1 ho
    exact ⟨this.1, by simpa using this.2⟩
  have n1 := down_len _ 396 399 hT1.sorted (fun x hx => by
    obtain ⟨o, ho, rfl⟩ := (hT1.mem x).1 hx
    obtain ⟨h3, h4⟩ := hm 1 o ho
    have := (h.1 o h3).1.1
    omega) (by omega)
  have n2 := up_len _ 400 403 hT2.sorted (fun x hx => by
    obtain ⟨o, ho, rfl⟩ := (hT2.mem x).1 hx
    obtain ⟨h3, h4⟩ := hm 2 o ho
    have := (h.1 o h3).1.1
    omega) (by omega)
  have hnl : nlev q ≤ 8 := by
    rw [nlev_eq (fun o ho => by have := (h.1 o ho).1.1; omega) hT1 hT2]; omega
  have hx : noX q = true := (noX_iff q).2 fun a ha h3 b hb h4 => by
    have e1 := (h.1 a ha).1.1
    have e2 := (h.1 b hb).1.1
    omega
  simp only [okS, hal, hx, Bool.and_true, Bool.and_eq_true, decide_eq_true_eq, betB]
  exact ⟨⟨⟨h1, h2⟩, hl⟩, hnl⟩
end Go.Proofs.Ytadnjcgfoofjiaa
