/-
  A region that draws its order, over worlds of whatever class: what holds of each value that has come up. No function walked.
-/
import Derived.Test.YtadnjcgfoofjiaaLj34
namespace Go.Proofs.Ytadnjcgfoofjiaa
open Go.RowKit
set_option linter.unusedVariables false

theorem count_setT : ∀ (x : List Bool) (i : Nat), x[i]? = some false → (x.set i true).count true = x.count true + 1
  | [], i, h => by simp at h
  | b :: r, 0, h => by simp at h; subst h; simp
  | b :: r, i + 1, h => by
    have ih := count_setT r i (by simpa using h)
    simp only [List.set_cons_succ, List.count_cons]
    omega
/-- Each operation that has come up has its value; k is the operation that writes last; the world is of its class, by how many have come up. -/
def RS (B0 : Nat → World → Prop) (F : (Nat → Value) → Act) (k : Nat) (D : Prop → World → Nat → Value → Prop) (x : List Bool) (A : Act) (W : World) : Prop :=
  ∃ f, A = F f ∧ (¬ x[k]? = some true → B0 (x.count true) W) ∧ ∀ j, x[j]? = some true → D (x[k]? = some true) W j (f j)
section
variable {B0 : Nat → World → Prop} {W W' : World} {k : Nat} {D : Prop → World → Nat → Value → Prop} {x : List Bool} {f : Nat → Value}
theorem rs_step (h : ∀ j, x[j]? = some true → D (x[k]? = some true) W j (f j)) {i : Nat} (hik : i ≠ k) (hxi : x[i]? = some false) (hm : ∀ j v, D (x[k]? = some true) W j v → D (x[k]? = some true) W' j v) (hB : B0 (x.count true + 1) W') {v : Value} (hv : D (x[k]? = some true) W' i v) :
    (¬ (x.set i true)[k]? = some true → B0 ((x.set i true).count true) W') ∧ ∀ j, (x.set i true)[j]? = some true → D ((x.set i true)[k]? = some true) W' j (upd f i v j) := by
  refine ⟨fun _ => by rw [count_setT x i hxi]; exact hB, fun j hj => ?_⟩
  rw [List.getElem?_set_ne hik]
  by_cases hji : j = i
  · subst hji; rw [upd_same]; exact hv
  · rw [upd_ne _ _ hji]
    rw [List.getElem?_set_ne (fun e => hji e.symm)] at hj
    exact hm _ _ (h j hj)
theorem rs_last (h : ∀ j, x[j]? = some true → D (x[k]? = some true) W j (f j)) (hk : x[k]? = some false) (hm : ∀ j, j ≠ k → x[j]? = some true → D False W j (f j) → D True W' j (f j)) {v : Value} (hv : D True W' k v) :
    (¬ (x.set k true)[k]? = some true → B0 ((x.set k true).count true) W') ∧ ∀ j, (x.set k true)[j]? = some true → D ((x.set k true)[k]? = some true) W' j (upd f k v j) := by
  have e : ((x.set k true)[k]? = some true) = True := by
    rw [List.getElem?_set_self (List.getElem?_eq_some_iff.1 hk).1]; simp
  refine ⟨fun hn => absurd (by rw [e]; trivial) hn, fun j hj => ?_⟩
  rw [e]
  by_cases hji : j = k
  · subst hji; rw [upd_same]; exact hv
  · rw [upd_ne _ _ hji]
    rw [List.getElem?_set_ne (fun e => hji e.symm)] at hj
    refine hm j hji hj ?_
    have := h j hj
    rw [hk] at this
    simpa using this
end
end Go.Proofs.Ytadnjcgfoofjiaa
