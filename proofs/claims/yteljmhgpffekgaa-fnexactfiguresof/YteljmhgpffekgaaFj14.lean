/-
  A region that draws its order, walked by what holds of the operations that have come up: one step an operation serves every order. No function walked.
-/
import Derived.Test.YteljmhgpffekgaaFj07
namespace Go.Proofs.Yteljmhgpffekgaa
open Go.RowKit
set_option linter.unusedVariables false

theorem count_set : ∀ (x : List Bool) (i : Nat), x[i]? = some false → (x.set i true).count false + 1 = x.count false
  | [], i, h => by simp at h
  | b :: r, 0, h => by simp at h; subst h; simp
  | b :: r, i + 1, h => by
    have ih := count_set r i (by simpa using h)
    simp only [List.set_cons_succ, List.count_cons]
    omega
theorem no_false {x : List Bool} (h : x.count false = 0) (i : Nat) : x[i]? ≠ some false := fun e => by
  have := List.count_pos_iff.2 (List.mem_of_getElem? e)
  omega

section
variable {P : Program} {Q : Exit → Act → World → Prop} {l : List Oper} (R : List Bool → Act → World → Prop)

theorem ready_facts {x : List Bool} (hx : x.length = l.length) {i : Nat} (h : i ∈ Region.ready .any l.toArray x.toArray) :
    ∃ o, l[i]? = some o ∧ x[i]? = some false ∧ ∀ e ∈ o.after, Region.binds .any e = true → x[e.on]? = some true := by
  obtain ⟨h1, o, h2, h3⟩ := mem_ready.1 h
  refine ⟨o, by simpa using h2, ?_, fun e he hb => ?_⟩
  · by_cases hi : i < x.length
    · simp [hi] at h1; simp [hi, h1]
    · simp [hi] at h1
  · have := h3 e he hb
    by_cases hi : e.on < x.length
    · simp [hi] at this; simp [hi, this]
    · simp [hi] at this
theorem ready_none {x : List Bool} (h : Region.ready .any l.toArray x.toArray = []) (hx : x.length = l.length) (i : Nat) (o : Oper) (ho : l[i]? = some o) (hall : ∀ e ∈ o.after, Region.binds .any e = true → x[e.on]? = some true) : x[i]? = some true := by
  have hi : i < x.length := by rw [hx]; exact (List.getElem?_eq_some_iff.1 ho).1
  cases hb : x[i]
  · exfalso
    have : i ∈ Region.ready .any l.toArray x.toArray := mem_ready.2 ⟨by simp [hi, hb], o, by simpa using ho, fun e he hbd => by
      have := hall e he hbd
      obtain ⟨h1, h2⟩ := List.getElem?_eq_some_iff.1 this
      simp [h1, h2]⟩
    rw [h] at this; simp at this
  · simp [hi, hb]

theorem wpAny_inv
    (hend : ∀ x a w, R x a w → x.length = l.length → Region.ready .any l.toArray x.toArray = [] → Q .normal a w)
    (hstep : ∀ x a w i o, R x a w → x.length = l.length → l[i]? = some o → x[i]? = some false → (∀ e ∈ o.after, Region.binds .any e = true → x[e.on]? = some true) →
      (if Region.wanted o (yielded l.toArray a.tmps) then o.wp P a w (fun a' w' => R (x.set i true) a' w') Q else R (x.set i true) (a.put o.dst undef) w)) :
    ∀ (n : Nat) (x : List Bool) (a : Act) (w : World), x.count false = n → x.length = l.length → R x a w → wpAny P .any l.toArray Q n x.toArray a w
  | 0, x, a, w, hn, hx, hR => by
    have hr : Region.ready .any l.toArray x.toArray = [] := by
      apply List.eq_nil_iff_forall_not_mem.2
      intro i hi
      obtain ⟨o, _, h2, _⟩ := ready_facts hx hi
      exact no_false hn i h2
    exact ⟨hr, hend x a w hR hx hr⟩
  | n + 1, x, a, w, hn, hx, hR => by
    refine ⟨fun hr => hend x a w hR hx hr, fun i hi => ?_⟩
    obtain ⟨o, h1, h2, h3⟩ := ready_facts hx hi
    have hs := hstep x a w i o hR hx h1 h2 h3
    have hc := count_set x i h2
    have hnext : ∀ a' w', R (x.set i true) a' w' → wpAny P .any l.toArray Q n (x.toArray.setIfInBounds i true) a' w' := fun a' w' h => by
      have := wpAny_inv hend hstep n (x.set i true) a' w' (by omega) (by simpa using hx) h
      simpa using this
    have ho : l.toArray[i]? = some o := by simpa using h1
    unfold wpOp
    rw [ho]
    simp only
    split
    · next hw => rw [if_pos hw] at hs; exact .inl (Oper.wp_mono hnext hs)
    · next hw => rw [if_neg hw] at hs; exact hnext _ _ hs
theorem wp_region_inv {id : Nat} {a : Act} {w : World} (hm : P.follows .mixedOrders = true)
    (h0 : R (List.replicate l.length false) a { w with drawn := w.drawn + 1 })
    (hend : ∀ x a w, R x a w → x.length = l.length → Region.ready .any l.toArray x.toArray = [] → Q .normal a w)
    (hstep : ∀ x a w i o, R x a w → x.length = l.length → l[i]? = some o → x[i]? = some false → (∀ e ∈ o.after, Region.binds .any e = true → x[e.on]? = some true) →
      (if Region.wanted o (yielded l.toArray a.tmps) then o.wp P a w (fun a' w' => R (x.set i true) a' w') Q else R (x.set i true) (a.put o.dst undef) w)) :
    (Code.region id l.toArray true).wp P Q a w := by
  refine wp_region_any hm ?_
  have := wpAny_inv R hend hstep l.length (List.replicate l.length false) a { w with drawn := w.drawn + 1 } (by simp) (by simp) h0
  simpa using this
end
/-- What holds in a region in which memory grows: each operation that has come up has its value. -/
def RGrow (base : World) (F : (Nat → Value) → Act) (C : Nat → Value → Prop) (x : List Bool) (A : Act) (W : World) : Prop :=
  ∃ f, A = F f ∧ Below base.heap.size base W ∧ ∀ j, x[j]? = some true → C j (f j)
theorem step_upd {C : Nat → Value → Prop} {x : List Bool} {f : Nat → Value} {i : Nat} {v : Value} (h : ∀ j, x[j]? = some true → C j (f j)) (hv : C i v) : ∀ j, (x.set i true)[j]? = some true → C j (upd f i v j) := fun j hj => by
  by_cases hji : j = i
  · subst hji; rw [upd_same]; exact hv
  · rw [upd_ne _ _ hji]; rw [List.getElem?_set_ne (fun e => hji e.symm)] at hj; exact h j hj
theorem ready_all {l : List Oper} {x : List Bool} (h : Region.ready .any l.toArray x.toArray = []) (hx : x.length = l.length) (hacy : ∀ (i : Nat) (o : Oper), l[i]? = some o → ∀ e ∈ o.after, e.on < i) : ∀ i, i < l.length → x[i]? = some true := by
  intro i
  induction i using Nat.strongRecOn with
  | _ i ih =>
    intro hi
    refine ready_none h hx i l[i] (List.getElem?_eq_getElem hi) fun e he _ => ?_
    have := hacy i l[i] (List.getElem?_eq_getElem hi) e he
    exact ih e.on this (by omega)
end Go.Proofs.Yteljmhgpffekgaa
