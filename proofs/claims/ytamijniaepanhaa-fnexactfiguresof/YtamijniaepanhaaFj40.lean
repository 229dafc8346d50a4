/-
  Regions in whatever order, one whose last operation writes. No function walked.
-/
import Derived.Test.YtamijniaepanhaaFj39
namespace Go.Proofs.Ytamijniaepanhaa
open Go.RowKit
set_option linter.unusedVariables false

theorem gqY {x : List Bool} {i j : Nat} (h : i ≠ j) : (x.set i true)[j]? = x[j]? := List.getElem?_set_ne h
theorem gqsY {x : List Bool} {i : Nat} (h : x[i]? = some false) : (x.set i true)[i]? = some true := List.getElem?_set_self (List.getElem?_eq_some_iff.1 h).1
/-- One round of those that an operation waits for. -/
def ancS (l : List Oper) (s : List Nat) : List Nat := s ++ s.flatMap fun i => match l[i]? with
  | some o => (o.after.toList.filter fun e => Region.binds .any e).map fun e => e.on
  | none => []
def ancN (l : List Oper) : Nat → List Nat → List Nat
  | 0, s => s
  | n + 1, s => ancN l n (ancS l s).eraseDups
theorem ancS_true {l : List Oper} {x : List Bool} (hc : Closed l x) {s : List Nat} (hs : ∀ i ∈ s, x[i]? = some true) : ∀ i ∈ ancS l s, x[i]? = some true := by
  intro i hi
  rcases List.mem_append.1 hi with h | h
  · exact hs i h
  · obtain ⟨k, hk, hm⟩ := List.mem_flatMap.1 h
    split at hm
    · next o ho =>
      obtain ⟨e, he, rfl⟩ := List.mem_map.1 hm
      obtain ⟨he1, he2⟩ := List.mem_filter.1 he
      exact hc k o ho (hs k hk) e (by simpa using he1) he2
    · simp at hm
theorem ancN_true {l : List Oper} {x : List Bool} (hc : Closed l x) : ∀ (n : Nat) (s : List Nat), (∀ i ∈ s, x[i]? = some true) → ∀ i ∈ ancN l n s, x[i]? = some true
  | 0, s, hs => hs
  | n + 1, s, hs => ancN_true hc n _ (fun i hi => ancS_true hc hs i (List.mem_eraseDups.1 hi))
/-- An operation that another waits for has not come up: so that other one has not. -/
theorem wait_no {l : List Oper} {x : List Bool} (hc : Closed l x) (d i n : Nat) (hB : (ancN l d [n]).contains i = true) (hx : x.length = l.length) (hn : n < l.length) (hi : x[i]? = some false) : x[n]? = some false := by
  rcases bit_or hx hn with h | h
  · exact h
  · have := ancN_true hc d [n] (by simpa using h) i (by simpa using hB)
    rw [hi] at this; cases this
/-- What holds while one operation, the n-th, writes behind all that it waits for. -/
structure RY (C : World → Nat → Value → Prop) (n : Nat) (Q : (Nat → Value) → World → Prop) (base : World) (x : List Bool) (f : Nat → Value) (W : World) : Prop where
  b : x[n]? = some false → Below base.heap.size base W
  c : x[n]? = some false → ∀ j, x[j]? = some true → C W j (f j)
  m : x[n]? = some true → Q f W
def RYA (F : (Nat → Value) → Act) (C : World → Nat → Value → Prop) (n : Nat) (Q : (Nat → Value) → World → Prop) (base : World) (x : List Bool) (A : Act) (W : World) : Prop := ∃ f, A = F f ∧ RY C n Q base x f W
section
variable {C : World → Nat → Value → Prop} {n : Nat} {Q : (Nat → Value) → World → Prop} {base W W' : World} {x : List Bool} {f : Nat → Value}
theorem ry_start {k : Nat} {f : Nat → Value} (hk : n < k) : RY C n Q base (List.replicate k false) f { base with drawn := base.drawn + 1 } :=
  ⟨fun _ => ⟨rfl, rfl, rfl, Nat.le_refl _, fun _ _ => rfl⟩, fun _ j hj => by rw [List.getElem?_replicate] at hj; split at hj <;> simp at hj, fun h => by rw [List.getElem?_replicate] at h; split at h <;> simp at h⟩
theorem ry_val (h : RY C n Q base x f W) (i : Nat) (v : Value) (hn : x[n]? = some false) (hin : i ≠ n) (hv : C W i v) : RY C n Q base (x.set i true) (upd f i v) W := by
  refine ⟨fun _ => h.b hn, fun _ j hj => ?_, fun e => by rw [gqY hin, hn] at e; cases e⟩
  by_cases hji : j = i
  · subst hji; rw [upd_same]; exact hv
  · rw [upd_ne _ _ hji]; rw [gqY (fun e => hji e.symm)] at hj; exact h.c hn j hj
theorem ry_grow (hm : ∀ W W' j v, Below W.heap.size W W' → C W j v → C W' j v) (h : RY C n Q base x f W) (hn : x[n]? = some false) (hb : Below W.heap.size W W') : RY C n Q base x f W' :=
  ⟨fun _ => (h.b hn).trans (hb.mono (h.b hn).size), fun _ j hj => hm _ _ _ _ hb (h.c hn j hj), fun e => by rw [hn] at e; cases e⟩
theorem ry_write (h : RY C n Q base x f W) (hn : x[n]? = some false) (v : Value) (hq : Q (upd f n v) W') : RY C n Q base (x.set n true) (upd f n v) W' :=
  ⟨fun e => (by rw [gqsY hn] at e; cases e), fun e => (by rw [gqsY hn] at e; cases e), fun _ => hq⟩
theorem ry_writeN (h : RY C n Q base x f W) (hn : x[n]? = some false) (hq : Q f W') : RY C n Q base (x.set n true) f W' :=
  ⟨fun e => (by rw [gqsY hn] at e; cases e), fun e => (by rw [gqsY hn] at e; cases e), fun _ => hq⟩
theorem ry_after (h : RY C n Q base x f W) (i : Nat) (v : Value) (hn : x[n]? = some true) (hin : i ≠ n) (hq : Q f W → Q (upd f i v) W) : RY C n Q base (x.set i true) (upd f i v) W :=
  ⟨fun e => (by rw [gqY hin, hn] at e; cases e), fun e => (by rw [gqY hin, hn] at e; cases e), fun _ => hq (h.m hn)⟩
end
end Go.Proofs.Ytamijniaepanhaa
