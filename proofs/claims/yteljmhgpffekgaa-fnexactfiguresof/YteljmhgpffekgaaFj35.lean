/-
  A region that draws its order, with one operation that writes: what holds of each value that has come up, world by world. No function walked.
-/
import Derived.Test.YteljmhgpffekgaaFj06
import Derived.Test.YteljmhgpffekgaaFj14
import Derived.StillTailTactics
namespace Go.Proofs.Yteljmhgpffekgaa
open Go.RowKit
set_option linter.unusedVariables false

/-- Each operation that has come up has its value; k is the operation that writes. -/
def RG (base : World) (F : (Nat → Value) → Act) (k : Nat) (D : Prop → World → Nat → Value → Prop) (x : List Bool) (A : Act) (W : World) : Prop :=
  ∃ f, A = F f ∧ Below base.heap.size base W ∧ ∀ j, x[j]? = some true → D (x[k]? = some true) W j (f j)
section
variable {base W W' : World} {F : (Nat → Value) → Act} {k : Nat} {D : Prop → World → Nat → Value → Prop} {x : List Bool} {f : Nat → Value}
theorem rg_grow (hm : ∀ p W W' j v, Below W.heap.size W W' → D p W j v → D p W' j v) (hb : Below base.heap.size base W) (h : ∀ j, x[j]? = some true → D (x[k]? = some true) W j (f j)) (hg : Below W.heap.size W W') {i : Nat} (hik : i ≠ k) {v : Value} (hv : D (x[k]? = some true) W' i v) :
    Below base.heap.size base W' ∧ ∀ j, (x.set i true)[j]? = some true → D ((x.set i true)[k]? = some true) W' j (upd f i v j) := by
  refine ⟨hb.trans (hg.mono hb.size), fun j hj => ?_⟩
  rw [List.getElem?_set_ne hik]
  by_cases hji : j = i
  · subst hji; rw [upd_same]; exact hv
  · rw [upd_ne _ _ hji]
    rw [List.getElem?_set_ne (fun e => hji e.symm)] at hj
    exact hm _ _ _ _ _ hg (h j hj)
theorem rg_same (hb : Below base.heap.size base W) (h : ∀ j, x[j]? = some true → D (x[k]? = some true) W j (f j)) {i : Nat} (hik : i ≠ k) {v : Value} (hv : D (x[k]? = some true) W i v) :
    Below base.heap.size base W ∧ ∀ j, (x.set i true)[j]? = some true → D ((x.set i true)[k]? = some true) W j (upd f i v j) := by
  refine ⟨hb, fun j hj => ?_⟩
  rw [List.getElem?_set_ne hik]
  by_cases hji : j = i
  · subst hji; rw [upd_same]; exact hv
  · rw [upd_ne _ _ hji]
    rw [List.getElem?_set_ne (fun e => hji e.symm)] at hj
    exact h j hj
theorem rg_write (hb : Below base.heap.size base W') (h : ∀ j, x[j]? = some true → D (x[k]? = some true) W j (f j)) (hk : x[k]? = some false) (hm : ∀ j v, j ≠ k → D False W j v → D True W' j v) {v : Value} (hv : D True W' k v) :
    Below base.heap.size base W' ∧ ∀ j, (x.set k true)[j]? = some true → D ((x.set k true)[k]? = some true) W' j (upd f k v j) := by
  have e : ((x.set k true)[k]? = some true) = True := by
    rw [List.getElem?_set_self (List.getElem?_eq_some_iff.1 hk).1]; simp
  refine ⟨hb, fun j hj => ?_⟩
  rw [e]
  by_cases hji : j = k
  · subst hji; rw [upd_same]; exact hv
  · rw [upd_ne _ _ hji]
    rw [List.getElem?_set_ne (fun e => hji e.symm)] at hj
    refine hm j _ hji ?_
    have := h j hj
    rw [hk] at this
    simpa using this
end
theorem set_monoG {x : List Bool} {i j : Nat} (h : x[j]? = some true) : (x.set i true)[j]? = some true := by
  by_cases hij : i = j
  · subst hij; exact List.getElem?_set_self (List.getElem?_eq_some_iff.1 h).1
  · rw [List.getElem?_set_ne hij]; exact h
/-- What has come up has all ahead of it that it waits for. -/
def Closed (l : List Oper) (x : List Bool) : Prop := ∀ (i : Nat) (o : Oper), l[i]? = some o → x[i]? = some true → ∀ e ∈ o.after, Region.binds .any e = true → x[e.on]? = some true
theorem closed_step {l : List Oper} {x : List Bool} {i : Nat} {o : Oper} (h : Closed l x) (ho : l[i]? = some o) (hall : ∀ e ∈ o.after, Region.binds .any e = true → x[e.on]? = some true) : Closed l (x.set i true) := by
  intro j o' ho' hj e he hb
  by_cases hji : j = i
  · subst hji
    rw [ho] at ho'
    obtain rfl := Option.some.inj ho'
    exact set_monoG (hall e he hb)
  · rw [List.getElem?_set_ne (fun e => hji e.symm)] at hj
    exact set_monoG (h j o' ho' hj e he hb)
theorem wp_region_inv2 {P : Program} {Q : Exit → Act → World → Prop} {l : List Oper} (R : List Bool → Act → World → Prop) {id : Nat} {a : Act} {w : World} (hm : P.follows .mixedOrders = true)
    (h0 : R (List.replicate l.length false) a { w with drawn := w.drawn + 1 })
    (hend : ∀ x a w, R x a w → x.length = l.length → Region.ready .any l.toArray x.toArray = [] → Q .normal a w)
    (hstep : ∀ x a w i o, R x a w → Closed l x → x.length = l.length → l[i]? = some o → x[i]? = some false → (∀ e ∈ o.after, Region.binds .any e = true → x[e.on]? = some true) →
      (if Region.wanted o (yielded l.toArray a.tmps) then o.wp P a w (fun a' w' => R (x.set i true) a' w') Q else R (x.set i true) (a.put o.dst undef) w)) :
    (Code.region id l.toArray true).wp P Q a w := by
  refine wp_region_inv (fun x a w => R x a w ∧ Closed l x) hm ⟨h0, fun i o _ hi => by rw [List.getElem?_replicate] at hi; split at hi <;> simp at hi⟩ (fun x a w h => hend x a w h.1) ?_
  intro x a w i o h hx ho hxi hall
  have hs := hstep x a w i o h.1 h.2 hx ho hxi hall
  have hc := closed_step h.2 ho hall
  split
  · next hw => rw [if_pos hw] at hs; exact Oper.wp_mono (fun a' w' hR => ⟨hR, hc⟩) hs
  · next hw => rw [if_neg hw] at hs; exact ⟨hs, hc⟩
/-- A region whose operations only read, but for a tail of n that write: one walk serves every order. -/
theorem wp_still_tail {P : Program} {id : Nat} {Q : Exit → Act → World → Prop} {a : Act} {w : World} {l : List Oper} (n : Nat) (hm : P.follows .mixedOrders = true) (hB : Region.lexTailB .any l.toArray n = true)
    (h : wpStill P l.toArray w.drew (fun a' => wpList P l.toArray Q (l.drop n) a' w.drew) (l.take n) a) : (Code.region id l.toArray true).wp P Q a w := wp_region_still_tail n hm hB h
theorem wp_append_none {P : Program} {w : World} {o : Oper} {a : Act} {K : Act → World → Prop} {Q : Exit → Act → World → Prop} (s x : Operand) (t : TypeId)
    (ho : o.op = .call { callee := .builtin .append, args := #[s, x], argTypes := #[t, t] })
    (base : Nat) (e : TypeId) (i : TypeInfo) (size : Nat) (ht : P.underlying t = some (.slice e)) (hi : P.info? e = some i)
    (v : Value) (n : Nat) (xs : List Value) (hs : a.eval s = v) (hown : w.ownsRow base e size v n xs) (hx : a.eval x = .slice none 0 0)
    (h : K (a.put o.dst v) w) : o.wp P a w K Q := by
  have hrun := run_append_owned_none (P := P) (w := w) base t o.type e i size ht hi v n xs hown
  unfold Oper.wp
  simp [execOp, ho, resolve, invoke, builtin, hs, hx, hrun, Result.andThen]
  exact h
end Go.Proofs.Yteljmhgpffekgaa
namespace Go.Proofs.Yteljmhgpffekgaa
open Go.RowKit
set_option linter.unusedVariables false

theorem there_any {W : World} {b n j : Nat} (h : W.there b 0 n) (hj : j < n) : ∃ u, W.cell? ⟨b, j, none⟩ = some u ∧ W.frozen? ⟨b, j, none⟩ = false := by
  obtain ⟨h1, h2⟩ := h j hj
  rw [Nat.zero_add] at h1 h2
  obtain ⟨u, hu⟩ := Option.isSome_iff_exists.1 h1
  exact ⟨u, hu, h2⟩
theorem bit_or {x : List Bool} {n j : Nat} (hx : x.length = n) (hj : j < n) : x[j]? = some false ∨ x[j]? = some true := by
  rw [List.getElem?_eq_getElem (by omega)]
  cases x[j] <;> simp
end Go.Proofs.Yteljmhgpffekgaa
namespace Go.Proofs.Yteljmhgpffekgaa
open Go.RowKit
set_option linter.unusedVariables false

theorem gqY {x : List Bool} {i j : Nat} (h : i ≠ j) : (x.set i true)[j]? = x[j]? := List.getElem?_set_ne h
theorem gqsY {x : List Bool} {i : Nat} (h : x[i]? = some false) : (x.set i true)[i]? = some true := List.getElem?_set_self (List.getElem?_eq_some_iff.1 h).1
/-- One round of those that an operation waits for. -/
def ancS (l : List Oper) (s : List Nat) : List Nat := s ++ s.flatMap fun i => match l[i]? with
  | some o => (o.after.toList.filter fun e => Region.binds .any e).map fun e => e.on
  | none => []
def ancN (l : List Oper) : Nat → List Nat → List Nat
  | 0, s => s
  | n + 1, s => ancN l n (ancS l s).eraseDups
theorem ancS_true {l : List Oper} {x : List Bool} (hc : Closed l x) {s : List Nat} (hs : ∀ i ∈ s, x[i]? = some true) : ∀ i ∈ ancS l s, x[i]? = some true := by
  intro i hi
  rcases List.mem_append.1 hi with h | h
  · exact hs i h
  · obtain ⟨k, hk, hm⟩ := List.mem_flatMap.1 h
    split at hm
    · next o ho =>
      obtain ⟨e, he, rfl⟩ := List.mem_map.1 hm
      obtain ⟨he1, he2⟩ := List.mem_filter.1 he
      exact hc k o ho (hs k hk) e (by simpa using he1) he2
    · simp at hm
theorem ancN_true {l : List Oper} {x : List Bool} (hc : Closed l x) : ∀ (n : Nat) (s : List Nat), (∀ i ∈ s, x[i]? = some true) → ∀ i ∈ ancN l n s, x[i]? = some true
  | 0, s, hs => hs
  | n + 1, s, hs => ancN_true hc n _ (fun i hi => ancS_true hc hs i (List.mem_eraseDups.1 hi))
/-- An operation that another waits for has not come up: so that other one has not. -/
theorem wait_no {l : List Oper} {x : List Bool} (hc : Closed l x) (d i n : Nat) (hB : (ancN l d [n]).contains i = true) (hx : x.length = l.length) (hn : n < l.length) (hi : x[i]? = some false) : x[n]? = some false := by
  rcases bit_or hx hn with h | h
  · exact h
  · have := ancN_true hc d [n] (by simpa using h) i (by simpa using hB)
    rw [hi] at this; cases this
/-- What holds while one operation, the n-th, writes behind all that it waits for. -/
structure RY (C : World → Nat → Value → Prop) (n : Nat) (Q : (Nat → Value) → World → Prop) (base : World) (x : List Bool) (f : Nat → Value) (W : World) : Prop where
  b : x[n]? = some false → Below base.heap.size base W
  c : x[n]? = some false → ∀ j, x[j]? = some true → C W j (f j)
  m : x[n]? = some true → Q f W
def RYA (F : (Nat → Value) → Act) (C : World → Nat → Value → Prop) (n : Nat) (Q : (Nat → Value) → World → Prop) (base : World) (x : List Bool) (A : Act) (W : World) : Prop := ∃ f, A = F f ∧ RY C n Q base x f W
section
variable {C : World → Nat → Value → Prop} {n : Nat} {Q : (Nat → Value) → World → Prop} {base W W' : World} {x : List Bool} {f : Nat → Value}
theorem ry_start {k : Nat} {f : Nat → Value} (hk : n < k) : RY C n Q base (List.replicate k false) f { base with drawn := base.drawn + 1 } :=
  ⟨fun _ => ⟨rfl, rfl, rfl, Nat.le_refl _, fun _ _ => rfl⟩, fun _ j hj => by rw [List.getElem?_replicate] at hj; split at hj <;> simp at hj, fun h => by rw [List.getElem?_replicate] at h; split at h <;> simp at h⟩
theorem ry_val (h : RY C n Q base x f W) (i : Nat) (v : Value) (hn : x[n]? = some false) (hin : i ≠ n) (hv : C W i v) : RY C n Q base (x.set i true) (upd f i v) W := by
  refine ⟨fun _ => h.b hn, fun _ j hj => ?_, fun e => by rw [gqY hin, hn] at e; cases e⟩
  by_cases hji : j = i
  · subst hji; rw [upd_same]; exact hv
  · rw [upd_ne _ _ hji]; rw [gqY (fun e => hji e.symm)] at hj; exact h.c hn j hj
theorem ry_grow (hm : ∀ W W' j v, Below W.heap.size W W' → C W j v → C W' j v) (h : RY C n Q base x f W) (hn : x[n]? = some false) (hb : Below W.heap.size W W') : RY C n Q base x f W' :=
  ⟨fun _ => (h.b hn).trans (hb.mono (h.b hn).size), fun _ j hj => hm _ _ _ _ hb (h.c hn j hj), fun e => by rw [hn] at e; cases e⟩
theorem ry_write (h : RY C n Q base x f W) (hn : x[n]? = some false) (v : Value) (hq : Q (upd f n v) W') : RY C n Q base (x.set n true) (upd f n v) W' :=
  ⟨fun e => (by rw [gqsY hn] at e; cases e), fun e => (by rw [gqsY hn] at e; cases e), fun _ => hq⟩
theorem ry_writeN (h : RY C n Q base x f W) (hn : x[n]? = some false) (hq : Q f W') : RY C n Q base (x.set n true) f W' :=
  ⟨fun e => (by rw [gqsY hn] at e; cases e), fun e => (by rw [gqsY hn] at e; cases e), fun _ => hq⟩
theorem ry_after (h : RY C n Q base x f W) (i : Nat) (v : Value) (hn : x[n]? = some true) (hin : i ≠ n) (hq : Q f W → Q (upd f i v) W) : RY C n Q base (x.set i true) (upd f i v) W :=
  ⟨fun e => (by rw [gqY hin, hn] at e; cases e), fun e => (by rw [gqY hin, hn] at e; cases e), fun _ => hq (h.m hn)⟩
end
end Go.Proofs.Yteljmhgpffekgaa
