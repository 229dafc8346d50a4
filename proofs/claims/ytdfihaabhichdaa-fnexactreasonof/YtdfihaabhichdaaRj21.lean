/-
  A region that draws its order, with one operation that writes: what holds of each value that has come up, world by world. No function walked.
-/
import Derived.Test.YtdfihaabhichdaaRj19
import Derived.Test.YtdfihaabhichdaaRj20
import Derived.StillTailTactics
namespace Go.Proofs.Ytdfihaabhichdaa
open Go.RowKit
set_option linter.unusedVariables false

/-- Each operation that has come up has its value; k is the operation that writes. -/
def RG (base : World) (F : (Nat → Value) → Act) (k : Nat) (D : Prop → World → Nat → Value → Prop) (x : List Bool) (A : Act) (W : World) : Prop :=
  ∃ f, A = F f ∧ Below base.heap.size base W ∧ ∀ j, x[j]? = some true → D (x[k]? = some true) W j (f j)
section
variable {base W W' : World} {F : (Nat → Value) → Act} {k : Nat} {D : Prop → World → Nat → Value → Prop} {x : List Bool} {f : Nat → Value}
theorem rg_grow (hm : ∀ p W W' j v, Below W.heap.size W W' → D p W j v → D p W' j v) (hb : Below base.heap.size base W) (h : ∀ j, x[j]? = some true → D (x[k]? = some true) W j (f j)) (hg : Below W.heap.size W W') {i : Nat} (hik : i ≠ k) {v : Value} (hv : D (x[k]? = some true) W' i v) :
    Below base.heap.size base W' ∧ ∀ j, (x.set i true)[j]? = some true → D ((x.set i true)[k]? = some true) W' j (upd f i v j) := by
  refine ⟨hb.trans (hg.mono hb.size), fun j hj => ?_⟩
  rw [List.getElem?_set_ne hik]
  by_cases hji : j = i
  · subst hji; rw [upd_same]; exact hv
  · rw [upd_ne _ _ hji]
    rw [List.getElem?_set_ne (fun e => hji e.symm)] at hj
    exact hm _ _ _ _ _ hg (h j hj)
theorem rg_same (hb : Below base.heap.size base W) (h : ∀ j, x[j]? = some true → D (x[k]? = some true) W j (f j)) {i : Nat} (hik : i ≠ k) {v : Value} (hv : D (x[k]? = some true) W i v) :
    Below base.heap.size base W ∧ ∀ j, (x.set i true)[j]? = some true → D ((x.set i true)[k]? = some true) W j (upd f i v j) := by
  refine ⟨hb, fun j hj => ?_⟩
  rw [List.getElem?_set_ne hik]
  by_cases hji : j = i
  · subst hji; rw [upd_same]; exact hv
  · rw [upd_ne _ _ hji]
    rw [List.getElem?_set_ne (fun e => hji e.symm)] at hj
    exact h j hj
theorem rg_write (hb : Below base.heap.size base W') (h : ∀ j, x[j]? = some true → D (x[k]? = some true) W j (f j)) (hk : x[k]? = some false) (hm : ∀ j v, j ≠ k → D False W j v → D True W' j v) {v : Value} (hv : D True W' k v) :
    Below base.heap.size base W' ∧ ∀ j, (x.set k true)[j]? = some true → D ((x.set k true)[k]? = some true) W' j (upd f k v j) := by
  have e : ((x.set k true)[k]? = some true) = True := by
    rw [List.getElem?_set_self (List.getElem?_eq_some_iff.1 hk).1]; simp
  refine ⟨hb, fun j hj => ?_⟩
  rw [e]
  by_cases hji : j = k
  · subst hji; rw [upd_same]; exact hv
  · rw [upd_ne _ _ hji]
    rw [List.getElem?_set_ne (fun e => hji e.symm)] at hj
    refine hm j _ hji ?_
    have := h j hj
    rw [hk] at this
    simpa using this
end
theorem set_monoG {x : List Bool} {i j : Nat} (h : x[j]? = some true) : (x.set i true)[j]? = some true := by
  by_cases hij : i = j
  · subst hij; exact List.getElem?_set_self (List.getElem?_eq_some_iff.1 h).1
  · rw [List.getElem?_set_ne hij]; exact h
/-- What has come up has all ahead of it that it waits for. -/
def Closed (l : List Oper) (x : List Bool) : Prop := ∀ (i : Nat) (o : Oper), l[i]? = some o → x[i]? = some true → ∀ e ∈ o.after, Region.binds .any e = true → x[e.on]? = some true
theorem closed_step {l : List Oper} {x : List Bool} {i : Nat} {o : Oper} (h : Closed l x) (ho : l[i]? = some o) (hall : ∀ e ∈ o.after, Region.binds .any e = true → x[e.on]? = some true) : Closed l (x.set i true) := by
  intro j o' ho' hj e he hb
  by_cases hji : j = i
  · subst hji
    rw [ho] at ho'
    obtain rfl := Option.some.inj ho'
    exact set_monoG (hall e he hb)
  · rw [List.getElem?_set_ne (fun e => hji e.symm)] at hj
    exact set_monoG (h j o' ho' hj e he hb)
theorem wp_region_inv2 {P : Program} {Q : Exit → Act → World → Prop} {l : List Oper} (R : List Bool → Act → World → Prop) {id : Nat} {a : Act} {w : World} (hm : P.follows .mixedOrders = true)
    (h0 : R (List.replicate l.length false) a { w with drawn := w.drawn + 1 })
    (hend : ∀ x a w, R x a w → x.length = l.length → Region.ready .any l.toArray x.toArray = [] → Q .normal a w)
    (hstep : ∀ x a w i o, R x a w → Closed l x → x.length = l.length → l[i]? = some o → x[i]? = some false → (∀ e ∈ o.after, Region.binds .any e = true → x[e.on]? = some true) →
      (if Region.wanted o (yielded l.toArray a.tmps) then o.wp P a w (fun a' w' => R (x.set i true) a' w') Q else R (x.set i true) (a.put o.dst undef) w)) :
    (Code.region id l.toArray true).wp P Q a w := by
  refine wp_region_inv (fun x a w => R x a w ∧ Closed l x) hm ⟨h0, fun i o _ hi => by rw [List.getElem?_replicate] at hi; split at hi <;> simp at hi⟩ (fun x a w h => hend x a w h.1) ?_
  intro x a w i o h hx ho hxi hall
  have hs := hstep x a w i o h.1 h.2 hx ho hxi hall
  have hc := closed_step h.2 ho hall
  split
  · next hw => rw [if_pos hw] at hs; exact Oper.wp_mono (fun a' w' hR => ⟨hR, hc⟩) hs
  · next hw => rw [if_neg hw] at hs; exact ⟨hs, hc⟩
/-- A region whose operations only read, but for a tail of n that write: one walk serves every order. -/
theorem wp_still_tail {P : Program} {id : Nat} {Q : Exit → Act → World → Prop} {a : Act} {w : World} {l : List Oper} (n : Nat) (hm : P.follows .mixedOrders = true) (hB : Region.lexTailB .any l.toArray n = true)
    (h : wpStill P l.toArray w.drew (fun a' => wpList P l.toArray Q (l.drop n) a' w.drew) (l.take n) a) : (Code.region id l.toArray true).wp P Q a w := wp_region_still_tail n hm hB h
theorem wp_append_none {P : Program} {w : World} {o : Oper} {a : Act} {K : Act → World → Prop} {Q : Exit → Act → World → Prop} (s x : Operand) (t : TypeId)
    (ho : o.op = .call { callee := .builtin .append, args := #[s, x], argTypes := #[t, t] })
    (base : Nat) (e : TypeId) (i : TypeInfo) (size : Nat) (ht : P.underlying t = some (.slice e)) (hi : P.info? e = some i)
    (v : Value) (n : Nat) (xs : List Value) (hs : a.eval s = v) (hown : w.ownsRow base e size v n xs) (hx : a.eval x = .slice none 0 0)
    (h : K (a.put o.dst v) w) : o.wp P a w K Q := by
  have hrun := run_append_owned_none (P := P) (w := w) base t o.type e i size ht hi v n xs hown
  unfold Oper.wp
  simp [execOp, ho, resolve, invoke, builtin, hs, hx, hrun, Result.andThen]
  exact h
end Go.Proofs.Ytdfihaabhichdaa
namespace Go.Proofs.Ytdfihaabhichdaa
open Go.RowKit
set_option linter.unusedVariables false

def sideL_b (b : Nat) : List Value := [.func (.func 64) #[.pointer (some ⟨b, 0, none⟩)] #[], .func (.func 65) #[.pointer (some ⟨b, 0, none⟩)] #[], .func (.func 66) #[.pointer (some ⟨b, 0, none⟩)] #[]]
def sideL_s (b : Nat) : List Value := [.func (.func 68) #[.pointer (some ⟨b, 0, none⟩)] #[], .func (.func 69) #[.pointer (some ⟨b, 0, none⟩)] #[], .func (.func 70) #[.pointer (some ⟨b, 0, none⟩)] #[]]
abbrev Tb (w : World) (b : Nat) (q : List Od) : Prop := TreeAt 121 true w b 1 q
abbrev Ts (w : World) (b : Nat) (q : List Od) : Prop := TreeAt 124 false w b 2 q

/-- What holds while the two sides are planted: x says which operations have come up. -/
structure RW9 (W0 : World) (BV : Value) (q1 q2 : List Od) (x : List Bool) (v33 v34 v35 v36 v5 v6 : Value) (b1 b2 p5 p6 : Nat) (w : World) : Prop where
  bel : Below W0.heap.size W0 w
  c33 : x[0]? = some true → v33 = BV
  c35 : x[2]? = some true → v35 = BV
  c34 : x[1]? = some true → v34 = side_b b1 ∧ Tb w b1 q1
  c36 : x[3]? = some true → v36 = side_s b2 ∧ Ts w b2 q2
  c5 : x[4]? = some true → v5 = .pointer (some ⟨p5, 0, none⟩) ∧ p5 < w.heap.size ∧ W0.heap.size ≤ p5 ∧ w.there p5 0 3
  c6 : x[5]? = some true → v6 = .pointer (some ⟨p6, 0, none⟩) ∧ p6 < w.heap.size ∧ W0.heap.size ≤ p6 ∧ w.there p6 0 3
  n15 : x[1]? = some true → x[4]? = some true → b1 ≠ p5
  n16 : x[1]? = some true → x[5]? = some true → b1 ≠ p6
  n25 : x[3]? = some true → x[4]? = some true → b2 ≠ p5
  n26 : x[3]? = some true → x[5]? = some true → b2 ≠ p6
  n56 : x[4]? = some true → x[5]? = some true → p5 ≠ p6
  s5 : x[6]? = some true → (x[1]? = some true ∧ x[4]? = some true) ∧ w.rangeAt p5 0 (sideL_b b1)
  s6 : x[7]? = some true → (x[3]? = some true ∧ x[5]? = some true) ∧ w.rangeAt p6 0 (sideL_s b2)

section
variable {W0 w w' : World} {BV : Value} {q1 q2 : List Od} {x : List Bool} {v33 v34 v35 v36 v5 v6 : Value} {b1 b2 p5 p6 : Nat}
theorem rw9_grow (h : RW9 W0 BV q1 q2 x v33 v34 v35 v36 v5 v6 b1 b2 p5 p6 w) (hb : Below w.heap.size w w') : RW9 W0 BV q1 q2 x v33 v34 v35 v36 v5 v6 b1 b2 p5 p6 w' where
  bel := h.bel.trans (hb.mono h.bel.size)
  c33 := h.c33
  c35 := h.c35
  c34 := fun hx => ⟨(h.c34 hx).1, treeAt_block (h.c34 hx).2 (hb.block _ (treeAt_lt (h.c34 hx).2))⟩
  c36 := fun hx => ⟨(h.c36 hx).1, treeAt_block (h.c36 hx).2 (hb.block _ (treeAt_lt (h.c36 hx).2))⟩
  c5 := fun hx => ⟨(h.c5 hx).1, Nat.lt_of_lt_of_le (h.c5 hx).2.1 hb.size, (h.c5 hx).2.2.1, there_below (h.c5 hx).2.2.2 hb (h.c5 hx).2.1⟩
  c6 := fun hx => ⟨(h.c6 hx).1, Nat.lt_of_lt_of_le (h.c6 hx).2.1 hb.size, (h.c6 hx).2.2.1, there_below (h.c6 hx).2.2.2 hb (h.c6 hx).2.1⟩
  n15 := h.n15
  n16 := h.n16
  n25 := h.n25
  n26 := h.n26
  n56 := h.n56
  s5 := fun hx => ⟨(h.s5 hx).1, range_below (h.s5 hx).2 hb (h.c5 (h.s5 hx).1.2).2.1⟩
  s6 := fun hx => ⟨(h.s6 hx).1, range_below (h.s6 hx).2 hb (h.c6 (h.s6 hx).1.2).2.1⟩
theorem gse {x : List Bool} {i j : Nat} (h : i ≠ j) : (x.set i true)[j]? = x[j]? := List.getElem?_set_ne h
theorem rw9_0 (h : RW9 W0 BV q1 q2 x v33 v34 v35 v36 v5 v6 b1 b2 p5 p6 w) : RW9 W0 BV q1 q2 (x.set 0 true) BV v34 v35 v36 v5 v6 b1 b2 p5 p6 w := by
  constructor <;> try simp only [gse (show 0 ≠ 1 by decide), gse (show 0 ≠ 2 by decide), gse (show 0 ≠ 3 by decide), gse (show 0 ≠ 4 by decide), gse (show 0 ≠ 5 by decide), gse (show 0 ≠ 6 by decide), gse (show 0 ≠ 7 by decide)]
  · exact h.bel
  · exact fun _ => by first | rfl | trivial
  · exact h.c35
  · exact h.c34
  · exact h.c36
  · exact h.c5
  · exact h.c6
  · exact h.n15
  · exact h.n16
  · exact h.n25
  · exact h.n26
  · exact h.n56
  · exact h.s5
  · exact h.s6
theorem rw9_2 (h : RW9 W0 BV q1 q2 x v33 v34 v35 v36 v5 v6 b1 b2 p5 p6 w) : RW9 W0 BV q1 q2 (x.set 2 true) v33 v34 BV v36 v5 v6 b1 b2 p5 p6 w := by
  constructor <;> try simp only [gse (show 2 ≠ 0 by decide), gse (show 2 ≠ 1 by decide), gse (show 2 ≠ 3 by decide), gse (show 2 ≠ 4 by decide), gse (show 2 ≠ 5 by decide), gse (show 2 ≠ 6 by decide), gse (show 2 ≠ 7 by decide)]
  · exact h.bel
  · exact h.c33
  · exact fun _ => by first | rfl | trivial
  · exact h.c34
  · exact h.c36
  · exact h.c5
  · exact h.c6
  · exact h.n15
  · exact h.n16
  · exact h.n25
  · exact h.n26
  · exact h.n56
  · exact h.s5
  · exact h.s6
theorem rw9_1 (h : RW9 W0 BV q1 q2 x v33 v34 v35 v36 v5 v6 b1 b2 p5 p6 w) (h6 : x[6]? ≠ some true) {b : Nat} (hb : Below w.heap.size w w') (hle : w.heap.size ≤ b) (ht : Tb w' b q1) :
    RW9 W0 BV q1 q2 (x.set 1 true) v33 (side_b b) v35 v36 v5 v6 b b2 p5 p6 w' := by
  have g := rw9_grow h hb
  constructor <;> try simp only [gse (show 1 ≠ 0 by decide), gse (show 1 ≠ 2 by decide), gse (show 1 ≠ 3 by decide), gse (show 1 ≠ 4 by decide), gse (show 1 ≠ 5 by decide), gse (show 1 ≠ 6 by decide), gse (show 1 ≠ 7 by decide)]
  · exact g.bel
  · exact g.c33
  · exact g.c35
  · exact fun _ => ⟨by first | rfl | trivial, ht⟩
  · exact g.c36
  · exact g.c5
  · exact g.c6
  · exact fun _ h4 => by have := (h.c5 h4).2.1; omega
  · exact fun _ h5 => by have := (h.c6 h5).2.1; omega
  · exact g.n25
  · exact g.n26
  · exact g.n56
  · exact fun hx => absurd hx h6
  · exact g.s6
theorem rw9_3 (h : RW9 W0 BV q1 q2 x v33 v34 v35 v36 v5 v6 b1 b2 p5 p6 w) (h7 : x[7]? ≠ some true) {b : Nat} (hb : Below w.heap.size w w') (hle : w.heap.size ≤ b) (ht : Ts w' b q2) :
    RW9 W0 BV q1 q2 (x.set 3 true) v33 v34 v35 (side_s b) v5 v6 b1 b p5 p6 w' := by
  have g := rw9_grow h hb
  constructor <;> try simp only [gse (show 3 ≠ 0 by decide), gse (show 3 ≠ 1 by decide), gse (show 3 ≠ 2 by decide), gse (show 3 ≠ 4 by decide), gse (show 3 ≠ 5 by decide), gse (show 3 ≠ 6 by decide), gse (show 3 ≠ 7 by decide)]
  · exact g.bel
  · exact g.c33
  · exact g.c35
  · exact g.c34
  · exact fun _ => ⟨by first | rfl | trivial, ht⟩
  · exact g.c5
  · exact g.c6
  · exact g.n15
  · exact g.n16
  · exact fun _ h4 => by have := (h.c5 h4).2.1; omega
  · exact fun _ h5 => by have := (h.c6 h5).2.1; omega
  · exact g.n56
  · exact g.s5
  · exact fun hx => absurd hx h7
theorem there_made (w : World) (cs : List Value) (t : TypeId) : (w.alloc (Obj.cells cs.toArray t)).there w.heap.size 0 cs.length := there_block (heap_alloc_new w _) (by simp)
theorem rw9_4 (h : RW9 W0 BV q1 q2 x v33 v34 v35 v36 v5 v6 b1 b2 p5 p6 w) (h6 : x[6]? ≠ some true) (t : TypeId) :
    RW9 W0 BV q1 q2 (x.set 4 true) v33 v34 v35 v36 (.pointer (some ⟨w.heap.size, 0, none⟩)) v6 b1 b2 w.heap.size p6 (w.alloc (Obj.cells #[.nilFunc, .nilFunc, .nilFunc] t)) := by
  have g := rw9_grow h ((Below.refl _ _).alloc (Nat.le_refl _) (Obj.cells #[.nilFunc, .nilFunc, .nilFunc] t))
  constructor <;> try simp only [gse (show 4 ≠ 0 by decide), gse (show 4 ≠ 1 by decide), gse (show 4 ≠ 2 by decide), gse (show 4 ≠ 3 by decide), gse (show 4 ≠ 5 by decide), gse (show 4 ≠ 6 by decide), gse (show 4 ≠ 7 by decide)]
  · exact g.bel
  · exact g.c33
  · exact g.c35
  · exact g.c34
  · exact g.c36
  · exact fun _ => ⟨by first | rfl | trivial, by rw [size_made]; omega, h.bel.size, there_made w [.nilFunc, .nilFunc, .nilFunc] t⟩
  · exact g.c6
  · exact fun h1 _ => by have := treeAt_lt (h.c34 h1).2; omega
  · exact g.n16
  · exact fun h3 _ => by have := treeAt_lt (h.c36 h3).2; omega
  · exact g.n26
  · exact fun _ h5 => by have := (h.c6 h5).2.1; omega
  · exact fun hx => absurd hx h6
  · exact g.s6
theorem rw9_5 (h : RW9 W0 BV q1 q2 x v33 v34 v35 v36 v5 v6 b1 b2 p5 p6 w) (h7 : x[7]? ≠ some true) (t : TypeId) :
    RW9 W0 BV q1 q2 (x.set 5 true) v33 v34 v35 v36 v5 (.pointer (some ⟨w.heap.size, 0, none⟩)) b1 b2 p5 w.heap.size (w.alloc (Obj.cells #[.nilFunc, .nilFunc, .nilFunc] t)) := by
  have g := rw9_grow h ((Below.refl _ _).alloc (Nat.le_refl _) (Obj.cells #[.nilFunc, .nilFunc, .nilFunc] t))
  constructor <;> try simp only [gse (show 5 ≠ 0 by decide), gse (show 5 ≠ 1 by decide), gse (show 5 ≠ 2 by decide), gse (show 5 ≠ 3 by decide), gse (show 5 ≠ 4 by decide), gse (show 5 ≠ 6 by decide), gse (show 5 ≠ 7 by decide)]
  · exact g.bel
  · exact g.c33
  · exact g.c35
  · exact g.c34
  · exact g.c36
  · exact g.c5
  · exact fun _ => ⟨by first | rfl | trivial, by rw [size_made]; omega, h.bel.size, there_made w [.nilFunc, .nilFunc, .nilFunc] t⟩
  · exact g.n15
  · exact fun h1 _ => by have := treeAt_lt (h.c34 h1).2; omega
  · exact g.n25
  · exact fun h3 _ => by have := treeAt_lt (h.c36 h3).2; omega
  · exact fun h4 _ => by have := (h.c5 h4).2.1; omega
  · exact g.s5
  · exact fun hx => absurd hx h7
theorem set3_other {p : Nat} {F0 F1 F2 : Value} {k : Nat} (hk : k ≠ p) : (((w.setCell ⟨p, 0, none⟩ F0).setCell ⟨p, 1, none⟩ F1).setCell ⟨p, 2, none⟩ F2).heap[k]? = w.heap[k]? :=
  (Below.heap_setCell _ _ _ _ hk).trans ((Below.heap_setCell _ _ _ _ hk).trans (Below.heap_setCell _ _ _ _ hk))
theorem set3_size {p : Nat} {F0 F1 F2 : Value} : (((w.setCell ⟨p, 0, none⟩ F0).setCell ⟨p, 1, none⟩ F1).setCell ⟨p, 2, none⟩ F2).heap.size = w.heap.size := by simp [World.setCell]
theorem set3_range {p : Nat} {F0 F1 F2 : Value} (ht : w.there p 0 3) : (((w.setCell ⟨p, 0, none⟩ F0).setCell ⟨p, 1, none⟩ F1).setCell ⟨p, 2, none⟩ F2).rangeAt p 0 [F0, F1, F2] := World.rangeAt_setCells_same w p 0 [F0, F1, F2] (fun j hj => ht j hj)
theorem set3_there {p b o n : Nat} {F0 F1 F2 : Value} (ht : w.there b o n) : (((w.setCell ⟨p, 0, none⟩ F0).setCell ⟨p, 1, none⟩ F1).setCell ⟨p, 2, none⟩ F2).there b o n := World.there_setCells ht p 0 [F0, F1, F2]
theorem set3_below {p : Nat} {F0 F1 F2 : Value} (h : Below W0.heap.size W0 w) (hp : W0.heap.size ≤ p) : Below W0.heap.size W0 (((w.setCell ⟨p, 0, none⟩ F0).setCell ⟨p, 1, none⟩ F1).setCell ⟨p, 2, none⟩ F2) :=
  ((h.setCell (p := ⟨p, 0, none⟩) hp F0).setCell (p := ⟨p, 1, none⟩) hp F1).setCell (p := ⟨p, 2, none⟩) hp F2
theorem range_block {b o : Nat} {cs : List Value} (h : w.rangeAt b o cs) (hb : w'.heap[b]? = w.heap[b]?) : w'.rangeAt b o cs := fun j v hv => (World.cell?_of_block (a := ⟨b, o + j, none⟩) hb).trans (h j v hv)
theorem rw9_6 (h : RW9 W0 BV q1 q2 x v33 v34 v35 v36 v5 v6 b1 b2 p5 p6 w) (h1 : x[1]? = some true) (h3 : x[3]? = some true) (h4 : x[4]? = some true) (h5 : x[5]? = some true) {F0 F1 F2 : Value} (hF : sideL_b b1 = [F0, F1, F2]) :
    RW9 W0 BV q1 q2 (x.set 6 true) v33 v34 v35 v36 v5 v6 b1 b2 p5 p6 (((w.setCell ⟨p5, 0, none⟩ F0).setCell ⟨p5, 1, none⟩ F1).setCell ⟨p5, 2, none⟩ F2) := by
  obtain ⟨e1, e2, e3, e4⟩ := h.c5 h4
  obtain ⟨f1, f2, f3, f4⟩ := h.c6 h5
  constructor <;> try simp only [gse (show 6 ≠ 0 by decide), gse (show 6 ≠ 1 by decide), gse (show 6 ≠ 2 by decide), gse (show 6 ≠ 3 by decide), gse (show 6 ≠ 4 by decide), gse (show 6 ≠ 5 by decide), gse (show 6 ≠ 7 by decide)]
  · exact set3_below h.bel e3
  · exact h.c33
  · exact h.c35
  · exact fun _ => ⟨(h.c34 h1).1, treeAt_block (h.c34 h1).2 (set3_other (h.n15 h1 h4))⟩
  · exact fun _ => ⟨(h.c36 h3).1, treeAt_block (h.c36 h3).2 (set3_other (h.n25 h3 h4))⟩
  · exact fun _ => ⟨e1, by rw [set3_size]; exact e2, e3, set3_there e4⟩
  · exact fun _ => ⟨f1, by rw [set3_size]; exact f2, f3, set3_there f4⟩
  · exact h.n15
  · exact h.n16
  · exact h.n25
  · exact h.n26
  · exact h.n56
  · exact fun _ => ⟨⟨h1, h4⟩, by rw [hF]; exact set3_range e4⟩
  · exact fun hx => ⟨(h.s6 hx).1, range_block (h.s6 hx).2 (set3_other (Ne.symm (h.n56 h4 h5)))⟩
theorem rw9_7 (h : RW9 W0 BV q1 q2 x v33 v34 v35 v36 v5 v6 b1 b2 p5 p6 w) (h1 : x[1]? = some true) (h3 : x[3]? = some true) (h4 : x[4]? = some true) (h5 : x[5]? = some true) {F0 F1 F2 : Value} (hF : sideL_s b2 = [F0, F1, F2]) :
    RW9 W0 BV q1 q2 (x.set 7 true) v33 v34 v35 v36 v5 v6 b1 b2 p5 p6 (((w.setCell ⟨p6, 0, none⟩ F0).setCell ⟨p6, 1, none⟩ F1).setCell ⟨p6, 2, none⟩ F2) := by
  obtain ⟨e1, e2, e3, e4⟩ := h.c5 h4
  obtain ⟨f1, f2, f3, f4⟩ := h.c6 h5
  constructor <;> try simp only [gse (show 7 ≠ 0 by decide), gse (show 7 ≠ 1 by decide), gse (show 7 ≠ 2 by decide), gse (show 7 ≠ 3 by decide), gse (show 7 ≠ 4 by decide), gse (show 7 ≠ 5 by decide), gse (show 7 ≠ 6 by decide)]
  · exact set3_below h.bel f3
  · exact h.c33
  · exact h.c35
  · exact fun _ => ⟨(h.c34 h1).1, treeAt_block (h.c34 h1).2 (set3_other (h.n16 h1 h5))⟩
  · exact fun _ => ⟨(h.c36 h3).1, treeAt_block (h.c36 h3).2 (set3_other (h.n26 h3 h5))⟩
  · exact fun _ => ⟨e1, by rw [set3_size]; exact e2, e3, set3_there e4⟩
  · exact fun _ => ⟨f1, by rw [set3_size]; exact f2, f3, set3_there f4⟩
  · exact h.n15
  · exact h.n16
  · exact h.n25
  · exact h.n26
  · exact h.n56
  · exact fun hx => ⟨(h.s5 hx).1, range_block (h.s5 hx).2 (set3_other (h.n56 h4 h5))⟩
  · exact fun _ => ⟨⟨h3, h5⟩, by rw [hF]; exact set3_range f4⟩
end
end Go.Proofs.Ytdfihaabhichdaa
