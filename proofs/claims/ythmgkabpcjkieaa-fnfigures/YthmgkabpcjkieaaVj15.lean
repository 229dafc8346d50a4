/-
  Two sides of a book, planted in whatever order: what holds of memory meanwhile; no function walked.
-/
import Derived.Test.YthmgkabpcjkieaaVj14
namespace Go.Proofs.Ythmgkabpcjkieaa
open Go.RowKit
set_option linter.unusedVariables false

def sideL_b (b : Nat) : List Value := [.func (.func 61) #[.pointer (some ⟨b, 0, none⟩)] #[], .func (.func 62) #[.pointer (some ⟨b, 0, none⟩)] #[], .func (.func 63) #[.pointer (some ⟨b, 0, none⟩)] #[]]
def sideL_s (b : Nat) : List Value := [.func (.func 65) #[.pointer (some ⟨b, 0, none⟩)] #[], .func (.func 66) #[.pointer (some ⟨b, 0, none⟩)] #[], .func (.func 67) #[.pointer (some ⟨b, 0, none⟩)] #[]]
abbrev Tb (w : World) (b : Nat) (q : List Od) : Prop := TreeAt 121 true w b 1 q
abbrev Ts (w : World) (b : Nat) (q : List Od) : Prop := TreeAt 124 false w b 2 q
/-- What holds while the two sides are planted: x says which operations have come up. -/
structure RW9 (W0 : World) (BV : Value) (q1 q2 : List Od) (x : List Bool) (v33 v34 v35 v36 v5 v6 : Value) (b1 b2 p5 p6 : Nat) (w : World) : Prop where
  bel : Below W0.heap.size W0 w
  c33 : x[0]? = some true → v33 = BV
  c35 : x[2]? = some true → v35 = BV
  c34 : x[1]? = some true → v34 = side_b b1 ∧ Tb w b1 q1
  c36 : x[3]? = some true → v36 = side_s b2 ∧ Ts w b2 q2
  c5 : x[4]? = some true → v5 = .pointer (some ⟨p5, 0, none⟩) ∧ p5 < w.heap.size ∧ W0.heap.size ≤ p5 ∧ w.there p5 0 3
  c6 : x[5]? = some true → v6 = .pointer (some ⟨p6, 0, none⟩) ∧ p6 < w.heap.size ∧ W0.heap.size ≤ p6 ∧ w.there p6 0 3
  n15 : x[1]? = some true → x[4]? = some true → b1 ≠ p5
  n16 : x[1]? = some true → x[5]? = some true → b1 ≠ p6
  n25 : x[3]? = some true → x[4]? = some true → b2 ≠ p5
  n26 : x[3]? = some true → x[5]? = some true → b2 ≠ p6
  n56 : x[4]? = some true → x[5]? = some true → p5 ≠ p6
  s5 : x[6]? = some true → (x[1]? = some true ∧ x[4]? = some true) ∧ w.rangeAt p5 0 (sideL_b b1)
  s6 : x[7]? = some true → (x[3]? = some true ∧ x[5]? = some true) ∧ w.rangeAt p6 0 (sideL_s b2)
section
variable {W0 w w' : World} {BV : Value} {q1 q2 : List Od} {x : List Bool} {v33 v34 v35 v36 v5 v6 : Value} {b1 b2 p5 p6 : Nat}
theorem rw9_grow (h : RW9 W0 BV q1 q2 x v33 v34 v35 v36 v5 v6 b1 b2 p5 p6 w) (hb : Below w.heap.size w w') : RW9 W0 BV q1 q2 x v33 v34 v35 v36 v5 v6 b1 b2 p5 p6 w' where
  bel := h.bel.trans (hb.mono h.bel.size)
  c33 := h.c33
  c35 := h.c35
  c34 := fun hx => ⟨(h.c34 hx).1, treeAt_block (h.c34 hx).2 (hb.block _ (treeAt_lt (h.c34 hx).2))⟩
  c36 := fun hx => ⟨(h.c36 hx).1, treeAt_block (h.c36 hx).2 (hb.block _ (treeAt_lt (h.c36 hx).2))⟩
  c5 := fun hx => ⟨(h.c5 hx).1, Nat.lt_of_lt_of_le (h.c5 hx).2.1 hb.size, (h.c5 hx).2.2.1, there_below (h.c5 hx).2.2.2 hb (h.c5 hx).2.1⟩
  c6 := fun hx => ⟨(h.c6 hx).1, Nat.lt_of_lt_of_le (h.c6 hx).2.1 hb.size, (h.c6 hx).2.2.1, there_below (h.c6 hx).2.2.2 hb (h.c6 hx).2.1⟩
  n15 := h.n15
  n16 := h.n16
  n25 := h.n25
  n26 := h.n26
  n56 := h.n56
  s5 := fun hx => ⟨(h.s5 hx).1, range_below (h.s5 hx).2 hb (h.c5 (h.s5 hx).1.2).2.1⟩
  s6 := fun hx => ⟨(h.s6 hx).1, range_below (h.s6 hx).2 hb (h.c6 (h.s6 hx).1.2).2.1⟩
theorem gse {x : List Bool} {i j : Nat} (h : i ≠ j) : (x.set i true)[j]? = x[j]? := List.getElem?_set_ne h
theorem rw9_0 (h : RW9 W0 BV q1 q2 x v33 v34 v35 v36 v5 v6 b1 b2 p5 p6 w) : RW9 W0 BV q1 q2 (x.set 0 true) BV v34 v35 v36 v5 v6 b1 b2 p5 p6 w := by
  constructor <;> try simp only [gse (show 0 ≠ 1 by decide), gse (show 0 ≠ 2 by decide), gse (show 0 ≠ 3 by decide), gse (show 0 ≠ 4 by decide), gse (show 0 ≠ 5 by decide), gse (show 0 ≠ 6 by decide), gse (show 0 ≠ 7 by decide)]
  · exact h.bel
  · exact fun _ => by first | rfl | trivial
  · exact h.c35
  · exact h.c34
  · exact h.c36
  · exact h.c5
  · exact h.c6
  · exact h.n15
  · exact h.n16
  · exact h.n25
  · exact h.n26
  · exact h.n56
  · exact h.s5
  · exact h.s6
theorem rw9_2 (h : RW9 W0 BV q1 q2 x v33 v34 v35 v36 v5 v6 b1 b2 p5 p6 w) : RW9 W0 BV q1 q2 (x.set 2 true) v33 v34 BV v36 v5 v6 b1 b2 p5 p6 w := by
  constructor <;> try simp only [gse (show 2 ≠ 0 by decide), gse (show 2 ≠ 1 by decide), gse (show 2 ≠ 3 by decide), gse (show 2 ≠ 4 by decide), gse (show 2 ≠ 5 by decide), gse (show 2 ≠ 6 by decide), gse (show 2 ≠ 7 by decide)]
  · exact h.bel
  · exact h.c33
  · exact fun _ => by first | rfl | trivial
  · exact h.c34
  · exact h.c36
  · exact h.c5
  · exact h.c6
  · exact h.n15
  · exact h.n16
  · exact h.n25
  · exact h.n26
  · exact h.n56
  · exact h.s5
  · exact h.s6
theorem rw9_1 (h : RW9 W0 BV q1 q2 x v33 v34 v35 v36 v5 v6 b1 b2 p5 p6 w) (h6 : x[6]? ≠ some true) {b : Nat} (hb : Below w.heap.size w w') (hle : w.heap.size ≤ b) (ht : Tb w' b q1) :
    RW9 W0 BV q1 q2 (x.set 1 true) v33 (side_b b) v35 v36 v5 v6 b b2 p5 p6 w' := by
  have g := rw9_grow h hb
  constructor <;> try simp only [gse (show 1 ≠ 0 by decide), gse (show 1 ≠ 2 by decide), gse (show 1 ≠ 3 by decide), gse (show 1 ≠ 4 by decide), gse (show 1 ≠ 5 by decide), gse (show 1 ≠ 6 by decide), gse (show 1 ≠ 7 by decide)]
  · exact g.bel
  · exact g.c33
  · exact g.c35
  · exact fun _ => ⟨by first | rfl | trivial, ht⟩
  · exact g.c36
  · exact g.c5
  · exact g.c6
  · exact fun _ h4 => by have := (h.c5 h4).2.1; omega
  · exact fun _ h5 => by have := (h.c6 h5).2.1; omega
  · exact g.n25
  · exact g.n26
  · exact g.n56
  · exact fun hx => absurd hx h6
  · exact g.s6
theorem rw9_3 (h : RW9 W0 BV q1 q2 x v33 v34 v35 v36 v5 v6 b1 b2 p5 p6 w) (h7 : x[7]? ≠ some true) {b : Nat} (hb : Below w.heap.size w w') (hle : w.heap.size ≤ b) (ht : Ts w' b q2) :
    RW9 W0 BV q1 q2 (x.set 3 true) v33 v34 v35 (side_s b) v5 v6 b1 b p5 p6 w' := by
  have g := rw9_grow h hb
  constructor <;> try simp only [gse (show 3 ≠ 0 by decide), gse (show 3 ≠ 1 by decide), gse (show 3 ≠ 2 by decide), gse (show 3 ≠ 4 by decide), gse (show 3 ≠ 5 by decide), gse (show 3 ≠ 6 by decide), gse (show 3 ≠ 7 by decide)]
  · exact g.bel
  · exact g.c33
  · exact g.c35
  · exact g.c34
  · exact fun _ => ⟨by first | rfl | trivial, ht⟩
  · exact g.c5
  · exact g.c6
  · exact g.n15
  · exact g.n16
  · exact fun _ h4 => by have := (h.c5 h4).2.1; omega
  · exact fun _ h5 => by have := (h.c6 h5).2.1; omega
  · exact g.n56
  · exact g.s5
  · exact fun hx => absurd hx h7
theorem there_made (w : World) (cs : List Value) (t : TypeId) : (w.alloc (Obj.cells cs.toArray t)).there w.heap.size 0 cs.length := there_block (heap_alloc_new w _) (by simp)
theorem rw9_4 (h : RW9 W0 BV q1 q2 x v33 v34 v35 v36 v5 v6 b1 b2 p5 p6 w) (h6 : x[6]? ≠ some true) (t : TypeId) :
    RW9 W0 BV q1 q2 (x.set 4 true) v33 v34 v35 v36 (.pointer (some ⟨w.heap.size, 0, none⟩)) v6 b1 b2 w.heap.size p6 (w.alloc (Obj.cells #[.nilFunc, .nilFunc, .nilFunc] t)) := by
  have g := rw9_grow h ((Below.refl _ _).alloc (Nat.le_refl _) (Obj.cells #[.nilFunc, .nilFunc, .nilFunc] t))
  constructor <;> try simp only [gse (show 4 ≠ 0 by decide), gse (show 4 ≠ 1 by decide), gse (show 4 ≠ 2 by decide), gse (show 4 ≠ 3 by decide), gse (show 4 ≠ 5 by decide), gse (show 4 ≠ 6 by decide), gse (show 4 ≠ 7 by decide)]
  · exact g.bel
  · exact g.c33
  · exact g.c35
  · exact g.c34
  · exact g.c36
  · exact fun _ => ⟨by first | rfl | trivial, by rw [size_made]; omega, h.bel.size, there_made w [.nilFunc, .nilFunc, .nilFunc] t⟩
  · exact g.c6
  · exact fun h1 _ => by have := treeAt_lt (h.c34 h1).2; omega
  · exact g.n16
  · exact fun h3 _ => by have := treeAt_lt (h.c36 h3).2; omega
  · exact g.n26
  · exact fun _ h5 => by have := (h.c6 h5).2.1; omega
  · exact fun hx => absurd hx h6
  · exact g.s6
theorem rw9_5 (h : RW9 W0 BV q1 q2 x v33 v34 v35 v36 v5 v6 b1 b2 p5 p6 w) (h7 : x[7]? ≠ some true) (t : TypeId) :
    RW9 W0 BV q1 q2 (x.set 5 true) v33 v34 v35 v36 v5 (.pointer (some ⟨w.heap.size, 0, none⟩)) b1 b2 p5 w.heap.size (w.alloc (Obj.cells #[.nilFunc, .nilFunc, .nilFunc] t)) := by
  have g := rw9_grow h ((Below.refl _ _).alloc (Nat.le_refl _) (Obj.cells #[.nilFunc, .nilFunc, .nilFunc] t))
  constructor <;> try simp only [gse (show 5 ≠ 0 by decide), gse (show 5 ≠ 1 by decide), gse (show 5 ≠ 2 by decide), gse (show 5 ≠ 3 by decide), gse (show 5 ≠ 4 by decide), gse (show 5 ≠ 6 by decide), gse (show 5 ≠ 7 by decide)]
  · exact g.bel
  · exact g.c33
  · exact g.c35
  · exact g.c34
  · exact g.c36
  · exact g.c5
  · exact fun _ => ⟨by first | rfl | trivial, by rw [size_made]; omega, h.bel.size, there_made w [.nilFunc, .nilFunc, .nilFunc] t⟩
  · exact g.n15
  · exact fun h1 _ => by have := treeAt_lt (h.c34 h1).2; omega
  · exact g.n25
  · exact fun h3 _ => by have := treeAt_lt (h.c36 h3).2; omega
  · exact fun h4 _ => by have := (h.c5 h4).2.1; omega
  · exact g.s5
  · exact fun hx => absurd hx h7
theorem set3_other {p : Nat} {F0 F1 F2 : Value} {k : Nat} (hk : k ≠ p) : (((w.setCell ⟨p, 0, none⟩ F0).setCell ⟨p, 1, none⟩ F1).setCell ⟨p, 2, none⟩ F2).heap[k]? = w.heap[k]? :=
  (Below.heap_setCell _ _ _ _ hk).trans ((Below.heap_setCell _ _ _ _ hk).trans (Below.heap_setCell _ _ _ _ hk))
theorem set3_size {p : Nat} {F0 F1 F2 : Value} : (((w.setCell ⟨p, 0, none⟩ F0).setCell ⟨p, 1, none⟩ F1).setCell ⟨p, 2, none⟩ F2).heap.size = w.heap.size := by simp [World.setCell]
theorem set3_range {p : Nat} {F0 F1 F2 : Value} (ht : w.there p 0 3) : (((w.setCell ⟨p, 0, none⟩ F0).setCell ⟨p, 1, none⟩ F1).setCell ⟨p, 2, none⟩ F2).rangeAt p 0 [F0, F1, F2] := World.rangeAt_setCells_same w p 0 [F0, F1, F2] (fun j hj => ht j hj)
theorem set3_there {p b o n : Nat} {F0 F1 F2 : Value} (ht : w.there b o n) : (((w.setCell ⟨p, 0, none⟩ F0).setCell ⟨p, 1, none⟩ F1).setCell ⟨p, 2, none⟩ F2).there b o n := World.there_setCells ht p 0 [F0, F1, F2]
theorem set3_below {p : Nat} {F0 F1 F2 : Value} (h : Below W0.heap.size W0 w) (hp : W0.heap.size ≤ p) : Below W0.heap.size W0 (((w.setCell ⟨p, 0, none⟩ F0).setCell ⟨p, 1, none⟩ F1).setCell ⟨p, 2, none⟩ F2) :=
  ((h.setCell (p := ⟨p, 0, none⟩) hp F0).setCell (p := ⟨p, 1, none⟩) hp F1).setCell (p := ⟨p, 2, none⟩) hp F2
theorem range_block {b o : Nat} {cs : List Value} (h : w.rangeAt b o cs) (hb : w'.heap[b]? = w.heap[b]?) : w'.rangeAt b o cs := fun j v hv => (World.cell?_of_block (a := ⟨b, o + j, none⟩) hb).trans (h j v hv)
theorem rw9_6 (h : RW9 W0 BV q1 q2 x v33 v34 v35 v36 v5 v6 b1 b2 p5 p6 w) (h1 : x[1]? = some true) (h3 : x[3]? = some true) (h4 : x[4]? = some true) (h5 : x[5]? = some true) {F0 F1 F2 : Value} (hF : sideL_b b1 = [F0, F1, F2]) :
    RW9 W0 BV q1 q2 (x.set 6 true) v33 v34 v35 v36 v5 v6 b1 b2 p5 p6 (((w.setCell ⟨p5, 0, none⟩ F0).setCell ⟨p5, 1, none⟩ F1).setCell ⟨p5, 2, none⟩ F2) := by
  obtain ⟨e1, e2, e3, e4⟩ := h.c5 h4
  obtain ⟨f1, f2, f3, f4⟩ := h.c6 h5
  constructor <;> try simp only [gse (show 6 ≠ 0 by decide), gse (show 6 ≠ 1 by decide), gse (show 6 ≠ 2 by decide), gse (show 6 ≠ 3 by decide), gse (show 6 ≠ 4 by decide), gse (show 6 ≠ 5 by decide), gse (show 6 ≠ 7 by decide)]
  · exact set3_below h.bel e3
  · exact h.c33
  · exact h.c35
  · exact fun _ => ⟨(h.c34 h1).1, treeAt_block (h.c34 h1).2 (set3_other (h.n15 h1 h4))⟩
  · exact fun _ => ⟨(h.c36 h3).1, treeAt_block (h.c36 h3).2 (set3_other (h.n25 h3 h4))⟩
  · exact fun _ => ⟨e1, by rw [set3_size]; exact e2, e3, set3_there e4⟩
  · exact fun _ => ⟨f1, by rw [set3_size]; exact f2, f3, set3_there f4⟩
  · exact h.n15
  · exact h.n16
  · exact h.n25
  · exact h.n26
  · exact h.n56
  · exact fun _ => ⟨⟨h1, h4⟩, by rw [hF]; exact set3_range e4⟩
  · exact fun hx => ⟨(h.s6 hx).1, range_block (h.s6 hx).2 (set3_other (Ne.symm (h.n56 h4 h5)))⟩
theorem rw9_7 (h : RW9 W0 BV q1 q2 x v33 v34 v35 v36 v5 v6 b1 b2 p5 p6 w) (h1 : x[1]? = some true) (h3 : x[3]? = some true) (h4 : x[4]? = some true) (h5 : x[5]? = some true) {F0 F1 F2 : Value} (hF : sideL_s b2 = [F0, F1, F2]) :
    RW9 W0 BV q1 q2 (x.set 7 true) v33 v34 v35 v36 v5 v6 b1 b2 p5 p6 (((w.setCell ⟨p6, 0, none⟩ F0).setCell ⟨p6, 1, none⟩ F1).setCell ⟨p6, 2, none⟩ F2) := by
  obtain ⟨e1, e2, e3, e4⟩ := h.c5 h4
  obtain ⟨f1, f2, f3, f4⟩ := h.c6 h5
  constructor <;> try simp only [gse (show 7 ≠ 0 by decide), gse (show 7 ≠ 1 by decide), gse (show 7 ≠ 2 by decide), gse (show 7 ≠ 3 by decide), gse (show 7 ≠ 4 by decide), gse (show 7 ≠ 5 by decide), gse (show 7 ≠ 6 by decide)]
  · exact set3_below h.bel f3
  · exact h.c33
  · exact h.c35
  · exact fun _ => ⟨(h.c34 h1).1, treeAt_block (h.c34 h1).2 (set3_other (h.n16 h1 h5))⟩
  · exact fun _ => ⟨(h.c36 h3).1, treeAt_block (h.c36 h3).2 (set3_other (h.n26 h3 h5))⟩
  · exact fun _ => ⟨e1, by rw [set3_size]; exact e2, e3, set3_there e4⟩
  · exact fun _ => ⟨f1, by rw [set3_size]; exact f2, f3, set3_there f4⟩
  · exact h.n15
  · exact h.n16
  · exact h.n25
  · exact h.n26
  · exact h.n56
  · exact fun hx => ⟨(h.s5 hx).1, range_block (h.s5 hx).2 (set3_other (h.n56 h4 h5))⟩
  · exact fun _ => ⟨⟨h3, h5⟩, by rw [hF]; exact set3_range f4⟩
end
end Go.Proofs.Ythmgkabpcjkieaa
namespace Go.Proofs.Ythmgkabpcjkieaa
open Go.RowKit
set_option linter.unusedVariables false

end Go.Proofs.Ythmgkabpcjkieaa
namespace Go.Proofs.Ythmgkabpcjkieaa
open Go.RowKit
set_option linter.unusedVariables false

theorem insT_len (s : Bool) (k : Int) : ∀ T : List Int, (insT s k T).length ≤ T.length + 1
  | [] => by simp [insT]
  | a :: r => by
    have := insT_len s k r
    rw [insT]; split
    · simp
    · split <;> simp <;> omega
theorem tks_len (s : Bool) : ∀ seq : List Od, (tks s seq).length ≤ seq.length
  | [] => by simp [tks]
  | o :: r => by
    have h1 := insT_len s o.ticks (tks s r)
    have h2 := tks_len s r
    rw [tks]; simp; omega
/-- The edges of a region go back. -/
def backB : Nat → List Oper → Bool
  | _, [] => true
  | i, o :: r => o.after.toList.all (fun e => decide (e.on < i)) && backB (i + 1) r
theorem back_spec : ∀ (l : List Oper) (n : Nat), backB n l = true → ∀ (i : Nat) (o : Oper), l[i]? = some o → ∀ e ∈ o.after, e.on < n + i
  | [], _, _, i, o, h, _, _ => by simp at h
  | a :: r, n, hb, 0, o, h, e, he => by
    simp at h; subst h
    simp only [backB, Bool.and_eq_true, List.all_eq_true, decide_eq_true_eq] at hb
    exact hb.1 e (by simpa using he)
  | a :: r, n, hb, i + 1, o, h, e, he => by
    simp only [backB, Bool.and_eq_true] at hb
    have := back_spec r (n + 1) hb.2 i o (by simpa using h) e he
    omega
theorem acyc (l : List Oper) (h : backB 0 l = true) : ∀ (i : Nat) (o : Oper), l[i]? = some o → ∀ e ∈ o.after, e.on < i := fun i o ho e he => by
  have := back_spec l 0 h i o ho e he; omega
/-- What each operation of the sum has. -/
def C10 (b1 b2 p5 p6 N1 N2 : Nat) : Nat → Value → Prop
  | 0, v => v = .pointer (some ⟨p5, 2, none⟩)
  | 1, v => v = .func (.func 63) #[.pointer (some ⟨b1, 0, none⟩)] #[]
  | 2, v => ∃ a c, v = .slice a N1 c
  | 3, v => v = .int .i64 N1
  | 4, v => v = .pointer (some ⟨p6, 2, none⟩)
  | 5, v => v = .func (.func 67) #[.pointer (some ⟨b2, 0, none⟩)] #[]
  | 6, v => ∃ a c, v = .slice a N2 c
  | 7, v => v = .int .i64 N2
  | 8, v => v = .int .i64 ((N1 : Int) + N2)
  | 9, v => v = .int .i64 ((N1 : Int) + N2)
  | _, _ => True
set_option maxRecDepth 100000 in
set_option maxHeartbeats 800000 in
theorem countLevels_any (b1 b2 : Nat) (sd1 sd2 : Int) (s1 s2 : List Od) (w : World) (h1 : TreeAt 121 true w b1 sd1 s1) (h2 : TreeAt 124 false w b2 sd2 s2) (n1 : s1.length ≤ 20) (n2 : s2.length ≤ 20) :
    Calls Try.prog 31 #[side_b b1, side_s b2] w fun e w' => e = .returned (.int .i64 (((lvsOf true sd1 s1).length : Int) + (lvsOf false sd2 s2).length)) ∧ Below w.heap.size w w' := by
  have hb1 := treeAt_lt h1
  have hb2 := treeAt_lt h2
  generalize hL1 : (lvsOf true sd1 s1).length = N1
  generalize hL2 : (lvsOf false sd2 s2).length = N2
  have hN1 : N1 ≤ 20 := by rw [← hL1, lvsOf, List.length_map]; exact Nat.le_trans (tks_len _ _) n1
  have hN2 : N2 ≤ 20 := by rw [← hL2, lvsOf, List.length_map]; exact Nat.le_trans (tks_len _ _) n2
  have HLL : Hid ((lvsOf true sd1 s1).length = N1 ∧ (lvsOf false sd2 s2).length = N2) := ⟨hL1, hL2⟩
  have hs1 : (w.alloc (Obj.cells (sideL_b b1).toArray 51)).heap.size = w.heap.size + 1 := size_made _ _
  have hs2 : ((w.alloc (Obj.cells (sideL_b b1).toArray 51)).alloc (Obj.cells (sideL_s b2).toArray 51)).heap.size = w.heap.size + 1 + 1 := by rw [size_made, hs1]
  have r0 := cells_made w (sideL_b b1) 51
  have r1 := cells_made (w.alloc (Obj.cells (sideL_b b1).toArray 51)) (sideL_s b2) 51
  rw [hs1] at r1
  have r0' := range_below r0 (C := w.heap.size + 1) ((Below.refl _ _).alloc (by rw [hs1]; omega) (Obj.cells (sideL_s b2).toArray 51)) (by omega)
  have HB0 : Hid (Below w.heap.size w ((w.alloc (Obj.cells (sideL_b b1).toArray 51)).alloc (Obj.cells (sideL_s b2).toArray 51))) := ((Below.refl _ _).alloc (Nat.le_refl _) _).alloc (by rw [hs1]; omega) _
  have HR5 := hide r0'
  have HR6 := hide r1
  have HS2 := hide hs2
  have HT1 := hide (treeAt_block h1 ((unhide HB0).block _ hb1))
  have HT2 := hide (treeAt_block h2 ((unhide HB0).block _ hb2))
  clear r0 r1 r0' hs1 hs2 hL1 hL2 h1 h2
  unfold side_b side_s
  go_enter Try.func31, Try.ntmps31
  go_wp2_with fail
  unfold sideL_b sideL_s at HB0 HR5 HR6 HS2 HT1 HT2
  generalize hW : ((w.alloc (Obj.cells (List.toArray [.func (.func 61) #[.pointer (some ⟨b1, 0, none⟩)] #[], .func (.func 62) #[.pointer (some ⟨b1, 0, none⟩)] #[], .func (.func 63) #[.pointer (some ⟨b1, 0, none⟩)] #[]]) 51)).alloc (Obj.cells (List.toArray [.func (.func 65) #[.pointer (some ⟨b2, 0, none⟩)] #[], .func (.func 66) #[.pointer (some ⟨b2, 0, none⟩)] #[], .func (.func 67) #[.pointer (some ⟨b2, 0, none⟩)] #[]]) 51)) = W at HB0 HR5 HR6 HS2 HT1 HT2
  have hb1s : b1 < W.heap.size := treeAt_lt (unhide HT1)
  have hb2s : b2 < W.heap.size := treeAt_lt (unhide HT2)
  have hp5 : w.heap.size < W.heap.size := by rw [unhide HS2]; omega
  have hp6 : w.heap.size + 1 < W.heap.size := by rw [unhide HS2]; omega
  refine wp_region_inv (RGrow W (fun f => { tmps := #[side_b b1, side_s b2, .pointer (some ⟨w.heap.size, 0, none⟩), .pointer (some ⟨w.heap.size + 1, 0, none⟩), f 9, f 0, f 1, f 2, f 3, f 4, f 5, f 6, f 7, f 8], defers := [] }) (C10 b1 b2 w.heap.size (w.heap.size + 1) N1 N2)) (by kernel_rfl) ?_ ?_ ?_
  · refine ⟨upd (fun _ => undef) 9 (.int .i64 0), rfl, ?_, fun j hj => by rw [List.getElem?_replicate] at hj; split at hj <;> simp at hj⟩
    rw [← hW]
    exact ⟨rfl, rfl, rfl, Nat.le_refl _, fun _ _ => rfl⟩
  · rintro x A V ⟨f, rfl, hbel, hC⟩ hx hrd
    have hall9 := ready_all hrd hx (acyc _ (by kernel_rfl)) 9 (by simp)
    have e9 : f 9 = .int .i64 ((N1 : Int) + N2) := hC 9 hall9
    simp only [e9]
    have HBV := hide hbel
    clear hC hx hrd hall9 e9 hbel
    go_wp2_with fail
    go_ret
    exact ⟨rfl, (unhide HB0).trans ((unhide HBV).mono (unhide HB0).size)⟩
  · rintro x A V i o ⟨f, rfl, hbel, hC⟩ hx ho hxi hall
    have HBV := hide hbel
    have HC := hide hC
    match i, ho with
    | 0, ho =>
      simp only [List.getElem?_cons_zero, Option.some.injEq] at ho
      subst ho
      clear hall hC hbel
      rw [if_pos (by rfl)]
      unfold Oper.wp
      go_simp
      exact ⟨upd f 0 (.pointer (some ⟨w.heap.size, 2, none⟩)), by simp [upd], unhide HBV, step_upd (unhide HC) rfl⟩
    | 1, ho =>
      simp only [List.getElem?_cons_succ, List.getElem?_cons_zero, Option.some.injEq] at ho
      subst ho
      have g0 : C10 b1 b2 w.heap.size (w.heap.size + 1) N1 N2 0 (f 0) := hC 0 (hall ⟨0, .data⟩ (by simp) rfl)
      simp only [C10] at g0
      have d2 := range_below (unhide HR5) hbel hp5 2 _ rfl
      clear hall hC hbel
      rw [if_pos (by rfl)]
      unfold Oper.wp
      go_simp
      exact ⟨upd f 1 (.func (.func 63) #[.pointer (some ⟨b1, 0, none⟩)] #[]), by simp [upd, g0], unhide HBV, step_upd (unhide HC) rfl⟩
    | 2, ho =>
      simp only [List.getElem?_cons_succ, List.getElem?_cons_zero, Option.some.injEq] at ho
      subst ho
      have g1 : C10 b1 b2 w.heap.size (w.heap.size + 1) N1 N2 1 (f 1) := hC 1 (hall ⟨1, .data⟩ (by simp) rfl)
      simp only [C10] at g1
      have ht := treeAt_block (unhide HT1) (hbel.block _ hb1s)
      have HTV := hide ht
      clear hall hC hbel ht
      rw [if_pos (by rfl)]
      unfold Oper.wp
      go_simp
      refine (levels_b b1 sd1 s1 V (unhide HTV) n1).mono ?_
      rintro e w4 ⟨v4, rfl, ⟨al, cp, rfl, -, -⟩, hb4⟩
      rw [(unhide HLL).1]
      exact ⟨upd f 2 (.slice al N1 cp), by simp [upd, g1], (unhide HBV).trans (hb4.mono (unhide HBV).size), step_upd (unhide HC) ⟨al, cp, rfl⟩⟩
    | 3, ho =>
      simp only [List.getElem?_cons_succ, List.getElem?_cons_zero, Option.some.injEq] at ho
      subst ho
      have g2 : C10 b1 b2 w.heap.size (w.heap.size + 1) N1 N2 2 (f 2) := hC 2 (hall ⟨2, .data⟩ (by simp) rfl)
      obtain ⟨al, cp, g2⟩ := g2
      clear hall hC hbel
      rw [if_pos (by rfl)]
      unfold Oper.wp
      go_simp
      exact ⟨upd f 3 (.int .i64 N1), by simp [upd, g2], unhide HBV, step_upd (unhide HC) rfl⟩
    | 4, ho =>
      simp only [List.getElem?_cons_succ, List.getElem?_cons_zero, Option.some.injEq] at ho
      subst ho
      clear hall hC hbel
      rw [if_pos (by rfl)]
      unfold Oper.wp
      go_simp
      exact ⟨upd f 4 (.pointer (some ⟨w.heap.size + 1, 2, none⟩)), by simp [upd], unhide HBV, step_upd (unhide HC) rfl⟩
    | 5, ho =>
      simp only [List.getElem?_cons_succ, List.getElem?_cons_zero, Option.some.injEq] at ho
      subst ho
      have g4 : C10 b1 b2 w.heap.size (w.heap.size + 1) N1 N2 4 (f 4) := hC 4 (hall ⟨4, .data⟩ (by simp) rfl)
      simp only [C10] at g4
      have d2 := range_below (unhide HR6) hbel hp6 2 _ rfl
      clear hall hC hbel
      rw [if_pos (by rfl)]
      unfold Oper.wp
      go_simp
      exact ⟨upd f 5 (.func (.func 67) #[.pointer (some ⟨b2, 0, none⟩)] #[]), by simp [upd, g4], unhide HBV, step_upd (unhide HC) rfl⟩
    | 6, ho =>
      simp only [List.getElem?_cons_succ, List.getElem?_cons_zero, Option.some.injEq] at ho
      subst ho
      have g5 : C10 b1 b2 w.heap.size (w.heap.size + 1) N1 N2 5 (f 5) := hC 5 (hall ⟨5, .data⟩ (by simp) rfl)
      simp only [C10] at g5
      have ht := treeAt_block (unhide HT2) (hbel.block _ hb2s)
      have HTV := hide ht
      clear hall hC hbel ht
      rw [if_pos (by rfl)]
      unfold Oper.wp
      go_simp
      refine (levels_s b2 sd2 s2 V (unhide HTV) n2).mono ?_
      rintro e w4 ⟨v4, rfl, ⟨al, cp, rfl, -, -⟩, hb4⟩
      rw [(unhide HLL).2]
      exact ⟨upd f 6 (.slice al N2 cp), by simp [upd, g5], (unhide HBV).trans (hb4.mono (unhide HBV).size), step_upd (unhide HC) ⟨al, cp, rfl⟩⟩
    | 7, ho =>
      simp only [List.getElem?_cons_succ, List.getElem?_cons_zero, Option.some.injEq] at ho
      subst ho
      have g6 : C10 b1 b2 w.heap.size (w.heap.size + 1) N1 N2 6 (f 6) := hC 6 (hall ⟨6, .data⟩ (by simp) rfl)
      obtain ⟨al, cp, g6⟩ := g6
      clear hall hC hbel
      rw [if_pos (by rfl)]
      unfold Oper.wp
      go_simp
      exact ⟨upd f 7 (.int .i64 N2), by simp [upd, g6], unhide HBV, step_upd (unhide HC) rfl⟩
    | 8, ho =>
      simp only [List.getElem?_cons_succ, List.getElem?_cons_zero, Option.some.injEq] at ho
      subst ho
      have g3 : C10 b1 b2 w.heap.size (w.heap.size + 1) N1 N2 3 (f 3) := hC 3 (hall ⟨3, .data⟩ (by simp) rfl)
      have g7 : C10 b1 b2 w.heap.size (w.heap.size + 1) N1 N2 7 (f 7) := hC 7 (hall ⟨7, .data⟩ (by simp) rfl)
      simp only [C10] at g3
      simp only [C10] at g7
      have hwr8 : IntKind.i64.wrap ((N1 : Int) + N2) = (N1 : Int) + N2 := by rw [IntKind.wrap_i64]; omega
      clear hall hC hbel
      rw [if_pos (by rfl)]
      unfold Oper.wp
      go_simp
      exact ⟨upd f 8 (.int .i64 ((N1 : Int) + N2)), by simp [upd, g3, g7], unhide HBV, step_upd (unhide HC) rfl⟩
    | 9, ho =>
      simp only [List.getElem?_cons_succ, List.getElem?_cons_zero, Option.some.injEq] at ho
      subst ho
      have g8 : C10 b1 b2 w.heap.size (w.heap.size + 1) N1 N2 8 (f 8) := hC 8 (hall ⟨8, .data⟩ (by simp) rfl)
      simp only [C10] at g8
      clear hall hC hbel
      rw [if_pos (by rfl)]
      unfold Oper.wp
      go_simp
      exact ⟨upd f 9 (.int .i64 ((N1 : Int) + N2)), by simp [upd, g8], unhide HBV, step_upd (unhide HC) rfl⟩
    | n + 10, ho => simp at ho
end Go.Proofs.Ythmgkabpcjkieaa
namespace Go.Proofs.Ythmgkabpcjkieaa
open Go.RowKit
set_option linter.unusedVariables false

/-- Two commands are one: every NaN counts as one, and the noughts are two. -/
def sameC (c d : Cm) : Bool := (c.k == d.k) && ((c.s == d.s) && ((c.t == d.t) && ((c.l == d.l) && ((c.q == d.q) && ((c.i == d.i) && ((fbit c.p == fbit d.p) && decide (c.g.toList = d.g.toList)))))))
end Go.Proofs.Ythmgkabpcjkieaa
