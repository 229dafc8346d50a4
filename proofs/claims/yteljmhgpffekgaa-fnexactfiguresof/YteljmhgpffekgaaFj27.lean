/-
  Two sides of a book, planted in whatever order: what holds of memory meanwhile; no function walked.
-/
import Derived.Test.YteljmhgpffekgaaFj14
import Derived.Test.YteljmhgpffekgaaFj26
namespace Go.Proofs.Yteljmhgpffekgaa
open Go.RowKit
set_option linter.unusedVariables false

def sideL_b (b : Nat) : List Value := [.func (.func 100) #[.pointer (some ⟨b, 0, none⟩)] #[], .func (.func 101) #[.pointer (some ⟨b, 0, none⟩)] #[], .func (.func 102) #[.pointer (some ⟨b, 0, none⟩)] #[]]
def sideL_s (b : Nat) : List Value := [.func (.func 104) #[.pointer (some ⟨b, 0, none⟩)] #[], .func (.func 105) #[.pointer (some ⟨b, 0, none⟩)] #[], .func (.func 106) #[.pointer (some ⟨b, 0, none⟩)] #[]]
abbrev Tb (w : World) (b : Nat) (q : List Od) : Prop := TreeAt 158 true w b 1 q
abbrev Ts (w : World) (b : Nat) (q : List Od) : Prop := TreeAt 161 false w b 2 q

/-- What holds while the two sides are planted: x says which operations have come up. -/
structure RW9 (W0 : World) (BV : Value) (q1 q2 : List Od) (x : List Bool) (v33 v34 v35 v36 v5 v6 : Value) (b1 b2 p5 p6 : Nat) (w : World) : Prop where
  bel : Below W0.heap.size W0 w
  c33 : x[0]? = some true → v33 = BV
  c35 : x[2]? = some true → v35 = BV
  c34 : x[1]? = some true → v34 = side_b b1 ∧ Tb w b1 q1
  c36 : x[3]? = some true → v36 = side_s b2 ∧ Ts w b2 q2
  c5 : x[4]? = some true → v5 = .pointer (some ⟨p5, 0, none⟩) ∧ p5 < w.heap.size ∧ W0.heap.size ≤ p5 ∧ w.there p5 0 3
  c6 : x[5]? = some true → v6 = .pointer (some ⟨p6, 0, none⟩) ∧ p6 < w.heap.size ∧ W0.heap.size ≤ p6 ∧ w.there p6 0 3
  n15 : x[1]? = some true → x[4]? = some true → b1 ≠ p5
  n16 : x[1]? = some true → x[5]? = some true → b1 ≠ p6
  n25 : x[3]? = some true → x[4]? = some true → b2 ≠ p5
  n26 : x[3]? = some true → x[5]? = some true → b2 ≠ p6
  n56 : x[4]? = some true → x[5]? = some true → p5 ≠ p6
  s5 : x[6]? = some true → (x[1]? = some true ∧ x[4]? = some true) ∧ w.rangeAt p5 0 (sideL_b b1)
  s6 : x[7]? = some true → (x[3]? = some true ∧ x[5]? = some true) ∧ w.rangeAt p6 0 (sideL_s b2)

section
variable {W0 w w' : World} {BV : Value} {q1 q2 : List Od} {x : List Bool} {v33 v34 v35 v36 v5 v6 : Value} {b1 b2 p5 p6 : Nat}
theorem rw9_grow (h : RW9 W0 BV q1 q2 x v33 v34 v35 v36 v5 v6 b1 b2 p5 p6 w) (hb : Below w.heap.size w w') : RW9 W0 BV q1 q2 x v33 v34 v35 v36 v5 v6 b1 b2 p5 p6 w' where
  bel := h.bel.trans (hb.mono h.bel.size)
  c33 := h.c33
  c35 := h.c35
  c34 := fun hx => ⟨(h.c34 hx).1, treeAt_block (h.c34 hx).2 (hb.block _ (treeAt_lt (h.c34 hx).2))⟩
  c36 := fun hx => ⟨(h.c36 hx).1, treeAt_block (h.c36 hx).2 (hb.block _ (treeAt_lt (h.c36 hx).2))⟩
  c5 := fun hx => ⟨(h.c5 hx).1, Nat.lt_of_lt_of_le (h.c5 hx).2.1 hb.size, (h.c5 hx).2.2.1, there_below (h.c5 hx).2.2.2 hb (h.c5 hx).2.1⟩
  c6 := fun hx => ⟨(h.c6 hx).1, Nat.lt_of_lt_of_le (h.c6 hx).2.1 hb.size, (h.c6 hx).2.2.1, there_below (h.c6 hx).2.2.2 hb (h.c6 hx).2.1⟩
  n15 := h.n15
  n16 := h.n16
  n25 := h.n25
  n26 := h.n26
  n56 := h.n56
  s5 := fun hx => ⟨(h.s5 hx).1, range_below (h.s5 hx).2 hb (h.c5 (h.s5 hx).1.2).2.1⟩
  s6 := fun hx => ⟨(h.s6 hx).1, range_below (h.s6 hx).2 hb (h.c6 (h.s6 hx).1.2).2.1⟩
theorem gse {x : List Bool} {i j : Nat} (h : i ≠ j) : (x.set i true)[j]? = x[j]? := List.getElem?_set_ne h
theorem rw9_0 (h : RW9 W0 BV q1 q2 x v33 v34 v35 v36 v5 v6 b1 b2 p5 p6 w) : RW9 W0 BV q1 q2 (x.set 0 true) BV v34 v35 v36 v5 v6 b1 b2 p5 p6 w := by
  constructor <;> try simp only [gse (show 0 ≠ 1 by decide), gse (show 0 ≠ 2 by decide), gse (show 0 ≠ 3 by decide), gse (show 0 ≠ 4 by decide), gse (show 0 ≠ 5 by decide), gse (show 0 ≠ 6 by decide), gse (show 0 ≠ 7 by decide)]
  · exact h.bel
  · exact fun _ => by first | rfl | trivial
  · exact h.c35
  · exact h.c34
  · exact h.c36
  · exact h.c5
  · exact h.c6
  · exact h.n15
  · exact h.n16
  · exact h.n25
  · exact h.n26
  · exact h.n56
  · exact h.s5
  · exact h.s6
theorem rw9_2 (h : RW9 W0 BV q1 q2 x v33 v34 v35 v36 v5 v6 b1 b2 p5 p6 w) : RW9 W0 BV q1 q2 (x.set 2 true) v33 v34 BV v36 v5 v6 b1 b2 p5 p6 w := by
  constructor <;> try simp only [gse (show 2 ≠ 0 by decide), gse (show 2 ≠ 1 by decide), gse (show 2 ≠ 3 by decide), gse (show 2 ≠ 4 by decide), gse (show 2 ≠ 5 by decide), gse (show 2 ≠ 6 by decide), gse (show 2 ≠ 7 by decide)]
  · exact h.bel
  · exact h.c33
  · exact fun _ => by first | rfl | trivial
  · exact h.c34
  · exact h.c36
  · exact h.c5
  · exact h.c6
  · exact h.n15
  · exact h.n16
  · exact h.n25
  · exact h.n26
  · exact h.n56
  · exact h.s5
  · exact h.s6
theorem rw9_1 (h : RW9 W0 BV q1 q2 x v33 v34 v35 v36 v5 v6 b1 b2 p5 p6 w) (h6 : x[6]? ≠ some true) {b : Nat} (hb : Below w.heap.size w w') (hle : w.heap.size ≤ b) (ht : Tb w' b q1) :
    RW9 W0 BV q1 q2 (x.set 1 true) v33 (side_b b) v35 v36 v5 v6 b b2 p5 p6 w' := by
  have g := rw9_grow h hb
  constructor <;> try simp only [gse (show 1 ≠ 0 by decide), gse (show 1 ≠ 2 by decide), gse (show 1 ≠ 3 by decide), gse (show 1 ≠ 4 by decide), gse (show 1 ≠ 5 by decide), gse (show 1 ≠ 6 by decide), gse (show 1 ≠ 7 by decide)]
  · exact g.bel
  · exact g.c33
  · exact g.c35
  · exact fun _ => ⟨by first | rfl | trivial, ht⟩
  · exact g.c36
  · exact g.c5
  · exact g.c6
  · exact fun _ h4 => by have := (h.c5 h4).2.1; omega
  · exact fun _ h5 => by have := (h.c6 h5).2.1; omega
  · exact g.n25
  · exact g.n26
  · exact g.n56
  · exact fun hx => absurd hx h6
  · exact g.s6
theorem rw9_3 (h : RW9 W0 BV q1 q2 x v33 v34 v35 v36 v5 v6 b1 b2 p5 p6 w) (h7 : x[7]? ≠ some true) {b : Nat} (hb : Below w.heap.size w w') (hle : w.heap.size ≤ b) (ht : Ts w' b q2) :
    RW9 W0 BV q1 q2 (x.set 3 true) v33 v34 v35 (side_s b) v5 v6 b1 b p5 p6 w' := by
  have g := rw9_grow h hb
  constructor <;> try simp only [gse (show 3 ≠ 0 by decide), gse (show 3 ≠ 1 by decide), gse (show 3 ≠ 2 by decide), gse (show 3 ≠ 4 by decide), gse (show 3 ≠ 5 by decide), gse (show 3 ≠ 6 by decide), gse (show 3 ≠ 7 by decide)]
  · exact g.bel
  · exact g.c33
  · exact g.c35
  · exact g.c34
  · exact fun _ => ⟨by first | rfl | trivial, ht⟩
  · exact g.c5
  · exact g.c6
  · exact g.n15
  · exact g.n16
  · exact fun _ h4 => by have := (h.c5 h4).2.1; omega
  · exact fun _ h5 => by have := (h.c6 h5).2.1; omega
  · exact g.n56
  · exact g.s5
  · exact fun hx => absurd hx h7
theorem there_made (w : World) (cs : List Value) (t : TypeId) : (w.alloc (Obj.cells cs.toArray t)).there w.heap.size 0 cs.length := there_block (heap_alloc_new w _) (by simp)
theorem rw9_4 (h : RW9 W0 BV q1 q2 x v33 v34 v35 v36 v5 v6 b1 b2 p5 p6 w) (h6 : x[6]? ≠ some true) (t : TypeId) :
    RW9 W0 BV q1 q2 (x.set 4 true) v33 v34 v35 v36 (.pointer (some ⟨w.heap.size, 0, none⟩)) v6 b1 b2 w.heap.size p6 (w.alloc (Obj.cells #[.nilFunc, .nilFunc, .nilFunc] t)) := by
  have g := rw9_grow h ((Below.refl _ _).alloc (Nat.le_refl _) (Obj.cells #[.nilFunc, .nilFunc, .nilFunc] t))
  constructor <;> try simp only [gse (show 4 ≠ 0 by decide), gse (show 4 ≠ 1 by decide), gse (show 4 ≠ 2 by decide), gse (show 4 ≠ 3 by decide), gse (show 4 ≠ 5 by decide), gse (show 4 ≠ 6 by decide), gse (show 4 ≠ 7 by decide)]
  · exact g.bel
  · exact g.c33
  · exact g.c35
  · exact g.c34
  · exact g.c36
  · exact fun _ => ⟨by first | rfl | trivial, by rw [size_made]; omega, h.bel.size, there_made w [.nilFunc, .nilFunc, .nilFunc] t⟩
  · exact g.c6
  · exact fun h1 _ => by have := treeAt_lt (h.c34 h1).2; omega
  · exact g.n16
  · exact fun h3 _ => by have := treeAt_lt (h.c36 h3).2; omega
  · exact g.n26
  · exact fun _ h5 => by have := (h.c6 h5).2.1; omega
  · exact fun hx => absurd hx h6
  · exact g.s6
theorem rw9_5 (h : RW9 W0 BV q1 q2 x v33 v34 v35 v36 v5 v6 b1 b2 p5 p6 w) (h7 : x[7]? ≠ some true) (t : TypeId) :
    RW9 W0 BV q1 q2 (x.set 5 true) v33 v34 v35 v36 v5 (.pointer (some ⟨w.heap.size, 0, none⟩)) b1 b2 p5 w.heap.size (w.alloc (Obj.cells #[.nilFunc, .nilFunc, .nilFunc] t)) := by
  have g := rw9_grow h ((Below.refl _ _).alloc (Nat.le_refl _) (Obj.cells #[.nilFunc, .nilFunc, .nilFunc] t))
  constructor <;> try simp only [gse (show 5 ≠ 0 by decide), gse (show 5 ≠ 1 by decide), gse (show 5 ≠ 2 by decide), gse (show 5 ≠ 3 by decide), gse (show 5 ≠ 4 by decide), gse (show 5 ≠ 6 by decide), gse (show 5 ≠ 7 by decide)]
  · exact g.bel
  · exact g.c33
  · exact g.c35
  · exact g.c34
  · exact g.c36
  · exact g.c5
  · exact fun _ => ⟨by first | rfl | trivial, by rw [size_made]; omega, h.bel.size, there_made w [.nilFunc, .nilFunc, .nilFunc] t⟩
  · exact g.n15
  · exact fun h1 _ => by have := treeAt_lt (h.c34 h1).2; omega
  · exact g.n25
  · exact fun h3 _ => by have := treeAt_lt (h.c36 h3).2; omega
  · exact fun h4 _ => by have := (h.c5 h4).2.1; omega
  · exact g.s5
  · exact fun hx => absurd hx h7
theorem set3_other {p : Nat} {F0 F1 F2 : Value} {k : Nat} (hk : k ≠ p) : (((w.setCell ⟨p, 0, none⟩ F0).setCell ⟨p, 1, none⟩ F1).setCell ⟨p, 2, none⟩ F2).heap[k]? = w.heap[k]? :=
  (Below.heap_setCell _ _ _ _ hk).trans ((Below.heap_setCell _ _ _ _ hk).trans (Below.heap_setCell _ _ _ _ hk))
theorem set3_size {p : Nat} {F0 F1 F2 : Value} : (((w.setCell ⟨p, 0, none⟩ F0).setCell ⟨p, 1, none⟩ F1).setCell ⟨p, 2, none⟩ F2).heap.size = w.heap.size := by simp [World.setCell]
theorem set3_range {p : Nat} {F0 F1 F2 : Value} (ht : w.there p 0 3) : (((w.setCell ⟨p, 0, none⟩ F0).setCell ⟨p, 1, none⟩ F1).setCell ⟨p, 2, none⟩ F2).rangeAt p 0 [F0, F1, F2] := World.rangeAt_setCells_same w p 0 [F0, F1, F2] (fun j hj => ht j hj)
theorem set3_there {p b o n : Nat} {F0 F1 F2 : Value} (ht : w.there b o n) : (((w.setCell ⟨p, 0, none⟩ F0).setCell ⟨p, 1, none⟩ F1).setCell ⟨p, 2, none⟩ F2).there b o n := World.there_setCells ht p 0 [F0, F1, F2]
theorem set3_below {p : Nat} {F0 F1 F2 : Value} (h : Below W0.heap.size W0 w) (hp : W0.heap.size ≤ p) : Below W0.heap.size W0 (((w.setCell ⟨p, 0, none⟩ F0).setCell ⟨p, 1, none⟩ F1).setCell ⟨p, 2, none⟩ F2) :=
  ((h.setCell (p := ⟨p, 0, none⟩) hp F0).setCell (p := ⟨p, 1, none⟩) hp F1).setCell (p := ⟨p, 2, none⟩) hp F2
theorem range_block {b o : Nat} {cs : List Value} (h : w.rangeAt b o cs) (hb : w'.heap[b]? = w.heap[b]?) : w'.rangeAt b o cs := fun j v hv => (World.cell?_of_block (a := ⟨b, o + j, none⟩) hb).trans (h j v hv)
theorem rw9_6 (h : RW9 W0 BV q1 q2 x v33 v34 v35 v36 v5 v6 b1 b2 p5 p6 w) (h1 : x[1]? = some true) (h3 : x[3]? = some true) (h4 : x[4]? = some true) (h5 : x[5]? = some true) {F0 F1 F2 : Value} (hF : sideL_b b1 = [F0, F1, F2]) :
    RW9 W0 BV q1 q2 (x.set 6 true) v33 v34 v35 v36 v5 v6 b1 b2 p5 p6 (((w.setCell ⟨p5, 0, none⟩ F0).setCell ⟨p5, 1, none⟩ F1).setCell ⟨p5, 2, none⟩ F2) := by
  obtain ⟨e1, e2, e3, e4⟩ := h.c5 h4
  obtain ⟨f1, f2, f3, f4⟩ := h.c6 h5
  constructor <;> try simp only [gse (show 6 ≠ 0 by decide), gse (show 6 ≠ 1 by decide), gse (show 6 ≠ 2 by decide), gse (show 6 ≠ 3 by decide), gse (show 6 ≠ 4 by decide), gse (show 6 ≠ 5 by decide), gse (show 6 ≠ 7 by decide)]
  · exact set3_below h.bel e3
  · exact h.c33
  · exact h.c35
  · exact fun _ => ⟨(h.c34 h1).1, treeAt_block (h.c34 h1).2 (set3_other (h.n15 h1 h4))⟩
  · exact fun _ => ⟨(h.c36 h3).1, treeAt_block (h.c36 h3).2 (set3_other (h.n25 h3 h4))⟩
  · exact fun _ => ⟨e1, by rw [set3_size]; exact e2, e3, set3_there e4⟩
  · exact fun _ => ⟨f1, by rw [set3_size]; exact f2, f3, set3_there f4⟩
  · exact h.n15
  · exact h.n16
  · exact h.n25
  · exact h.n26
  · exact h.n56
  · exact fun _ => ⟨⟨h1, h4⟩, by rw [hF]; exact set3_range e4⟩
  · exact fun hx => ⟨(h.s6 hx).1, range_block (h.s6 hx).2 (set3_other (Ne.symm (h.n56 h4 h5)))⟩
theorem rw9_7 (h : RW9 W0 BV q1 q2 x v33 v34 v35 v36 v5 v6 b1 b2 p5 p6 w) (h1 : x[1]? = some true) (h3 : x[3]? = some true) (h4 : x[4]? = some true) (h5 : x[5]? = some true) {F0 F1 F2 : Value} (hF : sideL_s b2 = [F0, F1, F2]) :
    RW9 W0 BV q1 q2 (x.set 7 true) v33 v34 v35 v36 v5 v6 b1 b2 p5 p6 (((w.setCell ⟨p6, 0, none⟩ F0).setCell ⟨p6, 1, none⟩ F1).setCell ⟨p6, 2, none⟩ F2) := by
  obtain ⟨e1, e2, e3, e4⟩ := h.c5 h4
  obtain ⟨f1, f2, f3, f4⟩ := h.c6 h5
  constructor <;> try simp only [gse (show 7 ≠ 0 by decide), gse (show 7 ≠ 1 by decide), gse (show 7 ≠ 2 by decide), gse (show 7 ≠ 3 by decide), gse (show 7 ≠ 4 by decide), gse (show 7 ≠ 5 by decide), gse (show 7 ≠ 6 by decide)]
  · exact set3_below h.bel f3
  · exact h.c33
  · exact h.c35
  · exact fun _ => ⟨(h.c34 h1).1, treeAt_block (h.c34 h1).2 (set3_other (h.n16 h1 h5))⟩
  · exact fun _ => ⟨(h.c36 h3).1, treeAt_block (h.c36 h3).2 (set3_other (h.n26 h3 h5))⟩
  · exact fun _ => ⟨e1, by rw [set3_size]; exact e2, e3, set3_there e4⟩
  · exact fun _ => ⟨f1, by rw [set3_size]; exact f2, f3, set3_there f4⟩
  · exact h.n15
  · exact h.n16
  · exact h.n25
  · exact h.n26
  · exact h.n56
  · exact fun hx => ⟨(h.s5 hx).1, range_block (h.s5 hx).2 (set3_other (h.n56 h4 h5))⟩
  · exact fun _ => ⟨⟨h3, h5⟩, by rw [hF]; exact set3_range f4⟩
end
end Go.Proofs.Yteljmhgpffekgaa
