/-
  A struct in a block of its own: what it holds, and what stays of it; no function walked.
-/
import Derived.Test.YtfhjbhnfapdmmaaDoorNj03
namespace Go.Proofs.YtfhjbhnfapdmmaaDoor
open Go.RowKit

/-- The block b holds the values vs, and may be written. -/
structure Bx (W : World) (b : Nat) (vs : List Value) : Prop where
  r : W.rangeAt b 0 vs
  t : W.there b 0 vs.length
theorem bx_made (w : World) (vs : List Value) (t : TypeId) : Bx (w.alloc (Obj.cells vs.toArray t)) w.heap.size vs :=
  ⟨fun j u h => by
    rw [cell_of_row _ w.heap.size (0 + j) vs.toArray t (0, 0) (heap_alloc_new w _)]
    simpa using h, there_block (heap_alloc_new w _) (by simp)⟩
theorem bx_below {C b : Nat} {W V : World} {vs : List Value} (h : Bx W b vs) (hb : Below C W V) (hC : b < C) : Bx V b vs := ⟨range_below h.r hb hC, there_below h.t hb hC⟩
theorem bx_cell {W : World} {b : Nat} {vs : List Value} (h : Bx W b vs) (j : Nat) {u : Value} (hj : vs[j]? = some u) : W.cell? ⟨b, j, none⟩ = some u := by
  have := h.r j u hj; rwa [Nat.zero_add] at this
theorem bx_free {W : World} {b : Nat} {vs : List Value} (h : Bx W b vs) (j : Nat) (hj : j < vs.length) : W.frozen? ⟨b, j, none⟩ = false := by
  have := (h.t j hj).2; rwa [Nat.zero_add] at this
theorem bx_set {W : World} {b j : Nat} {vs : List Value} {u : Value} (h : Bx W b vs) (hj : j < vs.length) : Bx (W.setCell ⟨b, j, none⟩ u) b (vs.set j u) := by
  refine ⟨fun i v hi => ?_, by rw [List.length_set]; exact World.there_setCells (vs := [u]) h.t b j⟩
  rw [Nat.zero_add]
  by_cases hij : j = i
  · subst hij
    rw [List.getElem?_set_self hj] at hi
    cases hi
    have := h.r j _ (List.getElem?_eq_getElem hj)
    rw [Nat.zero_add] at this
    exact World.cell?_setCell_same _ _ _ this
  · rw [List.getElem?_set_ne hij] at hi
    have := h.r i v hi
    rw [Nat.zero_add] at this
    rw [World.cell?_setCell_other _ _ _ _ (addr_ne hij)]
    exact this
theorem bx_setCells {W : World} {b : Nat} {vs us : List Value} (h : Bx W b vs) (hl : us.length = vs.length) : Bx (W.setCells b 0 us) b us :=
  ⟨World.rangeAt_setCells_same W b 0 us (fun j hj => h.t j (by omega)), by rw [hl]; exact World.there_setCells h.t b 0 us⟩
theorem bx_heap (b k : Nat) (hk : k ≠ b) : ∀ (vs : List Value) (o : Nat) (W : World), (W.setCells b o vs).heap[k]? = W.heap[k]?
  | [], _, _ => rfl
  | u :: us, o, W => by rw [World.setCells, bx_heap b k hk us (o + 1)]; exact Below.heap_setCell _ _ _ _ hk
theorem bx_blk {W V : World} {b : Nat} {vs : List Value} (h : Bx W b vs) (hb : V.heap[b]? = W.heap[b]?) : Bx V b vs :=
  ⟨fun j u hj => by rw [World.cell?_of_block (a := ⟨b, 0 + j, none⟩) hb]; exact h.r j u hj,
   fun j hj => by rw [World.cell?_of_block (a := ⟨b, 0 + j, none⟩) hb, World.frozen?_of_block (a := ⟨b, 0 + j, none⟩) hb]; exact h.t j hj⟩
theorem bx_other {W : World} {b c j : Nat} {vs : List Value} {u : Value} (h : Bx W b vs) (hc : b ≠ c) : Bx (W.setCell ⟨c, j, none⟩ u) b vs := bx_blk h (Below.heap_setCell _ _ _ _ hc)
theorem bx_others {W : World} {b c : Nat} {vs us : List Value} (h : Bx W b vs) (hc : b ≠ c) : Bx (W.setCells c 0 us) b vs := bx_blk h (bx_heap c b hc us 0 W)
theorem bx_drewN {W : World} {b : Nat} {vs : List Value} (h : Bx W b vs) (n : Nat) : Bx (W.drewN n) b vs := ⟨h.r, h.t⟩
theorem bx_drew {W : World} {b : Nat} {vs : List Value} (h : Bx W b vs) : Bx W.drew b vs := ⟨h.r, h.t⟩
/-- Two blocks from the size of w on, the first to be answered, the second being written. -/
structure Bx2 (w W : World) (r vs : List Value) : Prop where
  o : Bx W w.heap.size r
  k : Bx W (w.heap.size + 1) vs
  b : Below w.heap.size w W
  z : w.heap.size + 1 + 1 ≤ W.heap.size
theorem bx2_made (w : World) (r vs : List Value) (t u : TypeId) : Bx2 w ((w.alloc (Obj.cells r.toArray t)).alloc (Obj.cells vs.toArray u)) r vs := by
  have hs : (w.alloc (Obj.cells r.toArray t)).heap.size = w.heap.size + 1 := by simp
  have h1 := bx_made w r t
  have h2 := bx_made (w.alloc (Obj.cells r.toArray t)) vs u
  rw [hs] at h2
  have b1 : Below w.heap.size w (w.alloc (Obj.cells r.toArray t)) := (Below.refl _ _).alloc (Nat.le_refl _) _
  have b2 : Below (w.heap.size + 1) (w.alloc (Obj.cells r.toArray t)) ((w.alloc (Obj.cells r.toArray t)).alloc (Obj.cells vs.toArray u)) := (Below.refl _ _).alloc (by omega) _
  exact ⟨bx_below h1 b2 (by omega), h2, b1.trans (b2.mono (by omega)), by simp⟩
theorem bx2_set {w W : World} {r vs : List Value} {j : Nat} {u : Value} (h : Bx2 w W r vs) (hj : j < vs.length) : Bx2 w (W.setCell ⟨w.heap.size + 1, j, none⟩ u) r (vs.set j u) :=
  ⟨bx_other h.o (by omega), bx_set h.k hj, h.b.setCell (p := ⟨w.heap.size + 1, j, none⟩) (show w.heap.size ≤ w.heap.size + 1 by omega) _, by simp only [World.setCell, Array.size_modify]; exact h.z⟩
theorem bx2_drew {w W : World} {r vs : List Value} (h : Bx2 w W r vs) : Bx2 w W.drew r vs := ⟨bx_drew h.o, bx_drew h.k, h.b.drew, h.z⟩
theorem bx2_step {w W V : World} {r vs us : List Value} (h : Bx2 w W r vs) (hb : Below W.heap.size W V) (hl : us.length = vs.length) : Bx2 w (V.setCells (w.heap.size + 1) 0 us) r us := by
  have hz := h.z
  exact ⟨bx_others (bx_below h.o hb (by omega)) (by omega), bx_setCells (bx_below h.k hb (by omega)) hl, below_setCells (w.heap.size + 1) (by omega) _ 0 V (h.b.trans (hb.mono h.b.size)), by rw [size_setCells]; exact Nat.le_trans hz hb.size⟩
end Go.Proofs.YtfhjbhnfapdmmaaDoor
