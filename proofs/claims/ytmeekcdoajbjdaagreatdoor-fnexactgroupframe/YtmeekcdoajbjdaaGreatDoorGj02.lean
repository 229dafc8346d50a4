/-
  Rows of records in memory (slices of structs), those that came in and those that the call made: what they read as, and what stays of them; no function walked.
-/
import Derived.Test.YtmeekcdoajbjdaaGreatDoorGj01
import Derived.Deep.MidRow
import Derived.Handy
namespace Go.Proofs.YtmeekcdoajbjdaaGreatDoor
open Go.RowKit

theorem range_below {C : Nat} {w w' : World} {b o : Nat} {cs : List Value} (h : w.rangeAt b o cs) (hb : Below C w w') (hC : b < C) : w'.rangeAt b o cs :=
  fun j v hv => (hb.cell (p := ⟨b, o + j, none⟩) hC).trans (h j v hv)
theorem there_below {C : Nat} {w w' : World} {b o n : Nat} (h : w.there b o n) (hb : Below C w w') (hC : b < C) : w'.there b o n :=
  fun j hj => ⟨by rw [hb.cell (p := ⟨b, o + j, none⟩) hC]; exact (h j hj).1, by rw [hb.frozen (p := ⟨b, o + j, none⟩) hC]; exact (h j hj).2⟩
theorem range_grown {G : Option Nat} {w w' : World} {b o : Nat} {cs : List Value} (h : w.rangeAt b o cs) (hg : w.grownBy w' G) (hb : b < w.heap.size) (hne : some b ≠ G) : w'.rangeAt b o cs :=
  fun j v hv => (World.cell?_of_block (a := ⟨b, o + j, none⟩) (hg.block b hb hne)).trans (h j v hv)
theorem there_grown {G : Option Nat} {w w' : World} {b o n : Nat} (h : w.there b o n) (hg : w.grownBy w' G) (hb : b < w.heap.size) (hne : some b ≠ G) : w'.there b o n :=
  fun j hj => ⟨by rw [World.cell?_of_block (a := ⟨b, o + j, none⟩) (hg.block b hb hne)]; exact (h j hj).1, by rw [World.frozen?_of_block (a := ⟨b, o + j, none⟩) (hg.block b hb hne)]; exact (h j hj).2⟩
theorem below_gr {w w' : World} {B : Nat} {G : Option Nat} (h : Below B w w') (hB : w.heap.size ≤ B) : w.grownBy w' G :=
  ⟨h.os, h.tape, h.output, h.size, fun k hk _ => h.block k (by omega)⟩
theorem gr_below' {w w' : World} {G : Option Nat} {B : Nat} (h : w.grownBy w' G) (hG : ∀ g, G = some g → B ≤ g) (hs : B ≤ w.heap.size) : Below B w w' :=
  ⟨h.os, h.tape, h.output, h.size, fun k hk => h.block k (by omega) (fun e => by have := hG k e.symm; omega)⟩

section
variable {α : Type} (f : α → List Value) (sz : Nat)

/-- The slice v reads as the records l, of sz cells each. -/
def RdR (w : World) (v : Value) (l : List α) : Prop :=
  ∃ (a : Option Addr) (cap : Nat), v = .slice a l.length cap ∧ l.length ≤ 1073741824 ∧
    (l ≠ [] → ∃ b off, a = some ⟨b, off, none⟩ ∧ b < w.heap.size ∧ ∀ i c, l[i]? = some c → w.rangeAt b (off + i * sz) (f c))
/-- The slice v is a row in a block from B on, with the records l, and may be written. -/
def OwnR (B : Nat) (w : World) (v : Value) (l : List α) : Prop :=
  ∃ (a : Option Addr) (cap : Nat), v = .slice a l.length cap ∧ l.length ≤ 1073741824 ∧
    (l ≠ [] → ∃ g, a = some ⟨g, 0, none⟩ ∧ B ≤ g ∧ g < w.heap.size ∧ (∀ i c, l[i]? = some c → w.rangeAt g (0 + i * sz) (f c)) ∧ w.there g 0 (l.length * sz))
/-- A row of n records in block B that is being filled: those so far. -/
def FillR (n B : Nat) (w wr : World) (done : List α) : Prop :=
  B < wr.heap.size ∧ done.length ≤ n ∧ (∀ i c, done[i]? = some c → wr.rangeAt B (0 + i * sz) (f c)) ∧ wr.there B 0 (n * sz) ∧ Below B w wr
variable {f sz}

theorem ownR_rd {B : Nat} {w : World} {v : Value} {l : List α} (h : OwnR f sz B w v l) : RdR f sz w v l := by
  obtain ⟨a, cap, rfl, hl, h⟩ := h
  refine ⟨a, cap, rfl, hl, fun hne => ?_⟩
  obtain ⟨g, rfl, _, h2, h3, _⟩ := h hne
  exact ⟨g, 0, rfl, h2, h3⟩
theorem rdR_below {C : Nat} {w w' : World} {v : Value} {l : List α} (h : RdR f sz w v l) (hb : Below C w w') (hC : w.heap.size ≤ C) : RdR f sz w' v l := by
  obtain ⟨a, cap, rfl, hl, h⟩ := h
  refine ⟨a, cap, rfl, hl, fun hne => ?_⟩
  obtain ⟨b, off, rfl, h1, h2⟩ := h hne
  exact ⟨b, off, rfl, Nat.lt_of_lt_of_le h1 hb.size, fun i c hc => range_below (h2 i c hc) hb (Nat.lt_of_lt_of_le h1 hC)⟩
theorem ownR_below {B C : Nat} {w w' : World} {v : Value} {l : List α} (h : OwnR f sz B w v l) (hb : Below C w w') (hC : w.heap.size ≤ C) : OwnR f sz B w' v l := by
  obtain ⟨a, cap, rfl, hl, h⟩ := h
  refine ⟨a, cap, rfl, hl, fun hne => ?_⟩
  obtain ⟨g, rfl, h0, h1, h2, h3⟩ := h hne
  exact ⟨g, rfl, h0, Nat.lt_of_lt_of_le h1 hb.size, fun i c hc => range_below (h2 i c hc) hb (Nat.lt_of_lt_of_le h1 hC), there_below h3 hb (Nat.lt_of_lt_of_le h1 hC)⟩
theorem ownR_grown {B : Nat} {G : Option Nat} {w w' : World} {v : Value} {l : List α} (h : OwnR f sz B w v l) (hg : w.grownBy w' G) (hne' : l ≠ [] → v.ownBlock ≠ G) : OwnR f sz B w' v l := by
  obtain ⟨a, cap, rfl, hl, h⟩ := h
  refine ⟨a, cap, rfl, hl, fun hne => ?_⟩
  obtain ⟨g, rfl, h0, h1, h2, h3⟩ := h hne
  exact ⟨g, rfl, h0, Nat.lt_of_lt_of_le h1 hg.size, fun i c hc => range_grown (h2 i c hc) hg h1 (hne' hne), there_grown h3 hg h1 (hne' hne)⟩
theorem rdR_grown {G : Option Nat} {w w' : World} {v : Value} {l : List α} (h : RdR f sz w v l) (hg : w.grownBy w' G) (hG : ∀ g, G = some g → w.heap.size ≤ g) : RdR f sz w' v l := by
  obtain ⟨a, cap, rfl, hl, h⟩ := h
  refine ⟨a, cap, rfl, hl, fun hne => ?_⟩
  obtain ⟨b, off, rfl, h1, h2⟩ := h hne
  exact ⟨b, off, rfl, Nat.lt_of_lt_of_le h1 hg.size, fun i c hc => range_grown (h2 i c hc) hg h1 (fun e => by have := hG b e.symm; omega)⟩
theorem ownR_lt {B : Nat} {w : World} {v : Value} {l : List α} (h : OwnR f sz B w v l) (hne : l ≠ []) : ∃ g, v.ownBlock = some g ∧ B ≤ g ∧ g < w.heap.size := by
  obtain ⟨a, cap, rfl, hl, h⟩ := h
  obtain ⟨g, rfl, h0, h1, _⟩ := h hne
  exact ⟨g, rfl, h0, h1⟩

theorem below_setCells {B : Nat} {w : World} (b : Nat) (hb : B ≤ b) : ∀ (vs : List Value) (o : Nat) (wr : World), Below B w wr → Below B w (wr.setCells b o vs)
  | [], _, _, h => h
  | v :: r, o, wr, h => by rw [World.setCells]; exact below_setCells b hb r (o + 1) _ (h.setCell (show B ≤ (⟨b, o, none⟩ : Addr).block from hb) v)
theorem size_setCells (b : Nat) : ∀ (vs : List Value) (o : Nat) (wr : World), (wr.setCells b o vs).heap.size = wr.heap.size
  | [], _, _ => rfl
  | v :: r, o, wr => by rw [World.setCells, size_setCells b r (o + 1)]; simp [World.setCell]

theorem there_block {w : World} {g n t : Nat} {cur : Array Value} (hg : w.heap[g]? = some (.cells cur t (0, 0))) (hn : n ≤ cur.size) : w.there g 0 n := fun j hj =>
  ⟨by rw [cell_of_row w g (0 + j) cur t (0, 0) hg, Array.getElem?_eq_getElem (by omega)]; rfl, by simp [World.frozen?, hg]⟩

theorem fill_made {w w' : World} {n e : Nat} {xs : List Value} (h : w'.ownsRow w.heap.size e sz (.slice (some ⟨w.heap.size, 0, none⟩) n n) n xs) (hg : w.grownBy w' none) : FillR f sz n w.heap.size w w' [] := by
  rcases h.2 with ⟨h0, _⟩ | ⟨g, cap, cur, hv, _, hh, _, _, hcur, _⟩
  · simp at h0
  · simp only [Value.slice.injEq, Option.some.injEq, Addr.mk.injEq, and_true, true_and] at hv
    obtain ⟨rfl, rfl⟩ := hv
    exact ⟨(Array.getElem?_eq_some_iff.1 hh).1, Nat.zero_le _, by simp, there_block hh (by omega), (Below.refl _ w).grown hg (Nat.le_refl _) (fun k hk => by simp at hk)⟩
theorem fill_below {n B C : Nat} {w wr wr' : World} {done : List α} (h : FillR f sz n B w wr done) (hb : Below C wr wr') (hC : wr.heap.size ≤ C) : FillR f sz n B w wr' done := by
  obtain ⟨h1, h2, h3, h4, h5⟩ := h
  exact ⟨Nat.lt_of_lt_of_le h1 hb.size, h2, fun i c hc => range_below (h3 i c hc) hb (by omega), there_below h4 hb (by omega), h5.trans (hb.mono (by omega))⟩
theorem fill_step {n B : Nat} {w wr : World} {done : List α} (x : α) (h : FillR f sz n B w wr done) (hn : done.length < n) (hf : ∀ c, (f c).length = sz) : FillR f sz n B w (wr.setCells B (done.length * sz) (f x)) (done ++ [x]) := by
  obtain ⟨h1, h2, h3, h4, h5⟩ := h
  have hle : done.length * sz + sz ≤ n * sz := by
    have := Nat.mul_le_mul_right sz (show done.length + 1 ≤ n by omega)
    rw [Nat.add_mul] at this; omega
  refine ⟨by rw [size_setCells]; exact h1, by simp; omega, fun i c hc => ?_, World.there_setCells h4 _ _ _, below_setCells B (Nat.le_refl _) _ _ _ h5⟩
  by_cases hi : i < done.length
  · rw [List.getElem?_append_left hi] at hc
    refine World.rangeAt_setCells_apart (h3 i c hc) _ _ _ (.inr (.inl ?_))
    rw [hf c]
    have := Nat.mul_le_mul_right sz (show i + 1 ≤ done.length by omega)
    rw [Nat.add_mul] at this; omega
  · have hlen : i < (done ++ [x]).length := (List.getElem?_eq_some_iff.1 hc).1
    have hi' : i = done.length := by simp at hlen; omega
    subst hi'
    simp only [List.getElem?_append_right (Nat.le_refl _), Nat.sub_self, List.getElem?_cons_zero, Option.some.injEq] at hc
    subst hc
    rw [Nat.zero_add]
    exact World.rangeAt_setCells_same _ _ _ _ (fun j hj => by
      have := h4 (done.length * sz + j) (by rw [hf] at hj; omega)
      rw [Nat.zero_add] at this; exact this)
theorem fill_own {n B : Nat} {w wr : World} {l : List α} (h : FillR f sz n B w wr l) (hl : l.length = n) (hn : n ≤ 1073741824) : OwnR f sz B wr (.slice (some ⟨B, 0, none⟩) n n) l := by
  obtain ⟨h1, h2, h3, h4, h5⟩ := h
  exact ⟨_, n, by rw [hl], by omega, fun _ => ⟨B, rfl, Nat.le_refl _, h1, h3, by rw [hl]; exact h4⟩⟩
theorem fill_there {n B i : Nat} {w wr : World} {done : List α} (h : FillR f sz n B w wr done) (hi : i < n) : wr.there B (i * sz) sz := fun j hj => by
  have hle := Nat.mul_le_mul_right sz (show i + 1 ≤ n by omega)
  rw [Nat.add_mul] at hle
  have := h.2.2.2.1 (i * sz + j) (by omega)
  rw [Nat.zero_add] at this; exact this

theorem flat_get (hf : ∀ c, (f c).length = sz) : ∀ (l : List α) (i j : Nat) (c : α), l[i]? = some c → j < sz → (l.flatMap f)[i * sz + j]? = (f c)[j]?
  | [], _, _, _, h, _ => by simp at h
  | a :: l, 0, j, c, h, hj => by
    simp at h; subst h
    rw [List.flatMap_cons, List.getElem?_append_left (by rw [hf]; omega)]; simp
  | a :: l, i + 1, j, c, h, hj => by
    simp at h
    rw [List.flatMap_cons, List.getElem?_append_right (by rw [hf, Nat.add_mul]; omega), hf, ← flat_get hf l i j c h hj]
    congr 1
    rw [Nat.add_mul]; omega
theorem flat_len (hf : ∀ c, (f c).length = sz) : ∀ (l : List α), (l.flatMap f).length = l.length * sz
  | [] => by simp
  | a :: l => by rw [List.flatMap_cons, List.length_append, hf, flat_len hf l, List.length_cons, Nat.add_mul]; omega
/-- A row that was appended to is a row of records. -/
theorem ownR_row {B e : Nat} {w : World} {v : Value} {l : List α} (hf : ∀ c, (f c).length = sz) (hl : l.length ≤ 1073741824) (h : w.ownsRow B e sz v l.length (l.flatMap f)) : OwnR f sz B w v l := by
  rcases h.2 with ⟨rfl, h0⟩ | ⟨g, cap, cur, rfl, hb, hg, hcap, _, hcur, htake⟩
  · exact ⟨none, 0, by rw [h0], hl, fun hne => absurd (List.length_eq_zero_iff.1 h0) hne⟩
  · have hle := Nat.mul_le_mul_right sz hcap
    refine ⟨_, cap, rfl, hl, fun _ => ⟨g, rfl, hb, (Array.getElem?_eq_some_iff.1 hg).1, fun i c hc j u hu => ?_, there_block hg (by omega)⟩⟩
    have hj : j < sz := by rw [← hf c]; exact (List.getElem?_eq_some_iff.1 hu).1
    have h2 := flat_get hf l i j c hc hj
    have hlt : i * sz + j < l.length * sz := by
      have := Nat.mul_le_mul_right sz (show i + 1 ≤ l.length from (List.getElem?_eq_some_iff.1 hc).1)
      rw [Nat.add_mul] at this; omega
    rw [← htake, List.getElem?_take, if_pos hlt] at h2
    rw [cell_of_row w g _ cur e (0, 0) hg, Nat.zero_add]
    simpa using h2.trans hu
end
end Go.Proofs.YtmeekcdoajbjdaaGreatDoor
namespace Go.Proofs.YtmeekcdoajbjdaaGreatDoor
open Go.RowKit

/-- The block b holds the values vs, and may be written. -/
structure Bx (W : World) (b : Nat) (vs : List Value) : Prop where
  r : W.rangeAt b 0 vs
  t : W.there b 0 vs.length
theorem bx_made (w : World) (vs : List Value) (t : TypeId) : Bx (w.alloc (Obj.cells vs.toArray t)) w.heap.size vs :=
  ⟨fun j u h => by
    rw [cell_of_row _ w.heap.size (0 + j) vs.toArray t (0, 0) (heap_alloc_new w _)]
    simpa using h, there_block (heap_alloc_new w _) (by simp)⟩
theorem bx_below {C b : Nat} {W V : World} {vs : List Value} (h : Bx W b vs) (hb : Below C W V) (hC : b < C) : Bx V b vs := ⟨range_below h.r hb hC, there_below h.t hb hC⟩
theorem bx_cell {W : World} {b : Nat} {vs : List Value} (h : Bx W b vs) (j : Nat) {u : Value} (hj : vs[j]? = some u) : W.cell? ⟨b, j, none⟩ = some u := by
  have := h.r j u hj; rwa [Nat.zero_add] at this
theorem bx_free {W : World} {b : Nat} {vs : List Value} (h : Bx W b vs) (j : Nat) (hj : j < vs.length) : W.frozen? ⟨b, j, none⟩ = false := by
  have := (h.t j hj).2; rwa [Nat.zero_add] at this
theorem bx_set {W : World} {b j : Nat} {vs : List Value} {u : Value} (h : Bx W b vs) (hj : j < vs.length) : Bx (W.setCell ⟨b, j, none⟩ u) b (vs.set j u) := by
  refine ⟨fun i v hi => ?_, by rw [List.length_set]; exact World.there_setCells (vs := [u]) h.t b j⟩
  rw [Nat.zero_add]
  by_cases hij : j = i
  · subst hij
    rw [List.getElem?_set_self hj] at hi
    cases hi
    have := h.r j _ (List.getElem?_eq_getElem hj)
    rw [Nat.zero_add] at this
    exact World.cell?_setCell_same _ _ _ this
  · rw [List.getElem?_set_ne hij] at hi
    have := h.r i v hi
    rw [Nat.zero_add] at this
    rw [World.cell?_setCell_other _ _ _ _ (addr_ne hij)]
    exact this
theorem bx_setCells {W : World} {b : Nat} {vs us : List Value} (h : Bx W b vs) (hl : us.length = vs.length) : Bx (W.setCells b 0 us) b us :=
  ⟨World.rangeAt_setCells_same W b 0 us (fun j hj => h.t j (by omega)), by rw [hl]; exact World.there_setCells h.t b 0 us⟩
theorem bx_heap (b k : Nat) (hk : k ≠ b) : ∀ (vs : List Value) (o : Nat) (W : World), (W.setCells b o vs).heap[k]? = W.heap[k]?
  | [], _, _ => rfl
  | u :: us, o, W => by rw [World.setCells, bx_heap b k hk us (o + 1)]; exact Below.heap_setCell _ _ _ _ hk
theorem bx_blk {W V : World} {b : Nat} {vs : List Value} (h : Bx W b vs) (hb : V.heap[b]? = W.heap[b]?) : Bx V b vs :=
  ⟨fun j u hj => by rw [World.cell?_of_block (a := ⟨b, 0 + j, none⟩) hb]; exact h.r j u hj,
   fun j hj => by rw [World.cell?_of_block (a := ⟨b, 0 + j, none⟩) hb, World.frozen?_of_block (a := ⟨b, 0 + j, none⟩) hb]; exact h.t j hj⟩
theorem bx_other {W : World} {b c j : Nat} {vs : List Value} {u : Value} (h : Bx W b vs) (hc : b ≠ c) : Bx (W.setCell ⟨c, j, none⟩ u) b vs := bx_blk h (Below.heap_setCell _ _ _ _ hc)
theorem bx_others {W : World} {b c : Nat} {vs us : List Value} (h : Bx W b vs) (hc : b ≠ c) : Bx (W.setCells c 0 us) b vs := bx_blk h (bx_heap c b hc us 0 W)
theorem bx_drewN {W : World} {b : Nat} {vs : List Value} (h : Bx W b vs) (n : Nat) : Bx (W.drewN n) b vs := ⟨h.r, h.t⟩
theorem bx_drew {W : World} {b : Nat} {vs : List Value} (h : Bx W b vs) : Bx W.drew b vs := ⟨h.r, h.t⟩
/-- Two blocks from the size of w on, the first to be answered, the second being written. -/
structure Bx2 (w W : World) (r vs : List Value) : Prop where
  o : Bx W w.heap.size r
  k : Bx W (w.heap.size + 1) vs
  b : Below w.heap.size w W
  z : w.heap.size + 1 + 1 ≤ W.heap.size
theorem bx2_made (w : World) (r vs : List Value) (t u : TypeId) : Bx2 w ((w.alloc (Obj.cells r.toArray t)).alloc (Obj.cells vs.toArray u)) r vs := by
  have hs : (w.alloc (Obj.cells r.toArray t)).heap.size = w.heap.size + 1 := by simp
  have h1 := bx_made w r t
  have h2 := bx_made (w.alloc (Obj.cells r.toArray t)) vs u
  rw [hs] at h2
  have b1 : Below w.heap.size w (w.alloc (Obj.cells r.toArray t)) := (Below.refl _ _).alloc (Nat.le_refl _) _
  have b2 : Below (w.heap.size + 1) (w.alloc (Obj.cells r.toArray t)) ((w.alloc (Obj.cells r.toArray t)).alloc (Obj.cells vs.toArray u)) := (Below.refl _ _).alloc (by omega) _
  exact ⟨bx_below h1 b2 (by omega), h2, b1.trans (b2.mono (by omega)), by simp⟩
theorem bx2_set {w W : World} {r vs : List Value} {j : Nat} {u : Value} (h : Bx2 w W r vs) (hj : j < vs.length) : Bx2 w (W.setCell ⟨w.heap.size + 1, j, none⟩ u) r (vs.set j u) :=
  ⟨bx_other h.o (by omega), bx_set h.k hj, h.b.setCell (p := ⟨w.heap.size + 1, j, none⟩) (show w.heap.size ≤ w.heap.size + 1 by omega) _, by simp only [World.setCell, Array.size_modify]; exact h.z⟩
theorem bx2_drew {w W : World} {r vs : List Value} (h : Bx2 w W r vs) : Bx2 w W.drew r vs := ⟨bx_drew h.o, bx_drew h.k, h.b.drew, h.z⟩
theorem bx2_step {w W V : World} {r vs us : List Value} (h : Bx2 w W r vs) (hb : Below W.heap.size W V) (hl : us.length = vs.length) : Bx2 w (V.setCells (w.heap.size + 1) 0 us) r us := by
  have hz := h.z
  exact ⟨bx_others (bx_below h.o hb (by omega)) (by omega), bx_setCells (bx_below h.k hb (by omega)) hl, below_setCells (w.heap.size + 1) (by omega) _ 0 V (h.b.trans (hb.mono h.b.size)), by rw [size_setCells]; exact Nat.le_trans hz hb.size⟩
end Go.Proofs.YtmeekcdoajbjdaaGreatDoor
