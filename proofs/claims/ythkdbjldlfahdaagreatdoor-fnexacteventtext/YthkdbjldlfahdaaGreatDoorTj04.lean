/-
  Rows of records in memory (slices of structs), those that came in and those that the call made: what they read as, and what stays of them; no function walked.
-/
import Derived.Test.YthkdbjldlfahdaaGreatDoorTj02
import Derived.Deep.MidRow
import Derived.Handy
namespace Go.Proofs.YthkdbjldlfahdaaGreatDoor
open Go.RowKit

theorem range_below {C : Nat} {w w' : World} {b o : Nat} {cs : List Value} (h : w.rangeAt b o cs) (hb : Below C w w') (hC : b < C) : w'.rangeAt b o cs :=
  fun j v hv => (hb.cell (p := ⟨b, o + j, none⟩) hC).trans (h j v hv)
theorem there_below {C : Nat} {w w' : World} {b o n : Nat} (h : w.there b o n) (hb : Below C w w') (hC : b < C) : w'.there b o n :=
  fun j hj => ⟨by rw [hb.cell (p := ⟨b, o + j, none⟩) hC]; exact (h j hj).1, by rw [hb.frozen (p := ⟨b, o + j, none⟩) hC]; exact (h j hj).2⟩
theorem range_grown {G : Option Nat} {w w' : World} {b o : Nat} {cs : List Value} (h : w.rangeAt b o cs) (hg : w.grownBy w' G) (hb : b < w.heap.size) (hne : some b ≠ G) : w'.rangeAt b o cs :=
  fun j v hv => (World.cell?_of_block (a := ⟨b, o + j, none⟩) (hg.block b hb hne)).trans (h j v hv)
theorem there_grown {G : Option Nat} {w w' : World} {b o n : Nat} (h : w.there b o n) (hg : w.grownBy w' G) (hb : b < w.heap.size) (hne : some b ≠ G) : w'.there b o n :=
  fun j hj => ⟨by rw [World.cell?_of_block (a := ⟨b, o + j, none⟩) (hg.block b hb hne)]; exact (h j hj).1, by rw [World.frozen?_of_block (a := ⟨b, o + j, none⟩) (hg.block b hb hne)]; exact (h j hj).2⟩
theorem below_gr {w w' : World} {B : Nat} {G : Option Nat} (h : Below B w w') (hB : w.heap.size ≤ B) : w.grownBy w' G :=
  ⟨h.os, h.tape, h.output, h.size, fun k hk _ => h.block k (by omega)⟩
theorem gr_below' {w w' : World} {G : Option Nat} {B : Nat} (h : w.grownBy w' G) (hG : ∀ g, G = some g → B ≤ g) (hs : B ≤ w.heap.size) : Below B w w' :=
  ⟨h.os, h.tape, h.output, h.size, fun k hk => h.block k (by omega) (fun e => by have := hG k e.symm; omega)⟩

section
variable {α : Type} (f : α → List Value) (sz : Nat)

/-- The slice v reads as the records l, of sz cells each. -/
def RdR (w : World) (v : Value) (l : List α) : Prop :=
  ∃ (a : Option Addr) (cap : Nat), v = .slice a l.length cap ∧ l.length ≤ 1073741824 ∧
    (l ≠ [] → ∃ b off, a = some ⟨b, off, none⟩ ∧ b < w.heap.size ∧ ∀ i c, l[i]? = some c → w.rangeAt b (off + i * sz) (f c))
/-- The slice v is a row in a block from B on, with the records l, and may be written. -/
def OwnR (B : Nat) (w : World) (v : Value) (l : List α) : Prop :=
  ∃ (a : Option Addr) (cap : Nat), v = .slice a l.length cap ∧ l.length ≤ 1073741824 ∧
    (l ≠ [] → ∃ g, a = some ⟨g, 0, none⟩ ∧ B ≤ g ∧ g < w.heap.size ∧ (∀ i c, l[i]? = some c → w.rangeAt g (0 + i * sz) (f c)) ∧ w.there g 0 (l.length * sz))
/-- A row of n records in block B that is being filled: those so far. -/
def FillR (n B : Nat) (w wr : World) (done : List α) : Prop :=
  B < wr.heap.size ∧ done.length ≤ n ∧ (∀ i c, done[i]? = some c → wr.rangeAt B (0 + i * sz) (f c)) ∧ wr.there B 0 (n * sz) ∧ Below B w wr
variable {f sz}

theorem ownR_rd {B : Nat} {w : World} {v : Value} {l : List α} (h : OwnR f sz B w v l) : RdR f sz w v l := by
  obtain ⟨a, cap, rfl, hl, h⟩ := h
  refine ⟨a, cap, rfl, hl, fun hne => ?_⟩
  obtain ⟨g, rfl, _, h2, h3, _⟩ := h hne
  exact ⟨g, 0, rfl, h2, h3⟩
theorem rdR_below {C : Nat} {w w' : World} {v : Value} {l : List α} (h : RdR f sz w v l) (hb : Below C w w') (hC : w.heap.size ≤ C) : RdR f sz w' v l := by
  obtain ⟨a, cap, rfl, hl, h⟩ := h
  refine ⟨a, cap, rfl, hl, fun hne => ?_⟩
  obtain ⟨b, off, rfl, h1, h2⟩ := h hne
  exact ⟨b, off, rfl, Nat.lt_of_lt_of_le h1 hb.size, fun i c hc => range_below (h2 i c hc) hb (Nat.lt_of_lt_of_le h1 hC)⟩
theorem ownR_below {B C : Nat} {w w' : World} {v : Value} {l : List α} (h : OwnR f sz B w v l) (hb : Below C w w') (hC : w.heap.size ≤ C) : OwnR f sz B w' v l := by
  obtain ⟨a, cap, rfl, hl, h⟩ := h
  refine ⟨a, cap, rfl, hl, fun hne => ?_⟩
  obtain ⟨g, rfl, h0, h1, h2, h3⟩ := h hne
  exact ⟨g, rfl, h0, Nat.lt_of_lt_of_le h1 hb.size, fun i c hc => range_below (h2 i c hc) hb (Nat.lt_of_lt_of_le h1 hC), there_below h3 hb (Nat.lt_of_lt_of_le h1 hC)⟩
theorem ownR_grown {B : Nat} {G : Option Nat} {w w' : World} {v : Value} {l : List α} (h : OwnR f sz B w v l) (hg : w.grownBy w' G) (hne' : l ≠ [] → v.ownBlock ≠ G) : OwnR f sz B w' v l := by
  obtain ⟨a, cap, rfl, hl, h⟩ := h
  refine ⟨a, cap, rfl, hl, fun hne => ?_⟩
  obtain ⟨g, rfl, h0, h1, h2, h3⟩ := h hne
  exact ⟨g, rfl, h0, Nat.lt_of_lt_of_le h1 hg.size, fun i c hc => range_grown (h2 i c hc) hg h1 (hne' hne), there_grown h3 hg h1 (hne' hne)⟩
theorem rdR_grown {G : Option Nat} {w w' : World} {v : Value} {l : List α} (h : RdR f sz w v l) (hg : w.grownBy w' G) (hG : ∀ g, G = some g → w.heap.size ≤ g) : RdR f sz w' v l := by
  obtain ⟨a, cap, rfl, hl, h⟩ := h
  refine ⟨a, cap, rfl, hl, fun hne => ?_⟩
  obtain ⟨b, off, rfl, h1, h2⟩ := h hne
  exact ⟨b, off, rfl, Nat.lt_of_lt_of_le h1 hg.size, fun i c hc => range_grown (h2 i c hc) hg h1 (fun e => by have := hG b e.symm; omega)⟩
theorem ownR_lt {B : Nat} {w : World} {v : Value} {l : List α} (h : OwnR f sz B w v l) (hne : l ≠ []) : ∃ g, v.ownBlock = some g ∧ B ≤ g ∧ g < w.heap.size := by
  obtain ⟨a, cap, rfl, hl, h⟩ := h
  obtain ⟨g, rfl, h0, h1, _⟩ := h hne
  exact ⟨g, rfl, h0, h1⟩

theorem below_setCells {B : Nat} {w : World} (b : Nat) (hb : B ≤ b) : ∀ (vs : List Value) (o : Nat) (wr : World), Below B w wr → Below B w (wr.setCells b o vs)
  | [], _, _, h => h
  | v :: r, o, wr, h => by rw [World.setCells]; exact below_setCells b hb r (o + 1) _ (h.setCell (show B ≤ (⟨b, o, none⟩ : Addr).block from hb) v)
theorem size_setCells (b : Nat) : ∀ (vs : List Value) (o : Nat) (wr : World), (wr.setCells b o vs).heap.size = wr.heap.size
  | [], _, _ => rfl
  | v :: r, o, wr => by rw [World.setCells, size_setCells b r (o + 1)]; simp [World.setCell]

theorem there_block {w : World} {g n t : Nat} {cur : Array Value} (hg : w.heap[g]? = some (.cells cur t (0, 0))) (hn : n ≤ cur.size) : w.there g 0 n := fun j hj =>
  ⟨by rw [cell_of_row w g (0 + j) cur t (0, 0) hg, Array.getElem?_eq_getElem (by omega)]; rfl, by simp [World.frozen?, hg]⟩

theorem fill_made {w w' : World} {n e : Nat} {xs : List Value} (h : w'.ownsRow w.heap.size e sz (.slice (some ⟨w.heap.size, 0, none⟩) n n) n xs) (hg : w.grownBy w' none) : FillR f sz n w.heap.size w w' [] := by
  rcases h.2 with ⟨h0, _⟩ | ⟨g, cap, cur, hv, _, hh, _, _, hcur, _⟩
  · simp at h0
  · simp only [Value.slice.injEq, Option.some.injEq, Addr.mk.injEq, and_true, true_and] at hv
    obtain ⟨rfl, rfl⟩ := hv
    exact ⟨(Array.getElem?_eq_some_iff.1 hh).1, Nat.zero_le _, by simp, there_block hh (by omega), (Below.refl _ w).grown hg (Nat.le_refl _) (fun k hk => by simp at hk)⟩
theorem fill_below {n B C : Nat} {w wr wr' : World} {done : List α} (h : FillR f sz n B w wr done) (hb : Below C wr wr') (hC : wr.heap.size ≤ C) : FillR f sz n B w wr' done := by
  obtain ⟨h1, h2, h3, h4, h5⟩ := h
  exact ⟨Nat.lt_of_lt_of_le h1 hb.size, h2, fun i c hc => range_below (h3 i c hc) hb (by omega), there_below h4 hb (by omega), h5.trans (hb.mono (by omega))⟩
theorem fill_step {n B : Nat} {w wr : World} {done : List α} (x : α) (h : FillR f sz n B w wr done) (hn : done.length < n) (hf : ∀ c, (f c).length = sz) : FillR f sz n B w (wr.setCells B (done.length * sz) (f x)) (done ++ [x]) := by
  obtain ⟨h1, h2, h3, h4, h5⟩ := h
  have hle : done.length * sz + sz ≤ n * sz := by
    have := Nat.mul_le_mul_right sz (show done.length + 1 ≤ n by omega)
    rw [Nat.add_mul] at this; omega
  refine ⟨by rw [size_setCells]; exact h1, by simp; omega, fun i c hc => ?_, World.there_setCells h4 _ _ _, below_setCells B (Nat.le_refl _) _ _ _ h5⟩
  by_cases hi : i < done.length
  · rw [List.getElem?_append_left hi] at hc
    refine World.rangeAt_setCells_apart (h3 i c hc) _ _ _ (.inr (.inl ?_))
    rw [hf c]
    have := Nat.mul_le_mul_right sz (show i + 1 ≤ done.length by omega)
    rw [Nat.add_mul] at this; omega
  · have hlen : i < (done ++ [x]).length := (List.getElem?_eq_some_iff.1 hc).1
    have hi' : i = done.length := by simp at hlen; omega
    subst hi'
    simp only [List.getElem?_append_right (Nat.le_refl _), Nat.sub_self, List.getElem?_cons_zero, Option.some.injEq] at hc
    subst hc
    rw [Nat.zero_add]
    exact World.rangeAt_setCells_same _ _ _ _ (fun j hj => by
      have := h4 (done.length * sz + j) (by rw [hf] at hj; omega)
      rw [Nat.zero_add] at this; exact this)
theorem fill_own {n B : Nat} {w wr : World} {l : List α} (h : FillR f sz n B w wr l) (hl : l.length = n) (hn : n ≤ 1073741824) : OwnR f sz B wr (.slice (some ⟨B, 0, none⟩) n n) l := by
  obtain ⟨h1, h2, h3, h4, h5⟩ := h
  exact ⟨_, n, by rw [hl], by omega, fun _ => ⟨B, rfl, Nat.le_refl _, h1, h3, by rw [hl]; exact h4⟩⟩
theorem fill_there {n B i : Nat} {w wr : World} {done : List α} (h : FillR f sz n B w wr done) (hi : i < n) : wr.there B (i * sz) sz := fun j hj => by
  have hle := Nat.mul_le_mul_right sz (show i + 1 ≤ n by omega)
  rw [Nat.add_mul] at hle
  have := h.2.2.2.1 (i * sz + j) (by omega)
  rw [Nat.zero_add] at this; exact this

theorem flat_get (hf : ∀ c, (f c).length = sz) : ∀ (l : List α) (i j : Nat) (c : α), l[i]? = some c → j < sz → (l.flatMap f)[i * sz + j]? = (f c)[j]?
  | [], _, _, _, h, _ => by simp at h
  | a :: l, 0, j, c, h, hj => by
    simp at h; subst h
    rw [List.flatMap_cons, List.getElem?_append_left (by rw [hf]; omega)]; simp
  | a :: l, i + 1, j, c, h, hj => by
    simp at h
    rw [List.flatMap_cons, List.getElem?_append_right (by rw [hf, Nat.add_mul]; omega), hf, ← flat_get hf l i j c h hj]
    congr 1
    rw [Nat.add_mul]; omega
theorem flat_len (hf : ∀ c, (f c).length = sz) : ∀ (l : List α), (l.flatMap f).length = l.length * sz
  | [] => by simp
  | a :: l => by rw [List.flatMap_cons, List.length_append, hf, flat_len hf l, List.length_cons, Nat.add_mul]; omega
/-- A row that was appended to is a row of records. -/
theorem ownR_row {B e : Nat} {w : World} {v : Value} {l : List α} (hf : ∀ c, (f c).length = sz) (hl : l.length ≤ 1073741824) (h : w.ownsRow B e sz v l.length (l.flatMap f)) : OwnR f sz B w v l := by
  rcases h.2 with ⟨rfl, h0⟩ | ⟨g, cap, cur, rfl, hb, hg, hcap, _, hcur, htake⟩
  · exact ⟨none, 0, by rw [h0], hl, fun hne => absurd (List.length_eq_zero_iff.1 h0) hne⟩
  · have hle := Nat.mul_le_mul_right sz hcap
    refine ⟨_, cap, rfl, hl, fun _ => ⟨g, rfl, hb, (Array.getElem?_eq_some_iff.1 hg).1, fun i c hc j u hu => ?_, there_block hg (by omega)⟩⟩
    have hj : j < sz := by rw [← hf c]; exact (List.getElem?_eq_some_iff.1 hu).1
    have h2 := flat_get hf l i j c hc hj
    have hlt : i * sz + j < l.length * sz := by
      have := Nat.mul_le_mul_right sz (show i + 1 ≤ l.length from (List.getElem?_eq_some_iff.1 hc).1)
      rw [Nat.add_mul] at this; omega
    rw [← htake, List.getElem?_take, if_pos hlt] at h2
    rw [cell_of_row w g _ cur e (0, 0) hg, Nat.zero_add]
    simpa using h2.trans hu
end
end Go.Proofs.YthkdbjldlfahdaaGreatDoor
