/-
  The bytes of totals and of a frame, as lists of numbers; what a row of bytes is behind an append. No function walked.
-/
import Derived.Test.YtelnpobhmjdaoaaPutNumW
import Derived.Test.YtelnpobhmjdaoaaPutSpec
import Derived.Test.YtelnpobhmjdaoaaSumI
import Derived.Test.YtelnpobhmjdaoaaRecB
namespace Go.Proofs.Ytelnpobhmjdaoaa
open Go.RowKit
set_option linter.unusedVariables false

theorem cells_madeE (w : World) (cs : List Value) (t : TypeId) : (w.alloc (Obj.cells cs.toArray t)).rangeAt w.heap.size 0 cs := fun j u h => by
  rw [cell_of_row _ w.heap.size (0 + j) cs.toArray t (0, 0) (heap_alloc_new w _)]
  simpa using h
theorem size_madeE (w : World) (o : Obj) : (w.alloc o).heap.size = w.heap.size + 1 := by simp
theorem cells_srcE (w : World) (cs : List Value) (t : TypeId) (j : Nat) (u : Value) (h : cs[j]? = some u) : (w.alloc (Obj.cells cs.toArray t)).cell? ((⟨w.heap.size, 0, none⟩ : Addr).add j) = some u := by
  rw [Addr.add_mid, cell_of_row _ w.heap.size (0 + j) cs.toArray t (0, 0) (heap_alloc_new w _)]
  simpa using h
/-- The totals: eight numbers. -/
structure Tt where
  a : Int
  b : Int
  c : Int
  d : Int
  e : Int
  f : Int
  g : Int
  h : Int
def Tt.ns (t : Tt) : List Int := [t.a, t.b, t.c, t.d, t.e, t.f, t.g, t.h]
def Tt.vs (t : Tt) : List Value := [.int .i64 t.a, .int .i64 t.b, .int .i64 t.c, .int .i64 t.d, .int .i64 t.e, .int .i64 t.f, .int .i64 t.g, .int .i64 t.h]
def I6 (n : Int) : Prop := -9223372036854775808 ≤ n ∧ n ≤ 9223372036854775807
def Tt.ok (t : Tt) : Prop := ∀ n ∈ t.ns, I6 n
def pay (l : List Int) : List Int := l.flatMap fun n => putU (zz n)
theorem pay_len : ∀ (l : List Int), (∀ n ∈ l, I6 n) → (pay l).length ≤ 10 * l.length
  | [], _ => by simp [pay]
  | n :: r, h => by
    have h1 := putU_len10 _ (zz_lt n (h n (by simp)).1 (h n (by simp)).2)
    have h2 := pay_len r (fun m hm => h m (by simp [hm]))
    have h3 : pay (n :: r) = putU (zz n) ++ pay r := rfl
    rw [h3, List.length_append, List.length_cons]; omega
theorem pay_more (l : List Int) {k : Nat} {n : Int} (h : l[k]? = some n) : pay (l.take (k + 1)) = pay (l.take k) ++ putU (zz n) := by
  rw [pay, List.take_add_one, h, List.flatMap_append]; simp [pay]
/-- A frame ahead of its sum, and whole. -/
def frH (m : Int) (p : List Int) : List Int := m :: putU (zz p.length) ++ p
def frS (m : Int) (p : List Int) (was : Int) : Int := sumL (frH m p) was
def frL (m : Int) (p : List Int) (was : Int) : List Int := frH m p ++ [frS m p was / 256, frS m p was % 256]
abbrev BRow (W : World) (B : Nat) (v : Value) (l : List Int) : Prop := W.ownsRow B 5 1 v l.length (l.map (Value.int .u8))
theorem bRow_below {W W' : World} {B : Nat} {v : Value} {l : List Int} (h : BRow W B v l) (hb : Below W.heap.size W W') : BRow W' B v l :=
  World.ownsRow.kept h (row := none) ⟨hb.os, hb.tape, hb.output, hb.size, fun k hk _ => hb.block k hk⟩ (by cases v.ownBlock <;> simp)
theorem bRow_more {W : World} {B : Nat} {v : Value} {l m : List Int} (h : W.ownsRow B 5 1 v (l.length + m.length) (l.map (Value.int .u8) ++ m.map (Value.int .u8))) : BRow W B v (l ++ m) := by
  show W.ownsRow _ _ _ _ (l ++ m).length _
  rw [List.length_append, List.map_append]; exact h
theorem one_b (l : List Int) : ∀ u ∈ l.map (Value.int .u8), u.oneCell' = true := by
  intro u hu
  obtain ⟨x, _, rfl⟩ := List.mem_map.1 hu
  rfl
/-- A row that another call made, as a source. -/
theorem ownT_src {B : Nat} {w : World} {v : Value} {l : List Int} (h : OwnT B w v l) : ∃ g cap, v = .slice (some ⟨g, 0, none⟩) l.length cap ∧ g < w.heap.size ∧ ∀ j u, (l.map (Value.int .u8))[j]? = some u → w.cell? ((⟨g, 0, none⟩ : Addr).add j) = some u := by
  obtain ⟨g, cap, cur, t, rfl, hb, hg, h1, h2, h3, h4, h5⟩ := h
  refine ⟨g, cap, rfl, (Array.getElem?_eq_some_iff.1 hg).1, fun j u hu => ?_⟩
  have hj : j < l.length := by
    rcases Nat.lt_or_ge j l.length with h | h
    · exact h
    · rw [List.getElem?_eq_none (by simpa using h)] at hu; cases hu
  have := cell_head hg h5 hj
  have e : (⟨g, 0, none⟩ : Addr).add j = ⟨g, j, none⟩ := by unfold Addr.add; split <;> simp_all
  rw [e, this]
  rw [List.getElem?_map, List.getElem?_eq_getElem hj] at hu
  simpa [hj] using hu
theorem bRow_rd {W : World} {B : Nat} {v : Value} {l : List Int} (h : BRow W B v l) (hl : l.length ≤ 1073741824) : Rd W v l := by
  rcases h.2 with ⟨rfl, h0⟩ | ⟨g, cap, cur, rfl, hb, hg, h1, h2, h3, h4⟩
  · exact ⟨none, 0, by rw [h0], hl, fun hne => absurd (List.length_eq_zero_iff.1 h0) hne⟩
  · refine ⟨some ⟨g, 0, none⟩, cap, rfl, hl, fun _ => ⟨g, 0, rfl, fun i hi => ?_⟩⟩
    have := cell_head (l := l) hg (by simpa using h4) hi
    simpa using this
theorem bRow_form {W : World} {B : Nat} {v : Value} {l : List Int} (h : BRow W B v l) : ∃ a c, v = .slice a l.length c := by
  rcases h.2 with ⟨e, e2⟩ | ⟨g, cap, cur, e, _⟩
  · exact ⟨none, 0, by rw [e, e2]⟩
  · exact ⟨_, _, e⟩
theorem bRow_src {W : World} {B : Nat} {v : Value} {l : List Int} (h : BRow W B v l) (hne : 0 < l.length) : ∃ g cap, v = .slice (some ⟨g, 0, none⟩) l.length cap ∧ ∀ j u, (l.map (Value.int .u8))[j]? = some u → W.cell? ((⟨g, 0, none⟩ : Addr).add j) = some u := by
  rcases h.2 with ⟨_, e2⟩ | ⟨g, cap, cur, e, hb, hg, h1, h2, h3, h4⟩
  · omega
  · refine ⟨g, cap, e, fun j u hu => ?_⟩
    have hj : j < l.length := by
      rcases Nat.lt_or_ge j l.length with h | h
      · exact h
      · rw [List.getElem?_eq_none (by simpa using h)] at hu; cases hu
    have := cell_head (l := l) hg (by simpa using h4) hj
    have e : (⟨g, 0, none⟩ : Addr).add j = ⟨g, j, none⟩ := by unfold Addr.add; split <;> simp_all
    rw [e, this]
    rw [List.getElem?_map, List.getElem?_eq_getElem hj] at hu
    simpa [hj] using hu
theorem bRow_base {W : World} {B C : Nat} {v : Value} {l : List Int} (h : BRow W B v l) (hC : C ≤ B) : BRow W C v l := by
  refine ⟨h.1, ?_⟩
  rcases h.2 with hn | ⟨g, cap, cur, rfl, hg, rest⟩
  · exact .inl hn
  · exact .inr ⟨g, cap, cur, rfl, Nat.le_trans hC hg, rest⟩
/-- Bytes are bytes. -/
theorem putU_byte : ∀ (u : Nat), ∀ x ∈ putU u, 0 ≤ x ∧ x ≤ 255 := by
  intro u
  induction u using Nat.strongRecOn with
  | _ u ih =>
    by_cases hu : u < 128
    · rw [putU_small hu]; intro x hx; simp at hx; omega
    · rw [putU_great hu]; intro x hx
      rcases List.mem_cons.1 hx with rfl | hx
      · omega
      · exact ih (u / 128) (by omega) x hx
theorem pay_bts (l : List Int) : Bts (pay l) := by
  intro x hx
  obtain ⟨n, _, h⟩ := List.mem_flatMap.1 hx
  exact putU_byte _ x h
theorem frH_bts {m : Int} {p : List Int} (hm : 0 ≤ m ∧ m ≤ 255) (hp : Bts p) : Bts (frH m p) := by
  intro x hx
  rw [frH, List.cons_append] at hx
  rcases List.mem_cons.1 hx with rfl | h
  · exact hm
  · rcases List.mem_append.1 h with h | h
    · exact putU_byte _ x h
    · exact hp x h
theorem frH_len {m : Int} {p : List Int} (hp : p.length ≤ 1000) : (frH m p).length ≤ 1011 := by
  have h1 := putU_len10 (zz p.length) (zz_lt _ (by omega) (by omega))
  rw [frH, List.cons_append, List.length_cons, List.length_append]; omega
end Go.Proofs.Ytelnpobhmjdaoaa
