/-
  A row of records marked one by one: what stays, what is told; and the mark's text at a number that is spelt otherwise.
-/
import Derived.Test.YtjjopdkbdebfoaaDoorRecB
import Derived.Test.YtjjopdkbdebfoaaDoorMarkT
import Derived.Laws.Cover2
import Derived.Deep.RegionWith
namespace Go.Proofs.YtjjopdkbdebfoaaDoor
open Go.RowKit
set_option linter.unusedVariables false

section
variable {α : Type} (f : α → List Value) (sz : Nat)
/-- The row of n records in block g, its first ones written anew; all else as it was. -/
def MarkR (n g : Nat) (w wr : World) (done : List α) : Prop :=
  (∀ i c, done[i]? = some c → wr.rangeAt g (0 + i * sz) (f c)) ∧ wr.there g 0 (n * sz) ∧ w.grownBy wr (some g) ∧ done.length ≤ n ∧ g < wr.heap.size
variable {f sz}
theorem gr_setCells {w : World} (g : Nat) : ∀ (vs : List Value) (o : Nat) (wr : World), w.grownBy wr (some g) → w.grownBy (wr.setCells g o vs) (some g)
  | [], _, _, h => h
  | v :: r, o, wr, h => by rw [World.setCells]; exact gr_setCells g r (o + 1) _ (gr_trans h (gr_set wr ⟨g, o, none⟩ v))
theorem range_append {w : World} {b o : Nat} {a c : List Value} (h1 : w.rangeAt b o a) (h2 : w.rangeAt b (o + a.length) c) : w.rangeAt b o (a ++ c) := fun j v hv => by
  by_cases hj : j < a.length
  · rw [List.getElem?_append_left hj] at hv; exact h1 j v hv
  · rw [List.getElem?_append_right (by omega)] at hv
    have := h2 _ v hv
    rw [show o + a.length + (j - a.length) = o + j by omega] at this; exact this
theorem there_part {w : World} {g i m n : Nat} (h : w.there g 0 n) (hi : i + m ≤ n) : w.there g i m := fun j hj => by
  have := h (i + j) (by omega)
  rw [Nat.zero_add] at this; exact this
theorem mark_stepR {n g C : Nat} {w wr W2 : World} {done : List α} (x : α) (a : List Value) (z : Value) (hx : f x = a ++ [z]) (h : MarkR f sz n g w wr done) (hn : done.length < n) (hf : ∀ c, (f c).length = sz)
    (hb : Below C (wr.setCells g (done.length * sz) a) W2) (hC : wr.heap.size ≤ C) : MarkR f sz n g w (W2.setCells g (done.length * sz + a.length) [z]) (done ++ [x]) := by
  obtain ⟨h1, h2, h3, h4, h5⟩ := h
  have hsz : a.length + 1 = sz := by rw [← hf x, hx]; simp
  have hle : done.length * sz + sz ≤ n * sz := by
    have := Nat.mul_le_mul_right sz (show done.length + 1 ≤ n by omega)
    rw [Nat.add_mul] at this; omega
  have hlt : g < C := by omega
  have t1 : (wr.setCells g (done.length * sz) a).there g 0 (n * sz) := World.there_setCells h2 _ _ _
  have t2 := there_below t1 hb hlt
  have ra : W2.rangeAt g (done.length * sz) a := range_below (World.rangeAt_setCells_same _ _ _ _ (there_part h2 (by omega))) hb hlt
  refine ⟨fun i c hc => ?_, World.there_setCells t2 _ _ _, ?_, by simp; omega, ?_⟩
  · by_cases hi : i < done.length
    · rw [List.getElem?_append_left hi] at hc
      have hi' := Nat.mul_le_mul_right sz (show i + 1 ≤ done.length by omega)
      rw [Nat.add_mul] at hi'
      refine World.rangeAt_setCells_apart (range_below (World.rangeAt_setCells_apart (h1 i c hc) _ _ _ (.inr (.inl ?_))) hb hlt) _ _ _ (.inr (.inl ?_))
      · rw [hf c]; omega
      · rw [hf c]; omega
    · have hlen : i < (done ++ [x]).length := (List.getElem?_eq_some_iff.1 hc).1
      have hi' : i = done.length := by simp at hlen; omega
      subst hi'
      simp only [List.getElem?_append_right (Nat.le_refl _), Nat.sub_self, List.getElem?_cons_zero, Option.some.injEq] at hc
      subst hc
      rw [Nat.zero_add, hx]
      exact range_append (World.rangeAt_setCells_apart ra _ _ _ (.inr (.inl (by omega)))) (World.rangeAt_setCells_same _ _ _ _ (there_part t2 (by simp; omega)))
  · exact gr_setCells g _ _ _ (gr_trans (gr_setCells g _ _ _ h3) (below_gr hb (by rw [size_setCells]; exact hC)))
  · rw [size_setCells]
    have := hb.size
    rw [size_setCells] at this
    omega
end

theorem markText_at (x : Int) (K : Nat) (w : World) (hx : x = K) (h0 : 0 < K) (h1 : K ≤ 1073741824) :
    Calls Tryd.prog 21 #[.int .i64 x] w fun e w' => e = .returned (.string (markS K)) ∧ Below w.heap.size w w' := by
  subst hx; exact markText_any K w h0 h1
end Go.Proofs.YtjjopdkbdebfoaaDoor
