/-
  The text that marks a place, proved by walking the laws' own maker of it.
-/
import Derived.Test.YtmeekcdoajbjdaaGreatDoorGj02
import Derived.Test.YtmeekcdoajbjdaaGreatDoorGj10
import Derived.WalkLawsBesides
import Derived.Laws.Cover2
import Derived.Deep.RegionWith
namespace Go.Proofs.YtmeekcdoajbjdaaGreatDoor
open Go.RowKit
set_option linter.unusedVariables false

/-- One byte's text. -/
def ch (n : Int) : ByteArray := strB [n]
/-- The digits of a number ahead of a text. -/
def digF : Nat → Nat → ByteArray → ByteArray
  | 0, _, o => o
  | f + 1, k, o => if k = 0 then o else digF f (k / 10) (ch (48 + (k : Int) % 10) ++ o)
theorem digF_zero (f : Nat) (o : ByteArray) : digF f 0 o = o := by cases f <;> rfl
theorem digF_more : ∀ (f k : Nat) (o : ByteArray), k ≤ f → 0 < k → digF f k o = digF (f - 1) (k / 10) (ch (48 + (k : Int) % 10) ++ o)
  | 0, k, o, h, h0 => by omega
  | f + 1, k, o, h, h0 => by simp only [digF, Nat.add_sub_cancel]; rw [if_neg (by omega)]
/-- The mark's text. -/
def markS (k : Nat) : ByteArray := ⟨#[109]⟩ ++ digF k k ⟨#[]⟩

theorem one_text (b : Nat) (x : Int) (W : World) (h : W.cell? ⟨b, 0, none⟩ = some (.int .u8 x)) :
    (convert 24 9 (.slice (some ⟨b, 0, none⟩) 1 1)).run Tryz.prog W = .ok (.string (ch x)) W := by
  refine conv_text _ [x] W ⟨_, 1, rfl, by simp, fun _ => ⟨b, 0, rfl, fun i hi => ?_⟩⟩
  obtain rfl : i = 0 := by simp at hi; omega
  exact h

set_option maxRecDepth 100000 in
set_option maxHeartbeats 400000 in
theorem markText_any (K : Nat) (w : World) (h0 : 0 < K) (h1 : K ≤ 1073741824) :
    Calls Tryz.prog 23 #[.int .i64 K] w fun e w' => e = .returned (.string (markS K)) ∧ Below w.heap.size w w' := by
  have h0' : ¬ ((K : Int) ≤ 0) := by omega
  go_enter Tryz.func23, Tryz.ntmps23
  go_wp2_with fail
  go_loopw [0, 3] (fun kv ov wr => ∃ (f k : Nat) (o : ByteArray), kv = .int .i64 k ∧ k ≤ f ∧ k ≤ K ∧ ov = .string o ∧ o.size + k ≤ K ∧ Hid (digF f k o = digF K K ⟨#[]⟩) ∧ Below w.heap.size w wr) (fun kv _ _ => (intOf kv).toNat)
  case atStart => exact ⟨K, K, ⟨#[]⟩, rfl, Nat.le_refl _, Nat.le_refl _, rfl, by rw [show (⟨#[]⟩ : ByteArray).size = 0 from rfl]; omega, rfl, Below.refl _ _⟩
  case round =>
    obtain ⟨f, k, o, rfl, hkf, hk, rfl, hsz, ho, hbel⟩ := hrel
    have HB := hide hbel
    clear hbel
    by_cases hk0 : 0 < k
    · have hk0' : (0 : Int) < k := by omega
      have hcv := one_text wr.heap.size (48 + (k : Int) % 10) (wr.alloc (Obj.cells #[.int .u8 (48 + (k : Int) % 10)] 5)) (cell_of_row _ wr.heap.size 0 _ _ _ (heap_alloc_new wr _))
      have HO := hide ((digF_more f k o hkf hk0).symm.trans ho)
      clear ho
      have hc1 : (ch (48 + (k : Int) % 10)).size = 1 := rfl
      generalize ch (48 + (k : Int) % 10) = c at *
      go_wp2_with fail
      go_roundw
      case rel => exact ⟨f - 1, k / 10, c ++ o, by go_num, by omega, by omega, rfl, by rw [ByteArray.size_append]; omega, unhide HO, (unhide HB).alloc (unhide HB).size _⟩
      case measure => simp [intOf]; omega
    · have hk0' : ¬ ((0 : Int) < k) := by omega
      have HO : Hid (o = digF K K ⟨#[]⟩) := by
        have h := unhide ho
        rw [show k = 0 by omega, digF_zero] at h; exact h
      clear ho
      go_wp2_with fail
      go_ret
      refine ⟨?_, unhide HB⟩
      rw [unhide HO]; rfl
end Go.Proofs.YtmeekcdoajbjdaaGreatDoor
namespace Go.Proofs.YtmeekcdoajbjdaaGreatDoor
open Go.RowKit
set_option linter.unusedVariables false

section
variable {α : Type} (f : α → List Value) (sz : Nat)
/-- The row of n records in block g, its first ones written anew; all else as it was. -/
def MarkR (n g : Nat) (w wr : World) (done : List α) : Prop :=
  (∀ i c, done[i]? = some c → wr.rangeAt g (0 + i * sz) (f c)) ∧ wr.there g 0 (n * sz) ∧ w.grownBy wr (some g) ∧ done.length ≤ n ∧ g < wr.heap.size
variable {f sz}
theorem gr_setCellsM {w : World} (g : Nat) : ∀ (vs : List Value) (o : Nat) (wr : World), w.grownBy wr (some g) → w.grownBy (wr.setCells g o vs) (some g)
  | [], _, _, h => h
  | v :: r, o, wr, h => by rw [World.setCells]; exact gr_setCellsM g r (o + 1) _ (gr_trans h (gr_set wr ⟨g, o, none⟩ v))
theorem range_append {w : World} {b o : Nat} {a c : List Value} (h1 : w.rangeAt b o a) (h2 : w.rangeAt b (o + a.length) c) : w.rangeAt b o (a ++ c) := fun j v hv => by
  by_cases hj : j < a.length
  · rw [List.getElem?_append_left hj] at hv; exact h1 j v hv
  · rw [List.getElem?_append_right (by omega)] at hv
    have := h2 _ v hv
    rw [show o + a.length + (j - a.length) = o + j by omega] at this; exact this
theorem there_part {w : World} {g i m n : Nat} (h : w.there g 0 n) (hi : i + m ≤ n) : w.there g i m := fun j hj => by
  have := h (i + j) (by omega)
  rw [Nat.zero_add] at this; exact this
theorem mark_stepR {n g C : Nat} {w wr W2 : World} {done : List α} (x : α) (a : List Value) (z : Value) (hx : f x = a ++ [z]) (h : MarkR f sz n g w wr done) (hn : done.length < n) (hf : ∀ c, (f c).length = sz)
    (hb : Below C (wr.setCells g (done.length * sz) a) W2) (hC : wr.heap.size ≤ C) : MarkR f sz n g w (W2.setCells g (done.length * sz + a.length) [z]) (done ++ [x]) := by
  obtain ⟨h1, h2, h3, h4, h5⟩ := h
  have hsz : a.length + 1 = sz := by rw [← hf x, hx]; simp
  have hle : done.length * sz + sz ≤ n * sz := by
    have := Nat.mul_le_mul_right sz (show done.length + 1 ≤ n by omega)
    rw [Nat.add_mul] at this; omega
  have hlt : g < C := by omega
  have t1 : (wr.setCells g (done.length * sz) a).there g 0 (n * sz) := World.there_setCells h2 _ _ _
  have t2 := there_below t1 hb hlt
  have ra : W2.rangeAt g (done.length * sz) a := range_below (World.rangeAt_setCells_same _ _ _ _ (there_part h2 (by omega))) hb hlt
  refine ⟨fun i c hc => ?_, World.there_setCells t2 _ _ _, ?_, by simp; omega, ?_⟩
  · by_cases hi : i < done.length
    · rw [List.getElem?_append_left hi] at hc
      have hi' := Nat.mul_le_mul_right sz (show i + 1 ≤ done.length by omega)
      rw [Nat.add_mul] at hi'
      refine World.rangeAt_setCells_apart (range_below (World.rangeAt_setCells_apart (h1 i c hc) _ _ _ (.inr (.inl ?_))) hb hlt) _ _ _ (.inr (.inl ?_))
      · rw [hf c]; omega
      · rw [hf c]; omega
    · have hlen : i < (done ++ [x]).length := (List.getElem?_eq_some_iff.1 hc).1
      have hi' : i = done.length := by simp at hlen; omega
      subst hi'
      simp only [List.getElem?_append_right (Nat.le_refl _), Nat.sub_self, List.getElem?_cons_zero, Option.some.injEq] at hc
      subst hc
      rw [Nat.zero_add, hx]
      exact range_append (World.rangeAt_setCells_apart ra _ _ _ (.inr (.inl (by omega)))) (World.rangeAt_setCells_same _ _ _ _ (there_part t2 (by simp; omega)))
  · exact gr_setCellsM g _ _ _ (gr_trans (gr_setCellsM g _ _ _ h3) (below_gr hb (by rw [size_setCells]; exact hC)))
  · rw [size_setCells]
    have := hb.size
    rw [size_setCells] at this
    omega
end

theorem markText_at (x : Int) (K : Nat) (w : World) (hx : x = K) (h0 : 0 < K) (h1 : K ≤ 1073741824) :
    Calls Tryz.prog 23 #[.int .i64 x] w fun e w' => e = .returned (.string (markS K)) ∧ Below w.heap.size w w' := by
  subst hx; exact markText_any K w h0 h1
end Go.Proofs.YtmeekcdoajbjdaaGreatDoor
