/-
  The text that marks a place, proved by walking the laws' own maker of it.
-/
import Derived.Test.YtjjopdkbdebfoaaDoorRecB
import Derived.Test.YtjjopdkbdebfoaaDoorStrB
import Derived.WalkLawsBesides
namespace Go.Proofs.YtjjopdkbdebfoaaDoor
open Go.RowKit
set_option linter.unusedVariables false

/-- One byte's text. -/
def ch (n : Int) : ByteArray := strB [n]
/-- The digits of a number ahead of a text. -/
def digF : Nat → Nat → ByteArray → ByteArray
  | 0, _, o => o
  | f + 1, k, o => if k = 0 then o else digF f (k / 10) (ch (48 + (k : Int) % 10) ++ o)
theorem digF_zero (f : Nat) (o : ByteArray) : digF f 0 o = o := by cases f <;> rfl
theorem digF_more : ∀ (f k : Nat) (o : ByteArray), k ≤ f → 0 < k → digF f k o = digF (f - 1) (k / 10) (ch (48 + (k : Int) % 10) ++ o)
  | 0, k, o, h, h0 => by omega
  | f + 1, k, o, h, h0 => by simp only [digF, Nat.add_sub_cancel]; rw [if_neg (by omega)]
/-- The mark's text. -/
def markS (k : Nat) : ByteArray := ⟨#[109]⟩ ++ digF k k ⟨#[]⟩

theorem one_text (b : Nat) (x : Int) (W : World) (h : W.cell? ⟨b, 0, none⟩ = some (.int .u8 x)) :
    (convert 59 9 (.slice (some ⟨b, 0, none⟩) 1 1)).run Tryd.prog W = .ok (.string (ch x)) W := by
  refine conv_text _ [x] W ⟨_, 1, rfl, by simp, fun _ => ⟨b, 0, rfl, fun i hi => ?_⟩⟩
  obtain rfl : i = 0 := by simp at hi; omega
  exact h

set_option maxRecDepth 100000 in
set_option maxHeartbeats 400000 in
theorem markText_any (K : Nat) (w : World) (h0 : 0 < K) (h1 : K ≤ 1073741824) :
    Calls Tryd.prog 21 #[.int .i64 K] w fun e w' => e = .returned (.string (markS K)) ∧ Below w.heap.size w w' := by
  have h0' : ¬ ((K : Int) ≤ 0) := by omega
  go_enter Tryd.func21, Tryd.ntmps21
  go_wp2_with fail
  go_loopw [0, 3] (fun kv ov wr => ∃ (f k : Nat) (o : ByteArray), kv = .int .i64 k ∧ k ≤ f ∧ k ≤ K ∧ ov = .string o ∧ o.size + k ≤ K ∧ Hid (digF f k o = digF K K ⟨#[]⟩) ∧ Below w.heap.size w wr) (fun kv _ _ => (intOf kv).toNat)
  case atStart => exact ⟨K, K, ⟨#[]⟩, rfl, Nat.le_refl _, Nat.le_refl _, rfl, by rw [show (⟨#[]⟩ : ByteArray).size = 0 from rfl]; omega, rfl, Below.refl _ _⟩
  case round =>
    obtain ⟨f, k, o, rfl, hkf, hk, rfl, hsz, ho, hbel⟩ := hrel
    have HB := hide hbel
    clear hbel
    by_cases hk0 : 0 < k
    · have hk0' : (0 : Int) < k := by omega
      have hcv := one_text wr.heap.size (48 + (k : Int) % 10) (wr.alloc (Obj.cells #[.int .u8 (48 + (k : Int) % 10)] 5)) (cell_of_row _ wr.heap.size 0 _ _ _ (heap_alloc_new wr _))
      have HO := hide ((digF_more f k o hkf hk0).symm.trans ho)
      clear ho
      have hc1 : (ch (48 + (k : Int) % 10)).size = 1 := rfl
      generalize ch (48 + (k : Int) % 10) = c at *
      go_wp2_with fail
      go_roundw
      case rel => exact ⟨f - 1, k / 10, c ++ o, by go_num, by omega, by omega, rfl, by rw [ByteArray.size_append]; omega, unhide HO, (unhide HB).alloc (unhide HB).size _⟩
      case measure => simp [intOf]; omega
    · have hk0' : ¬ ((0 : Int) < k) := by omega
      have HO : Hid (o = digF K K ⟨#[]⟩) := by
        have h := unhide ho
        rw [show k = 0 by omega, digF_zero] at h; exact h
      clear ho
      go_wp2_with fail
      go_ret
      refine ⟨?_, unhide HB⟩
      rw [unhide HO]; rfl
end Go.Proofs.YtjjopdkbdebfoaaDoor
