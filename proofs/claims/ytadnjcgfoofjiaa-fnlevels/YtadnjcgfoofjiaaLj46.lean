/-
  A row of bytes made a text.
-/
import Derived.Test.YtadnjcgfoofjiaaLj05
import Derived.Test.YtadnjcgfoofjiaaLj06
import Derived.Laws.BytesString
import Derived.WalkLawsBesides
namespace Go.Proofs.Ytadnjcgfoofjiaa
open Go.RowKit
set_option linter.unusedVariables false

/-- The text of bytes. -/
def strB (ns : List Int) : ByteArray := ns.foldl (fun r n => r.push (UInt8.ofNat n.toNat)) ByteArray.empty

theorem load_row {P : Program} (W : World) (b off : Nat) (ns : List Int) (h : ∀ i, i < ns.length → W.cell? ⟨b, off + i, none⟩ = some (.int .u8 (ns.getD i 0))) :
    ∀ (m i : Nat) (acc : Array Value), i + m = ns.length → acc = ((ns.take i).map (Value.int .u8)).toArray → (loadCellsFrom ⟨b, off, none⟩ i m acc).run P W = .ok (ns.map (Value.int .u8)).toArray W := by
  intro m
  induction m with
  | zero =>
    intro i acc hi ha
    subst ha
    rw [List.take_of_length_le (by omega)]
    rfl
  | succ m ih =>
    intro i acc hi ha
    have e : (⟨b, off, none⟩ : Addr).add i = ⟨b, off + i, none⟩ := by unfold Addr.add; split <;> simp_all
    have hc := h i (by omega)
    simp only [loadCellsFrom, Sem.run_bind, e]
    have hl : (load ⟨b, off + i, none⟩).run P W = .ok (.int .u8 (ns.getD i 0)) W := by simp [hc]
    rw [hl]
    simp only [Result.andThen]
    refine ih (i + 1) _ (by omega) ?_
    rw [ha, take_get ns i (by omega), List.map_append]
    simp
theorem conv_text (v : Value) (ns : List Int) (W : World) (hr : Rd W v ns) :
    (convert 22 9 v).run Try.prog W = .ok (.string (strB ns)) W := by
  obtain ⟨a, cap, rfl, _, hc⟩ := hr
  rw [run_convert_bytes_string W _ _ 5 a _ _ Try.underlying22 Try.underlying5 Try.underlying9]
  by_cases hne : ns = []
  · subst hne
    cases a with
    | none => rfl
    | some ad => rfl
  · obtain ⟨b, off, rfl, hcell⟩ := hc hne
    exact run_bytesToString W ⟨b, off, none⟩ ns.length cap ns (load_row W b off ns hcell ns.length 0 #[] (by omega) rfl)
end Go.Proofs.Ytadnjcgfoofjiaa
namespace Go.Proofs.Ytadnjcgfoofjiaa
open Go.RowKit
set_option linter.unusedVariables false

/-- One byte's text. -/
def ch (n : Int) : ByteArray := strB [n]
/-- The digits of a number ahead of a text. -/
def digF : Nat → Nat → ByteArray → ByteArray
  | 0, _, o => o
  | f + 1, k, o => if k = 0 then o else digF f (k / 10) (ch (48 + (k : Int) % 10) ++ o)
theorem digF_zero (f : Nat) (o : ByteArray) : digF f 0 o = o := by cases f <;> rfl
theorem digF_more : ∀ (f k : Nat) (o : ByteArray), k ≤ f → 0 < k → digF f k o = digF (f - 1) (k / 10) (ch (48 + (k : Int) % 10) ++ o)
  | 0, k, o, h, h0 => by omega
  | f + 1, k, o, h, h0 => by simp only [digF, Nat.add_sub_cancel]; rw [if_neg (by omega)]
/-- The mark's text. -/
def markS (k : Nat) : ByteArray := ⟨#[109]⟩ ++ digF k k ⟨#[]⟩

theorem one_text (b : Nat) (x : Int) (W : World) (h : W.cell? ⟨b, 0, none⟩ = some (.int .u8 x)) :
    (convert 22 9 (.slice (some ⟨b, 0, none⟩) 1 1)).run Try.prog W = .ok (.string (ch x)) W := by
  refine conv_text _ [x] W ⟨_, 1, rfl, by simp, fun _ => ⟨b, 0, rfl, fun i hi => ?_⟩⟩
  obtain rfl : i = 0 := by simp at hi; omega
  exact h

set_option maxRecDepth 100000 in
set_option maxHeartbeats 400000 in
theorem markText_any (K : Nat) (w : World) (h0 : 0 < K) (h1 : K ≤ 1073741824) :
    Calls Try.prog 44 #[.int .i64 K] w fun e w' => e = .returned (.string (markS K)) ∧ Below w.heap.size w w' := by
  have h0' : ¬ ((K : Int) ≤ 0) := by omega
  go_enter Try.func44, Try.ntmps44
  go_wp2_with fail
  go_loopw [0, 3] (fun kv ov wr => ∃ (f k : Nat) (o : ByteArray), kv = .int .i64 k ∧ k ≤ f ∧ k ≤ K ∧ ov = .string o ∧ o.size + k ≤ K ∧ Hid (digF f k o = digF K K ⟨#[]⟩) ∧ Below w.heap.size w wr) (fun kv _ _ => (intOf kv).toNat)
  case atStart => exact ⟨K, K, ⟨#[]⟩, rfl, Nat.le_refl _, Nat.le_refl _, rfl, by rw [show (⟨#[]⟩ : ByteArray).size = 0 from rfl]; omega, rfl, Below.refl _ _⟩
  case round =>
    obtain ⟨f, k, o, rfl, hkf, hk, rfl, hsz, ho, hbel⟩ := hrel
    have HB := hide hbel
    clear hbel
    by_cases hk0 : 0 < k
    · have hk0' : (0 : Int) < k := by omega
      have hcv := one_text wr.heap.size (48 + (k : Int) % 10) (wr.alloc (Obj.cells #[.int .u8 (48 + (k : Int) % 10)] 5)) (cell_of_row _ wr.heap.size 0 _ _ _ (heap_alloc_new wr _))
      have HO := hide ((digF_more f k o hkf hk0).symm.trans ho)
      clear ho
      have hc1 : (ch (48 + (k : Int) % 10)).size = 1 := rfl
      generalize ch (48 + (k : Int) % 10) = c at *
      go_wp2_with fail
      go_roundw
      case rel => exact ⟨f - 1, k / 10, c ++ o, by go_num, by omega, by omega, rfl, by rw [ByteArray.size_append]; omega, unhide HO, (unhide HB).alloc (unhide HB).size _⟩
      case measure => simp [intOf]; omega
    · have hk0' : ¬ ((0 : Int) < k) := by omega
      have HO : Hid (o = digF K K ⟨#[]⟩) := by
        have h := unhide ho
        rw [show k = 0 by omega, digF_zero] at h; exact h
      clear ho
      go_wp2_with fail
      go_ret
      refine ⟨?_, unhide HB⟩
      rw [unhide HO]; rfl
end Go.Proofs.Ytadnjcgfoofjiaa
