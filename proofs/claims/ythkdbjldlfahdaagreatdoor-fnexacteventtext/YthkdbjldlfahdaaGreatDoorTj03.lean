/-
  A row of bytes made a text.
-/
import Derived.Test.YthkdbjldlfahdaaGreatDoorTj02
import Derived.Laws.BytesString
namespace Go.Proofs.YthkdbjldlfahdaaGreatDoor
open Go.RowKit
set_option linter.unusedVariables false

/-- The text of bytes. -/
def strB (ns : List Int) : ByteArray := ns.foldl (fun r n => r.push (UInt8.ofNat n.toNat)) ByteArray.empty

theorem load_row {P : Program} (W : World) (b off : Nat) (ns : List Int) (h : ∀ i, i < ns.length → W.cell? ⟨b, off + i, none⟩ = some (.int .u8 (ns.getD i 0))) :
    ∀ (m i : Nat) (acc : Array Value), i + m = ns.length → acc = ((ns.take i).map (Value.int .u8)).toArray → (loadCellsFrom ⟨b, off, none⟩ i m acc).run P W = .ok (ns.map (Value.int .u8)).toArray W := by
  intro m
  induction m with
  | zero =>
    intro i acc hi ha
    subst ha
    rw [List.take_of_length_le (by omega)]
    rfl
  | succ m ih =>
    intro i acc hi ha
    have e : (⟨b, off, none⟩ : Addr).add i = ⟨b, off + i, none⟩ := by unfold Addr.add; split <;> simp_all
    have hc := h i (by omega)
    simp only [loadCellsFrom, Sem.run_bind, e]
    have hl : (load ⟨b, off + i, none⟩).run P W = .ok (.int .u8 (ns.getD i 0)) W := by simp [hc]
    rw [hl]
    simp only [Result.andThen]
    refine ih (i + 1) _ (by omega) ?_
    rw [ha, take_get ns i (by omega), List.map_append]
    simp
theorem conv_text (v : Value) (ns : List Int) (W : World) (hr : Rd W v ns) :
    (convert 53 9 v).run Tryz.prog W = .ok (.string (strB ns)) W := by
  obtain ⟨a, cap, rfl, _, hc⟩ := hr
  rw [run_convert_bytes_string W _ _ 5 a _ _ Tryz.underlying53 Tryz.underlying5 Tryz.underlying9]
  by_cases hne : ns = []
  · subst hne
    cases a with
    | none => rfl
    | some ad => rfl
  · obtain ⟨b, off, rfl, hcell⟩ := hc hne
    exact run_bytesToString W ⟨b, off, none⟩ ns.length cap ns (load_row W b off ns hcell ns.length 0 #[] (by omega) rfl)
end Go.Proofs.YthkdbjldlfahdaaGreatDoor
