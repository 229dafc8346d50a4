/-
  What reading a command tells (the program); small facts on texts; no function walked.
-/
import Derived.Test.YtjjopdkbdebfoaaDoorCmdC
namespace Go.Proofs.YtjjopdkbdebfoaaDoor
open Go.RowKit
set_option linter.unusedVariables false

def CmEnI (ws : List ByteArray) (w : World) (e : Ending) (w' : World) : Prop := ∃ c, e = .returned (.tuple #[cmA c, .bool (cmK ws)]) ∧ (cmK ws = true → c = cmC ws) ∧ Below w.heap.size w w'
theorem str_yesI {s : ByteArray} {l : List UInt8} (h : s.data.toList = l) : (s.toList == l) = true := by rw [Lib.toList_data, h]; simp
theorem str_noI {s : ByteArray} {l : List UInt8} (h : ¬ s.data.toList = l) : (s.toList == l) = false := by rw [Lib.toList_data]; simpa using h
theorem drewN_below {B : Nat} {w : World} (n : Nat) : Below B w (w.drewN n) := ⟨rfl, rfl, rfl, Nat.le_refl _, fun _ _ => rfl⟩
end Go.Proofs.YtjjopdkbdebfoaaDoor
