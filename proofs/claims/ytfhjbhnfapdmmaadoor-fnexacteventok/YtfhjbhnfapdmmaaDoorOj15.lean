/-
  Which floats are no numbers; a float made of a whole number is one.
-/
import Derived.Test.YtfhjbhnfapdmmaaDoorOj02
import Derived.WalkLawsBesides
import Derived.Laws.Externs
import Derived.WalkSpells
namespace Go.Proofs.YtfhjbhnfapdmmaaDoor
open Go.RowKit

/-- The float is a NaN. -/
def nanB (x : Nat) : Bool := FloatKind.f64.format.order x x != some Ordering.eq

theorem read_rung (neg : Bool) (r : Nat) (h : r ≤ Ieee.double.infRung) : ¬ (Ieee.double.read (Ieee.double.word neg r)).isNaN = true := by
  have h1 : Ieee.double.infRung = 9218868437227405312 := by decide
  have h2 : Ieee.double.signWeight = 9223372036854775808 := by decide
  have hr : Ieee.double.word neg r % Ieee.double.signWeight = r := by
    unfold Ieee.Format.word
    cases neg <;> simp only [h2, if_true, if_false, Bool.false_eq_true] <;> omega
  unfold Ieee.Format.read
  simp only [hr]
  split
  · simp [Ieee.Datum.isNaN]
  · split
    · simp [Ieee.Datum.isNaN]
    · rw [if_pos (by omega)]; simp [Ieee.Datum.isNaN]
theorem datum_self (d : Ieee.Datum) (h : ¬ d.isNaN = true) : d.order d = some Ordering.eq := by
  cases d with
  | nan s f => simp [Ieee.Datum.isNaN] at h
  | infinity s => cases s <;> rfl
  | number s m i => simp [Ieee.Datum.order, Std.ReflCmp.compare_self]
theorem ofInt_order (n : Int) : FloatKind.f64.format.order (floatOfInt .f64 n) (floatOfInt .f64 n) = some Ordering.eq := by
  refine datum_self _ ?_
  show ¬ (Ieee.double.read (Ieee.double.nearest (n < 0) n.natAbs 0)).isNaN = true
  unfold Ieee.Format.nearest
  split
  · exact read_rung _ _ (Nat.zero_le _)
  · exact read_rung _ _ (Nat.min_le_right _ _)
end Go.Proofs.YtfhjbhnfapdmmaaDoor
namespace Go.Proofs.YtfhjbhnfapdmmaaDoor
open Go.RowKit

theorem fbits (x : Nat) (w : World) : (callFunc 51 #[.float .f64 x]).run Tryd.prog w = .ok (.value (.int .u64 x)) w := by
  rw [run_callFunc_extern (e := Extern.MathFloatBits.float64bits) Tryd.func51 (by kernel_rfl) (by kernel_rfl) (by kernel_rfl) (by kernel_rfl)]
  rfl

theorem isNaN_any (x : Nat) (w : World) :
    Calls Tryd.prog 68 #[.float .f64 x] w fun e w' => e = .returned (.bool (nanB x)) ∧ w' = w := by
  go_enter Tryd.func68, Tryd.ntmps68
  go_wp2
  go_ret
  exact ⟨rfl, rfl⟩
end Go.Proofs.YtfhjbhnfapdmmaaDoor
