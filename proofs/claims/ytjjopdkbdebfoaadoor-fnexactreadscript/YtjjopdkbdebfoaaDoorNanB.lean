/-
  Which floats are no numbers; a float made of a whole number is one.
-/
import Derived.Test.YtjjopdkbdebfoaaDoorOwnB
import Derived.WalkLawsBesides
namespace Go.Proofs.YtjjopdkbdebfoaaDoor
open Go.RowKit

/-- The float is a NaN. -/
def nanB (x : Nat) : Bool := FloatKind.f64.format.order x x != some Ordering.eq

theorem read_rung (neg : Bool) (r : Nat) (h : r ≤ Ieee.double.infRung) : ¬ (Ieee.double.read (Ieee.double.word neg r)).isNaN = true := by
  have h1 : Ieee.double.infRung = 9218868437227405312 := by decide
  have h2 : Ieee.double.signWeight = 9223372036854775808 := by decide
  have hr : Ieee.double.word neg r % Ieee.double.signWeight = r := by
    unfold Ieee.Format.word
    cases neg <;> simp only [h2, if_true, if_false, Bool.false_eq_true] <;> omega
  unfold Ieee.Format.read
  simp only [hr]
  split
  · simp [Ieee.Datum.isNaN]
  · split
    · simp [Ieee.Datum.isNaN]
    · rw [if_pos (by omega)]; simp [Ieee.Datum.isNaN]
theorem datum_self (d : Ieee.Datum) (h : ¬ d.isNaN = true) : d.order d = some Ordering.eq := by
  cases d with
  | nan s f => simp [Ieee.Datum.isNaN] at h
  | infinity s => cases s <;> rfl
  | number s m i => simp [Ieee.Datum.order, Std.ReflCmp.compare_self]
theorem ofInt_order (n : Int) : FloatKind.f64.format.order (floatOfInt .f64 n) (floatOfInt .f64 n) = some Ordering.eq := by
  refine datum_self _ ?_
  show ¬ (Ieee.double.read (Ieee.double.nearest (n < 0) n.natAbs 0)).isNaN = true
  unfold Ieee.Format.nearest
  split
  · exact read_rung _ _ (Nat.zero_le _)
  · exact read_rung _ _ (Nat.min_le_right _ _)
end Go.Proofs.YtjjopdkbdebfoaaDoor
