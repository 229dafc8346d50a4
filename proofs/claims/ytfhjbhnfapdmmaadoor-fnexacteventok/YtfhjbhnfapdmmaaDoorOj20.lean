/-
  Commands as records of eight cells; no function walked but the copying of one.
-/
import Derived.Test.YtfhjbhnfapdmmaaDoorOj03
import Derived.WalkLawsBesides
namespace Go.Proofs.YtfhjbhnfapdmmaaDoor
open Go.RowKit
set_option linter.unusedVariables false

/-- A command. -/
structure Cm where
  k : Int
  s : Int
  t : Int
  l : Int
  q : Int
  i : Int
  p : Nat
  g : ByteArray
/-- Its cells. -/
def Cm.vs (c : Cm) : List Value := [.int .i64 c.k, .int .i64 c.s, .int .i64 c.t, .int .i64 c.l, .int .i64 c.q, .int .i64 c.i, .float .f64 c.p, .string c.g]
theorem Cm.len (c : Cm) : c.vs.length = 8 := rfl
/-- The cells of a command, told one by one. -/
theorem cm_cells {w : World} {b o : Nat} {c : Cm} (h : w.rangeAt b o c.vs) :
    w.cell? ⟨b, o, none⟩ = some (.int .i64 c.k) ∧ w.cell? ⟨b, o + 1, none⟩ = some (.int .i64 c.s) ∧ w.cell? ⟨b, o + 2, none⟩ = some (.int .i64 c.t) ∧ w.cell? ⟨b, o + 3, none⟩ = some (.int .i64 c.l) ∧
    w.cell? ⟨b, o + 4, none⟩ = some (.int .i64 c.q) ∧ w.cell? ⟨b, o + 5, none⟩ = some (.int .i64 c.i) ∧ w.cell? ⟨b, o + 6, none⟩ = some (.float .f64 c.p) ∧ w.cell? ⟨b, o + 7, none⟩ = some (.string c.g) :=
  ⟨h 0 _ rfl, h 1 _ rfl, h 2 _ rfl, h 3 _ rfl, h 4 _ rfl, h 5 _ rfl, h 6 _ rfl, h 7 _ rfl⟩

theorem there1 {w : World} {b o n : Nat} (h : w.there b o n) (j : Nat) (hj : j < n) : ∃ v, w.cell? ⟨b, o + j, none⟩ = some v ∧ w.frozen? ⟨b, o + j, none⟩ = false := by
  obtain ⟨v, hv⟩ := Option.isSome_iff_exists.1 (h j hj).1
  exact ⟨v, hv, (h j hj).2⟩
/-- Eight cells that may be written, told one by one. -/
theorem there8 {w : World} {b o : Nat} (h : w.there b o 8) :
    (∃ v, w.cell? ⟨b, o, none⟩ = some v ∧ w.frozen? ⟨b, o, none⟩ = false) ∧ (∃ v, w.cell? ⟨b, o + 1, none⟩ = some v ∧ w.frozen? ⟨b, o + 1, none⟩ = false) ∧
    (∃ v, w.cell? ⟨b, o + 2, none⟩ = some v ∧ w.frozen? ⟨b, o + 2, none⟩ = false) ∧ (∃ v, w.cell? ⟨b, o + 3, none⟩ = some v ∧ w.frozen? ⟨b, o + 3, none⟩ = false) ∧
    (∃ v, w.cell? ⟨b, o + 4, none⟩ = some v ∧ w.frozen? ⟨b, o + 4, none⟩ = false) ∧ (∃ v, w.cell? ⟨b, o + 5, none⟩ = some v ∧ w.frozen? ⟨b, o + 5, none⟩ = false) ∧
    (∃ v, w.cell? ⟨b, o + 6, none⟩ = some v ∧ w.frozen? ⟨b, o + 6, none⟩ = false) ∧ (∃ v, w.cell? ⟨b, o + 7, none⟩ = some v ∧ w.frozen? ⟨b, o + 7, none⟩ = false) :=
  ⟨there1 h 0 (by omega), there1 h 1 (by omega), there1 h 2 (by omega), there1 h 3 (by omega), there1 h 4 (by omega), there1 h 5 (by omega), there1 h 6 (by omega), there1 h 7 (by omega)⟩

theorem sfl (a : Addr) (x : Nat) (m : Mode) (w : World) : (store a (.float .f64 x) m).run Tryd.prog w = stored Tryd.prog w a (.float .f64 x) m := run_store _ w a _ m rfl
end Go.Proofs.YtfhjbhnfapdmmaaDoor
