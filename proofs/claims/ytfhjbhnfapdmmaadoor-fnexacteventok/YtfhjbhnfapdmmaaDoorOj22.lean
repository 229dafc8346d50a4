/-
  A float's bits, as the program takes them: proved by walking the function.
-/
import Derived.Test.YtfhjbhnfapdmmaaDoorOj15
import Derived.Test.YtfhjbhnfapdmmaaDoorOj20
import Derived.Laws.Externs
import Derived.WalkLawsBesides
import Derived.WalkSpells
namespace Go.Proofs.YtfhjbhnfapdmmaaDoor
open Go.RowKit

/-- A float's bits; of every NaN the same. -/
def fbit (x : Nat) : Nat := if nanB x = true then 9221120237041090560 else x
theorem floatBits_any (x : Nat) (w : World) :
    Calls Tryd.prog 42 #[.float .f64 x] w fun e w' => e = .returned (.int .u64 (fbit x)) ∧ w' = w := by
  have hb := fbits
  cases h : nanB x
  case true =>
    have HX : Hid (fbit x = 9221120237041090560) := if_pos h
    go_enter Tryd.func42, Tryd.ntmps42
    go_wp2_with (go_at_call 68; refine (isNaN_any _ _).mono ?_; rintro e w' ⟨rfl, rfl⟩)
    go_ret
    exact ⟨by rw [unhide HX]; rfl, rfl⟩
  case false =>
    have HX : Hid (fbit x = x) := if_neg (by rw [h]; decide)
    go_enter Tryd.func42, Tryd.ntmps42
    go_wp2_with (go_at_call 68; refine (isNaN_any _ _).mono ?_; rintro e w' ⟨rfl, rfl⟩)
    go_ret
    exact ⟨by rw [unhide HX]; rfl, rfl⟩
end Go.Proofs.YtfhjbhnfapdmmaaDoor
namespace Go.Proofs.YtfhjbhnfapdmmaaDoor
open Go.RowKit
set_option linter.unusedVariables false

/-- An event. -/
structure Ev where
  kind : Int
  cmd : Cm
  id : Int
  other : Int
  qty : Int
  price : Int
  reason : Int
def cmV (c : Cm) : Value := .agg #[.int .i64 c.k, .int .i64 c.s, .int .i64 c.t, .int .i64 c.l, .int .i64 c.q, .int .i64 c.i, .float .f64 c.p, .string c.g]
def evV (e : Ev) : Value := .agg #[.int .i64 e.kind, .int .i64 e.cmd.k, .int .i64 e.cmd.s, .int .i64 e.cmd.t, .int .i64 e.cmd.l, .int .i64 e.cmd.q, .int .i64 e.cmd.i, .float .f64 e.cmd.p, .string e.cmd.g, .int .i64 e.id, .int .i64 e.other, .int .i64 e.qty, .int .i64 e.price, .int .i64 e.reason]
/-- An event as a value without a float. -/
def vlV (e : Ev) : Value := .agg #[.int .i64 e.kind, .int .i64 e.id, .int .i64 e.other, .int .i64 e.qty, .int .i64 e.price, .int .i64 e.reason, .int .i64 e.cmd.k, .int .i64 e.cmd.s, .int .i64 e.cmd.t, .int .i64 e.cmd.l, .int .i64 e.cmd.q, .int .i64 e.cmd.i, .int .u64 (fbit e.cmd.p), .string e.cmd.g]
def Ev.vs (e : Ev) : List Value := [.int .i64 e.kind, .int .i64 e.cmd.k, .int .i64 e.cmd.s, .int .i64 e.cmd.t, .int .i64 e.cmd.l, .int .i64 e.cmd.q, .int .i64 e.cmd.i, .float .f64 e.cmd.p, .string e.cmd.g, .int .i64 e.id, .int .i64 e.other, .int .i64 e.qty, .int .i64 e.price, .int .i64 e.reason]
theorem Ev.len (e : Ev) : e.vs.length = 14 := rfl
def zCm : Cm := ⟨0, 0, 0, 0, 0, 0, 0, ⟨#[]⟩⟩
end Go.Proofs.YtfhjbhnfapdmmaaDoor
