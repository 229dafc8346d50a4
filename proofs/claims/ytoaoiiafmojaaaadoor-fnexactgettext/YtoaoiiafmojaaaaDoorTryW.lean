/-
  The face of a reading, proved by walking it: the deferred function that recovers, and what the reading answers.
-/
import Derived.Test.YtoaoiiafmojaaaaDoorGetNumW
import Derived.Defers
import Derived.Recover
import Derived.Laws.Pointers
import Derived.Stop.Asserts
namespace Go.Proofs.YtoaoiiafmojaaaaDoor
open Go.RowKit
set_option linter.unusedVariables false

/-- The reader's error as a value. -/
def faultV (c k : Int) : Value := .iface 72 (.agg #[.int .i64 c, .int .i64 k])

theorem ta_fault (c k : Int) (w : World) : (Instr.typeAssert (.iface 72 (.agg #[.int .i64 c, .int .i64 k])) 20 56 true).run Tryd.prog w =
    .ok (.tuple #[.iface 72 (.agg #[.int .i64 c, .int .i64 k]), .bool true]) w := by kernel_rfl
theorem ta_nil (w : World) : (Instr.typeAssert .nilIface 20 56 true).run Tryd.prog w = .ok (.tuple #[.nilIface, .bool false]) w := by kernel_rfl

theorem catch_panicking (p : Addr) (x : Value) (c k : Int) (older : List PanicEntry) (w : World) (hc : w.cell? p = some x) (hz : w.frozen? p = false) :
    CallsD Tryd.prog 35 #[.pointer (some p)] (.panicking ({ v := faultV c k, recovered := false } :: older)) w fun e u' w' =>
      e = .returned (.tuple #[]) ∧ u' = .panicking ({ v := faultV c k, recovered := true } :: older) ∧ w' = w.setCell p (faultV c k) := by
  refine callsD_of_wpS Tryd.func35 rfl fun c₀ cs hu => ?_
  simp only [faultV] at hu ⊢
  apply wpS_seq
  apply wpS_region
  simp [wpOpsS, go_sem, recoverD, hu, Tryd.ntmps35, Exit.thenS, ta_fault]
  apply wpS_seq
  apply wpS_region
  simp [wpOpsS, go_sem, Exit.thenS]
  refine wpS_cond (t := true) (by simp [Act.eval, Array.replicate]) ?_
  simp only [if_true]
  apply wpS_region
  simp [wpOpsS, go_sem, hc, hz, bodyPostS, results, Tryd.results35]

theorem catch_idle (p : Addr) (w : World) :
    CallsD Tryd.prog 35 #[.pointer (some p)] .returning w fun e u' w' => e = .returned (.tuple #[]) ∧ u' = .returning ∧ w' = w := by
  refine callsD_of_wpS Tryd.func35 rfl fun c₀ cs hu => ?_
  apply wpS_seq
  apply wpS_region
  simp [wpOpsS, go_sem, recoverD, hu, Tryd.ntmps35, Exit.thenS, ta_nil]
  apply wpS_seq
  apply wpS_region
  simp [wpOpsS, go_sem, Exit.thenS]
  refine wpS_cond (t := false) (by simp [Act.eval, Array.replicate]) ?_
  simp only [Bool.false_eq_true, if_false]
  refine wpS_of_wp (wp_skip ?_)
  cases c₀
  simp_all [bodyPostS, results, Tryd.results35]
end Go.Proofs.YtoaoiiafmojaaaaDoor
