/-
  Commands as records of eight cells; no function walked but the copying of one. (what walks the functions of the model or of the laws)
-/
import Derived.Test.YtfhjbhnfapdmmaaDoorOj20
import Derived.WalkLawsBesides
namespace Go.Proofs.YtfhjbhnfapdmmaaDoor
open Go.RowKit
set_option linter.unusedVariables false

theorem toCmd_any (c : Cm) (w : World) :
    Calls Tryd.prog 18 #[.agg #[.int .i64 c.k, .int .i64 c.s, .int .i64 c.t, .int .i64 c.l, .int .i64 c.q, .int .i64 c.i, .float .f64 c.p, .string c.g]] w fun e w' =>
      e = .returned (.agg #[.int .i64 c.k, .int .i64 c.s, .int .i64 c.t, .int .i64 c.l, .int .i64 c.q, .int .i64 c.i, .float .f64 c.p, .string c.g]) ∧ Below w.heap.size w w' := by
  obtain ⟨k, s, t, l, q, i, p, g⟩ := c
  have hsf := sfl
  simp only
  go_enter Tryd.func18, Tryd.ntmps18
  go_wp2_with fail
  go_returns
  refine ⟨rfl, ?_⟩
  go_grown
end Go.Proofs.YtfhjbhnfapdmmaaDoor
