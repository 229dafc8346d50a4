/-
  Commands as records of eight cells; no function walked but the copying of one. (what walks the functions of the model or of the laws)
-/
import Derived.Test.YtfpbpjhnafjcoaaCmB
import Derived.WalkLawsBesides
namespace Go.Proofs.Ytfpbpjhnafjcoaa
open Go.RowKit
set_option linter.unusedVariables false

theorem toCmd_any (c : Cm) (w : World) :
    Calls Try.prog 33 #[.agg #[.int .i64 c.k, .int .i64 c.s, .int .i64 c.t, .int .i64 c.l, .int .i64 c.q, .int .i64 c.i, .float .f64 c.p, .string c.g]] w fun e w' =>
      e = .returned (.agg #[.int .i64 c.k, .int .i64 c.s, .int .i64 c.t, .int .i64 c.l, .int .i64 c.q, .int .i64 c.i, .float .f64 c.p, .string c.g]) ∧ Below w.heap.size w w' := by
  obtain ⟨k, s, t, l, q, i, p, g⟩ := c
  have hsf := sfl
  simp only
  go_enter Try.func33, Try.ntmps33
  go_wp2_with fail
  go_returns
  refine ⟨rfl, ?_⟩
  go_grown
end Go.Proofs.Ytfpbpjhnafjcoaa
