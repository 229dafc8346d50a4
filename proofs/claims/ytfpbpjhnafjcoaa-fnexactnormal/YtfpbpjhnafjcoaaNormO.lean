/-
  A command in its normal form, as the model makes it: proved by walking the function.
-/
import Derived.Test.YtfpbpjhnafjcoaaCutWs
import Derived.Test.YtfpbpjhnafjcoaaCmB
import Derived.Test.YtfpbpjhnafjcoaaCutW
namespace Go.Proofs.Ytfpbpjhnafjcoaa
open Go.RowKit
set_option linter.unusedVariables false

/-- A command with its tag cut. -/
def nm (c : Cm) : Cm := ⟨c.k, c.s, c.t, c.l, c.q, c.i, c.p, cutB c.g⟩

theorem l02Normal_any (c : Cm) (w : World) (hg : c.g.size ≤ maxLen) :
    Calls Try.prog 32 #[.agg #[.int .i64 c.k, .int .i64 c.s, .int .i64 c.t, .int .i64 c.l, .int .i64 c.q, .int .i64 c.i, .float .f64 c.p, .string c.g]] w fun e w' =>
      e = .returned (.agg #[.int .i64 c.k, .int .i64 c.s, .int .i64 c.t, .int .i64 c.l, .int .i64 c.q, .int .i64 c.i, .float .f64 c.p, .string (cutB c.g)]) ∧ Below w.heap.size w w' := by
  obtain ⟨k, s, t, l, q, i, p, g⟩ := c
  have HS := hide (fun W => specCut_any g W hg)
  have hsf := sfl
  simp only at *
  clear hg
  go_enter Try.func32, Try.ntmps32
  go_wp2_with (go_at_call 50; refine (unhide HS _).mono ?_; rintro e w' ⟨rfl, rfl⟩)
  go_returns
  refine ⟨rfl, ?_⟩
  go_grown
end Go.Proofs.Ytfpbpjhnafjcoaa
