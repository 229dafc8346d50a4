/-
  The law of price and time at every slice of bytes: by the walk, and where the slice is too long by itself.
-/
import Derived.Test.YtbakanofkghmiaaGreatPj49
set_option linter.unusedVariables false
set_option maxHeartbeats 6400000
set_option maxRecDepth 100000
namespace Go.Proofs.YtbakanofkghmiaaGreat
open Go.RowKit
theorem lawPri (a0:Option Addr) (len0 cap0:Nat) (z0:List Int) (w:World)
  (w0:(a0 = none∧len0 = 0∧cap0 = 0∧z0 = []) ∨ ∃ x,a0 = some x∧len0 ≤ cap0∧cap0 ≤ maxLen∧z0.length = cap0∧(∀ i,i < z0.length→w.cell? (x.add i) = some (.int .u8 (z0.getD i 0)))∧∀ n ∈ z0,(Lit.int .u8 n).wf = true) :
  Calls Tryz.prog 4 #[.slice a0 len0 cap0] w fun e w'=>e = yk (.bool true)∧yl w w':=by
 by_cases h0:1048576 < len0
 ·have h0':(1048576:Int) < len0:=by omega
  clear w0
  go_enter Tryz.func4,Tryz.ntmps4
  go_wp2_with fail
  go_ret
  exact ⟨rfl,Below.refl _ _⟩
 obtain ⟨e0,r0,b0⟩:=rd_of_row w0 (by omega)
 exact priLaw _ _ w r0 b0 (by omega)
end Go.Proofs.YtbakanofkghmiaaGreat
