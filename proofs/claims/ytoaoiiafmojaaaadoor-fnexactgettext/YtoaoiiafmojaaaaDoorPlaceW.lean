/-
  What the function that looks at a place answers, proved by walking it.
-/
import Derived.Test.YtoaoiiafmojaaaaDoorReadAtI
import Derived.Test.YtoaoiiafmojaaaaDoorGetSpec
import Derived.Test.YtoaoiiafmojaaaaDoorCopyW
import Derived.Test.YtoaoiiafmojaaaaDoorErrTab
import Derived.Test.YtoaoiiafmojaaaaDoorEqW
namespace Go.Proofs.YtoaoiiafmojaaaaDoor
open Go.RowKit
set_option linter.unusedVariables false

/-- The code of a place. -/
def placeC (l : List Int) (at_ : Int) : Int := if 65536 < l.length then 2 else if at_ < 0 ∨ (l.length : Int) < at_ then 5 else 0
set_option maxRecDepth 100000 in
theorem l01At_any (v : Value) (l : List Int) (at_ : Int) (w : World) (hrd : Rd w v l) :
    Calls Tryd.prog 15 #[v, .int .i64 at_] w fun e w' => e = .returned (.int .i64 (placeC l at_)) ∧ w' = w := by
  obtain ⟨a, cap, rfl, hl, hc⟩ := hrd
  clear hc
  by_cases h1 : 65536 < l.length
  · have HF := hide (show placeC l at_ = 2 from if_pos h1)
    have h1' : (65536 : Int) < l.length := by omega
    go_enter Tryd.func15, Tryd.ntmps15
    go_wp2_with fail
    go_ret
    exact ⟨ret_int (unhide HF).symm, rfl⟩
  have h1' : (l.length : Int) ≤ 65536 := by omega
  by_cases h2 : at_ < 0
  · have HF := hide (show placeC l at_ = 5 by unfold placeC; rw [if_neg h1, if_pos (by omega)])
    go_enter Tryd.func15, Tryd.ntmps15
    go_wp2_with fail
    go_ret
    exact ⟨ret_int (unhide HF).symm, rfl⟩
  have h2' : 0 ≤ at_ := by omega
  by_cases h3 : (l.length : Int) < at_
  · have HF := hide (show placeC l at_ = 5 by unfold placeC; rw [if_neg h1, if_pos (by omega)])
    go_enter Tryd.func15, Tryd.ntmps15
    go_wp2_with fail
    go_ret
    exact ⟨ret_int (unhide HF).symm, rfl⟩
  · have HF := hide (show placeC l at_ = 0 by unfold placeC; rw [if_neg h1, if_neg (by omega)])
    have h3' : at_ ≤ (l.length : Int) := by omega
    go_enter Tryd.func15, Tryd.ntmps15
    go_wp2_with fail
    go_ret
    exact ⟨ret_int (unhide HF).symm, rfl⟩

end Go.Proofs.YtoaoiiafmojaaaaDoor
