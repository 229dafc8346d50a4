/-
  An event decoded by the model, at whatever place: proved by walking the function.
-/
import Derived.Test.YtfhjbhnfapdmmaaDoorNj18
import Derived.Test.YtfhjbhnfapdmmaaDoorNj37
import Derived.Test.YtfhjbhnfapdmmaaDoorNj38
import Derived.Test.YtfhjbhnfapdmmaaDoorNj39
import Derived.Test.YtfhjbhnfapdmmaaDoorNj40
namespace Go.Proofs.YtfhjbhnfapdmmaaDoor
open Go.RowKit
set_option linter.unusedVariables false

theorem decode_any (v : Value) (l : List Int) (k : Nat) (w : World) (hrd : Rd w v l) (hcap : CapOk v) (hb : Bts l) (hl : l.length ≤ 65536) (hk : k ≤ l.length) :
    Calls Tryd.prog 24 #[v, .int .i64 k] w fun e w' => DcEnd w (evA l k) e w' := by
  by_cases h : k < l.length
  · by_cases h1 : l.getD k 0 = 1
    · exact decode1_any v l k w hrd hcap hb hl h h1
    · by_cases h2 : l.getD k 0 = 2
      · exact decode2_any v l k w hrd hcap hb hl h h2
      · by_cases h3 : 1 ≤ l.getD k 0 ∧ l.getD k 0 ≤ 9
        · exact decodeN_any v l k w hrd hcap hb hl h (by omega)
        · exact decodeO_any v l k w hrd hb hl h h3
  · exact decodeE_any v l k w hrd hl (by omega) (by omega)
end Go.Proofs.YtfhjbhnfapdmmaaDoor
namespace Go.Proofs.YtfhjbhnfapdmmaaDoor
open Go.RowKit
set_option linter.unusedVariables false

/-- The code of a place. -/
def placeC (l : List Int) (at_ : Int) : Int := if 65536 < l.length then 2 else if at_ < 0 ∨ (l.length : Int) < at_ then 5 else 0
set_option maxRecDepth 100000 in
theorem l01At_any (v : Value) (l : List Int) (at_ : Int) (w : World) (hrd : Rd w v l) :
    Calls Tryd.prog 23 #[v, .int .i64 at_] w fun e w' => e = .returned (.int .i64 (placeC l at_)) ∧ w' = w := by
  obtain ⟨a, cap, rfl, hl, hc⟩ := hrd
  clear hc
  by_cases h1 : 65536 < l.length
  · have HF := hide (show placeC l at_ = 2 from if_pos h1)
    have h1' : (65536 : Int) < l.length := by omega
    go_enter Tryd.func23, Tryd.ntmps23
    go_wp2_with fail
    go_ret
    exact ⟨ret_int (unhide HF).symm, rfl⟩
  have h1' : (l.length : Int) ≤ 65536 := by omega
  by_cases h2 : at_ < 0
  · have HF := hide (show placeC l at_ = 5 by unfold placeC; rw [if_neg h1, if_pos (by omega)])
    go_enter Tryd.func23, Tryd.ntmps23
    go_wp2_with fail
    go_ret
    exact ⟨ret_int (unhide HF).symm, rfl⟩
  have h2' : 0 ≤ at_ := by omega
  by_cases h3 : (l.length : Int) < at_
  · have HF := hide (show placeC l at_ = 5 by unfold placeC; rw [if_neg h1, if_pos (by omega)])
    go_enter Tryd.func23, Tryd.ntmps23
    go_wp2_with fail
    go_ret
    exact ⟨ret_int (unhide HF).symm, rfl⟩
  · have HF := hide (show placeC l at_ = 0 by unfold placeC; rw [if_neg h1, if_neg (by omega)])
    have h3' : at_ ≤ (l.length : Int) := by omega
    go_enter Tryd.func23, Tryd.ntmps23
    go_wp2_with fail
    go_ret
    exact ⟨ret_int (unhide HF).symm, rfl⟩
end Go.Proofs.YtfhjbhnfapdmmaaDoor
