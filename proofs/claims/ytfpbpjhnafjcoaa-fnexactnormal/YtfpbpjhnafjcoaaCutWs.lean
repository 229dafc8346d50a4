/-
  What the two functions that cut a text return, proved by walking them: the text, or its first 13 bytes. (what walks the functions of the model or of the laws)
-/
import Derived.Test.YtfpbpjhnafjcoaaCutW
namespace Go.Proofs.Ytfpbpjhnafjcoaa
open Go.RowKit

theorem specCut_any (s : ByteArray) (w : World) (hs : s.size ≤ maxLen) :
    Calls Try.prog 50 #[.string s] w fun e w' => e = .returned (.string (cutB s)) ∧ w' = w := by
  unfold maxLen at hs
  by_cases h : 13 < s.size
  · have HF := hide (show cutB s = s.extract 0 13 from if_pos (by omega))
    have h' : (13 : Int) < s.size := by omega
    go_enter Try.func50, Try.ntmps50
    go_wp2
    go_ret
    exact ⟨by rw [unhide HF]; rfl, rfl⟩
  · have HF : Hid (cutB s = s) := by
      by_cases h3 : s.size = 13
      · exact cutB_one s h3
      · exact if_neg (by omega)
    have h' : (s.size : Int) ≤ 13 := by omega
    go_enter Try.func50, Try.ntmps50
    go_wp2
    go_ret
    exact ⟨by rw [unhide HF]; rfl, rfl⟩
end Go.Proofs.Ytfpbpjhnafjcoaa
