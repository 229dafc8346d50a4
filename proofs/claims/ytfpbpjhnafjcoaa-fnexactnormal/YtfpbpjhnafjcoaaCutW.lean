/-
  What the two functions that cut a text return, proved by walking them: the text, or its first 13 bytes.
-/
import Derived.Test.YtfpbpjhnafjcoaaBase
namespace Go.Proofs.Ytfpbpjhnafjcoaa
open Go.RowKit

/-- A text cut to its first 13 bytes. -/
def cutB (s : ByteArray) : ByteArray := if 12 < s.size then s.extract 0 13 else s
theorem cutB_size (s : ByteArray) : (cutB s).size ≤ 13 := by
  unfold cutB; split
  · simp; omega
  · omega
theorem cutB_one (s : ByteArray) (h : s.size = 13) : cutB s = s := by
  unfold cutB; rw [if_pos (by omega), ← h]; exact ByteArray.extract_zero_size
theorem implCut_any (s : ByteArray) (w : World) (hs : s.size ≤ maxLen) :
    Calls Try.prog 34 #[.string s] w fun e w' => e = .returned (.string (cutB s)) ∧ w' = w := by
  unfold maxLen at hs
  by_cases h : 12 < s.size
  · have HF := hide (show cutB s = s.extract 0 13 from if_pos h)
    have h' : (12 : Int) < s.size := by omega
    go_enter Try.func34, Try.ntmps34
    go_wp2
    go_ret
    exact ⟨by rw [unhide HF]; rfl, rfl⟩
  · have HF := hide (show cutB s = s from if_neg h)
    have h' : (s.size : Int) ≤ 12 := by omega
    go_enter Try.func34, Try.ntmps34
    go_wp2
    go_ret
    exact ⟨by rw [unhide HF]; rfl, rfl⟩
end Go.Proofs.Ytfpbpjhnafjcoaa
