/-
  What the two functions that cut a text return, proved by walking them: the text, or its first 13 bytes.
-/
import Derived.Test.YtaoaomipplmjcaaDj01
namespace Go.Proofs.Ytaoaomipplmjcaa
open Go.RowKit

def cutB (s:ByteArray):ByteArray:=if 12 < s.size then s.extract 0 13 else s
theorem implCut_any (s:ByteArray) (w:World) (hs:s.size ≤ maxLen) :
    Calls Try.prog 22 #[.string s] w fun e w'=>e = .returned (.string (cutB s))∧w' = w:=by
  unfold maxLen at hs
  by_cases h:12 < s.size
  · have HF:=hide (show cutB s = s.extract 0 13 from if_pos h)
    have h':(12:Int) < s.size:=by omega
    go_enter Try.func22,Try.ntmps22
    go_wp2
    go_ret
    exact ⟨by rw [za HF]; rfl,rfl⟩
  · have HF:=hide (show cutB s = s from if_neg h)
    have h':(s.size:Int) ≤ 12:=by omega
    go_enter Try.func22,Try.ntmps22
    go_wp2
    go_ret
    exact ⟨by rw [za HF]; rfl,rfl⟩
end Go.Proofs.Ytaoaomipplmjcaa
