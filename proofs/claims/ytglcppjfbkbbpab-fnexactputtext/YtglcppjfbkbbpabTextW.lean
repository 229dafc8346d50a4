/-
  What the two functions that write a text's bytes return, proved by walking them: a row of its own with the number of the bytes of the cut text, and these.
-/
import Derived.Test.YtglcppjfbkbbpabCutWs
import Derived.Test.YtglcppjfbkbbpabAppW
import Derived.Test.YtglcppjfbkbbpabCutW
import Derived.Test.YtglcppjfbkbbpabPutNumW
import Derived.Test.YtglcppjfbkbbpabPutSpec
namespace Go.Proofs.Ytglcppjfbkbbpab
open Go.RowKit

/-- The bytes of a text. -/
def textL (s : ByteArray) : List Int := putU (zz (cutB s).size) ++ bl (cutB s)
theorem textL_len (s : ByteArray) : 0 < (textL s).length ∧ (textL s).length ≤ 1073741824 := by
  have h1 := putU_pos (zz (cutB s).size)
  have h2 := cutB_size s
  have h3 := putU_len10 (zz (cutB s).size) (zz_lt _ (by omega) (by omega))
  rw [textL, List.length_append, bl_len]
  omega

set_option maxHeartbeats 400000 in
theorem implText_any (s : ByteArray) (w : World) (hs : s.size ≤ maxLen) :
    Calls Try.prog 5 #[.string s] w fun e w' => ∃ v, e = .returned v ∧ OwnT w.heap.size w' v (textL s) ∧ Below w.heap.size w w' := by
  obtain ⟨i0, hi, hz0, hz1, hz2⟩ := info_parts Try.infoByte
  have hc := cutB_size s
  have HT := hide (textL_len s).2
  have HTL := hide (show textL s = putU (zz (cutB s).size) ++ bl (cutB s) from rfl)
  have HC := hide (fun w => implCut_any s w hs)
  generalize cutB s = c at *
  generalize textL s = l at *
  clear hs
  go_enter Try.func5, Try.ntmps5
  go_wp2_with fail
  refine (unhide HC _).mono ?_
  rintro e w0 ⟨rfl, rfl⟩
  go_wp2_with fail
  refine (implPut_any c.size _ (by omega) (by omega)).mono ?_
  rintro e w1 ⟨v1, rfl, ho, hb⟩
  have HO := hide ho
  have HB := hide hb
  clear ho hb
  go_wp2_with (at_builtin; go_must (refine wpList_append_text _ rfl _ _ 22 9 rfl w0.heap.size 5 i0 Try.underlying22 Try.underlying9 hi hz0 hz1 hz2 _ _ rfl (unhide HO) c rfl (by have := unhide HT; rw [unhide HTL, List.length_append, bl_len] at this; exact this) (unhide HB).size ?_); intro v2 w2 ho2 hg2)
  go_ret
  refine ⟨_, rfl, by rw [unhide HTL]; exact ho2, (unhide HB).grown hg2 (unhide HB).size (OwnT.ge (unhide HO))⟩

set_option maxHeartbeats 400000 in
theorem l01Text_any (s : ByteArray) (w : World) (hs : s.size ≤ maxLen) :
    Calls Try.prog 9 #[.string s] w fun e w' => ∃ v, e = .returned v ∧ OwnT w.heap.size w' v (textL s) ∧ Below w.heap.size w w' := by
  obtain ⟨i0, hi, hz0, hz1, hz2⟩ := info_parts Try.infoByte
  have hc := cutB_size s
  have HT := hide (textL_len s).2
  have HTL := hide (show textL s = putU (zz (cutB s).size) ++ bl (cutB s) from rfl)
  have HC := hide (fun w => specCut_any s w hs)
  generalize cutB s = c at *
  generalize textL s = l at *
  clear hs
  go_enter Try.func9, Try.ntmps9
  go_wp2_with fail
  refine (unhide HC _).mono ?_
  rintro e w0 ⟨rfl, rfl⟩
  go_wp2_with fail
  refine (l01Put_any c.size _ (by omega) (by omega)).mono ?_
  rintro e w1 ⟨v1, rfl, ho, hb⟩
  have HO := hide ho
  have HB := hide hb
  clear ho hb
  go_wp2_with (at_builtin; go_must (refine wpList_append_text _ rfl _ _ 22 9 rfl w0.heap.size 5 i0 Try.underlying22 Try.underlying9 hi hz0 hz1 hz2 _ _ rfl (unhide HO) c rfl (by have := unhide HT; rw [unhide HTL, List.length_append, bl_len] at this; exact this) (unhide HB).size ?_); intro v2 w2 ho2 hg2)
  go_ret
  refine ⟨_, rfl, by rw [unhide HTL]; exact ho2, (unhide HB).grown hg2 (unhide HB).size (OwnT.ge (unhide HO))⟩
end Go.Proofs.Ytglcppjfbkbbpab
