/-
  What the two functions that write a text's bytes return, proved by walking them: a row of its own with the number of the bytes of the cut text, and these.
-/
import Derived.Test.YtcemaffeclknkafAppW
import Derived.Test.YtcemaffeclknkafPutNumW
namespace Go.Proofs.Ytcemaffeclknkaf
open Go.RowKit

/-- A text cut to its first 13 bytes. -/
def cutB (s : ByteArray) : ByteArray := if 12 < s.size then s.extract 0 13 else s
theorem cutB_size (s : ByteArray) : (cutB s).size ≤ 13 := by
  unfold cutB; split
  · simp; omega
  · omega
theorem cutB_one (s : ByteArray) (h : s.size = 13) : cutB s = s := by
  unfold cutB; rw [if_pos (by omega), ← h]; exact ByteArray.extract_zero_size
/-- The bytes of a text. -/
def textL (s : ByteArray) : List Int := putU (zz (cutB s).size) ++ bl (cutB s)
theorem textL_len (s : ByteArray) : 0 < (textL s).length ∧ (textL s).length ≤ 1073741824 := by
  have h1 := putU_pos (zz (cutB s).size)
  have h2 := cutB_size s
  have h3 := putU_len10 (zz (cutB s).size) (zz_lt _ (by omega) (by omega))
  rw [textL, List.length_append, bl_len]
  omega

theorem implCut_any (s : ByteArray) (w : World) (hs : s.size ≤ maxLen) :
    Calls Try.prog 20 #[.string s] w fun e w' => e = .returned (.string (cutB s)) ∧ w' = w := by
  unfold maxLen at hs
  by_cases h : 12 < s.size
  · have HF := hide (show cutB s = s.extract 0 13 from if_pos h)
    have h' : (12 : Int) < s.size := by omega
    go_enter Try.func20, Try.ntmps20
    go_wp2
    go_ret
    exact ⟨by rw [unhide HF]; rfl, rfl⟩
  · have HF := hide (show cutB s = s from if_neg h)
    have h' : (s.size : Int) ≤ 12 := by omega
    go_enter Try.func20, Try.ntmps20
    go_wp2
    go_ret
    exact ⟨by rw [unhide HF]; rfl, rfl⟩
theorem specCut_any (s : ByteArray) (w : World) (hs : s.size ≤ maxLen) :
    Calls Try.prog 24 #[.string s] w fun e w' => e = .returned (.string (cutB s)) ∧ w' = w := by
  unfold maxLen at hs
  by_cases h : 13 < s.size
  · have HF := hide (show cutB s = s.extract 0 13 from if_pos (by omega))
    have h' : (13 : Int) < s.size := by omega
    go_enter Try.func24, Try.ntmps24
    go_wp2
    go_ret
    exact ⟨by rw [unhide HF]; rfl, rfl⟩
  · have HF : Hid (cutB s = s) := by
      by_cases h3 : s.size = 13
      · exact cutB_one s h3
      · exact if_neg (by omega)
    have h' : (s.size : Int) ≤ 13 := by omega
    go_enter Try.func24, Try.ntmps24
    go_wp2
    go_ret
    exact ⟨by rw [unhide HF]; rfl, rfl⟩

set_option maxHeartbeats 400000 in
theorem implText_any (s : ByteArray) (w : World) (hs : s.size ≤ maxLen) :
    Calls Try.prog 12 #[.string s] w fun e w' => ∃ v, e = .returned v ∧ OwnT w.heap.size w' v (textL s) ∧ Below w.heap.size w w' := by
  obtain ⟨i0, hi, hz0, hz1, hz2⟩ := info_parts Try.infoByte
  have hc := cutB_size s
  have HT := hide (textL_len s).2
  have HTL := hide (show textL s = putU (zz (cutB s).size) ++ bl (cutB s) from rfl)
  have HC := hide (fun w => implCut_any s w hs)
  generalize cutB s = c at *
  generalize textL s = l at *
  clear hs
  go_enter Try.func12, Try.ntmps12
  go_wp2_with fail
  refine (unhide HC _).mono ?_
  rintro e w0 ⟨rfl, rfl⟩
  go_wp2_with fail
  refine (implPut_any c.size _ (by omega) (by omega)).mono ?_
  rintro e w1 ⟨v1, rfl, ho, hb⟩
  have HO := hide ho
  have HB := hide hb
  clear ho hb
  go_wp2_with (at_builtin; go_must (refine wpList_append_text _ rfl _ _ 23 9 rfl w0.heap.size 5 i0 Try.underlying23 Try.underlying9 hi hz0 hz1 hz2 _ _ rfl (unhide HO) c rfl (by have := unhide HT; rw [unhide HTL, List.length_append, bl_len] at this; exact this) (unhide HB).size ?_); intro v2 w2 ho2 hg2)
  go_ret
  refine ⟨_, rfl, by rw [unhide HTL]; exact ho2, (unhide HB).grown hg2 (unhide HB).size (OwnT.ge (unhide HO))⟩

set_option maxHeartbeats 400000 in
theorem l01Text_any (s : ByteArray) (w : World) (hs : s.size ≤ maxLen) :
    Calls Try.prog 19 #[.string s] w fun e w' => ∃ v, e = .returned v ∧ OwnT w.heap.size w' v (textL s) ∧ Below w.heap.size w w' := by
  obtain ⟨i0, hi, hz0, hz1, hz2⟩ := info_parts Try.infoByte
  have hc := cutB_size s
  have HT := hide (textL_len s).2
  have HTL := hide (show textL s = putU (zz (cutB s).size) ++ bl (cutB s) from rfl)
  have HC := hide (fun w => specCut_any s w hs)
  generalize cutB s = c at *
  generalize textL s = l at *
  clear hs
  go_enter Try.func19, Try.ntmps19
  go_wp2_with fail
  refine (unhide HC _).mono ?_
  rintro e w0 ⟨rfl, rfl⟩
  go_wp2_with fail
  refine (l01Put_any c.size _ (by omega) (by omega)).mono ?_
  rintro e w1 ⟨v1, rfl, ho, hb⟩
  have HO := hide ho
  have HB := hide hb
  clear ho hb
  go_wp2_with (at_builtin; go_must (refine wpList_append_text _ rfl _ _ 23 9 rfl w0.heap.size 5 i0 Try.underlying23 Try.underlying9 hi hz0 hz1 hz2 _ _ rfl (unhide HO) c rfl (by have := unhide HT; rw [unhide HTL, List.length_append, bl_len] at this; exact this) (unhide HB).size ?_); intro v2 w2 ho2 hg2)
  go_ret
  refine ⟨_, rfl, by rw [unhide HTL]; exact ho2, (unhide HB).grown hg2 (unhide HB).size (OwnT.ge (unhide HO))⟩
end Go.Proofs.Ytcemaffeclknkaf
