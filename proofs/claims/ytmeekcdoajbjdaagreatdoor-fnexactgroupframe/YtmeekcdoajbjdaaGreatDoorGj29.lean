/-
  What the other writer of a number's bytes (the model's own) returns, proved by walking it.
-/
import Derived.Test.YtmeekcdoajbjdaaGreatDoorGj01
import Derived.Test.YtmeekcdoajbjdaaGreatDoorGj13
import Derived.Test.YtmeekcdoajbjdaaGreatDoorGj14
import Derived.Test.YtmeekcdoajbjdaaGreatDoorGj15
import Derived.WalkSpells
import Derived.Laws.Externs
import Derived.WalkLawsBesides
namespace Go.Proofs.YtmeekcdoajbjdaaGreatDoor
open Go.RowKit

set_option maxRecDepth 100000 in
set_option maxHeartbeats 800000 in
theorem l01Put_any (n : Int) (w : World) (h0 : -9223372036854775808 ≤ n) (h1 : n ≤ 9223372036854775807) :
    Calls Tryz.prog 27 #[.int .i64 n] w fun e w' => ∃ v, e = .returned v ∧ OwnT w.heap.size w' v (putU (zz n)) ∧ Below w.heap.size w w' := by
  obtain ⟨i0, hi, hz0, hz1, hz2⟩ := info_parts Tryz.infoByte
  have HL := hide (putU_len10 _ (zz_lt n h0 h1))
  have HX := hide (not_eq n h0)
  have HY := hide (fun h => twice_eq n h h1)
  clear h0 h1
  rcases Int.lt_or_le n 0 with hn | hn
  all_goals go_enter Tryz.func27, Tryz.ntmps27
  all_goals go_wp2_with fail
  all_goals first | rw [unhide HX hn] | rw [unhide HY hn]
  all_goals clear HX HY
  all_goals generalize hz : zz n = u0 at *
  all_goals have HZ := hide hz
  all_goals clear hz
  all_goals go_loopw [3, 4] (fun u v wr => ∃ (x : Nat) (done : List Int), u = .int .u64 x ∧ done ++ putU x = putU u0 ∧ wr.ownsRow w.heap.size 5 1 v done.length (done.map (Value.int .u8)) ∧ Below w.heap.size w wr ∧ w.heap.size < wr.heap.size) (fun u _ _ => (intOf u).toNat)
  case atStart => exact ⟨u0, [], rfl, rfl, World.ownsRow_made _ _ _ (Nat.le_refl _) (by decide) rfl, (Below.refl _ _).alloc (Nat.le_refl _) _, by simp⟩
  case atStart => exact ⟨u0, [], rfl, rfl, World.ownsRow_made _ _ _ (Nat.le_refl _) (by decide) rfl, (Below.refl _ _).alloc (Nat.le_refl _) _, by simp⟩
  all_goals
    obtain ⟨x, done, rfl, hdone, hown, hbel, hsz⟩ := hrel
    have HD := hide hdone
    have hdl := putU_at (unhide HL) hdone
    clear hdone
    by_cases hlt : x < 128
    · have HE := hide (putU_end hlt (unhide HD))
      go_wp2_with (at_builtin; go_must (refine wpList_append_own _ rfl _ _ 24 rfl w.heap.size 5 i0 (.int .u8 0) 1 1 Tryz.underlying24 hi hz0 hz1 hz2 rfl (by decide) _ _ _ rfl (hown.alloc _) ⟨wr.heap.size, 0, none⟩ 1 1 [.int .u8 (x : Int)] rfl rfl (cell_one_new _ _ _) (by simp [Value.oneCell']) (by unfold maxLen; omega) (by omega) (by simp; omega) ?_); intro v' w1 hown' hgrow _)
      go_ret
      exact ⟨_, rfl, ownT_done hown' ((unhide HE).trans (congrArg putU (unhide HZ).symm)) (by rw [unhide HZ]; have := unhide HL; omega), below_push hbel hown (by omega) hgrow⟩
    · have hlt' : (128 : Int) ≤ x := by omega
      have hor := or128 x
      go_wp2_with (at_builtin; go_must (refine wpList_append_own _ rfl _ _ 24 rfl w.heap.size 5 i0 (.int .u8 0) 1 1 Tryz.underlying24 hi hz0 hz1 hz2 rfl (by decide) _ _ _ rfl (hown.alloc _) ⟨wr.heap.size, 0, none⟩ 1 1 [.int .u8 ((x : Int) % 128 + 128)] rfl rfl (cell_one_new _ _ _) (by simp [Value.oneCell']) (by unfold maxLen; omega) (by omega) (by simp; omega) ?_); intro v' w1 hown' hgrow _)
      go_roundw
      case rel => exact ⟨x / 128, done ++ [(x : Int) % 128 + 128], by go_num, putU_step hlt (unhide HD), own_push hown', below_push hbel hown (by omega) hgrow, size_push hsz hgrow⟩
      case measure => simp [intOf]; omega
end Go.Proofs.YtmeekcdoajbjdaaGreatDoor
namespace Go.Proofs.YtmeekcdoajbjdaaGreatDoor
open Go.RowKit

theorem l01Bits_any (x : Nat) (w : World) :
    Calls Tryz.prog 47 #[.float .f64 x] w fun e w' => e = .returned (.int .u64 (fbit x)) ∧ w' = w := by
  have hb := fbits
  cases h : nanB x with
  | true =>
    have HF := hide (show fbit x = 9221120237041090560 from if_pos h)
    have h' : (FloatKind.f64.format.order x x != some Ordering.eq) = true := h
    clear h
    go_enter Tryz.func47, Tryz.ntmps47
    go_wp2
    go_ret
    exact ⟨ret_int (by rw [unhide HF]; rfl), rfl⟩
  | false =>
    have HF := hide (show fbit x = x from if_neg (by rw [h]; decide))
    have h' : (FloatKind.f64.format.order x x != some Ordering.eq) = false := h
    clear h
    go_enter Tryz.func47, Tryz.ntmps47
    go_wp2
    go_ret
    exact ⟨ret_int (by rw [unhide HF]), rfl⟩

set_option maxRecDepth 100000 in
set_option maxHeartbeats 800000 in
theorem l01Float_any (x : Nat) (w : World) :
    Calls Tryz.prog 39 #[.float .f64 x] w fun e w' => ∃ v, e = .returned v ∧ OwnT w.heap.size w' v (fl8 (fbit x)) ∧ Below w.heap.size w w' := by
  obtain ⟨i0, hi, hz0, hz1, hz2⟩ := info_parts Tryz.infoByte
  have HC := hide (fun w => l01Bits_any x w)
  generalize fbit x = u at *
  go_enter Tryz.func39, Tryz.ntmps39
  go_wp2_with fail
  refine (unhide HC _).mono ?_
  rintro e w0 ⟨rfl, rfl⟩
  go_wp2_with fail
  go_loopw [4, 5] (fun v i wr => ∃ k : Nat, k ≤ 8 ∧ i = .int .i64 (7 - (k : Int)) ∧ wr.ownsRow w0.heap.size 5 1 v ((fl8 u).take k).length (((fl8 u).take k).map (Value.int .u8)) ∧ Below w0.heap.size w0 wr ∧ w0.heap.size < wr.heap.size) (fun _ i _ => (intOf i + 1).toNat)
  case atStart => exact ⟨0, by omega, rfl, World.ownsRow_made _ _ _ (Nat.le_refl _) (by decide) rfl, (Below.refl _ _).alloc (Nat.le_refl _) _, by simp⟩
  case round =>
    obtain ⟨k, hk, rfl, hown, hbel, hsz⟩ := hrel
    rcases (show k = 0 ∨ k = 1 ∨ k = 2 ∨ k = 3 ∨ k = 4 ∨ k = 5 ∨ k = 6 ∨ k = 7 ∨ k = 8 by omega) with rfl | rfl | rfl | rfl | rfl | rfl | rfl | rfl | rfl
    case inr.inr.inr.inr.inr.inr.inr.inr =>
      go_wp2_with fail
      go_ret
      exact ⟨_, rfl, ownT_row (by simp [fl8]) (by simp [fl8]) (by simpa [fl8] using hown), hbel⟩
    · go_wp2_with (at_builtin; go_must (refine wpList_append_own _ rfl _ _ 24 rfl w0.heap.size 5 i0 (.int .u8 0) 1 1 Tryz.underlying24 hi hz0 hz1 hz2 rfl (by decide) _ _ _ rfl (hown.alloc _) ⟨wr.heap.size, 0, none⟩ 1 1 [_] rfl rfl (cell_one_new _ _ _) (by simp [Value.oneCell']) (by simp [fl8]; unfold maxLen; omega) (by simp [fl8]) (by simp; omega) ?_); intro v' w1 hown' hgrow _)
      go_roundw
      case rel => exact ⟨1, by omega, by go_num, by simpa [fl8] using hown', below_push hbel hown (by omega) hgrow, size_push hsz hgrow⟩
      case measure => simp [intOf]
    · go_wp2_with (at_builtin; go_must (refine wpList_append_own _ rfl _ _ 24 rfl w0.heap.size 5 i0 (.int .u8 0) 1 1 Tryz.underlying24 hi hz0 hz1 hz2 rfl (by decide) _ _ _ rfl (hown.alloc _) ⟨wr.heap.size, 0, none⟩ 1 1 [_] rfl rfl (cell_one_new _ _ _) (by simp [Value.oneCell']) (by simp [fl8]; unfold maxLen; omega) (by simp [fl8]) (by simp; omega) ?_); intro v' w1 hown' hgrow _)
      go_roundw
      case rel => exact ⟨2, by omega, by go_num, by simpa [fl8] using hown', below_push hbel hown (by omega) hgrow, size_push hsz hgrow⟩
      case measure => simp [intOf]
    · go_wp2_with (at_builtin; go_must (refine wpList_append_own _ rfl _ _ 24 rfl w0.heap.size 5 i0 (.int .u8 0) 1 1 Tryz.underlying24 hi hz0 hz1 hz2 rfl (by decide) _ _ _ rfl (hown.alloc _) ⟨wr.heap.size, 0, none⟩ 1 1 [_] rfl rfl (cell_one_new _ _ _) (by simp [Value.oneCell']) (by simp [fl8]; unfold maxLen; omega) (by simp [fl8]) (by simp; omega) ?_); intro v' w1 hown' hgrow _)
      go_roundw
      case rel => exact ⟨3, by omega, by go_num, by simpa [fl8] using hown', below_push hbel hown (by omega) hgrow, size_push hsz hgrow⟩
      case measure => simp [intOf]
    · go_wp2_with (at_builtin; go_must (refine wpList_append_own _ rfl _ _ 24 rfl w0.heap.size 5 i0 (.int .u8 0) 1 1 Tryz.underlying24 hi hz0 hz1 hz2 rfl (by decide) _ _ _ rfl (hown.alloc _) ⟨wr.heap.size, 0, none⟩ 1 1 [_] rfl rfl (cell_one_new _ _ _) (by simp [Value.oneCell']) (by simp [fl8]; unfold maxLen; omega) (by simp [fl8]) (by simp; omega) ?_); intro v' w1 hown' hgrow _)
      go_roundw
      case rel => exact ⟨4, by omega, by go_num, by simpa [fl8] using hown', below_push hbel hown (by omega) hgrow, size_push hsz hgrow⟩
      case measure => simp [intOf]
    · go_wp2_with (at_builtin; go_must (refine wpList_append_own _ rfl _ _ 24 rfl w0.heap.size 5 i0 (.int .u8 0) 1 1 Tryz.underlying24 hi hz0 hz1 hz2 rfl (by decide) _ _ _ rfl (hown.alloc _) ⟨wr.heap.size, 0, none⟩ 1 1 [_] rfl rfl (cell_one_new _ _ _) (by simp [Value.oneCell']) (by simp [fl8]; unfold maxLen; omega) (by simp [fl8]) (by simp; omega) ?_); intro v' w1 hown' hgrow _)
      go_roundw
      case rel => exact ⟨5, by omega, by go_num, by simpa [fl8] using hown', below_push hbel hown (by omega) hgrow, size_push hsz hgrow⟩
      case measure => simp [intOf]
    · go_wp2_with (at_builtin; go_must (refine wpList_append_own _ rfl _ _ 24 rfl w0.heap.size 5 i0 (.int .u8 0) 1 1 Tryz.underlying24 hi hz0 hz1 hz2 rfl (by decide) _ _ _ rfl (hown.alloc _) ⟨wr.heap.size, 0, none⟩ 1 1 [_] rfl rfl (cell_one_new _ _ _) (by simp [Value.oneCell']) (by simp [fl8]; unfold maxLen; omega) (by simp [fl8]) (by simp; omega) ?_); intro v' w1 hown' hgrow _)
      go_roundw
      case rel => exact ⟨6, by omega, by go_num, by simpa [fl8] using hown', below_push hbel hown (by omega) hgrow, size_push hsz hgrow⟩
      case measure => simp [intOf]
    · go_wp2_with (at_builtin; go_must (refine wpList_append_own _ rfl _ _ 24 rfl w0.heap.size 5 i0 (.int .u8 0) 1 1 Tryz.underlying24 hi hz0 hz1 hz2 rfl (by decide) _ _ _ rfl (hown.alloc _) ⟨wr.heap.size, 0, none⟩ 1 1 [_] rfl rfl (cell_one_new _ _ _) (by simp [Value.oneCell']) (by simp [fl8]; unfold maxLen; omega) (by simp [fl8]) (by simp; omega) ?_); intro v' w1 hown' hgrow _)
      go_roundw
      case rel => exact ⟨7, by omega, by go_num, by simpa [fl8] using hown', below_push hbel hown (by omega) hgrow, size_push hsz hgrow⟩
      case measure => simp [intOf]
    · go_wp2_with (at_builtin; go_must (refine wpList_append_own _ rfl _ _ 24 rfl w0.heap.size 5 i0 (.int .u8 0) 1 1 Tryz.underlying24 hi hz0 hz1 hz2 rfl (by decide) _ _ _ rfl (hown.alloc _) ⟨wr.heap.size, 0, none⟩ 1 1 [_] rfl rfl (cell_one_new _ _ _) (by simp [Value.oneCell']) (by simp [fl8]; unfold maxLen; omega) (by simp [fl8]) (by simp; omega) ?_); intro v' w1 hown' hgrow _)
      go_roundw
      case rel => exact ⟨8, by omega, by go_num, by simpa [fl8] using hown', below_push hbel hown (by omega) hgrow, size_push hsz hgrow⟩
      case measure => simp [intOf]
end Go.Proofs.YtmeekcdoajbjdaaGreatDoor
namespace Go.Proofs.YtmeekcdoajbjdaaGreatDoor
open Go.RowKit

theorem specCut_any (s : ByteArray) (w : World) (hs : s.size ≤ maxLen) :
    Calls Tryz.prog 48 #[.string s] w fun e w' => e = .returned (.string (cutB s)) ∧ w' = w := by
  unfold maxLen at hs
  by_cases h : 13 < s.size
  · have HF := hide (show cutB s = s.extract 0 13 from if_pos (by omega))
    have h' : (13 : Int) < s.size := by omega
    go_enter Tryz.func48, Tryz.ntmps48
    go_wp2
    go_ret
    exact ⟨by rw [unhide HF]; rfl, rfl⟩
  · have HF : Hid (cutB s = s) := by
      by_cases h3 : s.size = 13
      · exact cutB_one s h3
      · exact if_neg (by omega)
    have h' : (s.size : Int) ≤ 13 := by omega
    go_enter Tryz.func48, Tryz.ntmps48
    go_wp2
    go_ret
    exact ⟨by rw [unhide HF]; rfl, rfl⟩
end Go.Proofs.YtmeekcdoajbjdaaGreatDoor
namespace Go.Proofs.YtmeekcdoajbjdaaGreatDoor
open Go.RowKit

set_option maxHeartbeats 400000 in
theorem l01Text_any (s : ByteArray) (w : World) (hs : s.size ≤ maxLen) :
    Calls Tryz.prog 40 #[.string s] w fun e w' => ∃ v, e = .returned v ∧ OwnT w.heap.size w' v (textL s) ∧ Below w.heap.size w w' := by
  obtain ⟨i0, hi, hz0, hz1, hz2⟩ := info_parts Tryz.infoByte
  have hc := cutB_size s
  have HT := hide (textL_len s).2
  have HTL := hide (show textL s = putU (zz (cutB s).size) ++ bl (cutB s) from rfl)
  have HC := hide (fun w => specCut_any s w hs)
  generalize cutB s = c at *
  generalize textL s = l at *
  clear hs
  go_enter Tryz.func40, Tryz.ntmps40
  go_wp2_with fail
  refine (unhide HC _).mono ?_
  rintro e w0 ⟨rfl, rfl⟩
  go_wp2_with fail
  refine (l01Put_any c.size _ (by omega) (by omega)).mono ?_
  rintro e w1 ⟨v1, rfl, ho, hb⟩
  have HO := hide ho
  have HB := hide hb
  clear ho hb
  go_wp2_with (at_builtin; go_must (refine wpList_append_text _ rfl _ _ 24 9 rfl w0.heap.size 5 i0 Tryz.underlying24 Tryz.underlying9 hi hz0 hz1 hz2 _ _ rfl (unhide HO) c rfl (by have := unhide HT; rw [unhide HTL, List.length_append, bl_len] at this; exact this) (unhide HB).size ?_); intro v2 w2 ho2 hg2)
  go_ret
  refine ⟨_, rfl, by rw [unhide HTL]; exact ho2, (unhide HB).grown hg2 (unhide HB).size (OwnT.ge (unhide HO))⟩
end Go.Proofs.YtmeekcdoajbjdaaGreatDoor
