/-
  What the other writer of a number's bytes (the model's own) returns, proved by walking it.
-/
import Derived.Test.YtelnpobhmjdaoaaOwnB
import Derived.Test.YtelnpobhmjdaoaaNum
import Derived.WalkSpells
namespace Go.Proofs.Ytelnpobhmjdaoaa
open Go.RowKit

set_option maxRecDepth 100000 in
set_option maxHeartbeats 800000 in
theorem l01Put_any (n : Int) (w : World) (h0 : -9223372036854775808 ≤ n) (h1 : n ≤ 9223372036854775807) :
    Calls Try.prog 15 #[.int .i64 n] w fun e w' => ∃ v, e = .returned v ∧ OwnT w.heap.size w' v (putU (zz n)) ∧ Below w.heap.size w w' := by
  obtain ⟨i0, hi, hz0, hz1, hz2⟩ := info_parts Try.infoByte
  have HL := hide (putU_len10 _ (zz_lt n h0 h1))
  have HX := hide (not_eq n h0)
  have HY := hide (fun h => twice_eq n h h1)
  clear h0 h1
  rcases Int.lt_or_le n 0 with hn | hn
  all_goals go_enter Try.func15, Try.ntmps15
  all_goals go_wp2_with fail
  all_goals first | rw [unhide HX hn] | rw [unhide HY hn]
  all_goals clear HX HY
  all_goals generalize hz : zz n = u0 at *
  all_goals have HZ := hide hz
  all_goals clear hz
  all_goals go_loopw [3, 4] (fun u v wr => ∃ (x : Nat) (done : List Int), u = .int .u64 x ∧ done ++ putU x = putU u0 ∧ wr.ownsRow w.heap.size 5 1 v done.length (done.map (Value.int .u8)) ∧ Below w.heap.size w wr ∧ w.heap.size < wr.heap.size) (fun u _ _ => (intOf u).toNat)
  case atStart => exact ⟨u0, [], rfl, rfl, World.ownsRow_made _ _ _ (Nat.le_refl _) (by decide) rfl, (Below.refl _ _).alloc (Nat.le_refl _) _, by simp⟩
  case atStart => exact ⟨u0, [], rfl, rfl, World.ownsRow_made _ _ _ (Nat.le_refl _) (by decide) rfl, (Below.refl _ _).alloc (Nat.le_refl _) _, by simp⟩
  all_goals
    obtain ⟨x, done, rfl, hdone, hown, hbel, hsz⟩ := hrel
    have HD := hide hdone
    have hdl := putU_at (unhide HL) hdone
    clear hdone
    by_cases hlt : x < 128
    · have HE := hide (putU_end hlt (unhide HD))
      go_wp2_with (at_builtin; go_must (refine wpList_append_own _ rfl _ _ 24 rfl w.heap.size 5 i0 (.int .u8 0) 1 1 Try.underlying24 hi hz0 hz1 hz2 rfl (by decide) _ _ _ rfl (hown.alloc _) ⟨wr.heap.size, 0, none⟩ 1 1 [.int .u8 (x : Int)] rfl rfl (cell_one_new _ _ _) (by simp [Value.oneCell']) (by unfold maxLen; omega) (by omega) (by simp; omega) ?_); intro v' w1 hown' hgrow _)
      go_ret
      exact ⟨_, rfl, ownT_done hown' ((unhide HE).trans (congrArg putU (unhide HZ).symm)) (by rw [unhide HZ]; have := unhide HL; omega), below_push hbel hown (by omega) hgrow⟩
    · have hlt' : (128 : Int) ≤ x := by omega
      have hor := or128 x
      go_wp2_with (at_builtin; go_must (refine wpList_append_own _ rfl _ _ 24 rfl w.heap.size 5 i0 (.int .u8 0) 1 1 Try.underlying24 hi hz0 hz1 hz2 rfl (by decide) _ _ _ rfl (hown.alloc _) ⟨wr.heap.size, 0, none⟩ 1 1 [.int .u8 ((x : Int) % 128 + 128)] rfl rfl (cell_one_new _ _ _) (by simp [Value.oneCell']) (by unfold maxLen; omega) (by omega) (by simp; omega) ?_); intro v' w1 hown' hgrow _)
      go_roundw
      case rel => exact ⟨x / 128, done ++ [(x : Int) % 128 + 128], by go_num, putU_step hlt (unhide HD), own_push hown', below_push hbel hown (by omega) hgrow, size_push hsz hgrow⟩
      case measure => simp [intOf]; omega
end Go.Proofs.Ytelnpobhmjdaoaa
