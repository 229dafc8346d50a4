/-
  What the two functions that write a number's bytes return, proved by walking them: a row of its own with the bytes of the number; nothing that was there is turned.
-/
import Derived.Test.YtfhjbhnfapdmmaaDoorOj02
import Derived.Test.YtfhjbhnfapdmmaaDoorOj25
import Derived.WalkSpells
namespace Go.Proofs.YtfhjbhnfapdmmaaDoor
open Go.RowKit

theorem fold_any (n : Int) (w : World) (h0 : -9223372036854775808 ≤ n) (h1 : n ≤ 9223372036854775807) :
    Calls Tryd.prog 88 #[.int .i64 n] w fun e w' => e = .returned (.int .u64 (zz n)) ∧ w' = w := by
  have HX := hide (fold_eq n h0 h1)
  go_enter Tryd.func88, Tryd.ntmps88
  go_wp2
  go_ret
  exact ⟨ret_int (unhide HX), rfl⟩

theorem Tryd.arrayLen120 : Tryd.prog.arrayLen 120 = 10 := by kernel_rfl
theorem slice_head10 (B k : Nat) (h : k ≤ 9) (W : World) :
    (Instr.sliceAt 120 (.pointer (some ⟨B, 0, none⟩)) none (some (.int .i64 ((k : Int) + 1))) none).run Tryd.prog W = .ok (.slice (some ⟨B, 0, none⟩) (k + 1) 10) W := by
  rw [run_sliceAt_array_h W 120 _ (by kernel_rfl) _ _ (by omega) (by rw [Tryd.arrayLen120]; omega), Tryd.arrayLen120]
  have e : ((k : Int) + 1).toNat = k + 1 := by omega
  have hs : (sizeOf (Tryd.prog.elem 120)).run Tryd.prog W = .ok 1 W := by kernel_rfl
  rw [hs, e]
  simp [slicedAt, Result.andThen, Addr.add]

set_option maxRecDepth 100000 in
set_option maxHeartbeats 800000 in
theorem implPut_any (n : Int) (w : World) (h0 : -9223372036854775808 ≤ n) (h1 : n ≤ 9223372036854775807) :
    Calls Tryd.prog 76 #[.int .i64 n] w fun e w' => ∃ v, e = .returned v ∧ OwnT w.heap.size w' v (putU (zz n)) ∧ Below w.heap.size w w' := by
  have HL := hide (putU_len10 _ (zz_lt n h0 h1))
  have H6 := hide (zz_lt n h0 h1)
  have HF := hide (fun w => fold_any n w h0 h1)
  clear h0 h1
  generalize hz : zz n = u0 at *
  have HZ := hide hz
  clear hz
  go_enter Tryd.func76, Tryd.ntmps76
  go_wp2_with (go_at_call 88; refine (unhide HF _).mono ?_; rintro e w' ⟨rfl, rfl⟩)
  go_loopw [4, 5] (fun u c wr => ∃ (x : Nat) (done : List Int), u = .int .u64 x ∧ Lt64 x ∧ c = .int .i64 done.length ∧ done ++ putU x = putU u0 ∧ Arr 10 w.heap.size w wr done) (fun u _ _ => (intOf u).toNat)
  case atStart => exact ⟨u0, [], rfl, unhide H6, rfl, rfl, arr_start _ _ _ rfl⟩
  case round =>
    obtain ⟨x, done, rfl, hx, rfl, hdone, harr⟩ := hrel
    have HD := hide hdone
    have hdl := putU_at (unhide HL) hdone
    have hdl' : (done.length : Int) < 10 := by omega
    clear hdone
    obtain ⟨v0, hv0⟩ := harr.some (j := done.length) (by omega)
    have hf0 := harr.free done.length
    by_cases hlt : x < 128
    · have HE := hide (putU_end hlt (unhide HD))
      have HA := hide (arr_step (x : Int) harr (by omega))
      have hsl := slice_head10 w.heap.size done.length (by omega)
      clear harr
      go_wp2_with fail
      go_ret
      have hE := unhide HE
      rw [hE] at HA
      have hlen : done.length + 1 = (putU u0).length := by rw [← hE]; simp
      refine ⟨_, rfl, ?_, (unhide HA).below⟩
      rw [hlen]
      exact arr_own (unhide HA) rfl (by omega)
    · have hlt' : (128 : Int) ≤ x := by omega
      have hand := and127 x hx
      have HA := hide (arr_step ((x : Int) % 128 + 128) harr (by omega))
      clear harr
      go_wp2_with fail
      go_roundw
      case rel => exact ⟨x / 128, done ++ [(x : Int) % 128 + 128], by go_num, by unfold Lt64 at *; omega, by simp, putU_step hlt (unhide HD), unhide HA⟩
      case measure => simp [intOf]; omega
end Go.Proofs.YtfhjbhnfapdmmaaDoor
