/-
  What the two functions that write a number's bytes return, proved by walking them: a row of its own with the bytes of the number; nothing that was there is turned.
-/
import Derived.Test.YtfhjbhnfapdmmaaDoorNj02
import Derived.Test.YtfhjbhnfapdmmaaDoorNj16
import Derived.Test.YtfhjbhnfapdmmaaDoorNj23
import Derived.Test.YtfhjbhnfapdmmaaDoorNj24
import Derived.WalkSpells
import Derived.Laws.Externs
import Derived.WalkLawsBesides
namespace Go.Proofs.YtfhjbhnfapdmmaaDoor
open Go.RowKit

theorem fold_any (n : Int) (w : World) (h0 : -9223372036854775808 ≤ n) (h1 : n ≤ 9223372036854775807) :
    Calls Tryd.prog 88 #[.int .i64 n] w fun e w' => e = .returned (.int .u64 (zz n)) ∧ w' = w := by
  have HX := hide (fold_eq n h0 h1)
  go_enter Tryd.func88, Tryd.ntmps88
  go_wp2
  go_ret
  exact ⟨ret_int (unhide HX), rfl⟩

theorem Tryd.arrayLen120 : Tryd.prog.arrayLen 120 = 10 := by kernel_rfl
theorem slice_head10 (B k : Nat) (h : k ≤ 9) (W : World) :
    (Instr.sliceAt 120 (.pointer (some ⟨B, 0, none⟩)) none (some (.int .i64 ((k : Int) + 1))) none).run Tryd.prog W = .ok (.slice (some ⟨B, 0, none⟩) (k + 1) 10) W := by
  rw [run_sliceAt_array_h W 120 _ (by kernel_rfl) _ _ (by omega) (by rw [Tryd.arrayLen120]; omega), Tryd.arrayLen120]
  have e : ((k : Int) + 1).toNat = k + 1 := by omega
  have hs : (sizeOf (Tryd.prog.elem 120)).run Tryd.prog W = .ok 1 W := by kernel_rfl
  rw [hs, e]
  simp [slicedAt, Result.andThen, Addr.add]

set_option maxRecDepth 100000 in
set_option maxHeartbeats 800000 in
theorem implPut_any (n : Int) (w : World) (h0 : -9223372036854775808 ≤ n) (h1 : n ≤ 9223372036854775807) :
    Calls Tryd.prog 76 #[.int .i64 n] w fun e w' => ∃ v, e = .returned v ∧ OwnT w.heap.size w' v (putU (zz n)) ∧ Below w.heap.size w w' := by
  have HL := hide (putU_len10 _ (zz_lt n h0 h1))
  have H6 := hide (zz_lt n h0 h1)
  have HF := hide (fun w => fold_any n w h0 h1)
  clear h0 h1
  generalize hz : zz n = u0 at *
  have HZ := hide hz
  clear hz
  go_enter Tryd.func76, Tryd.ntmps76
  go_wp2_with (go_at_call 88; refine (unhide HF _).mono ?_; rintro e w' ⟨rfl, rfl⟩)
  go_loopw [4, 5] (fun u c wr => ∃ (x : Nat) (done : List Int), u = .int .u64 x ∧ Lt64 x ∧ c = .int .i64 done.length ∧ done ++ putU x = putU u0 ∧ Arr 10 w.heap.size w wr done) (fun u _ _ => (intOf u).toNat)
  case atStart => exact ⟨u0, [], rfl, unhide H6, rfl, rfl, arr_start _ _ _ rfl⟩
  case round =>
    obtain ⟨x, done, rfl, hx, rfl, hdone, harr⟩ := hrel
    have HD := hide hdone
    have hdl := putU_at (unhide HL) hdone
    have hdl' : (done.length : Int) < 10 := by omega
    clear hdone
    obtain ⟨v0, hv0⟩ := harr.some (j := done.length) (by omega)
    have hf0 := harr.free done.length
    by_cases hlt : x < 128
    · have HE := hide (putU_end hlt (unhide HD))
      have HA := hide (arr_step (x : Int) harr (by omega))
      have hsl := slice_head10 w.heap.size done.length (by omega)
      clear harr
      go_wp2_with fail
      go_ret
      have hE := unhide HE
      rw [hE] at HA
      have hlen : done.length + 1 = (putU u0).length := by rw [← hE]; simp
      refine ⟨_, rfl, ?_, (unhide HA).below⟩
      rw [hlen]
      exact arr_own (unhide HA) rfl (by omega)
    · have hlt' : (128 : Int) ≤ x := by omega
      have hand := and127 x hx
      have HA := hide (arr_step ((x : Int) % 128 + 128) harr (by omega))
      clear harr
      go_wp2_with fail
      go_roundw
      case rel => exact ⟨x / 128, done ++ [(x : Int) % 128 + 128], by go_num, by unfold Lt64 at *; omega, by simp, putU_step hlt (unhide HD), unhide HA⟩
      case measure => simp [intOf]; omega
end Go.Proofs.YtfhjbhnfapdmmaaDoor
namespace Go.Proofs.YtfhjbhnfapdmmaaDoor
open Go.RowKit

/-- The bytes of a text. -/
def textL (s : ByteArray) : List Int := putU (zz (cutB s).size) ++ bl (cutB s)
theorem textL_len (s : ByteArray) : 0 < (textL s).length ∧ (textL s).length ≤ 1073741824 := by
  have h1 := putU_pos (zz (cutB s).size)
  have h2 := cutB_size s
  have h3 := putU_len10 (zz (cutB s).size) (zz_lt _ (by omega) (by omega))
  rw [textL, List.length_append, bl_len]
  omega

set_option maxHeartbeats 400000 in
theorem implText_any (s : ByteArray) (w : World) (hs : s.size ≤ maxLen) :
    Calls Tryd.prog 81 #[.string s] w fun e w' => ∃ v, e = .returned v ∧ OwnT w.heap.size w' v (textL s) ∧ Below w.heap.size w w' := by
  obtain ⟨i0, hi, hz0, hz1, hz2⟩ := info_parts Tryd.infoByte
  have hc := cutB_size s
  have HT := hide (textL_len s).2
  have HTL := hide (show textL s = putU (zz (cutB s).size) ++ bl (cutB s) from rfl)
  have HC := hide (fun w => implCut_any s w hs)
  generalize cutB s = c at *
  generalize textL s = l at *
  clear hs
  go_enter Tryd.func81, Tryd.ntmps81
  go_wp2_with fail
  refine (unhide HC _).mono ?_
  rintro e w0 ⟨rfl, rfl⟩
  go_wp2_with fail
  refine (implPut_any c.size _ (by omega) (by omega)).mono ?_
  rintro e w1 ⟨v1, rfl, ho, hb⟩
  have HO := hide ho
  have HB := hide hb
  clear ho hb
  go_wp2_with (at_builtin; go_must (refine wpList_append_text _ rfl _ _ 34 9 rfl w0.heap.size 5 i0 Tryd.underlying34 Tryd.underlying9 hi hz0 hz1 hz2 _ _ rfl (unhide HO) c rfl (by have := unhide HT; rw [unhide HTL, List.length_append, bl_len] at this; exact this) (unhide HB).size ?_); intro v2 w2 ho2 hg2)
  go_ret
  refine ⟨_, rfl, by rw [unhide HTL]; exact ho2, (unhide HB).grown hg2 (unhide HB).size (OwnT.ge (unhide HO))⟩

end Go.Proofs.YtfhjbhnfapdmmaaDoor
namespace Go.Proofs.YtfhjbhnfapdmmaaDoor
open Go.RowKit

/-- The eight bytes of 64 bits, the highest first. -/
def fl8 (u : Nat) : List Int := [(u : Int) / 72057594037927936 % 256, (u : Int) / 281474976710656 % 256, (u : Int) / 1099511627776 % 256, (u : Int) / 4294967296 % 256,
  (u : Int) / 16777216 % 256, (u : Int) / 65536 % 256, (u : Int) / 256 % 256, (u : Int) % 256]
theorem fl8_len (u : Nat) : (fl8 u).length = 8 := rfl

theorem Tryd.arrayLen123 : Tryd.prog.arrayLen 123 = 8 := by kernel_rfl
theorem slice_all8 (B : Nat) (W : World) :
    (Instr.sliceAt 123 (.pointer (some ⟨B, 0, none⟩)) none none none).run Tryd.prog W = .ok (.slice (some ⟨B, 0, none⟩) 8 8) W := by
  rw [run_sliceAt_array_all W 123 _ (by kernel_rfl), Tryd.arrayLen123]
  have hs : (sizeOf (Tryd.prog.elem 123)).run Tryd.prog W = .ok 1 W := by kernel_rfl
  rw [hs]
  simp [slicedAt, Result.andThen, Addr.add]

set_option maxRecDepth 100000 in
set_option maxHeartbeats 800000 in
theorem implFloat_bits (x u : Nat) (w : World) (hu : fbit x = u) :
    Calls Tryd.prog 79 #[.float .f64 x] w fun e w' => ∃ v, e = .returned v ∧ OwnT w.heap.size w' v (fl8 u) ∧ Below w.heap.size w w' := by
  have hsl := slice_all8 w.heap.size
  have HF := hide (fun w => hu ▸ floatBits_any x w)
  clear hu
  go_enter Tryd.func79, Tryd.ntmps79
  go_wp2_with (go_at_call 42; refine (unhide HF _).mono ?_; rintro e w' ⟨rfl, rfl⟩)
  refine wp_loop_rounds 9 ?_
  repeat (rw [rounds_succ]; go_wp2_with fail)
  go_ret
  exact ⟨_, rfl, ⟨_, 8, _, _, rfl, Nat.le_refl _, heap_alloc_new _ _, by rw [fl8_len]; decide, by simp, by unfold maxLen; omega, by rw [fl8_len]; decide, by simp [fl8]⟩, (Below.refl _ _).alloc (Nat.le_refl _) _⟩
theorem implFloat_any (x : Nat) (w : World) :
    Calls Tryd.prog 79 #[.float .f64 x] w fun e w' => ∃ v, e = .returned v ∧ OwnT w.heap.size w' v (fl8 (fbit x)) ∧ Below w.heap.size w w' :=
  implFloat_bits x _ w rfl
end Go.Proofs.YtfhjbhnfapdmmaaDoor
