/-
  What the two functions that write a float's bytes return, proved by walking them: a row of its own with the eight bytes of its bits, those of every NaN being one.
-/
import Derived.Test.YtcemaffeclknkafOwnW
import Derived.Laws.Externs
import Derived.WalkLawsBesides
import Derived.WalkSpells
namespace Go.Proofs.Ytcemaffeclknkaf
open Go.RowKit

theorem fbits (x : Nat) (w : World) : (callFunc 17 #[.float .f64 x]).run Try.prog w = .ok (.value (.int .u64 x)) w := by
  rw [run_callFunc_extern (e := Extern.MathFloatBits.float64bits) Try.func17 (by kernel_rfl) (by kernel_rfl) (by kernel_rfl) (by kernel_rfl)]
  rfl

/-- The float is a NaN. -/
def nanB (x : Nat) : Bool := FloatKind.f64.format.order x x != some Ordering.eq
/-- A float's bits; of every NaN the same. -/
def fbit (x : Nat) : Nat := if nanB x = true then 9221120237041090560 else x
/-- The eight bytes of 64 bits, the highest first. -/
def fl8 (u : Nat) : List Int := [(u : Int) / 72057594037927936 % 256, (u : Int) / 281474976710656 % 256, (u : Int) / 1099511627776 % 256, (u : Int) / 4294967296 % 256,
  (u : Int) / 16777216 % 256, (u : Int) / 65536 % 256, (u : Int) / 256 % 256, (u : Int) % 256]
theorem fl8_len (u : Nat) : (fl8 u).length = 8 := rfl

theorem isNaN_any (x : Nat) (w : World) :
    Calls Try.prog 18 #[.float .f64 x] w fun e w' => e = .returned (.bool (nanB x)) ∧ w' = w := by
  go_enter Try.func18, Try.ntmps18
  go_wp2
  go_ret
  exact ⟨rfl, rfl⟩
theorem l01Bits_any (x : Nat) (w : World) :
    Calls Try.prog 23 #[.float .f64 x] w fun e w' => e = .returned (.int .u64 (fbit x)) ∧ w' = w := by
  have hb := fbits
  cases h : nanB x with
  | true =>
    have HF := hide (show fbit x = 9221120237041090560 from if_pos h)
    have h' : (FloatKind.f64.format.order x x != some Ordering.eq) = true := h
    clear h
    go_enter Try.func23, Try.ntmps23
    go_wp2
    go_ret
    exact ⟨ret_int (by rw [unhide HF]; rfl), rfl⟩
  | false =>
    have HF := hide (show fbit x = x from if_neg (by rw [h]; decide))
    have h' : (FloatKind.f64.format.order x x != some Ordering.eq) = false := h
    clear h
    go_enter Try.func23, Try.ntmps23
    go_wp2
    go_ret
    exact ⟨ret_int (by rw [unhide HF]), rfl⟩

set_option maxRecDepth 100000 in
set_option maxHeartbeats 800000 in
theorem l01Float_any (x : Nat) (w : World) :
    Calls Try.prog 16 #[.float .f64 x] w fun e w' => ∃ v, e = .returned v ∧ OwnT w.heap.size w' v (fl8 (fbit x)) ∧ Below w.heap.size w w' := by
  obtain ⟨i0, hi, hz0, hz1, hz2⟩ := info_parts Try.infoByte
  have HC := hide (fun w => l01Bits_any x w)
  generalize fbit x = u at *
  go_enter Try.func16, Try.ntmps16
  go_wp2_with fail
  refine (unhide HC _).mono ?_
  rintro e w0 ⟨rfl, rfl⟩
  go_wp2_with fail
  go_loopw [4, 5] (fun v i wr => ∃ k : Nat, k ≤ 8 ∧ i = .int .i64 (7 - (k : Int)) ∧ wr.ownsRow w0.heap.size 5 1 v ((fl8 u).take k).length (((fl8 u).take k).map (Value.int .u8)) ∧ Below w0.heap.size w0 wr ∧ w0.heap.size < wr.heap.size) (fun _ i _ => (intOf i + 1).toNat)
  case atStart => exact ⟨0, by omega, rfl, World.ownsRow_made _ _ _ (Nat.le_refl _) (by decide) rfl, (Below.refl _ _).alloc (Nat.le_refl _) _, by simp⟩
  case round =>
    obtain ⟨k, hk, rfl, hown, hbel, hsz⟩ := hrel
    rcases (show k = 0 ∨ k = 1 ∨ k = 2 ∨ k = 3 ∨ k = 4 ∨ k = 5 ∨ k = 6 ∨ k = 7 ∨ k = 8 by omega) with rfl | rfl | rfl | rfl | rfl | rfl | rfl | rfl | rfl
    case inr.inr.inr.inr.inr.inr.inr.inr =>
      go_wp2_with fail
      go_ret
      exact ⟨_, rfl, ownT_row (by simp [fl8]) (by simp [fl8]) (by simpa [fl8] using hown), hbel⟩
    · go_wp2_with (at_builtin; go_must (refine wpList_append_own _ rfl _ _ 23 rfl w0.heap.size 5 i0 (.int .u8 0) 1 1 Try.underlying23 hi hz0 hz1 hz2 rfl (by decide) _ _ _ rfl (hown.alloc _) ⟨wr.heap.size, 0, none⟩ 1 1 [_] rfl rfl (cell_one_new _ _ _) (by simp [Value.oneCell']) (by simp [fl8]; unfold maxLen; omega) (by simp [fl8]) (by simp; omega) ?_); intro v' w1 hown' hgrow _)
      go_roundw
      case rel => exact ⟨1, by omega, by go_num, by simpa [fl8] using hown', below_push hbel hown (by omega) hgrow, size_push hsz hgrow⟩
      case measure => simp [intOf]
    · go_wp2_with (at_builtin; go_must (refine wpList_append_own _ rfl _ _ 23 rfl w0.heap.size 5 i0 (.int .u8 0) 1 1 Try.underlying23 hi hz0 hz1 hz2 rfl (by decide) _ _ _ rfl (hown.alloc _) ⟨wr.heap.size, 0, none⟩ 1 1 [_] rfl rfl (cell_one_new _ _ _) (by simp [Value.oneCell']) (by simp [fl8]; unfold maxLen; omega) (by simp [fl8]) (by simp; omega) ?_); intro v' w1 hown' hgrow _)
      go_roundw
      case rel => exact ⟨2, by omega, by go_num, by simpa [fl8] using hown', below_push hbel hown (by omega) hgrow, size_push hsz hgrow⟩
      case measure => simp [intOf]
    · go_wp2_with (at_builtin; go_must (refine wpList_append_own _ rfl _ _ 23 rfl w0.heap.size 5 i0 (.int .u8 0) 1 1 Try.underlying23 hi hz0 hz1 hz2 rfl (by decide) _ _ _ rfl (hown.alloc _) ⟨wr.heap.size, 0, none⟩ 1 1 [_] rfl rfl (cell_one_new _ _ _) (by simp [Value.oneCell']) (by simp [fl8]; unfold maxLen; omega) (by simp [fl8]) (by simp; omega) ?_); intro v' w1 hown' hgrow _)
      go_roundw
      case rel => exact ⟨3, by omega, by go_num, by simpa [fl8] using hown', below_push hbel hown (by omega) hgrow, size_push hsz hgrow⟩
      case measure => simp [intOf]
    · go_wp2_with (at_builtin; go_must (refine wpList_append_own _ rfl _ _ 23 rfl w0.heap.size 5 i0 (.int .u8 0) 1 1 Try.underlying23 hi hz0 hz1 hz2 rfl (by decide) _ _ _ rfl (hown.alloc _) ⟨wr.heap.size, 0, none⟩ 1 1 [_] rfl rfl (cell_one_new _ _ _) (by simp [Value.oneCell']) (by simp [fl8]; unfold maxLen; omega) (by simp [fl8]) (by simp; omega) ?_); intro v' w1 hown' hgrow _)
      go_roundw
      case rel => exact ⟨4, by omega, by go_num, by simpa [fl8] using hown', below_push hbel hown (by omega) hgrow, size_push hsz hgrow⟩
      case measure => simp [intOf]
    · go_wp2_with (at_builtin; go_must (refine wpList_append_own _ rfl _ _ 23 rfl w0.heap.size 5 i0 (.int .u8 0) 1 1 Try.underlying23 hi hz0 hz1 hz2 rfl (by decide) _ _ _ rfl (hown.alloc _) ⟨wr.heap.size, 0, none⟩ 1 1 [_] rfl rfl (cell_one_new _ _ _) (by simp [Value.oneCell']) (by simp [fl8]; unfold maxLen; omega) (by simp [fl8]) (by simp; omega) ?_); intro v' w1 hown' hgrow _)
      go_roundw
      case rel => exact ⟨5, by omega, by go_num, by simpa [fl8] using hown', below_push hbel hown (by omega) hgrow, size_push hsz hgrow⟩
      case measure => simp [intOf]
    · go_wp2_with (at_builtin; go_must (refine wpList_append_own _ rfl _ _ 23 rfl w0.heap.size 5 i0 (.int .u8 0) 1 1 Try.underlying23 hi hz0 hz1 hz2 rfl (by decide) _ _ _ rfl (hown.alloc _) ⟨wr.heap.size, 0, none⟩ 1 1 [_] rfl rfl (cell_one_new _ _ _) (by simp [Value.oneCell']) (by simp [fl8]; unfold maxLen; omega) (by simp [fl8]) (by simp; omega) ?_); intro v' w1 hown' hgrow _)
      go_roundw
      case rel => exact ⟨6, by omega, by go_num, by simpa [fl8] using hown', below_push hbel hown (by omega) hgrow, size_push hsz hgrow⟩
      case measure => simp [intOf]
    · go_wp2_with (at_builtin; go_must (refine wpList_append_own _ rfl _ _ 23 rfl w0.heap.size 5 i0 (.int .u8 0) 1 1 Try.underlying23 hi hz0 hz1 hz2 rfl (by decide) _ _ _ rfl (hown.alloc _) ⟨wr.heap.size, 0, none⟩ 1 1 [_] rfl rfl (cell_one_new _ _ _) (by simp [Value.oneCell']) (by simp [fl8]; unfold maxLen; omega) (by simp [fl8]) (by simp; omega) ?_); intro v' w1 hown' hgrow _)
      go_roundw
      case rel => exact ⟨7, by omega, by go_num, by simpa [fl8] using hown', below_push hbel hown (by omega) hgrow, size_push hsz hgrow⟩
      case measure => simp [intOf]
    · go_wp2_with (at_builtin; go_must (refine wpList_append_own _ rfl _ _ 23 rfl w0.heap.size 5 i0 (.int .u8 0) 1 1 Try.underlying23 hi hz0 hz1 hz2 rfl (by decide) _ _ _ rfl (hown.alloc _) ⟨wr.heap.size, 0, none⟩ 1 1 [_] rfl rfl (cell_one_new _ _ _) (by simp [Value.oneCell']) (by simp [fl8]; unfold maxLen; omega) (by simp [fl8]) (by simp; omega) ?_); intro v' w1 hown' hgrow _)
      go_roundw
      case rel => exact ⟨8, by omega, by go_num, by simpa [fl8] using hown', below_push hbel hown (by omega) hgrow, size_push hsz hgrow⟩
      case measure => simp [intOf]

theorem Try.arrayLen34 : Try.prog.arrayLen 34 = 8 := by kernel_rfl
theorem slice_all8 (B : Nat) (W : World) :
    (Instr.sliceAt 34 (.pointer (some ⟨B, 0, none⟩)) none none none).run Try.prog W = .ok (.slice (some ⟨B, 0, none⟩) 8 8) W := by
  rw [run_sliceAt_array_all W 34 _ (by kernel_rfl), Try.arrayLen34]
  have hs : (sizeOf (Try.prog.elem 34)).run Try.prog W = .ok 1 W := by kernel_rfl
  rw [hs]
  simp [slicedAt, Result.andThen, Addr.add]

set_option maxRecDepth 100000 in
set_option maxHeartbeats 800000 in
theorem implFloat_bits (x u : Nat) (w : World) (hu : fbit x = u) :
    Calls Try.prog 7 #[.float .f64 x] w fun e w' => ∃ v, e = .returned v ∧ OwnT w.heap.size w' v (fl8 u) ∧ Below w.heap.size w w' := by
  have hb := fbits
  have hsl := slice_all8 w.heap.size
  have HU := hide hu
  clear hu
  cases h : nanB x
  case true =>
    have HX : Hid ((9221120237041090560 : Int) = (u : Int)) := by rw [← unhide HU, show fbit x = 9221120237041090560 from if_pos h]; rfl
    go_enter Try.func7, Try.ntmps7
    go_wp2_with (go_at_call 18; refine (isNaN_any _ _).mono ?_; rintro e w' ⟨rfl, rfl⟩)
    rw [unhide HX]
    refine wp_loop_rounds 9 ?_
    repeat (rw [rounds_succ]; go_wp2_with fail)
    go_ret
    exact ⟨_, rfl, ⟨_, 8, _, _, rfl, Nat.le_refl _, heap_alloc_new _ _, by rw [fl8_len]; decide, by simp, by unfold maxLen; omega, by rw [fl8_len]; decide, by simp [fl8]⟩, (Below.refl _ _).alloc (Nat.le_refl _) _⟩
  case false =>
    have HX : Hid ((x : Int) = (u : Int)) := by rw [← unhide HU, show fbit x = x from if_neg (by rw [h]; decide)]; rfl
    go_enter Try.func7, Try.ntmps7
    go_wp2_with (go_at_call 18; refine (isNaN_any _ _).mono ?_; rintro e w' ⟨rfl, rfl⟩)
    rw [unhide HX]
    refine wp_loop_rounds 9 ?_
    repeat (rw [rounds_succ]; go_wp2_with fail)
    go_ret
    exact ⟨_, rfl, ⟨_, 8, _, _, rfl, Nat.le_refl _, heap_alloc_new _ _, by rw [fl8_len]; decide, by simp, by unfold maxLen; omega, by rw [fl8_len]; decide, by simp [fl8]⟩, (Below.refl _ _).alloc (Nat.le_refl _) _⟩
theorem implFloat_any (x : Nat) (w : World) :
    Calls Try.prog 7 #[.float .f64 x] w fun e w' => ∃ v, e = .returned v ∧ OwnT w.heap.size w' v (fl8 (fbit x)) ∧ Below w.heap.size w w' :=
  implFloat_bits x _ w rfl
end Go.Proofs.Ytcemaffeclknkaf
