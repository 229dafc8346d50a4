/-
  A number's bytes as a list, and what the program's bit operations make of a number: plain facts, no program.
-/
import Derived.Test.YtmeekcdoajbjdaaGreatDoorGj01
import Derived.Test.YtmeekcdoajbjdaaGreatDoorGj13
import Derived.Laws.BitsAllLaws
import Derived.Laws.Bits64
import Derived.WalkSpells
namespace Go.Proofs.YtmeekcdoajbjdaaGreatDoor
open Go

/-- Twice a number, and of one below 0 twice its opposite less 1. -/
def zz (n : Int) : Nat := if n < 0 then (-2 * n - 1).toNat else (2 * n).toNat

def putU (u : Nat) : List Int := if u < 128 then [(u : Int)] else ((u : Int) % 128 + 128) :: putU (u / 128)
termination_by u
decreasing_by omega

theorem putU_small {u : Nat} (h : u < 128) : putU u = [(u : Int)] := by rw [putU, if_pos h]
theorem putU_great {u : Nat} (h : ¬ u < 128) : putU u = ((u : Int) % 128 + 128) :: putU (u / 128) := by rw [putU, if_neg h]
theorem putU_pos (u : Nat) : 1 ≤ (putU u).length := by
  rw [putU]; split <;> simp
theorem putU_len : ∀ (k u : Nat), u < 128 ^ (k + 1) → (putU u).length ≤ k + 1
  | 0, u, h => by rw [putU_small (by simpa using h)]; simp
  | k + 1, u, h => by
    by_cases hu : u < 128
    · rw [putU_small hu]; simp
    · rw [putU_great hu]
      have := putU_len k (u / 128) (by rw [Nat.div_lt_iff_lt_mul (by omega)]; rw [Nat.pow_succ] at h; exact h)
      simp only [List.length_cons]; omega
theorem putU_len10 (u : Nat) (h : u < 18446744073709551616) : (putU u).length ≤ 10 :=
  putU_len 9 u (Nat.lt_of_lt_of_le h (by decide))

/-- A number of 64 bits. -/
def Lt64 (x : Nat) : Prop := x < 18446744073709551616
theorem putU_at {u0 x : Nat} {done : List Int} (hu : (putU u0).length ≤ 10) (h : done ++ putU x = putU u0) : done.length ≤ 9 := by
  have := congrArg List.length h
  have h1 := putU_pos x
  rw [List.length_append] at this
  omega
theorem putU_step {u0 x : Nat} {done : List Int} (hx : ¬ x < 128) (h : done ++ putU x = putU u0) : (done ++ [(x : Int) % 128 + 128]) ++ putU (x / 128) = putU u0 := by
  rw [← h, putU_great hx, List.append_assoc]; rfl
theorem putU_end {u0 x : Nat} {done : List Int} (hx : x < 128) (h : done ++ putU x = putU u0) : done ++ [(x : Int)] = putU u0 := by
  rw [← h, putU_small hx]
theorem zz_lt (n : Int) (h0 : -9223372036854775808 ≤ n) (h1 : n ≤ 9223372036854775807) : zz n < 18446744073709551616 := by
  unfold zz; split <;> omega

theorem xor_ones (x : Nat) (h : x < 18446744073709551616) : x ^^^ 18446744073709551615 = 18446744073709551615 - x := by
  have e := congrArg BitVec.toNat (BitVec.xor_allOnes (x := BitVec.ofNat 64 x))
  rw [BitVec.toNat_xor, BitVec.toNat_not, BitVec.toNat_allOnes, BitVec.toNat_ofNat] at e
  have hm : x % 2 ^ 64 = x := Nat.mod_eq_of_lt h
  rw [hm] at e
  exact e

theorem fold_neg (n : Int) (h0 : -9223372036854775808 ≤ n) (h1 : n < 0) :
    bits .xor .u64 (IntKind.u64.wrap (IntKind.u64.wrap n * 2)) (IntKind.u64.wrap (n / 9223372036854775808)) = (zz n : Int) := by
  simp only [IntKind.wrap_u64]
  have e1 : n % 18446744073709551616 * 2 % 18446744073709551616 = 2 * n + 18446744073709551616 := by omega
  have e2 : n / 9223372036854775808 % 18446744073709551616 = 18446744073709551615 := by omega
  rw [e1, e2, u64_xor _ _ (by omega) (by omega) (by omega) (by omega)]
  have e3 : (18446744073709551615 : Int).toNat = 18446744073709551615 := rfl
  rw [e3, xor_ones _ (by omega)]
  unfold zz; rw [if_pos h1]; omega
theorem fold_pos (n : Int) (h0 : 0 ≤ n) (h1 : n ≤ 9223372036854775807) :
    bits .xor .u64 (IntKind.u64.wrap (IntKind.u64.wrap n * 2)) (IntKind.u64.wrap (n / 9223372036854775808)) = (zz n : Int) := by
  simp only [IntKind.wrap_u64]
  have e1 : n % 18446744073709551616 * 2 % 18446744073709551616 = 2 * n := by omega
  have e2 : n / 9223372036854775808 % 18446744073709551616 = 0 := by omega
  rw [e1, e2, u64_xor _ _ (by omega) (by omega) (by omega) (by omega)]
  have e3 : (0 : Int).toNat = 0 := rfl
  rw [e3, Nat.xor_zero]
  unfold zz; rw [if_neg (by omega)]
theorem fold_eq (n : Int) (h0 : -9223372036854775808 ≤ n) (h1 : n ≤ 9223372036854775807) :
    bits .xor .u64 (IntKind.u64.wrap (IntKind.u64.wrap n * 2)) (IntKind.u64.wrap (n / 9223372036854775808)) = (zz n : Int) := by
  by_cases h : n < 0
  · exact fold_neg n h0 h
  · exact fold_pos n (by omega) h1
theorem not_eq (n : Int) (h0 : -9223372036854775808 ≤ n) (h1 : n < 0) :
    bits .xor .u64 IntKind.u64.max (IntKind.u64.wrap (IntKind.u64.wrap n * 2)) = (zz n : Int) := by
  have em : IntKind.u64.max = 18446744073709551615 := by decide
  simp only [IntKind.wrap_u64, em]
  have e1 : n % 18446744073709551616 * 2 % 18446744073709551616 = 2 * n + 18446744073709551616 := by omega
  rw [e1, u64_xor _ _ (by omega) (by omega) (by omega) (by omega)]
  have e3 : (18446744073709551615 : Int).toNat = 18446744073709551615 := rfl
  rw [e3, Nat.xor_comm, xor_ones _ (by omega)]
  unfold zz; rw [if_pos h1]; omega
theorem twice_eq (n : Int) (h0 : 0 ≤ n) (h1 : n ≤ 9223372036854775807) : IntKind.u64.wrap (IntKind.u64.wrap n * 2) = (zz n : Int) := by
  simp only [IntKind.wrap_u64]
  unfold zz; rw [if_neg (by omega)]; omega
theorem and127 (x : Nat) (h : x < 18446744073709551616) : bits .and .u64 (x : Int) 127 = (x : Int) % 128 := by
  have := u64_and_nat x 127 h (by omega)
  rw [show ((127 : Nat) : Int) = 127 from rfl] at this
  rw [this, show x &&& 127 = x % 128 from Nat.and_two_pow_sub_one_eq_mod x 7]
  omega
theorem or128 (x : Nat) : bits .or .u8 ((x : Int) % 256) 128 = (x : Int) % 128 + 128 := by
  rw [u8_or _ _ (by omega) (by omega) (by omega) (by omega)]
  have e : ((x : Int) % 256).toNat = x % 256 := by omega
  have e2 : (128 : Int).toNat = 128 := rfl
  rw [e, e2]
  have hb : ∀ y : Nat, y < 256 → y ||| 128 = y % 128 + 128 := by decide +kernel
  rw [hb _ (Nat.mod_lt _ (by omega))]
  omega
end Go.Proofs.YtmeekcdoajbjdaaGreatDoor
namespace Go.Proofs.YtmeekcdoajbjdaaGreatDoor
open Go.RowKit

theorem fold_any (n : Int) (w : World) (h0 : -9223372036854775808 ≤ n) (h1 : n ≤ 9223372036854775807) :
    Calls Tryz.prog 45 #[.int .i64 n] w fun e w' => e = .returned (.int .u64 (zz n)) ∧ w' = w := by
  have HX := hide (fold_eq n h0 h1)
  go_enter Tryz.func45, Tryz.ntmps45
  go_wp2
  go_ret
  exact ⟨ret_int (unhide HX), rfl⟩

theorem Tryz.arrayLen81 : Tryz.prog.arrayLen 81 = 10 := by kernel_rfl
theorem slice_head10 (B k : Nat) (h : k ≤ 9) (W : World) :
    (Instr.sliceAt 81 (.pointer (some ⟨B, 0, none⟩)) none (some (.int .i64 ((k : Int) + 1))) none).run Tryz.prog W = .ok (.slice (some ⟨B, 0, none⟩) (k + 1) 10) W := by
  rw [run_sliceAt_array_h W 81 _ (by kernel_rfl) _ _ (by omega) (by rw [Tryz.arrayLen81]; omega), Tryz.arrayLen81]
  have e : ((k : Int) + 1).toNat = k + 1 := by omega
  have hs : (sizeOf (Tryz.prog.elem 81)).run Tryz.prog W = .ok 1 W := by kernel_rfl
  rw [hs, e]
  simp [slicedAt, Result.andThen, Addr.add]

set_option maxRecDepth 100000 in
set_option maxHeartbeats 800000 in
theorem implPut_any (n : Int) (w : World) (h0 : -9223372036854775808 ≤ n) (h1 : n ≤ 9223372036854775807) :
    Calls Tryz.prog 33 #[.int .i64 n] w fun e w' => ∃ v, e = .returned v ∧ OwnT w.heap.size w' v (putU (zz n)) ∧ Below w.heap.size w w' := by
  have HL := hide (putU_len10 _ (zz_lt n h0 h1))
  have H6 := hide (zz_lt n h0 h1)
  have HF := hide (fun w => fold_any n w h0 h1)
  clear h0 h1
  generalize hz : zz n = u0 at *
  have HZ := hide hz
  clear hz
  go_enter Tryz.func33, Tryz.ntmps33
  go_wp2_with (go_at_call 45; refine (unhide HF _).mono ?_; rintro e w' ⟨rfl, rfl⟩)
  go_loopw [4, 5] (fun u c wr => ∃ (x : Nat) (done : List Int), u = .int .u64 x ∧ Lt64 x ∧ c = .int .i64 done.length ∧ done ++ putU x = putU u0 ∧ Arr 10 w.heap.size w wr done) (fun u _ _ => (intOf u).toNat)
  case atStart => exact ⟨u0, [], rfl, unhide H6, rfl, rfl, arr_start _ _ _ rfl⟩
  case round =>
    obtain ⟨x, done, rfl, hx, rfl, hdone, harr⟩ := hrel
    have HD := hide hdone
    have hdl := putU_at (unhide HL) hdone
    have hdl' : (done.length : Int) < 10 := by omega
    clear hdone
    obtain ⟨v0, hv0⟩ := harr.some (j := done.length) (by omega)
    have hf0 := harr.free done.length
    by_cases hlt : x < 128
    · have HE := hide (putU_end hlt (unhide HD))
      have HA := hide (arr_step (x : Int) harr (by omega))
      have hsl := slice_head10 w.heap.size done.length (by omega)
      clear harr
      go_wp2_with fail
      go_ret
      have hE := unhide HE
      rw [hE] at HA
      have hlen : done.length + 1 = (putU u0).length := by rw [← hE]; simp
      refine ⟨_, rfl, ?_, (unhide HA).below⟩
      rw [hlen]
      exact arr_own (unhide HA) rfl (by omega)
    · have hlt' : (128 : Int) ≤ x := by omega
      have hand := and127 x hx
      have HA := hide (arr_step ((x : Int) % 128 + 128) harr (by omega))
      clear harr
      go_wp2_with fail
      go_roundw
      case rel => exact ⟨x / 128, done ++ [(x : Int) % 128 + 128], by go_num, by unfold Lt64 at *; omega, by simp, putU_step hlt (unhide HD), unhide HA⟩
      case measure => simp [intOf]; omega
end Go.Proofs.YtmeekcdoajbjdaaGreatDoor
namespace Go.Proofs.YtmeekcdoajbjdaaGreatDoor
open Go.RowKit

/-- The bytes of a text. -/
def textL (s : ByteArray) : List Int := putU (zz (cutB s).size) ++ bl (cutB s)
theorem textL_len (s : ByteArray) : 0 < (textL s).length ∧ (textL s).length ≤ 1073741824 := by
  have h1 := putU_pos (zz (cutB s).size)
  have h2 := cutB_size s
  have h3 := putU_len10 (zz (cutB s).size) (zz_lt _ (by omega) (by omega))
  rw [textL, List.length_append, bl_len]
  omega

set_option maxHeartbeats 400000 in
theorem implText_any (s : ByteArray) (w : World) (hs : s.size ≤ maxLen) :
    Calls Tryz.prog 92 #[.string s] w fun e w' => ∃ v, e = .returned v ∧ OwnT w.heap.size w' v (textL s) ∧ Below w.heap.size w w' := by
  obtain ⟨i0, hi, hz0, hz1, hz2⟩ := info_parts Tryz.infoByte
  have hc := cutB_size s
  have HT := hide (textL_len s).2
  have HTL := hide (show textL s = putU (zz (cutB s).size) ++ bl (cutB s) from rfl)
  have HC := hide (fun w => implCut_any s w hs)
  generalize cutB s = c at *
  generalize textL s = l at *
  clear hs
  go_enter Tryz.func92, Tryz.ntmps92
  go_wp2_with fail
  refine (unhide HC _).mono ?_
  rintro e w0 ⟨rfl, rfl⟩
  go_wp2_with fail
  refine (implPut_any c.size _ (by omega) (by omega)).mono ?_
  rintro e w1 ⟨v1, rfl, ho, hb⟩
  have HO := hide ho
  have HB := hide hb
  clear ho hb
  go_wp2_with (at_builtin; go_must (refine wpList_append_text _ rfl _ _ 24 9 rfl w0.heap.size 5 i0 Tryz.underlying24 Tryz.underlying9 hi hz0 hz1 hz2 _ _ rfl (unhide HO) c rfl (by have := unhide HT; rw [unhide HTL, List.length_append, bl_len] at this; exact this) (unhide HB).size ?_); intro v2 w2 ho2 hg2)
  go_ret
  refine ⟨_, rfl, by rw [unhide HTL]; exact ho2, (unhide HB).grown hg2 (unhide HB).size (OwnT.ge (unhide HO))⟩

end Go.Proofs.YtmeekcdoajbjdaaGreatDoor
