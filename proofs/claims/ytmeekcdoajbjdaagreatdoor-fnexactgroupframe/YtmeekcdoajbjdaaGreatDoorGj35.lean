/-
  What the two functions that sum bytes return, proved by walking them: the same number of the bytes and the sum before; nothing is turned.
-/
import Derived.Test.YtmeekcdoajbjdaaGreatDoorGj01
namespace Go.Proofs.YtmeekcdoajbjdaaGreatDoor
open Go.RowKit

def sumL (l : List Int) (was : Int) : Int := l.foldl (fun s c => (31 * s + c + 1) % 65521) was
theorem sumL_bd (l : List Int) (was : Int) (h0 : 0 ≤ was) (h1 : was < 65521) : 0 ≤ sumL l was ∧ sumL l was < 65521 := by
  induction l generalizing was with
  | nil => exact ⟨h0, h1⟩
  | cons c r ih => exact ih _ (Int.emod_nonneg _ (by decide)) (Int.emod_lt_of_pos _ (by decide))
theorem sumL_snoc (l : List Int) (x was : Int) : sumL (l ++ [x]) was = (31 * sumL l was + x + 1) % 65521 := by
  unfold sumL; rw [List.foldl_append]; rfl
/-- The sum of bytes behind a sum. -/
def sumOf (l : List Int) (was : Int) : Int := if was < 0 ∨ 65521 ≤ was ∨ 65536 < l.length then 0 else sumL l was
theorem sumL_take (l : List Int) (was : Int) (k : Nat) (h : k < l.length) : sumL (l.take (k + 1)) was = (31 * sumL (l.take k) was + l.getD k 0 + 1) % 65521 := by
  rw [take_get l k h, sumL_snoc]

set_option maxRecDepth 100000 in
set_option maxHeartbeats 400000 in
theorem implSum_any (v : Value) (l : List Int) (was : Int) (w : World) (hr : Rd w v l) (hb : Bts l) :
    Calls Tryz.prog 34 #[v, .int .i64 was] w fun e w' => e = .returned (.int .i64 (sumOf l was)) ∧ w' = w := by
  obtain ⟨a, cap, rfl, hl, hc⟩ := hr
  by_cases hbad : was < 0 ∨ 65521 ≤ was ∨ 65536 < l.length
  · have HF := hide (show sumOf l was = 0 from if_pos hbad)
    rcases Int.lt_or_le was 0 with h1 | h1
    · go_enter Tryz.func34, Tryz.ntmps34
      go_wp2_with fail
      go_ret
      exact ⟨ret_int (unhide HF).symm, rfl⟩
    · rcases Int.lt_or_le was 65521 with h2 | h2
      · have h3 : (65536 : Int) < l.length := by omega
        go_enter Tryz.func34, Tryz.ntmps34
        go_wp2_with fail
        go_ret
        exact ⟨ret_int (unhide HF).symm, rfl⟩
      · go_enter Tryz.func34, Tryz.ntmps34
        go_wp2_with fail
        go_ret
        exact ⟨ret_int (unhide HF).symm, rfl⟩
  · have HF := hide (show sumOf l was = sumL l was from if_neg hbad)
    have h1 : 0 ≤ was := by omega
    have h2 : was < 65521 := by omega
    have h3 : (l.length : Int) ≤ 65536 := by omega
    have HC := hide hc
    have HB := hide hb
    clear hc hb hbad
    go_enter Tryz.func34, Tryz.ntmps34
    go_wp2_with fail
    go_loop [5, 22] (fun s i => ∃ k : Nat, k ≤ l.length ∧ i = .int .i64 k ∧ s = .int .i64 (sumL (l.take k) was)) (fun _ i => l.length - (intOf i).toNat)
    case atStart => exact ⟨0, Nat.zero_le _, rfl, rfl⟩
    case round =>
      obtain ⟨k, hk, rfl, rfl⟩ := hrel
      by_cases hlt : k < l.length
      · obtain ⟨b, off, rfl, hcell⟩ := unhide HC (by intro h; rw [h] at hlt; simp at hlt)
        have hck := hcell k hlt
        have hbk := bts_get (unhide HB) k
        have hsb := sumL_bd (l.take k) was h1 h2
        have HS := hide (sumL_take l was k hlt)
        have hlt' : (k : Int) < l.length := by omega
        clear hcell
        generalize l.getD k 0 = x at *
        generalize sumL (l.take k) was = s at *
        obtain ⟨hx0, hx1⟩ := hbk
        obtain ⟨hs0, hs1⟩ := hsb
        go_wp2_with fail
        go_round
        case rel => exact ⟨k + 1, by omega, by go_num, by rw [unhide HS]⟩
        case measure => simp [intOf]; omega
      · have HT := hide (show l.take k = l from List.take_of_length_le (by omega))
        go_wp2_with fail
        go_ret
        exact ⟨ret_int (by rw [unhide HT]; exact (unhide HF).symm), rfl⟩

set_option maxRecDepth 100000 in
set_option maxHeartbeats 400000 in
theorem l01Sum_any (v : Value) (l : List Int) (was : Int) (w : World) (hr : Rd w v l) (hb : Bts l) (h1 : 0 ≤ was) (h2 : was < 65521) :
    Calls Tryz.prog 28 #[v, .int .i64 was] w fun e w' => e = .returned (.int .i64 (sumL l was)) ∧ w' = w := by
  obtain ⟨a, cap, rfl, hl, hc⟩ := hr
  have HC := hide hc
  have HB := hide hb
  clear hc hb
  go_enter Tryz.func28, Tryz.ntmps28
  go_wp2_with fail
  go_loop [1, 5] (fun s i => ∃ k : Nat, k ≤ l.length ∧ i = .int .i64 k ∧ s = .int .i64 (sumL (l.take k) was)) (fun _ i => l.length - (intOf i).toNat)
  case atStart => exact ⟨0, Nat.zero_le _, rfl, rfl⟩
  case round =>
    obtain ⟨k, hk, rfl, rfl⟩ := hrel
    by_cases hlt : k < l.length
    · obtain ⟨b, off, rfl, hcell⟩ := unhide HC (by intro h; rw [h] at hlt; simp at hlt)
      have hck := hcell k hlt
      have hbk := bts_get (unhide HB) k
      have hsb := sumL_bd (l.take k) was h1 h2
      have HS := hide (sumL_take l was k hlt)
      have hlt' : (k : Int) < l.length := by omega
      clear hcell
      generalize l.getD k 0 = x at *
      generalize sumL (l.take k) was = s at *
      obtain ⟨hx0, hx1⟩ := hbk
      obtain ⟨hs0, hs1⟩ := hsb
      go_wp2_with fail
      go_round
      case rel => exact ⟨k + 1, by omega, by go_num, by rw [unhide HS, Int.mul_comm]⟩
      case measure => simp [intOf]; omega
    · have HT := hide (show l.take k = l from List.take_of_length_le (by omega))
      go_wp2_with fail
      go_ret
      exact ⟨ret_int (by rw [unhide HT]), rfl⟩
end Go.Proofs.YtmeekcdoajbjdaaGreatDoor
