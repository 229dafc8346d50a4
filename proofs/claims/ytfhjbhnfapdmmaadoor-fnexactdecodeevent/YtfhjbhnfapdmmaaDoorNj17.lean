/-
  What the model's reader of a float answers, proved by walking it.
-/
import Derived.Test.YtfhjbhnfapdmmaaDoorNj13
import Derived.Test.YtfhjbhnfapdmmaaDoorNj16
namespace Go.Proofs.YtfhjbhnfapdmmaaDoor
open Go.RowKit
set_option linter.unusedVariables false

/-- What the other reader of a float answers. -/
def fltT (r : Option (Nat × Nat)) : Value :=
  .tuple #[.float .f64 ((r.map fun x => x.1).getD 0), .int .i64 ((r.map fun x => (x.2 : Int)).getD 0), .bool r.isSome]
theorem fltT_none {r : Option (Nat × Nat)} (h : r = none) : fltT r = .tuple #[.float .f64 0, .int .i64 0, .bool false] := by subst h; rfl
theorem fltT_some {r : Option (Nat × Nat)} {s n : Nat} (h : r = some (s, n)) : fltT r = .tuple #[.float .f64 s, .int .i64 n, .bool true] := by subst h; rfl

set_option maxRecDepth 100000 in
set_option maxHeartbeats 1000000 in
theorem l01GetFlt_any (v : Value) (l : List Int) (k : Nat) (w : World) (hr : Rd w v l) (hcap : CapOk v) (hk : k ≤ l.length) (hl : l.length ≤ 65536) (hb : Bts l) :
    Calls Tryd.prog 70 #[v, .int .i64 k] w fun e w' => e = .returned (fltT (floatA l k)) ∧ w' = w := by
  obtain ⟨a, cap, rfl, _, hc⟩ := hr
  have HC := hide hc
  have HB := hide hb
  have hfb := frombits
  clear hc hcap hb
  by_cases h8 : l.length < k + 8
  · have HT := hide (fltT_none (floatA_end h8))
    have h8' : (l.length : Int) < k + 8 := by omega
    go_enter Tryd.func70, Tryd.ntmps70
    go_wp2_with fail
    go_ret3
    exact ⟨by rw [unhide HT]; rfl, rfl⟩
  have h8' : (k : Int) + 8 ≤ l.length := by omega
  have HBad := hide (fun h => fltT_none (floatA_bad (l := l) (k := k) (by omega) h))
  have HYes := hide (fun h => fltT_some (floatA_yes (l := l) (k := k) (by omega) h))
  obtain ⟨b, off, rfl, hcell⟩ := unhide HC (by intro h; rw [h] at h8; simp at h8)
  have HCl := hide hcell
  clear hcell
  go_enter Tryd.func70, Tryd.ntmps70
  go_wp2_with fail
  go_loop [7, 8] (fun uv iv => ∃ i : Nat, i ≤ 8 ∧ iv = .int .i64 i ∧ uv = .int .u64 (bits8 l k i)) (fun _ iv => 8 - (intOf iv).toNat)
  case atStart => exact ⟨0, by omega, rfl, rfl⟩
  case round =>
    obtain ⟨i, hi, rfl, rfl⟩ := hrel
    by_cases hlt : i < 8
    · have hcx := unhide HCl (k + i) (by omega)
      have hbx := bts_get (unhide HB) (k + i)
      have hlt8 := bits8_lt l k (unhide HB) i
      have hp : 256 ^ i ≤ 72057594037927936 := Nat.le_trans (Nat.pow_le_pow_right (by omega) (show i ≤ 7 by omega)) (by decide)
      have hor := or8 (bits8 l k i) (l.getD (k + i) 0) (by omega) hbx.1 hbx.2
      have HS := hide (bits8_step l k i (by omega))
      rw [← unhide HS] at hor
      have hlt' : (i : Int) < 8 := by omega
      have hki : (k : Int) + i < l.length := by omega
      generalize l.getD (k + i) 0 = c at *
      generalize hu : bits8 l k i = u at *
      generalize hu' : bits8 l k (i + 1) = u' at *
      have HU' := hide hu'
      clear hlt8 hp hu hu'
      obtain ⟨hc0, hc1⟩ := hbx
      go_wp2_with fail
      go_round
      case rel => exact ⟨i + 1, by omega, by go_num, by rw [unhide HU']⟩
      case measure => simp [intOf]; omega
    · obtain rfl : i = 8 := by omega
      generalize bits8 l k 8 = u at *
      by_cases hbad : nanB u = true ∧ u ≠ 9221120237041090560
      · have HT := hide (unhide HBad hbad)
        have hf : fbit u = 9221120237041090560 := if_pos hbad.1
        have hne : (((fbit u : Nat) : Int) != (u : Int)) = true := by rw [hf, bne_iff_ne]; omega
        have HL := hide (fun w => bitsS_any u w)
        clear hf hbad
        generalize fbit u = f at *
        go_wp2_with (go_at_call 28; refine (unhide HL _).mono ?_; rintro e w' ⟨rfl, rfl⟩)
        go_ret3
        exact ⟨by rw [unhide HT]; rfl, rfl⟩
      · have HT := hide (unhide HYes hbad)
        have hf : fbit u = u := by
          unfold fbit
          split
          · rename_i h; by_cases e : u = 9221120237041090560
            · exact e.symm
            · exact absurd ⟨h, e⟩ hbad
          · rfl
        have HL := hide (fun w => bitsS_any u w)
        rw [hf] at HL
        clear hf hbad
        go_wp2_with (go_at_call 28; refine (unhide HL _).mono ?_; rintro e w' ⟨rfl, rfl⟩)
        go_ret3
        exact ⟨by rw [unhide HT]; rfl, rfl⟩
end Go.Proofs.YtfhjbhnfapdmmaaDoor
