/-
  What the other reader of a number (the model's own) answers, proved by walking it.
-/
import Derived.Test.YtfhjbhnfapdmmaaDoorNj10
namespace Go.Proofs.YtfhjbhnfapdmmaaDoor
open Go.RowKit
set_option linter.unusedVariables false

theorem unz_neg (u : Nat) (h : u % 2 = 1) (h1 : u < 18446744073709551616) : bits .xor .i64 (-1) ((u : Int) / 2) = unz u := by
  have e : (u : Int) / 2 = ((u / 2 : Nat) : Int) := by omega
  rw [e, Lib.i64_not _ (by omega)]
  unfold unz; rw [if_pos h]
theorem unz_pos (u : Nat) (h : ¬ u % 2 = 1) : (u : Int) / 2 = unz u := by
  unfold unz; rw [if_neg h]; omega

/-- What the other reader of a number answers. -/
def getT (r : Option (Nat × Nat)) : Value :=
  .tuple #[.int .i64 ((r.map fun x => unz x.1).getD 0), .int .i64 ((r.map fun x => (x.2 : Int)).getD 0), .bool r.isSome]
theorem getT_none {r : Option (Nat × Nat)} (h : r = none) : getT r = .tuple #[.int .i64 0, .int .i64 0, .bool false] := by subst h; rfl
theorem getT_some {r : Option (Nat × Nat)} {u n : Nat} (h : r = some (u, n)) : getT r = .tuple #[.int .i64 (unz u), .int .i64 n, .bool true] := by subst h; rfl

set_option maxRecDepth 100000 in
set_option maxHeartbeats 1000000 in
theorem l01Get_any (v : Value) (l : List Int) (k : Nat) (w : World) (hr : Rd w v l) (hk : k ≤ l.length) (hl : l.length ≤ 65536) (hb : Bts l) :
    Calls Tryd.prog 69 #[v, .int .i64 k] w fun e w' => e = .returned (getT (getU l k)) ∧ w' = w := by
  obtain ⟨a, cap, rfl, _, hc⟩ := hr
  have HC := hide hc
  have HB := hide hb
  clear hc hb
  go_enter Tryd.func69, Tryd.ntmps69
  go_wp2_with fail
  go_loop [7, 8] (fun uv iv => ∃ i u : Nat, uv = .int .u64 u ∧ iv = .int .i64 i ∧ i ≤ 9 ∧ u < 128 ^ i ∧ scan l k (10 - i) i u = getU l k ∧ k + i ≤ l.length) (fun _ iv => 10 - (intOf iv).toNat)
  case atStart => exact ⟨0, 0, rfl, rfl, by omega, by decide, rfl, by omega⟩
  case round =>
    obtain ⟨i, u, rfl, rfl, hi, hu, hs, hki⟩ := hrel
    have HS := hide hs
    have HU := hide hu
    clear hs hu
    by_cases hend : k + i < l.length
    · obtain ⟨b, off, rfl, hcell⟩ := unhide HC (by intro h; rw [h] at hend; simp at hend)
      have hcx := hcell (k + i) hend
      have hbx := bts_get (unhide HB) (k + i)
      have HE := hide (fun h => scan_bad l k i u hi hend h)
      have HY := hide (fun h1 h2 => scan_yes l k i u hi hend h1 h2)
      have HN := hide (fun h1 h2 => scan_next l k i u hi hend h1 h2)
      generalize l.getD (k + i) 0 = c at *
      obtain ⟨hc0, hc1⟩ := hbx
      clear hcell
      by_cases hbad : (i = 9 ∧ 1 < c) ∨ (0 < i ∧ c = 0)
      · have HBad := hide (getT_none ((unhide HS).symm.trans (unhide HE hbad)))
        have hcase : (((i : Int) == 9) = true ∧ 1 < c) ∨ (((i : Int) == 9) = true ∧ c ≤ 1 ∧ 0 < (i : Int) ∧ (c == 0) = true) ∨ (((i : Int) == 9) = false ∧ 0 < (i : Int) ∧ (c == 0) = true) := by
          simp only [beq_eq_false_iff_ne, beq_iff_eq]
          omega
        clear hbad
        rcases hcase with ⟨h1, h2⟩ | ⟨h1, h2, h3, h4⟩ | ⟨h1, h2, h3⟩
        all_goals
          go_wp2_with fail
          go_ret3
          exact ⟨by rw [unhide HBad]; rfl, rfl⟩
      · have h9 : i = 9 → c ≤ 1 := fun h => by omega
        have hor := or_step c i u hi (unhide HU) hc0 hc1 h9
        have hlt := step_lt c i u hi (unhide HU) hc0 hc1 h9
        have hand := and127b c hc0 hc1
        have h7 : 7 * (i : Int) ≤ 63 := by omega
        have hcase : (((i : Int) == 9) = false ∧ (i : Int) ≤ 0) ∨ (((i : Int) == 9) = false ∧ 0 < (i : Int) ∧ (c == 0) = false) ∨ (((i : Int) == 9) = true ∧ 0 < (i : Int) ∧ (c == 0) = false ∧ c ≤ 1) := by
          simp only [beq_eq_false_iff_ne, beq_iff_eq]
          omega
        by_cases hc : c < 128
        · have HYes := hide (getT_some ((unhide HS).symm.trans (unhide HY hbad hc)))
          have HLt := hide hlt.1
          clear hbad hlt h9
          generalize u + (c % 128).toNat * 128 ^ i = u' at *
          have hu0 : (0 : Int) ≤ (u' : Int) / 2 := by omega
          have hu1 : (u' : Int) / 2 ≤ 9223372036854775807 := by have := unhide HLt; omega
          by_cases hodd : u' % 2 = 1
          · have ha1 : bits .and .u64 (u' : Int) 1 = 1 := by rw [and1 u' (unhide HLt), hodd]; rfl
            have HV := hide (unz_neg u' hodd (unhide HLt))
            clear hodd
            rcases hcase with ⟨h1, h2⟩ | ⟨h1, h2, h3⟩ | ⟨h1, h2, h3, h4⟩
            all_goals
              go_wp2_with fail
              go_ret3
              refine ⟨?_, rfl⟩
              rw [unhide HYes, ← unhide HV]
              rfl
          · have ha1 : bits .and .u64 (u' : Int) 1 = 0 := by rw [and1 u' (unhide HLt), show u' % 2 = 0 by omega]; rfl
            have HV := hide (unz_pos u' hodd)
            clear hodd
            rcases hcase with ⟨h1, h2⟩ | ⟨h1, h2, h3⟩ | ⟨h1, h2, h3, h4⟩
            all_goals
              go_wp2_with fail
              go_ret3
              refine ⟨?_, rfl⟩
              rw [unhide HYes, ← unhide HV]
              rfl
        · have HNext := hide (unhide HN hbad (by omega))
          have HLt := hide hlt.2
          have hi9 : i ≤ 8 := by omega
          clear hbad hlt h9
          generalize u + (c % 128).toNat * 128 ^ i = u' at *
          rcases hcase with ⟨h1, h2⟩ | ⟨h1, h2, h3⟩ | ⟨h1, h2, h3, h4⟩
          · go_wp2_with fail
            go_round
            case rel => exact ⟨i + 1, u', rfl, by go_num, by omega, unhide HLt, (unhide HNext).symm.trans (unhide HS), by omega⟩
            case measure => simp [intOf]; omega
          · go_wp2_with fail
            go_round
            case rel => exact ⟨i + 1, u', rfl, by go_num, by omega, unhide HLt, (unhide HNext).symm.trans (unhide HS), by omega⟩
            case measure => simp [intOf]; omega
          · omega
    · have HNo := hide (getT_none ((unhide HS).symm.trans (scan_end _ _ _ _ hi (by omega))))
      go_wp2_with fail
      go_ret3
      exact ⟨by rw [unhide HNo]; rfl, rfl⟩
end Go.Proofs.YtfhjbhnfapdmmaaDoor
