/-
  What the laws' own choosing function returns, proved by walking it: a number from 0 to below n; nothing is turned.
-/
import Derived.Test.YtglcppjfbkbbpaaOwnB
namespace Go.Proofs.Ytglcppjfbkbbpaa
open Go.RowKit

set_option maxRecDepth 100000 in
set_option maxHeartbeats 400000 in
theorem at_any (v : Value) (l : List Int) (i n : Int) (w : World) (hr : Rd w v l) (hb : Bts l) (hi : i = 0 ∨ i = 1) (hn0 : 1 ≤ n) (hn1 : n ≤ 1073741824) :
    Calls Try.prog 9 #[v, .int .i64 i, .int .i64 n] w fun e w' => ∃ y : Int, e = .returned (.int .i64 y) ∧ 0 ≤ y ∧ y < n ∧ ∃ q, w' = w.drewN q := by
  obtain ⟨a, cap, rfl, hl, hc⟩ := hr
  by_cases h1 : n = 1
  · have h1' : n ≤ 1 := by omega
    have HN := hide h1
    clear h1 hc
    go_enter Try.func9, Try.ntmps9
    go_wp2_with fail
    go_ret
    exact ⟨0, rfl, by omega, by have := unhide HN; omega, 0, rfl⟩
  have h2 : 1 < n := by omega
  clear h1 hn0
  by_cases hz : l.length = 0
  · have hz' : ((l.length : Int) == 0) = true := by simp [hz]
    clear hc hz
    rcases hi with rfl | rfl
    all_goals
      go_enter Try.func9, Try.ntmps9
      go_wp2_with fail
      go_ret
      exact ⟨_, rfl, by first | omega | exact Int.emod_nonneg _ (by omega), by first | omega | exact Int.emod_lt_of_pos _ (by omega), 0, rfl⟩
  have hz' : ((l.length : Int) == 0) = false := by simp; intro h; exact hz (by rw [h]; rfl)
  obtain ⟨b, off, rfl, hcell⟩ := hc (by intro h; rw [h] at hz; simp at hz)
  have b0 := bts_get hb 0
  have b1 := bts_get hb 1
  have b2 := bts_get hb 2
  have c0 := hcell 0 (by omega)
  have c1 : 1 < l.length → w.cell? ⟨b, off + 1, none⟩ = some (.int .u8 (l.getD 1 0)) := hcell 1
  have c2 : 2 < l.length → w.cell? ⟨b, off + 2, none⟩ = some (.int .u8 (l.getD 2 0)) := hcell 2
  clear hcell hb
  generalize l.getD 0 0 = x0 at *
  generalize l.getD 1 0 = x1 at *
  generalize l.getD 2 0 = x2 at *
  generalize l.length = m at *
  obtain ⟨p0, q0⟩ := b0
  obtain ⟨p1, q1⟩ := b1
  obtain ⟨p2, q2⟩ := b2
  rw [Nat.add_zero] at c0
  rcases (show m = 1 ∨ m = 2 ∨ 3 ≤ m by omega) with rfl | rfl | h3
  · clear c1 c2 hz hz'
    rcases hi with rfl | rfl
    all_goals
      go_enter Try.func9, Try.ntmps9
      go_wp2_with fail
      go_quiet (fail)
      go_wp2_with fail
      go_ret
      exact ⟨_, rfl, by first | omega | exact Int.emod_nonneg _ (by omega), by first | omega | exact Int.emod_lt_of_pos _ (by omega), _, rfl⟩
  · replace c1 := c1 (by omega)
    clear c2 hz hz'
    rcases hi with rfl | rfl
    all_goals
      go_enter Try.func9, Try.ntmps9
      go_wp2_with fail
      go_quiet (fail)
      go_wp2_with fail
      go_ret
      exact ⟨_, rfl, by first | omega | exact Int.emod_nonneg _ (by omega), by first | omega | exact Int.emod_lt_of_pos _ (by omega), _, rfl⟩
  · replace c1 := c1 (by omega)
    replace c2 := c2 (by omega)
    have e1 : (1 : Int) % (m : Int) = 1 := Int.emod_eq_of_lt (by omega) (by omega)
    have e2 : (2 : Int) % (m : Int) = 2 := Int.emod_eq_of_lt (by omega) (by omega)
    have e3 : (1 : Int) / (m : Int) = 0 := Int.ediv_eq_zero_of_lt (by omega) (by omega)
    have e0 : (0 : Int) / (m : Int) = 0 := Int.zero_ediv _
    have e4 : (0 : Int) % (m : Int) = 0 := Int.zero_emod _
    have h3' : (3 : Int) ≤ m := by omega
    clear hz
    rcases hi with rfl | rfl
    all_goals
      go_enter Try.func9, Try.ntmps9
      go_wp2_with fail
      go_quiet (fail)
      go_wp2_with fail
      go_ret
      exact ⟨_, rfl, by first | omega | exact Int.emod_nonneg _ (by omega), by first | omega | exact Int.emod_lt_of_pos _ (by omega), _, rfl⟩
end Go.Proofs.Ytglcppjfbkbbpaa
