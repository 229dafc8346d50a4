/-
  What the helper that holds two rows of bytes against each other answers, proved by walking it: two rows of the same bytes are found alike.
-/
import Derived.Test.YtelnpobhmjdaoaaOwnB
namespace Go.Proofs.Ytelnpobhmjdaoaa
open Go.RowKit

set_option maxHeartbeats 400000 in
theorem eqBytes_same (va vb : Value) (l : List Int) (w : World) (ha : Rd w va l) (hb : Rd w vb l) :
    Calls Try.prog 7 #[va, vb] w fun e w' => e = .returned (.bool true) ∧ ∃ n, w' = w.drewN n := by
  obtain ⟨aa, ca, rfl, hl, hca⟩ := ha
  obtain ⟨ab, cb, rfl, _, hcb⟩ := hb
  by_cases hne : l = []
  · subst hne
    clear hca hcb
    go_enter Try.func7, Try.ntmps7
    go_wp2
    refine wp_loop_rounds 1 ?_
    rw [rounds_succ]
    go_wp2
    go_ret
    exact ⟨rfl, 0, rfl⟩
  obtain ⟨b1, o1, rfl, hc1⟩ := hca hne
  obtain ⟨b2, o2, rfl, hc2⟩ := hcb hne
  have H1 := hide hc1
  have H2 := hide hc2
  clear hca hcb hc1 hc2
  go_enter Try.func7, Try.ntmps7
  go_wp2_with fail
  go_loopw [5] (fun i wr => ∃ k n : Nat, k ≤ l.length ∧ i = .int .i64 k ∧ wr = w.drewN n) (fun i _ => l.length - (intOf i).toNat)
  case atStart => exact ⟨0, 0, Nat.zero_le _, rfl, rfl⟩
  case round =>
    obtain ⟨k, n, hk, rfl, rfl⟩ := hrel
    by_cases hlt : k < l.length
    · have h1 := unhide H1 k hlt
      have h2 := unhide H2 k hlt
      generalize l.getD k 0 = x at h1 h2
      have hlt' : (k : Int) < l.length := by omega
      go_wp2_with fail
      go_quiet (fail)
      go_wp2_with fail
      go_roundw
      case rel => exact ⟨k + 1, _, by omega, by go_num, rfl⟩
      case measure => simp [intOf]; omega
    · go_wp2_with fail
      go_ret
      exact ⟨rfl, _, rfl⟩
end Go.Proofs.Ytelnpobhmjdaoaa
