/-
  What the two functions that sum bytes return, proved by walking them: the same number of the bytes and the sum before; nothing is turned.
-/
import Derived.Test.YtfpbpjhnafjcoaaSumI
namespace Go.Proofs.Ytfpbpjhnafjcoaa
open Go.RowKit

set_option maxRecDepth 100000 in
theorem specSum_any (v : Value) (l : List Int) (was : Int) (w : World) (hr : Rd w v l) (hb : Bts l) :
    Calls Try.prog 8 #[v, .int .i64 was] w fun e w' => e = .returned (.int .i64 (sumOf l was)) ∧ w' = w := by
  have HR := hide hr
  obtain ⟨a, cap, rfl, hl, hc⟩ := hr
  by_cases hbad : was < 0 ∨ 65521 ≤ was ∨ 65536 < l.length
  · have HF := hide (show sumOf l was = 0 from if_pos hbad)
    rcases Int.lt_or_le 65536 (l.length : Int) with h3 | h3
    · go_enter Try.func8, Try.ntmps8
      go_wp2_with fail
      go_ret
      exact ⟨ret_int (unhide HF).symm, rfl⟩
    · rcases Int.lt_or_le was 0 with h1 | h1
      · go_enter Try.func8, Try.ntmps8
        go_wp2_with fail
        go_ret
        exact ⟨ret_int (unhide HF).symm, rfl⟩
      · have h2 : 65521 ≤ was := by omega
        go_enter Try.func8, Try.ntmps8
        go_wp2_with fail
        go_ret
        exact ⟨ret_int (unhide HF).symm, rfl⟩
  · have HF := hide (show sumOf l was = sumL l was from if_neg hbad)
    have h1 : 0 ≤ was := by omega
    have h2 : was < 65521 := by omega
    have h3 : (l.length : Int) ≤ 65536 := by omega
    clear hc hbad
    go_enter Try.func8, Try.ntmps8
    go_wp2_with (go_at_call 29; refine (l01Sum_any _ l was _ (unhide HR) hb h1 h2).mono ?_; rintro e w' ⟨rfl, rfl⟩)
    go_ret
    exact ⟨ret_int (unhide HF).symm, rfl⟩
end Go.Proofs.Ytfpbpjhnafjcoaa
