/-
  The source of drawn things: a chance, proved by walking its method.
-/
import Derived.Test.YteljmhgpffekgaaSrcW
namespace Go.Proofs.Yteljmhgpffekgaa
open Go.RowKit
set_option linter.unusedVariables false

set_option maxRecDepth 100000 in
set_option maxHeartbeats 400000 in
theorem chance_any (B : Nat) (v : Value) (l : List Int) (m n : Int) (w : World) (h : Src B w v l m) (hm : m ≤ 1000000000) (h1 : 1 ≤ n) (h2 : n ≤ 1073741824) :
    Calls Try.prog 57 #[.pointer (some ⟨B, 0, none⟩), .int .i64 n] w fun e w' => ∃ b : Bool, e = .returned (.bool b) ∧ SrcEnd B w v l (m + 3) w' := by
  have HS := hide h
  clear h
  go_enter Try.func57, Try.ntmps57
  go_wp2_with fail
  refine (next_any B v l m n _ (unhide HS) hm h1 h2).mono ?_
  rintro e w1 ⟨y, rfl, hy0, hy1, hE⟩
  have HE := hide hE
  clear hE
  go_wp2_with fail
  go_ret
  exact ⟨_, rfl, unhide HE⟩
end Go.Proofs.Yteljmhgpffekgaa
