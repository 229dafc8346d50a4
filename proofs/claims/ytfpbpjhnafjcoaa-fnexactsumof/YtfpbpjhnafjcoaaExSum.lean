/-
  The exact law of SumOf, walked: it returns true, and nothing that was there is turned.
-/
import Derived.Test.YtfpbpjhnafjcoaaSumW
import Derived.Test.YtfpbpjhnafjcoaaCopyW
import Derived.Test.YtfpbpjhnafjcoaaEqW
namespace Go.Proofs.Ytfpbpjhnafjcoaa
open Go.RowKit

set_option maxRecDepth 100000 in
set_option maxHeartbeats 800000 in
theorem exactSum (v : Value) (l : List Int) (was : Int) (w : World) (hr : Rd w v l) (hb : Bts l) (hl : l.length ≤ 1048576) :
    Calls Try.prog 3 #[v, .int .i64 was] w fun e w' => e = .returned (.bool true) ∧ Below w.heap.size w w' := by
  have HR := hide hr
  obtain ⟨a, cap, rfl, _, hc⟩ := hr
  clear hc
  have hl' : (l.length : Int) ≤ 1048576 := by omega
  go_enter Try.func3, Try.ntmps3
  go_wp2_with fail
  refine (toBytes_any _ l _ (unhide HR)).mono ?_
  rintro e w1 ⟨v1, rfl, ho1, hb1⟩
  have O1 := hide ho1
  have B1 := hide hb1
  clear ho1 hb1
  go_wp2_with fail
  refine (specSum_any v1 l was _ (own_rd (unhide O1)) hb).mono ?_
  rintro e w2 ⟨rfl, rfl⟩
  go_wp2_with fail
  refine (toBytes_any _ l _ (rd_below (unhide HR) (unhide B1) (Nat.le_refl _))).mono ?_
  rintro e w3 ⟨v2, rfl, ho2, hb2⟩
  have O2 := hide ho2
  have B2 := hide hb2
  clear ho2 hb2
  go_wp2_with fail
  refine (implSum_any v2 l was _ (own_rd (unhide O2)) hb).mono ?_
  rintro e w4 ⟨rfl, rfl⟩
  go_wp2_with fail
  refine (toBytes_any _ l _ (rd_below (rd_below (unhide HR) (unhide B1) (Nat.le_refl _)) (unhide B2) (Nat.le_refl _))).mono ?_
  rintro e w5 ⟨v3, rfl, ho3, hb3⟩
  have O3 := hide ho3
  have B3 := hide hb3
  clear ho3 hb3
  go_wp2_with fail
  refine (eqBytes_same v2 v3 l _ (own_rd (own_below (unhide O2) (unhide B3) (Nat.le_refl _))) (own_rd (unhide O3))).mono ?_
  rintro e w6 ⟨rfl, n6, rfl⟩
  go_wp2_with fail
  go_ret
  refine ⟨rfl, below_drewN' (((unhide B1).trans ((unhide B2).mono (unhide B1).size)).trans ((unhide B3).mono (Nat.le_trans (unhide B1).size (unhide B2).size))) n6⟩

theorem lawSum (a : Option Addr) (len cap : Nat) (zs : List Int) (was : Int) (w : World)
    (h : (a = none ∧ len = 0 ∧ cap = 0 ∧ zs = []) ∨ ∃ x, a = some x ∧ len ≤ cap ∧ cap ≤ maxLen ∧ zs.length = cap ∧ (∀ i, i < zs.length → w.cell? (x.add i) = some (.int .u8 (zs.getD i 0))) ∧ ∀ n ∈ zs, (Lit.int .u8 n).wf = true) :
    Calls Try.prog 3 #[.slice a len cap, .int .i64 was] w fun e w' => e = .returned (.bool true) ∧ Below w.heap.size w w' := by
  by_cases hl : len ≤ 1048576
  · obtain ⟨h1, h2, h3⟩ := rd_of_row h (by omega)
    exact exactSum _ _ was w h2 h3 (by omega)
  · have hl' : (1048576 : Int) < len := by omega
    clear h
    go_enter Try.func3, Try.ntmps3
    go_wp2_with fail
    go_ret
    exact ⟨rfl, Below.refl _ _⟩
end Go.Proofs.Ytfpbpjhnafjcoaa
