/-
  The exact law of SumOfPrices, walked: it returns true, and nothing that was there is turned.
-/
import Derived.Test.YteljmhgpffekgaaSumPW
import Derived.Test.YteljmhgpffekgaaFlsW
import Derived.Test.YteljmhgpffekgaaFlsO
namespace Go.Proofs.Yteljmhgpffekgaa
open Go.RowKit

theorem sameFloat_has (o : Option Nat) (a b : Nat) (w : World) (ha : HasF o a) (hb : HasF o b) :
    Calls Try.prog 13 #[.float .f64 (fbit a), .float .f64 b] w fun e w' => e = .returned (.bool true) ∧ w' = w := by
  have nn : nanB 9221120237041090560 = true := by decide
  cases hn : nanB b with
  | true =>
    have hna : nanB a = true := by
      cases ho : o with
      | none => exact ha.2 ho
      | some r => rw [ha.1 r ho, ← hb.1 r ho]; exact hn
    refine sameFloat_nan _ _ w ?_ hn
    unfold fbit; rw [if_pos hna]; exact nn
  | false =>
    cases ho : o with
    | none => rw [hb.2 ho] at hn; cases hn
    | some r =>
      have e1 := ha.1 r ho
      have e2 := hb.1 r ho
      subst e1
      subst e2
      unfold fbit
      rw [if_neg (by rw [hn]; decide)]
      exact sameFloat_any _ w

set_option maxRecDepth 100000 in
set_option maxHeartbeats 800000 in
theorem exactSumP (v : Value) (l : List Nat) (w : World) (hr : RdF w v l) (hl : l.length ≤ 1048576) :
    Calls Try.prog 8 #[v] w fun e w' => e = .returned (.bool true) ∧ Below w.heap.size w w' := by
  have HR := hide hr
  obtain ⟨a, cap, rfl, _, hc⟩ := hr
  clear hc
  have hl' : (l.length : Int) ≤ 1048576 := by omega
  go_enter Try.func8, Try.ntmps8
  go_wp2_with fail
  refine (toFloats_any _ l _ (unhide HR)).mono ?_
  rintro e w1 ⟨v1, rfl, ho1, hb1⟩
  have O1 := hide ho1
  have B1 := hide hb1
  clear ho1 hb1
  go_wp2_with fail
  by_cases hk : l.length ≤ 4096
  · refine (specSumP_any v1 l _ (unhide O1) hk).mono ?_
    rintro e w2 ⟨s1, n1, rfl, hs1, rfl⟩
    have S1 := hide hs1
    clear hs1
    go_wp2_with fail
    refine (toFloats_any _ l _ (rdF_drewN (rdF_below (unhide HR) (unhide B1) (Nat.le_refl _)) n1)).mono ?_
    rintro e w3 ⟨v2, rfl, ho2, hb2⟩
    have O2 := hide ho2
    have B2 := hide hb2
    clear ho2 hb2
    go_wp2_with fail
    refine (implSumP_any v2 l _ (unhide O2) hk).mono ?_
    rintro e w4 ⟨s2, n2, rfl, hs2, rfl⟩
    have S2 := hide hs2
    clear hs2
    go_wp2_with fail
    refine (sameFloat_has _ _ _ _ (unhide S2) (unhide S1)).mono ?_
    rintro e w4 ⟨rfl, rfl⟩
    go_wp2_with fail
    refine (toFloats_any _ l _ (rdF_drewN (rdF_below (rdF_drewN (rdF_below (unhide HR) (unhide B1) (Nat.le_refl _)) n1) (unhide B2) (Nat.le_refl _)) n2)).mono ?_
    rintro e w5 ⟨v3, rfl, ho3, hb3⟩
    have O3 := hide ho3
    have B3 := hide hb3
    clear ho3 hb3
    go_wp2_with fail
    refine (eqFloats_same v2 v3 l _ (rdF_below (rdF_drewN (unhide O2) n2) (unhide B3) (Nat.le_refl _)) (unhide O3)).mono ?_
    rintro e w6 ⟨rfl, hb6⟩
    have B6 := hide hb6
    clear hb6
    go_wp2_with fail
    go_ret
    have b1 := below_drewN' (unhide B1) n1
    have b2 := below_drewN' (b1.trans ((unhide B2).mono b1.size)) n2
    have b3 := b2.trans ((unhide B3).mono b2.size)
    exact ⟨rfl, b3.trans ((unhide B6).mono b3.size)⟩
  · have hk' : 4096 < l.length := by omega
    refine (specSumP_long v1 l _ (unhide O1) hk').mono ?_
    rintro e w2 ⟨rfl, rfl⟩
    go_wp2_with fail
    refine (toFloats_any _ l _ (rdF_below (unhide HR) (unhide B1) (Nat.le_refl _))).mono ?_
    rintro e w3 ⟨v2, rfl, ho2, hb2⟩
    have O2 := hide ho2
    have B2 := hide hb2
    clear ho2 hb2
    go_wp2_with fail
    refine (implSumP_long v2 l _ (unhide O2) hk').mono ?_
    rintro e w4 ⟨rfl, rfl⟩
    go_wp2_with fail
    refine (sameFloat_any _ _).mono ?_
    rintro e w4 ⟨rfl, rfl⟩
    go_wp2_with fail
    refine (toFloats_any _ l _ (rdF_below (rdF_below (unhide HR) (unhide B1) (Nat.le_refl _)) (unhide B2) (Nat.le_refl _))).mono ?_
    rintro e w5 ⟨v3, rfl, ho3, hb3⟩
    have O3 := hide ho3
    have B3 := hide hb3
    clear ho3 hb3
    go_wp2_with fail
    refine (eqFloats_same v2 v3 l _ (rdF_below (unhide O2) (unhide B3) (Nat.le_refl _)) (unhide O3)).mono ?_
    rintro e w6 ⟨rfl, hb6⟩
    have B6 := hide hb6
    clear hb6
    go_wp2_with fail
    go_ret
    have b2 := (unhide B1).trans ((unhide B2).mono (unhide B1).size)
    have b3 := b2.trans ((unhide B3).mono b2.size)
    exact ⟨rfl, b3.trans ((unhide B6).mono b3.size)⟩

theorem lawSumP (a : Option Addr) (len cap : Nat) (w : World) (h : IsFloats w a len cap) :
    Calls Try.prog 8 #[.slice a len cap] w fun e w' => e = .returned (.bool true) ∧ Below w.heap.size w w' := by
  obtain ⟨hm, h⟩ := h
  by_cases hl : len ≤ 1048576
  · obtain ⟨l, rfl, h2, _⟩ := h (by omega)
    exact exactSumP _ _ w h2 hl
  · have hl' : (1048576 : Int) < len := by omega
    clear h
    unfold maxLen at hm
    go_enter Try.func8, Try.ntmps8
    go_wp2_with fail
    go_ret
    exact ⟨rfl, Below.refl _ _⟩
end Go.Proofs.Yteljmhgpffekgaa
