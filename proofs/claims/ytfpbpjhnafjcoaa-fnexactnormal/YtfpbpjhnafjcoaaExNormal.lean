/-
  The exact law of Normal, walked: it returns true, and nothing that was there is turned.
-/
import Derived.Test.YtfpbpjhnafjcoaaNormW
import Derived.Test.YtfpbpjhnafjcoaaCmdE
import Derived.Test.YtfpbpjhnafjcoaaCmdH
import Derived.Test.YtfpbpjhnafjcoaaCmdN
import Derived.Test.YtfpbpjhnafjcoaaCmdO
namespace Go.Proofs.Ytfpbpjhnafjcoaa
open Go.RowKit
set_option linter.unusedVariables false

set_option maxRecDepth 100000 in
set_option maxHeartbeats 1600000 in
theorem exactNormal (v : Value) (l : List Cm) (w : World) (hr : RdR Cm.vs 8 w v l) (hl : l.length ≤ 1048576) (hg : ∀ c ∈ l, c.g.size ≤ maxLen) :
    Calls Try.prog 5 #[v] w fun e w' => e = .returned (.bool true) ∧ Below w.heap.size w w' := by
  have HR := hide hr
  have HG := hide hg
  have HLL : Hid ((normL l).length ≤ 2097152) := by
    show (normL l).length ≤ _
    unfold normL; split <;> simp <;> omega
  obtain ⟨a, cap, rfl, _, _⟩ := hr
  clear hg
  generalize hL : normL l = L at HLL
  generalize hD : normC l = d
  have HN : Hid (normL l = L ∧ normC l = d) := ⟨hL, hD⟩
  clear hL hD
  go_enter Try.func5, Try.ntmps5
  go_wp2_with fail
  refine (szCmdS_any _ l _ (unhide HR) hl (unhide HG)).mono ?_
  rintro e w1 ⟨y, rfl, hy0, hy1, hb1⟩
  have B1 := hide hb1
  clear hb1
  by_cases hy : y < 0
  · go_wp2_with fail
    go_ret
    exact ⟨rfl, unhide B1⟩
  go_wp2_with fail
  refine (toCmdS_any _ l _ (rdR_below (unhide HR) (unhide B1) (Nat.le_refl _))).mono ?_
  rintro e w2 ⟨v1, rfl, ho, hb⟩
  have O1 := hide ho
  have B2 := hide ((unhide B1).trans (hb.mono (unhide B1).size))
  clear ho hb
  go_wp2_with fail
  refine (specNormal_any v1 l _ (ownR_rd (unhide O1)) (unhide HG)).mono ?_
  rw [(unhide HN).1, (unhide HN).2]
  rintro e w3 ⟨u0, rfl, ho, hb⟩
  have OU := hide ho
  have B3 := hide ((unhide B2).trans (hb.mono (unhide B2).size))
  clear ho hb
  go_wp2_with fail
  refine (toCmdS_any _ l _ (rdR_below (unhide HR) (unhide B3) (Nat.le_refl _))).mono ?_
  rintro e w4 ⟨x0, rfl, ho, hb⟩
  have OX := hide ho
  have OU4 := hide (ownR_below (unhide OU) hb (Nat.le_refl _))
  have S34 := hide hb.size
  have B4 := hide ((unhide B3).trans (hb.mono (unhide B3).size))
  clear ho hb
  go_wp2_with fail
  refine (implNormal_any x0 l _ (ownR_rd (unhide OX)) (unhide HG)).mono ?_
  rw [(unhide HN).1, (unhide HN).2]
  rintro e w5 ⟨g0, rfl, ho, hb⟩
  have OG := hide ho
  have OX5 := hide (ownR_below (unhide OX) hb (Nat.le_refl _))
  have OU5 := hide (ownR_below (unhide OU4) hb (Nat.le_refl _))
  have B5 := hide ((unhide B4).trans (hb.mono (unhide B4).size))
  clear ho hb
  go_wp2_with fail
  refine (eqCmdS_same g0 u0 L _ (ownR_rd (unhide OG)) (ownR_rd (unhide OU5))).mono ?_
  rintro e w6 ⟨rfl, hb⟩
  have OG6 := hide (ownR_below (unhide OG) hb (Nat.le_refl _))
  have OX6 := hide (ownR_below (unhide OX5) hb (Nat.le_refl _))
  have OU6 := hide (ownR_below (unhide OU5) hb (Nat.le_refl _))
  have B6 := hide ((unhide B5).trans (hb.mono (unhide B5).size))
  clear hb
  go_wp2_with fail
  refine (toCmdS_any _ l _ (rdR_below (unhide HR) (unhide B6) (Nat.le_refl _))).mono ?_
  rintro e w7 ⟨t0, rfl, ho, hb⟩
  have OT := hide ho
  have OG7 := hide (ownR_below (unhide OG6) hb (Nat.le_refl _))
  have OX7 := hide (ownR_below (unhide OX6) hb (Nat.le_refl _))
  have OU7 := hide (ownR_below (unhide OU6) hb (Nat.le_refl _))
  have B7 := hide ((unhide B6).trans (hb.mono (unhide B6).size))
  clear ho hb
  go_wp2_with fail
  refine (eqCmdS_same x0 t0 l _ (ownR_rd (unhide OX7)) (ownR_rd (unhide OT))).mono ?_
  rintro e w8 ⟨rfl, hb⟩
  have OG8 := hide (ownR_below (unhide OG7) hb (Nat.le_refl _))
  have OX8 := hide (ownR_below (unhide OX7) hb (Nat.le_refl _))
  have OU8 := hide (ownR_below (unhide OU7) hb (Nat.le_refl _))
  have B8 := hide ((unhide B7).trans (hb.mono (unhide B7).size))
  clear hb
  go_wp2_with fail
  refine (markC_own x0 l _ (unhide OX8) (by omega)).mono ?_
  rintro e w9 ⟨rfl, _, G9, hgr, hG9⟩
  have OG9 := hide (ownR_grown (unhide OG8) hgr (fun hne e => by
    obtain ⟨g, h1, h2, _⟩ := ownR_lt (unhide OG) hne
    obtain ⟨h3, _, h4⟩ := hG9 g (by rw [← e, h1])
    obtain ⟨g', h5, _, h6⟩ := ownR_lt (unhide OX) h4
    rw [h3] at h5
    obtain rfl := Option.some.inj h5
    omega))
  have OU9 := hide (ownR_grown (unhide OU8) hgr (fun hne e => by
    obtain ⟨g, h1, _, h2⟩ := ownR_lt (unhide OU) hne
    obtain ⟨_, h4, _⟩ := hG9 g (by rw [← e, h1])
    omega))
  have B9 := hide ((unhide B8).trans (gr_below' hgr (fun g hg => Nat.le_trans (unhide B3).size (hG9 g hg).2.1) (unhide B8).size))
  clear hgr hG9
  have hk : ¬ (((1 + 8 * l.length : Nat) : Int) < 0) := by omega
  go_wp2_with fail
  refine (eqCmdS_same g0 u0 L _ (ownR_rd (unhide OG9)) (ownR_rd (unhide OU9))).mono ?_
  rintro e w10 ⟨rfl, hb⟩
  have OG10 := hide (ownR_below (unhide OG9) hb (Nat.le_refl _))
  have OU10 := hide (ownR_below (unhide OU9) hb (Nat.le_refl _))
  have B10 := hide ((unhide B9).trans (hb.mono (unhide B9).size))
  clear hb
  go_wp2_with fail
  refine (markC_own g0 L _ (unhide OG10) (unhide HLL)).mono ?_
  rintro e w11 ⟨rfl, ho, G11, hgr, hG11⟩
  have OM := hide ho
  have OU11 := hide (ownR_grown (unhide OU10) hgr (fun hne e => by
    obtain ⟨g, h1, _, h2⟩ := ownR_lt (unhide OU) hne
    obtain ⟨_, h4, _⟩ := hG11 g (by rw [← e, h1])
    have := unhide S34
    omega))
  have B11 := hide ((unhide B10).trans (gr_below' hgr (fun g hg => Nat.le_trans (unhide B4).size (hG11 g hg).2.1) (unhide B10).size))
  clear hgr hG11 ho
  have hm : ¬ (((1 + 8 * L.length : Nat) : Int) < 0) := by omega
  go_wp2_with fail
  refine (heldCmdS_any g0 L.length 1 _ (unhide HLL) (by omega) (by omega) (ownR_rd (unhide OM))).mono ?_
  rintro e w12 ⟨rfl, hb⟩
  have OM12 := hide (ownR_below (unhide OM) hb (Nat.le_refl _))
  have OU12 := hide (ownR_below (unhide OU11) hb (Nat.le_refl _))
  have B12 := hide ((unhide B11).trans (hb.mono (unhide B11).size))
  clear hb
  go_wp2_with fail
  refine (toCmdS_any _ l _ (rdR_below (unhide HR) (unhide B12) (Nat.le_refl _))).mono ?_
  rintro e w13 ⟨s0, rfl, ho, hb⟩
  have OS := hide ho
  have OM13 := hide (ownR_below (unhide OM12) hb (Nat.le_refl _))
  have OU13 := hide (ownR_below (unhide OU12) hb (Nat.le_refl _))
  have B13 := hide ((unhide B12).trans (hb.mono (unhide B12).size))
  clear ho hb
  go_wp2_with fail
  refine (implNormal_any s0 l _ (ownR_rd (unhide OS)) (unhide HG)).mono ?_
  rw [(unhide HN).1, (unhide HN).2]
  rintro e w14 ⟨h0, rfl, ho, hb⟩
  have OH := hide ho
  have OM14 := hide (ownR_below (unhide OM13) hb (Nat.le_refl _))
  have OU14 := hide (ownR_below (unhide OU13) hb (Nat.le_refl _))
  have B14 := hide ((unhide B13).trans (hb.mono (unhide B13).size))
  clear ho hb
  go_wp2_with fail
  refine (eqCmdS_same h0 u0 L _ (ownR_rd (unhide OH)) (ownR_rd (unhide OU14))).mono ?_
  rintro e w15 ⟨rfl, hb⟩
  have OM15 := hide (ownR_below (unhide OM14) hb (Nat.le_refl _))
  have B15 := hide ((unhide B14).trans (hb.mono (unhide B14).size))
  clear hb
  go_wp2_with fail
  refine (heldCmdS_any g0 L.length 1 _ (unhide HLL) (by omega) (by omega) (ownR_rd (unhide OM15))).mono ?_
  rintro e w16 ⟨rfl, hb⟩
  have B16 := hide ((unhide B15).trans (hb.mono (unhide B15).size))
  clear hb
  go_wp2_with fail
  go_ret
  exact ⟨rfl, unhide B16⟩

theorem lawNormal (a : Option Addr) (len cap : Nat) (w : World) (h : IsCmds w a len cap) :
    Calls Try.prog 5 #[.slice a len cap] w fun e w' => e = .returned (.bool true) ∧ Below w.heap.size w w' := by
  by_cases hl : len ≤ 1048576
  · obtain ⟨l, rfl, hr, hok⟩ := h.2 (by omega)
    exact exactNormal _ l w hr hl (fun c hc => (hok c hc).g)
  · have HZ := hide (fun W => szCmdS_long a len cap W (by omega) h.1)
    clear h
    go_enter Try.func5, Try.ntmps5
    go_wp2_with fail
    refine (unhide HZ _).mono ?_
    rintro e w1 ⟨rfl, rfl⟩
    go_wp2_with fail
    go_ret
    exact ⟨rfl, Below.refl _ _⟩
end Go.Proofs.Ytfpbpjhnafjcoaa
