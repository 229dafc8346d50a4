/-
  The exact law of GroupFrame, walked: it returns true, and nothing that was there is turned.
-/
import Derived.Test.YtmeekcdoajbjdaaGreatDoorGj39
import Derived.Test.YtmeekcdoajbjdaaGreatDoorGj43
import Derived.Test.YtmeekcdoajbjdaaGreatDoorGj45
import Derived.Test.YtmeekcdoajbjdaaGreatDoorGj46
namespace Go.Proofs.YtmeekcdoajbjdaaGreatDoor
open Go.RowKit
set_option linter.unusedVariables false

theorem gC0 {l : List Ev} {s : Int} (h : gC l s = 0) : (payE l).length ≤ 8192 := by
  unfold gC at h
  repeat' split at h
  all_goals omega
theorem gL_len (l : List Ev) (s : Int) : (gL l s).length ≤ 10000 := by
  by_cases h : gC l s = 0
  · have h2 := frH_lenG (m := 71) (gC0 h)
    rw [gL, if_pos h, frL, List.length_append]
    simp
    omega
  · rw [gL, if_neg h]
    simp
set_option maxRecDepth 100000 in
set_option maxHeartbeats 6400000 in
theorem exactGrp (v : Value) (l : List Ev) (s : Int) (w : World) (hr : RdR Ev.vs 14 w v l) (hok : ∀ e ∈ l, e.ok) (hl : l.length ≤ 1048576) (hE : ErrT w) :
    Calls Tryz.prog 3 #[v, .int .i64 s] w fun e w' => e = .returned (.bool true) ∧ Below w.heap.size w w' := by
  have hf : ∀ e ∈ l, e.fit := fun e he => (hok e he).fit
  have HS := hide (fun v W h => specGroup_any v l s W h hf)
  have HI := hide (fun v W h h2 => implGroup_any v l s W h hf h2)
  have HZ := hide (szEventS_any v l w hr hl (fun e he => (hf e he).g))
  have HT := hide (fun W hb => toEventS_any v l W (rdR_below (w' := W) hr hb (Nat.le_refl _)))
  have HE := hide (fun W hb => errT_below (w' := W) hE hb (Nat.le_refl _))
  have hll := gL_len l s
  generalize gL l s = L at HS HI hll
  generalize gS l s = S at HS HI
  generalize gC l s = C at HS HI
  clear hr hok hf hE
  have hneg : ¬ (1 + (L.length : Int) < 0) := by omega
  have hneg2 : ¬ (((1 + 14 * l.length : Nat) : Int) < 0) := by omega
  go_enter Tryz.func3, Tryz.ntmps3
  go_wp2_with fail
  refine (unhide HZ).mono ?_
  rintro e W1 ⟨y, rfl, hy, hb⟩
  have B1 := hide hb
  clear hb
  by_cases hy0 : y < 0
  · go_wp2_with fail
    go_ret
    exact ⟨rfl, unhide B1⟩
  go_wp2_with fail
  refine (unhide HT W1 (unhide B1)).mono ?_
  rintro e W2 ⟨x, rfl, ho, hb⟩
  have XA := hide (ownR_rd ho)
  have B2 := hide ((unhide B1).trans (hb.mono (unhide B1).size))
  clear ho hb
  go_wp2_with fail
  refine (unhide HS x W2 (unhide XA)).mono ?_
  rintro e W3 ⟨v0, rfl, ho, hb⟩
  have O0 := hide ho
  have hv0 : Hid (∀ g, v0.ownBlock = some g → g < W3.heap.size) := fun g hg => (ho.lt g hg).2
  have B3 := hide ((unhide B2).trans (hb.mono (unhide B2).size))
  clear ho hb XA
  go_wp2_with fail
  refine (unhide HT W3 (unhide B3)).mono ?_
  rintro e W4 ⟨x0, rfl, ho, hb⟩
  have X0 := hide ho
  have hx0 : Hid (l ≠ [] → ∃ g, x0.ownBlock = some g ∧ W3.heap.size ≤ g ∧ g < W4.heap.size) := fun h => ownR_lt ho h
  have O0 := hide (bRow_below (unhide O0) hb)
  have B4 := hide ((unhide B3).trans (hb.mono (unhide B3).size))
  have h34 : W3.heap.size ≤ W4.heap.size := hb.size
  clear ho hb
  go_wp2_with fail
  refine (unhide HI x0 W4 (ownR_rd (unhide X0)) (unhide HE W4 (unhide B4))).mono ?_
  rintro e W5 ⟨v1, rfl, ho, hb⟩
  have O1 := hide ho
  have O0 := hide (bRow_below (unhide O0) hb)
  have X0 := hide (ownR_below (unhide X0) hb (Nat.le_refl _))
  have B5 := hide ((unhide B4).trans (hb.mono (unhide B4).size))
  clear ho hb
  go_wp2_with fail
  refine (eqBytes_same v1 v0 L W5 (bRow_rd (unhide O1) (by omega)) (bRow_rd (unhide O0) (by omega))).mono ?_
  rintro e W6 ⟨rfl, q6, rfl⟩
  have O1 : Hid (BRow (W5.drewN q6) W4.heap.size v1 L) := unhide O1
  have O0 : Hid (BRow (W5.drewN q6) W2.heap.size v0 L) := unhide O0
  have X0 : Hid (OwnR Ev.vs 14 W3.heap.size (W5.drewN q6) x0 l) := unhide X0
  have B6 : Hid (Below w.heap.size w (W5.drewN q6)) := below_drewN' (unhide B5) q6
  generalize (W5.drewN q6) = W6 at O1 O0 X0 B6 ⊢
  clear B5
  go_wp2_with fail
  refine (unhide HT W6 (unhide B6)).mono ?_
  rintro e W7 ⟨x1, rfl, ho, hb⟩
  have X1 := hide (ownR_rd ho)
  have O1 := hide (bRow_below (unhide O1) hb)
  have O0 := hide (bRow_below (unhide O0) hb)
  have X0 := hide (ownR_below (unhide X0) hb (Nat.le_refl _))
  have B7 := hide ((unhide B6).trans (hb.mono (unhide B6).size))
  clear ho hb
  go_wp2_with fail
  refine (eqEventS_same x0 x1 l W7 (ownR_rd (unhide X0)) (unhide X1)).mono ?_
  rintro e W8 ⟨rfl, hb⟩
  have O1 := hide (bRow_below (unhide O1) hb)
  have O0 := hide (bRow_below (unhide O0) hb)
  have X0 := hide (ownR_below (unhide X0) hb (Nat.le_refl _))
  have B8 := hide ((unhide B7).trans (hb.mono (unhide B7).size))
  clear hb X1
  go_wp2_with fail
  refine (markE_own x0 l 1 W8 (unhide X0) (by omega) (by omega) (by omega)).mono ?_
  rintro e W9 ⟨rfl, -, G, hgr, hG⟩
  have O0 := hide (World.ownsRow.kept (unhide O0) hgr (by cases e : v0.ownBlock with | none => exact .inl rfl | some g => exact .inr fun e2 => by have h1 := unhide hv0 g e; have h2 := (hG g e2.symm).2.1; omega))
  have O1 := hide (World.ownsRow.kept (unhide O1) hgr (by
    cases e : v1.ownBlock with
    | none => exact .inl rfl
    | some g =>
      refine .inr fun e2 => ?_
      have h1 := ((unhide O1).lt g e).1
      obtain ⟨h2, h3, h4⟩ := hG g e2.symm
      obtain ⟨g', h5, h6, h7⟩ := unhide hx0 h4
      rw [h2] at h5
      have h8 : g = g' := by simpa using h5
      omega))
  have B9 := hide ((unhide B8).grown hgr (unhide B8).size (fun g hg => Nat.le_trans (unhide B3).size (hG g hg).2.1))
  clear hgr hG X0
  go_wp2_with fail
  refine (eqBytes_same v1 v0 L W9 (bRow_rd (unhide O1) (by omega)) (bRow_rd (unhide O0) (by omega))).mono ?_
  rintro e W10 ⟨rfl, q10, rfl⟩
  have O1 : Hid (BRow (W9.drewN q10) W4.heap.size v1 L) := unhide O1
  have O0 : Hid (BRow (W9.drewN q10) W2.heap.size v0 L) := unhide O0
  have B10 : Hid (Below w.heap.size w (W9.drewN q10)) := below_drewN' (unhide B9) q10
  generalize (W9.drewN q10) = W10 at O1 O0 B10 ⊢
  clear B9
  go_wp2_with fail
  refine (markB v1 L W10 (unhide O1) (by omega)).mono ?_
  rintro e W11 ⟨rfl, hmk, G, hgr, hG⟩
  have O0 := hide (World.ownsRow.kept (unhide O0) hgr (by cases e : v0.ownBlock with | none => exact .inl rfl | some g => exact .inr fun e2 => by have h1 := unhide hv0 g e; have h2 := ((unhide O1).lt g (hG g e2.symm)).1; omega))
  have B11 := hide ((unhide B10).grown hgr (unhide B10).size (fun g hg => Nat.le_trans (unhide B4).size ((unhide O1).lt g (hG g hg)).1))
  have MK7 := hide hmk
  clear hmk hgr hG O1 B10
  go_wp2_with fail
  refine (heldB v1 L.length W11 (unhide MK7)).mono ?_
  rintro e W12 ⟨rfl, q8, rfl⟩
  have MK8 := hide (mk_drew (unhide MK7) q8)
  have O0 : Hid (BRow (W11.drewN q8) W2.heap.size v0 L) := unhide O0
  have B12 : Hid (Below w.heap.size w (W11.drewN q8)) := below_drewN' (unhide B11) q8
  generalize (W11.drewN q8) = W12 at MK8 O0 B12 ⊢
  clear MK7 B11
  go_wp2_with fail
  refine (unhide HT W12 (unhide B12)).mono ?_
  rintro e W13 ⟨x2, rfl, ho, hb⟩
  have X2 := hide (ownR_rd ho)
  have O0 := hide (bRow_below (unhide O0) hb)
  have MK9 := hide (mk_below (unhide MK8) hb (Nat.le_refl _))
  have B13 := hide ((unhide B12).trans (hb.mono (unhide B12).size))
  clear ho hb MK8 B12
  go_wp2_with fail
  refine (unhide HI x2 W13 (unhide X2) (unhide HE W13 (unhide B13))).mono ?_
  rintro e W14 ⟨v2, rfl, ho, hb⟩
  have O2 := hide ho
  have O0 := hide (bRow_below (unhide O0) hb)
  have MK10 := hide (mk_below (unhide MK9) hb (Nat.le_refl _))
  have B14 := hide ((unhide B13).trans (hb.mono (unhide B13).size))
  clear ho hb MK9 B13 X2
  go_wp2_with fail
  refine (eqBytes_same v2 v0 L W14 (bRow_rd (unhide O2) (by omega)) (bRow_rd (unhide O0) (by omega))).mono ?_
  rintro e W15 ⟨rfl, q11, rfl⟩
  have MK11 := hide (mk_drew (unhide MK10) q11)
  have B15 : Hid (Below w.heap.size w (W14.drewN q11)) := below_drewN' (unhide B14) q11
  clear O2 O0 MK10
  generalize (W14.drewN q11) = W15 at MK11 B15 ⊢
  go_wp2_with fail
  refine (heldB v1 L.length W15 (unhide MK11)).mono ?_
  rintro e W16 ⟨rfl, q12, rfl⟩
  have B16 : Hid (Below w.heap.size w (W15.drewN q12)) := below_drewN' (unhide B15) q12
  go_wp2_with fail
  go_ret
  exact ⟨rfl, unhide B16⟩
theorem lawGrp (a : Option Addr) (len cap : Nat) (s : Int) (w : World) (h : IsEvents w a len cap) (hE : ErrT w) :
    Calls Tryz.prog 3 #[.slice a len cap, .int .i64 s] w fun e w' => e = .returned (.bool true) ∧ Below w.heap.size w w' := by
  by_cases hl : len ≤ 1048576
  · obtain ⟨l, rfl, h2, h3⟩ := h.2 (by omega)
    exact exactGrp _ l s w h2 h3 hl hE
  · have HZ := hide (szEventS_long a len cap w (by omega) h.1)
    go_enter Tryz.func3, Tryz.ntmps3
    go_wp2_with fail
    refine (unhide HZ).mono ?_
    rintro e W1 ⟨rfl, rfl⟩
    go_wp2_with fail
    go_ret
    exact ⟨rfl, Below.refl _ _⟩
end Go.Proofs.YtmeekcdoajbjdaaGreatDoor
