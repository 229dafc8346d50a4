/-
  The law of the numbers, walked: it returns true, and nothing that was there is turned.
-/
import Derived.Test.YtglcppjfbkbbpaaDoorPutNumW
import Derived.Test.YtglcppjfbkbbpaaDoorReadAtI
import Derived.Test.YtglcppjfbkbbpaaDoorAppRd
import Derived.Test.YtglcppjfbkbbpaaDoorSrcN
import Derived.Test.YtglcppjfbkbbpaaDoorNumB
import Derived.Test.YtglcppjfbkbbpaaDoorErrTab
import Derived.Deep.RegionWith
namespace Go.Proofs.YtglcppjfbkbbpaaDoor
open Go.RowKit
set_option linter.unusedVariables false

theorem bts_append {a b : List Int} (ha : Bts a) (hb : Bts b) : Bts (a ++ b) := by
  intro x hx
  rcases List.mem_append.1 hx with h | h
  · exact ha x h
  · exact hb x h
theorem made_ge (w : World) : ∀ k, Value.ownBlock (.slice (some ⟨w.heap.size, 0, none⟩) 0 0) = some k → w.heap.size ≤ k := by
  intro k hk; simp [Value.ownBlock] at hk; omega

/-- A byte of a row that the call made is written: the row is the call's own still. -/
theorem row_set {B g cap n k : Nat} {t : TypeId} {w : World} {z : Int} {l : List Int} (h : w.ownsRow B t 1 (.slice (some ⟨g, 0, none⟩) n cap) n (l.map (Value.int .u8))) (hk : k < n) :
    (w.setCell ⟨g, k, none⟩ (.int .u8 z)).ownsRow B t 1 (.slice (some ⟨g, 0, none⟩) n cap) n ((l.set k z).map (Value.int .u8)) := by
  obtain ⟨hl, h⟩ := h
  rcases h with ⟨h0, _⟩ | ⟨g', cap', cur, hv, hb, hg, h1, h2, hcur, htake⟩
  · simp at h0
  · simp only [Value.slice.injEq, Option.some.injEq, Addr.mk.injEq, and_true, true_and] at hv
    obtain ⟨rfl, rfl⟩ := hv
    refine ⟨by simpa using hl, .inr ⟨g, cap, cur.setIfInBounds k (.int .u8 z), rfl, hb, by simp [World.setCell, Array.getElem?_modify, hg], h1, h2, by simpa using hcur, ?_⟩⟩
    rw [Array.toList_setIfInBounds, List.take_set, htake, List.map_set]
theorem row_shape {B n : Nat} {t : TypeId} {w : World} {v : Value} {l : List Int} (h : w.ownsRow B t 1 v n (l.map (Value.int .u8))) (hn : 0 < n) :
    ∃ g cap, v = .slice (some ⟨g, 0, none⟩) n cap ∧ B ≤ g ∧ n ≤ cap ∧ ∀ k, k < n → w.cell? ⟨g, k, none⟩ = some (.int .u8 (l.getD k 0)) ∧ w.frozen? ⟨g, k, none⟩ = false := by
  obtain ⟨hl, h⟩ := h
  rcases h with ⟨_, h0⟩ | ⟨g, cap, cur, hv, hb, hg, h1, h2, hcur, htake⟩
  · omega
  · have hln : l.length = n := by simpa using hl
    refine ⟨g, cap, hv, hb, h1, fun k hk => ⟨cell_head hg (by rw [hln]; simpa using htake) (by omega), by simp [World.frozen?, hg]⟩⟩
theorem rd_take {w : World} {a : Option Addr} {l : List Int} {cap k : Nat} (h : Rd w (.slice a l.length cap) l) (hk : k ≤ l.length) : Rd w (.slice a k cap) (l.take k) := by
  obtain ⟨a', cap', e, hl, hc⟩ := h
  simp only [Value.slice.injEq, true_and] at e
  obtain ⟨rfl, rfl⟩ := e
  have hlen : (l.take k).length = k := by rw [List.length_take]; omega
  refine ⟨a, cap, by rw [hlen], by omega, fun hne => ?_⟩
  obtain ⟨b, off, rfl, hcell⟩ := hc (by intro e; subst e; simp at hne)
  refine ⟨b, off, rfl, fun i hi => ?_⟩
  rw [hlen] at hi
  rw [hcell i (by omega)]
  simp [hi]
theorem cell_one_set (w : World) (p : Addr) (x e : Value) (t : TypeId) : ∀ (j : Nat) (u : Value), [e][j]? = some u → ((w.setCell p x).alloc (.cells #[e] t)).cell? ((⟨w.heap.size, 0, none⟩ : Addr).add j) = some u := by
  have h := cell_one_new (w.setCell p x) e t
  have hs : (w.setCell p x).heap.size = w.heap.size := by simp [World.setCell]
  rw [hs] at h
  exact h
theorem bts_take {l : List Int} (h : Bts l) (k : Nat) : Bts (l.take k) := fun x hx => h x (List.mem_of_mem_take hx)
theorem putL_bts (u : Nat) : Bts (putL u) := by
  induction u using Nat.strongRecOn with
  | _ u ih =>
    by_cases hu : u < 128
    · rw [putL_small hu]; intro x hx; simp at hx; omega
    · rw [putL_great hu]; intro x hx
      rcases List.mem_cons.1 hx with rfl | hx
      · omega
      · exact ih (u / 128) (by omega) x hx

set_option maxRecDepth 100000 in
set_option maxHeartbeats 1000000 in
theorem numsBoth (vc vm : Value) (lc lm : List Int) (w : World) (hrc : Rd w vc lc) (hrm : Rd w vm lm) (hnm : NilOk vm) (hbc : Bts lc) (hbm : Bts lm) (h1 : lc.length ≤ 1048576) (h2 : lm.length ≤ 60000) (hE : ErrT w) :
    Calls Tryd.prog 3 #[vc, vm] w fun e w' => e = .returned (.bool true) ∧ Below w.heap.size w w' := by
  obtain ⟨i0, hi, hz0, hz1, hz2⟩ := info_parts Tryd.infoByte
  have HC := hide hrc
  have HM := hide hrm
  have HNM := hide hnm
  have HE := hide hE
  have HBC := hide hbc
  have HBM := hide hbm
  obtain ⟨ac, cc, rfl, -, -⟩ := hrc
  obtain ⟨am, cm, rfl, -, -⟩ := hrm
  have h1' : (lc.length : Int) ≤ 1048576 := by omega
  have h2' : (lm.length : Int) ≤ 60000 := by omega
  clear hnm hE hbc hbm
  go_enter Tryd.func3, Tryd.ntmps3
  go_wp2_with fail
  refine (numberOf_any _ lc _ (unhide HC) (unhide HBC)).mono ?_
  rintro e w1 ⟨n, rfl, hn0, hn1, hb1⟩
  have B1 := hide hb1
  clear hb1 HC HBC
  go_wp2_with fail
  refine (implPut_any n _ hn0 hn1).mono ?_
  rintro e w2 ⟨vb, rfl, ho2, hb2⟩
  have HU := hide (zz_lt n hn0 hn1)
  have HN := hide (unz_zz n)
  have HL := hide (putU_len10 _ (zz_lt n hn0 hn1))
  generalize zz n = u at *
  have O2 := hide ho2
  have B2 := hide (show Below w.heap.size w w2 from (unhide B1).trans (hb2.mono (unhide B1).size))
  have HP := hide (putU_pos u)
  obtain ⟨gb, capb, cur, t, rfl, hgb, hgh, hlc, hcs, hcm, hlen, hcur⟩ := ho2
  have hp := putU_pos u
  have hl10 := unhide HL
  clear hb2 hgh hcur
  have HM2 := hide (rd_below (unhide HM) (unhide B2) (Nat.le_refl _))
  have HE2 := hide (errT_below (unhide HE) (unhide B2) (Nat.le_refl _))
  have HB2 := hide (own_rd (unhide O2).own)
  have HT : Hid (numA (lm ++ putU u) lm.length = (n, ((lm.length + (putU u).length : Nat) : Int), 0)) := by
    rw [numA_some (by rw [List.length_append]; omega) (by rw [List.length_append]; omega) (getU_put lm u (unhide HU)), unhide HN]; rfl
  have HBB := hide (bts_append (unhide HBM) (putU_bts u))
  clear HM HE
  go_wp2_with (first | (at_builtin; refine wpList_append_rd _ rfl (.tmp 30) (.tmp 31) 22 rfl w2.heap.size 5 i0 Tryd.underlying22 hi hz0 hz1 hz2 _ 0 [] rfl (World.ownsRow_made _ _ _ (Nat.le_refl _) (by decide) rfl) _ lm rfl (rd_below (unhide HM2) ((Below.refl _ _).alloc (Nat.le_refl _) _) (Nat.le_refl _)) (unhide HNM) (by omega) (by simp) ?_; intro v3 w3 ho3 hg3; have B3 := hide (((Below.refl _ w2).alloc (Nat.le_refl _) _).grown hg3 (by simp) (made_ge w2)); clear hg3) | (at_builtin; go_must (refine wpList_append_rd _ rfl (.tmp 32) (.tmp 33) 22 rfl w2.heap.size 5 i0 Tryd.underlying22 hi hz0 hz1 hz2 _ _ _ rfl ho3 _ (putU u) rfl (rd_below (unhide HB2) (unhide B3) (Nat.le_refl _)) (nilOk_own (unhide O2).own) (by omega) (unhide B3).size ?_); intro v4 w4 ho4 hg4; have B4 := hide ((unhide B3).grown hg4 (unhide B3).size (fun k hk => (ho3.lt k hk).1)); clear hg4))
  have O4 : Hid (OwnT w2.heap.size w4 v4 (lm ++ putU u)) := ownT_row (by rw [List.length_append]; omega) (by rw [List.length_append]; omega) (by simpa using ho4)
  have HB4 := hide (rd_below (unhide HB2) (unhide B4) (Nat.le_refl _))
  have HE4 := hide (errT_below (unhide HE2) (unhide B4) (Nat.le_refl _))
  clear ho3 ho4 B3 HB2 HE2 HM2
  refine (implGetNum_any v4 (lm ++ putU u) lm.length _ (own_rd (unhide O4).own) (capOk_own (unhide O4)) (unhide HBB) (unhide HE4)).mono ?_
  rw [unhide HT]
  rintro e w5 ⟨rfl, hb5⟩
  have B5 := hide hb5
  have HB5 := hide (rd_below (unhide HB4) hb5 (Nat.le_refl _))
  have HE5 := hide (errT_below (unhide HE4) hb5 (Nat.le_refl _))
  have BW := hide (show Below w.heap.size w w5 from ((unhide B2).trans ((unhide B4).mono (unhide B2).size)).trans (hb5.mono (Nat.le_trans (unhide B2).size (unhide B4).size)))
  clear hb5 HB4 HE4 B4 B5 O4 HT HBB
  have hp' : (1 : Int) ≤ (putU u).length := by omega
  have hl10' : ((putU u).length : Int) ≤ 10 := by omega
  have HLA := hide (putU_last u)
  have HLO := hide (long_eq u)
  have HSH := hide (short_eq u)
  have HBU := hide (putU_bts u)
  obtain ⟨k, hk⟩ : ∃ k, (putU u).length = k + 1 := ⟨(putU u).length - 1, by omega⟩
  rw [hk, Nat.add_sub_cancel] at HLA HLO HSH
  generalize putU u = lb at *
  have HK := hide hk
  simp only [hk]
  have hk9 : k ≤ 9 := by omega
  clear hk hp HP HL O2 hcs hcm hlen hl10 hp' hl10' hgb
  unfold tup3
  go_wp2_with (first | (at_builtin; refine wpList_append_rd _ rfl (.tmp 67) (.tmp 68) 22 rfl w5.heap.size 5 i0 Tryd.underlying22 hi hz0 hz1 hz2 _ 0 [] rfl (World.ownsRow_made _ _ _ (Nat.le_refl _) (by decide) rfl) _ lb (by rw [unhide HK]; rfl) (rd_below (unhide HB5) ((Below.refl _ _).alloc (Nat.le_refl _) _) (Nat.le_refl _)) (by intro a b c; cases c) (by rw [unhide HK]; omega) (by simp) ?_; intro v6 w6 ho6 hg6; have B6 := hide (((Below.refl _ w5).alloc (Nat.le_refl _) _).grown hg6 (by simp) (made_ge w5)); clear hg6; have ho6' : w6.ownsRow w5.heap.size 5 1 v6 (k + 1) (lb.map (Value.int .u8)) := (by have := ho6; rw [Nat.zero_add, List.nil_append, unhide HK] at this; exact this); clear ho6; obtain ⟨g6, cap6, rfl, hg6, hcap6, hcell6⟩ := row_shape ho6' (by omega); obtain ⟨hck, hfk⟩ := hcell6 k (by omega); clear hcell6; have O6 := hide ho6'; clear ho6'; have hc := (unhide HLA); have hor := or128c _ hc.1 hc.2; generalize hcc : lb.getD k 0 = c at *; have O7 := hide (row_set (k := k) (z := c + 128) (unhide O6) (Nat.lt_succ_self k)); clear O6) | (at_builtin; go_must (refine wpList_append_own _ rfl (.tmp 79) (.tmp 80) 22 rfl w5.heap.size 5 i0 (.int .u8 0) 1 1 Tryd.underlying22 hi hz0 hz1 hz2 rfl (by decide) _ _ _ rfl ((unhide O7).alloc _) _ 1 1 [.int .u8 0] rfl rfl (cell_one_set _ _ _ _ _) (by simp [Value.oneCell']) (by unfold maxLen; omega) (by omega) (by have := (unhide B6).size; simp [World.setCell]; omega) ?_); intro v8 w8 ho8 hg8 _))
  have B8 : Hid (Below w5.heap.size w5 w8) := ((((unhide B6).setCell (p := ⟨g6, k, none⟩) hg6 _).alloc (by have := (unhide B6).size; simp [World.setCell]; omega) _).grown hg8 (by have := (unhide B6).size; simp [World.setCell]; omega) (fun j hj => by have hj' : g6 = j := Option.some.inj hj; omega))
  have O8 : Hid (OwnT w5.heap.size w8 v8 (putL u)) := by
    refine ownT_done (done := lb.set k (c + 128)) (x := 0) ?_ (unhide HLO) ?_
    · have e : (lb.set k (c + 128)).length = k + 1 := by rw [List.length_set]; exact unhide HK
      rw [e]; exact ho8
    · have e := congrArg List.length (unhide HLO)
      rw [List.length_append, List.length_set, unhide HK] at e
      have e1 : ([0] : List Int).length = 1 := rfl
      omega
  have HT8 : Hid (numA (putL u) 0 = (0, 0, 3)) := by
    have e := congrArg List.length (unhide HLO)
    rw [List.length_append, List.length_set, unhide HK] at e
    have e1 : ([0] : List Int).length = 1 := rfl
    exact numA_none (k := 0) (by omega) (Nat.zero_le _) (getU_long u)
  clear ho8 hg8 O7 hck hfk hor
  refine (implGetNum_any v8 (putL u) 0 _ (own_rd (unhide O8).own) (capOk_own (unhide O8)) (putL_bts u) (errT_below (unhide HE5) (unhide B8) (Nat.le_refl _))).mono ?_
  rw [unhide HT8]
  rintro e w9 ⟨rfl, hb9⟩
  have B9 := hide (show Below w5.heap.size w5 w9 from (unhide B8).trans (hb9.mono (unhide B8).size))
  have HE9 := hide (errT_below (errT_below (unhide HE5) (unhide B8) (Nat.le_refl _)) hb9 (Nat.le_refl _))
  have HB9 : Hid (Rd w9 (.slice (some ⟨gb, 0, none⟩) k capb) (putS u)) := by
    have e := rd_take (rd_below (unhide HB5) (unhide B9) (Nat.le_refl _)) (k := k) (by rw [unhide HK]; omega)
    rw [unhide HSH] at e
    exact e
  have HT9 : Hid (numA (putS u) 0 = (0, 0, 3)) := by
    have e := congrArg List.length (unhide HSH)
    rw [List.length_take, unhide HK] at e
    exact numA_none (k := 0) (by omega) (Nat.zero_le _) (getU_short u)
  have HBS : Hid (Bts (putS u)) := by rw [← unhide HSH]; exact bts_take (unhide HBU) k
  clear hb9 B8 B6 O8 HT8 HE5 HB5
  have hcapb : k + 1 ≤ capb := by rw [← unhide HK]; exact hlc
  have hcapb' : (k : Int) ≤ capb := by omega
  unfold tup3
  go_wp2_with fail
  refine (implGetNum_any _ (putS u) 0 _ (unhide HB9) (by intro a b c h; simp only [Value.slice.injEq] at h; omega) (unhide HBS) (unhide HE9)).mono ?_
  rw [unhide HT9]
  rintro e w10 ⟨rfl, hb10⟩
  have BF : Hid (Below w.heap.size w w10) := ((unhide BW).trans ((unhide B9).mono (unhide BW).size)).trans (hb10.mono (Nat.le_trans (unhide BW).size (unhide B9).size))
  clear hb10
  unfold tup3
  go_wp2_with fail
  go_ret
  exact ⟨rfl, unhide BF⟩

theorem lawNums (a0 : Option Addr) (len0 cap0 : Nat) (z0 : List Int) (a1 : Option Addr) (len1 cap1 : Nat) (z1 : List Int) (w : World)
    (w0 : (a0 = none ∧ len0 = 0 ∧ cap0 = 0 ∧ z0 = []) ∨ ∃ x, a0 = some x ∧ len0 ≤ cap0 ∧ cap0 ≤ maxLen ∧ z0.length = cap0 ∧ (∀ i, i < z0.length → w.cell? (x.add i) = some (.int .u8 (z0.getD i 0))) ∧ ∀ n ∈ z0, (Lit.int .u8 n).wf = true)
    (w1 : (a1 = none ∧ len1 = 0 ∧ cap1 = 0 ∧ z1 = []) ∨ ∃ x, a1 = some x ∧ len1 ≤ cap1 ∧ cap1 ≤ maxLen ∧ z1.length = cap1 ∧ (∀ i, i < z1.length → w.cell? (x.add i) = some (.int .u8 (z1.getD i 0))) ∧ ∀ n ∈ z1, (Lit.int .u8 n).wf = true)
    (hE : ErrT w) :
    Calls Tryd.prog 3 #[.slice a0 len0 cap0, .slice a1 len1 cap1] w fun e w' => e = .returned (.bool true) ∧ Below w.heap.size w w' := by
  by_cases h0 : 1048576 < len0
  · have h0' : (1048576 : Int) < len0 := by omega
    clear w0 w1 hE
    go_enter Tryd.func3, Tryd.ntmps3
    go_wp2_with fail
    go_ret
    exact ⟨rfl, Below.refl _ _⟩
  by_cases h1 : 60000 < len1
  · have h0' : (len0 : Int) ≤ 1048576 := by omega
    have h1' : (60000 : Int) < len1 := by omega
    clear w0 w1 hE
    go_enter Tryd.func3, Tryd.ntmps3
    go_wp2_with fail
    go_ret
    exact ⟨rfl, Below.refl _ _⟩
  obtain ⟨e0, r0, b0⟩ := rd_of_row w0 (by omega)
  obtain ⟨e1, r1, b1⟩ := rd_of_row w1 (by omega)
  exact numsBoth _ _ _ _ w r0 r1 (nilOk_row w1) b0 b1 (by omega) (by omega) hE
end Go.Proofs.YtglcppjfbkbbpaaDoor
