/-
  The law of the sums, walked: it returns true, and nothing that was there is turned.
-/
import Derived.Test.YtglcppjfbkbbpaaSumW
import Derived.Test.YtglcppjfbkbbpaaAtW
import Derived.Test.YtglcppjfbkbbpaaAppRd
import Derived.Deep.RegionWith
namespace Go.Proofs.Ytglcppjfbkbbpaa
open Go.RowKit

theorem sumL_append (a b : List Int) (s : Int) : sumL (a ++ b) s = sumL b (sumL a s) := by
  unfold sumL; rw [List.foldl_append]
theorem sumOf_two (a b : List Int) (h : (a ++ b).length ≤ 65536) : sumOf b (sumOf a 1) = sumOf (a ++ b) 1 := by
  have hl : (a ++ b).length = a.length + b.length := List.length_append
  have h1 := sumL_bd a 1 (by omega) (by omega)
  rw [show sumOf a 1 = sumL a 1 from if_neg (by omega), show sumOf (a ++ b) 1 = sumL (a ++ b) 1 from if_neg (by omega), show sumOf b (sumL a 1) = sumL b (sumL a 1) from if_neg (by omega), sumL_append]
theorem sum_inj (b : List Int) : ∀ (s t : Int), 0 ≤ s → s < 65521 → 0 ≤ t → t < 65521 → sumL b s = sumL b t → s = t := by
  induction b with
  | nil => intro s t _ _ _ _ h; exact h
  | cons c r ih =>
    intro s t hs hs' ht ht' h
    have := ih _ _ (Int.emod_nonneg _ (by decide)) (Int.emod_lt_of_pos _ (by decide)) (Int.emod_nonneg _ (by decide)) (Int.emod_lt_of_pos _ (by decide)) h
    omega
theorem sum_mid (a b : List Int) (x z : Int) (hx : 0 ≤ x ∧ x ≤ 255) (hz : 0 ≤ z ∧ z ≤ 255) (hne : z ≠ x) : sumL (a ++ z :: b) 1 ≠ sumL (a ++ x :: b) 1 := by
  intro h
  rw [sumL_append, sumL_append] at h
  have hs := sumL_bd a 1 (by omega) (by omega)
  generalize sumL a 1 = s at *
  have := sum_inj b _ _ (Int.emod_nonneg _ (by decide)) (Int.emod_lt_of_pos _ (by decide)) (Int.emod_nonneg _ (by decide)) (Int.emod_lt_of_pos _ (by decide)) (show sumL b ((31 * s + z + 1) % 65521) = sumL b ((31 * s + x + 1) % 65521) from h)
  omega
theorem sum_turned (l : List Int) (k : Nat) (z : Int) (hk : k < l.length) (hb : Bts l) (hz : 0 ≤ z ∧ z ≤ 255) (hne : z ≠ l.getD k 0) (hl : l.length ≤ 65536) : sumOf (l.set k z) 1 ≠ sumOf l 1 := by
  rw [show sumOf l 1 = sumL l 1 from if_neg (by omega), show sumOf (l.set k z) 1 = sumL (l.set k z) 1 from if_neg (by simp; omega)]
  have e1 : l.take k ++ l.getD k 0 :: l.drop (k + 1) = l := by
    have h : l.getD k 0 = l[k] := by simp [hk]
    rw [h, List.getElem_cons_drop, List.take_append_drop]
  have e2 : l.take k ++ z :: l.drop (k + 1) = l.set k z := (List.set_eq_take_append_cons_drop.trans (if_pos hk)).symm
  have := sum_mid (l.take k) (l.drop (k + 1)) (l.getD k 0) z (bts_get hb k) hz hne
  rw [e1, e2] at this
  exact this
theorem bts_set {l : List Int} {k : Nat} {z : Int} (hb : Bts l) (hz : 0 ≤ z ∧ z ≤ 255) : Bts (l.set k z) := by
  intro x hx
  rcases List.mem_or_eq_of_mem_set hx with h | rfl
  · exact hb x h
  · exact hz
theorem bts_append {a b : List Int} (ha : Bts a) (hb : Bts b) : Bts (a ++ b) := by
  intro x hx
  rcases List.mem_append.1 hx with h | h
  · exact ha x h
  · exact hb x h

/-- A byte of a row that the call made is written: the row reads so. -/
theorem own_set {B : Nat} {w : World} {v : Value} {l : List Int} {g cap k : Nat} {z : Int} (h : Own B w v l) (hv : v = .slice (some ⟨g, 0, none⟩) l.length cap) (hk : k < l.length) :
    Own B (w.setCell ⟨g, k, none⟩ (.int .u8 z)) v (l.set k z) := by
  obtain ⟨g', cap', hv', h1, h2, hl, hc, hf⟩ := h
  rw [hv] at hv'
  simp only [Value.slice.injEq, Option.some.injEq, Addr.mk.injEq, and_true, true_and] at hv'
  obtain ⟨rfl, rfl⟩ := hv'
  refine ⟨g, cap, by rw [hv, List.length_set], h1, by simpa [World.setCell] using h2, by rw [List.length_set]; exact hl, fun i hi => ?_, fun i hi => ?_⟩
  · rw [List.length_set] at hi
    have hck := hc k hk
    rw [Nat.zero_add] at hck ⊢
    by_cases e : i = k
    · subst e; rw [World.cell?_setCell_same _ _ _ hck]; simp [hk]
    · rw [World.cell?_setCell_other _ _ _ _ (addr_ne (fun h => e h.symm))]
      have := hc i hi
      rw [Nat.zero_add] at this
      rw [this]
      simp [Ne.symm e]
  · rw [List.length_set] at hi
    rw [World.frozen?_setCell]; exact hf i hi

theorem made_ge (w : World) : ∀ k, Value.ownBlock (.slice (some ⟨w.heap.size, 0, none⟩) 0 0) = some k → w.heap.size ≤ k := by
  intro k hk; simp [Value.ownBlock] at hk; omega

set_option maxRecDepth 100000 in
set_option maxHeartbeats 1000000 in
theorem sumsBoth (vc vm : Value) (lc lm : List Int) (w : World) (hrc : Rd w vc lc) (hrm : Rd w vm lm) (hnc : NilOk vc) (hnm : NilOk vm) (hbc : Bts lc) (hbm : Bts lm) (h0 : 0 < lc.length) (h1 : lc.length ≤ 30000) (h2 : lm.length ≤ 30000) :
    Calls Try.prog 3 #[vc, vm] w fun e w' => e = .returned (.bool true) ∧ Below w.heap.size w w' := by
  obtain ⟨i0, hi, hz0, hz1, hz2⟩ := info_parts Try.infoByte
  have HC := hide hrc
  have HM := hide hrm
  have HNC := hide hnc
  have HNM := hide hnm
  obtain ⟨ac, cc, rfl, _, hcc⟩ := hrc
  obtain ⟨am, cm, rfl, _, hcm⟩ := hrm
  have h0' : ((lc.length : Int) == 0) = false := by simp; intro h; rw [h] at h0; simp at h0
  have h1' : (lc.length : Int) ≤ 30000 := by omega
  have h2' : (lm.length : Int) ≤ 30000 := by omega
  have HB := hide (bts_append hbc hbm)
  have HLen : Hid ((lc ++ lm).length = lc.length + lm.length) := List.length_append
  have HTwo := hide (sumOf_two lc lm (by rw [unhide HLen]; omega))
  have HX := hide (fun (k : Nat) (z : Int) hk hz hne => sum_turned (lc ++ lm) k z hk (unhide HB) hz hne (by rw [unhide HLen]; omega))
  clear hcc hcm hnc hnm
  go_enter Try.func3, Try.ntmps3
  go_wp2_with (first | (at_builtin; refine wpList_append_rd _ rfl (.tmp 21) (.tmp 22) 22 rfl w.heap.size 5 i0 Try.underlying22 hi hz0 hz1 hz2 _ 0 [] rfl (World.ownsRow_made _ _ _ (Nat.le_refl _) (by decide) rfl) _ lc rfl (rd_below (unhide HC) ((Below.refl _ _).alloc (Nat.le_refl _) _) (Nat.le_refl _)) (unhide HNC) (by omega) (by simp) ?_; intro v1 w1 ho1 hg1; have B1 := hide (((Below.refl _ w).alloc (Nat.le_refl _) _).grown hg1 (by simp) (made_ge w)); clear hg1) | (at_builtin; go_must (refine wpList_append_rd _ rfl (.tmp 23) (.tmp 24) 22 rfl w.heap.size 5 i0 Try.underlying22 hi hz0 hz1 hz2 _ _ _ rfl ho1 _ lm rfl (rd_below (unhide HM) (unhide B1) (Nat.le_refl _)) (unhide HNM) (by omega) (unhide B1).size ?_); intro v2 w2 ho2 hg2; have B2 := hide ((unhide B1).grown hg2 (unhide B1).size (fun k hk => (ho1.lt k hk).1)); clear hg2))
  have O2 : Hid (Own w.heap.size w2 v2 (lc ++ lm)) := (ownT_row (by rw [unhide HLen]; omega) (by rw [unhide HLen]; omega) (by simpa using ho2)).own
  clear ho1 ho2
  generalize lc ++ lm = l at *
  have HC2 := hide (rd_below (unhide HC) (unhide B2) (Nat.le_refl _))
  have HM2 := hide (rd_below (unhide HM) (unhide B2) (Nat.le_refl _))
  clear HC HM HNC HNM B1
  refine (implSum_any v2 l 1 w2 (own_rd (unhide O2)) (unhide HB)).mono ?_
  rintro e w3 ⟨rfl, rfl⟩
  have hxb := sumL_bd l 1 (by omega) (by omega)
  generalize hx : sumOf l 1 = x at *
  have HXE := hide hx
  clear hx
  go_wp2_with fail
  refine (implSum_any _ lc 1 _ (unhide HC2) hbc).mono ?_
  rintro e w3 ⟨rfl, rfl⟩
  go_wp2_with fail
  refine (implSum_any _ lm _ _ (unhide HM2) hbm).mono ?_
  rw [unhide HTwo]
  rintro e w3 ⟨rfl, rfl⟩
  go_wp2_with fail
  refine (specSum_any v2 l 1 _ (own_rd (unhide O2)) (unhide HB)).mono ?_
  rw [unhide HXE]
  rintro e w3 ⟨rfl, rfl⟩
  go_wp2_with fail
  refine (at_any _ lm 0 _ _ (unhide HM2) hbm (.inl rfl) (by omega) (by omega)).mono ?_
  rintro e w4 ⟨y, rfl, hy0, hy1, q4, rfl⟩
  obtain ⟨k, rfl⟩ := Int.eq_ofNat_of_zero_le hy0
  obtain ⟨g, cap, hv2, hBg, hgs, hl, hcell, hfr⟩ := unhide O2
  have hk : k < l.length := by rw [unhide HLen]; omega
  have hk' : (k : Int) < l.length := by omega
  have hck := hcell k hk
  have hfk := hfr k hk
  have hbk := bts_get (unhide HB) k
  rw [Nat.zero_add] at hck hfk
  have HNE := hide (unhide HX k)
  generalize l.getD k 0 = b at *
  rw [hv2]
  clear hcell hfr hy1
  go_wp2_with fail
  go_region_with (go_at_call 9; refine (at_any _ lm 1 255 _ ?_ hbm (.inr rfl) (by omega) (by omega)).mono ?_; exact unhide HM2; rintro e w5 ⟨y2, rfl, hy2, hy3, q5, rfl⟩)
  all_goals go_wp2_with fail
  all_goals
    have hzb : 0 ≤ (b + 1 + y2) % 256 ∧ (b + 1 + y2) % 256 ≤ 255 := by omega
    have hne : (b + 1 + y2) % 256 ≠ b := by omega
    have O2' : Own w.heap.size w3 (.slice (some ⟨g, 0, none⟩) l.length cap) l := by rw [← hv2]; exact unhide O2
    refine (implSum_any _ (l.set k ((b + 1 + y2) % 256)) 1 _ ?_ (bts_set (unhide HB) hzb)).mono ?_
    · first | exact rd_drewN (own_rd (own_set O2' rfl hk)) _ | exact own_rd (own_set (own_drewN O2' _) rfl hk)
    have hfin : (sumOf (l.set k ((b + 1 + y2) % 256)) 1 != x) = true := by
      rw [bne_iff_ne]; exact unhide HNE _ hk hzb hne
    generalize sumOf (l.set k ((b + 1 + y2) % 256)) 1 = s at *
    rintro e w6 ⟨rfl, rfl⟩
    go_wp2_with fail
    go_ret
    refine ⟨rfl, ?_⟩
    first | exact below_drewN' ((unhide B2).setCell hBg _) _ | exact (below_drewN' (unhide B2) _).setCell hBg _

theorem lawSums (a0 : Option Addr) (len0 cap0 : Nat) (z0 : List Int) (a1 : Option Addr) (len1 cap1 : Nat) (z1 : List Int) (w : World)
    (w0 : (a0 = none ∧ len0 = 0 ∧ cap0 = 0 ∧ z0 = []) ∨ ∃ x, a0 = some x ∧ len0 ≤ cap0 ∧ cap0 ≤ maxLen ∧ z0.length = cap0 ∧ (∀ i, i < z0.length → w.cell? (x.add i) = some (.int .u8 (z0.getD i 0))) ∧ ∀ n ∈ z0, (Lit.int .u8 n).wf = true)
    (w1 : (a1 = none ∧ len1 = 0 ∧ cap1 = 0 ∧ z1 = []) ∨ ∃ x, a1 = some x ∧ len1 ≤ cap1 ∧ cap1 ≤ maxLen ∧ z1.length = cap1 ∧ (∀ i, i < z1.length → w.cell? (x.add i) = some (.int .u8 (z1.getD i 0))) ∧ ∀ n ∈ z1, (Lit.int .u8 n).wf = true) :
    Calls Try.prog 3 #[.slice a0 len0 cap0, .slice a1 len1 cap1] w fun e w' => e = .returned (.bool true) ∧ Below w.heap.size w w' := by
  by_cases h0 : 30000 < len0
  · have h0' : (30000 : Int) < len0 := by omega
    clear w0 w1
    go_enter Try.func3, Try.ntmps3
    go_wp2_with fail
    go_ret
    exact ⟨rfl, Below.refl _ _⟩
  by_cases h1 : 30000 < len1
  · have h0' : (len0 : Int) ≤ 30000 := by omega
    have h1' : (30000 : Int) < len1 := by omega
    clear w0 w1
    go_enter Try.func3, Try.ntmps3
    go_wp2_with fail
    go_ret
    exact ⟨rfl, Below.refl _ _⟩
  by_cases h2 : len0 = 0
  · have h0' : (len0 : Int) ≤ 30000 := by omega
    have h1' : (len1 : Int) ≤ 30000 := by omega
    have h2' : ((len0 : Int) == 0) = true := by simp [h2]
    clear w0 w1 h2
    go_enter Try.func3, Try.ntmps3
    go_wp2_with fail
    go_ret
    exact ⟨rfl, Below.refl _ _⟩
  obtain ⟨e0, r0, b0⟩ := rd_of_row w0 (by omega)
  obtain ⟨e1, r1, b1⟩ := rd_of_row w1 (by omega)
  exact sumsBoth _ _ _ _ w r0 r1 (nilOk_row w0) (nilOk_row w1) b0 b1 (by omega) (by omega) (by omega)
end Go.Proofs.Ytglcppjfbkbbpaa
