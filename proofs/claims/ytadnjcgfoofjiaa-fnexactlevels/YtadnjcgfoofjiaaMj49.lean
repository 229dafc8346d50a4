/-
  The exact law of Levels, walked: it returns true, and nothing that was there is turned.
-/
import Derived.Test.YtadnjcgfoofjiaaMj09
import Derived.Test.YtadnjcgfoofjiaaMj42
import Derived.Test.YtadnjcgfoofjiaaMj48
namespace Go.Proofs.Ytadnjcgfoofjiaa
open Go.RowKit
set_option linter.unusedVariables false

theorem lvR_len (n : Int) (l : List Od) (hl : l.length ≤ 1048576) : (lvR n l).length ≤ 2097152 := by
  unfold lvR
  split
  · have h1 : (lvsOf true 1 (ofSide l 1)).length ≤ l.length := by rw [lvsOf, List.length_map]; exact Nat.le_trans (tks_len _ _) (List.length_filter_le _ _)
    have h2 : (lvsOf false 2 (ofSide l 2)).length ≤ l.length := by rw [lvsOf, List.length_map]; exact Nat.le_trans (tks_len _ _) (List.length_filter_le _ _)
    rw [List.length_append]; omega
  · simp

set_option maxRecDepth 100000 in
set_option maxHeartbeats 4000000 in
theorem exactLevels (n : Int) (v : Value) (l : List Od) (w : World) (hr : RdR Od.vs 6 w v l) (hl : l.length ≤ 1048576) (hg : ∀ c ∈ l, c.tag.size ≤ maxLen) :
    Calls Try.prog 6 #[.agg #[.int .i64 n, v]] w fun e w' => e = .returned (.bool true) ∧ Below w.heap.size w w' := by
  have HR := hide hr
  have HG := hide hg
  have HLL := hide (lvR_len n l hl)
  obtain ⟨a, cap, rfl, _, hc⟩ := hr
  generalize hL : lvR n l = L at HLL
  generalize hD : lvC n l = d
  have HN : Hid (lvR n l = L ∧ lvC n l = d) := ⟨hL, hD⟩
  clear hg hc hL hD
  have H0 : Hid (Below w.heap.size w (w.alloc (Obj.cells #[.int .i64 n, .slice a l.length cap] 41))) := (Below.refl _ _).alloc (Nat.le_refl _) _
  have HX : Hid (World.rangeAt (w.alloc (Obj.cells #[.int .i64 n, .slice a l.length cap] 41)) w.heap.size 0 [.int .i64 n, .slice a l.length cap] ∧ w.heap.size < (w.alloc (Obj.cells #[.int .i64 n, .slice a l.length cap] 41)).heap.size) := ⟨cells_made w [.int .i64 n, .slice a l.length cap] _, by rw [size_made]; omega⟩
  go_enter Try.func6, Try.ntmps6
  go_wp2_with fail
  generalize (w.alloc (Obj.cells #[.int .i64 n, .slice a l.length cap] 41)) = W1 at H0 HX ⊢
  have hsw := (unhide HX).2
  have HR1 := hide (rdR_below (unhide HR) (unhide H0) (Nat.le_refl _))
  refine (szBook_any n _ l W1 (unhide HR1) hl (unhide HG)).mono ?_
  rintro e w2 ⟨y, rfl, hy0, hy1, hb⟩
  have B2 := hide hb
  have c0 : w2.cell? ⟨w.heap.size, 0, none⟩ = some (.int .i64 n) := range_below (unhide HX).1 hb hsw 0 _ rfl
  have c1 : w2.cell? ⟨w.heap.size, 1, none⟩ = some (.slice a l.length cap) := range_below (unhide HX).1 hb hsw 1 _ rfl
  clear hb
  by_cases hy : y < 0
  · go_wp2_with fail
    go_ret
    exact ⟨rfl, (unhide H0).trans ((unhide B2).mono (unhide H0).size)⟩
  go_wp2_with fail
  refine (toBook_some n _ l w2 (rdR_below (unhide HR1) (unhide B2) (Nat.le_refl _))).mono ?_
  rintro e w3 ⟨a3, cap3, rfl, ho3, hb⟩
  have O3 := hide ho3
  have B3 := hide ((unhide B2).trans (hb.mono (unhide B2).size))
  clear hb c0 c1 ho3
  go_wp2_with fail
  refine (specLevels_any n a3 cap3 l w3 (ownR_rd (unhide O3)) (unhide HG)).mono ?_
  rw [(unhide HN).1, (unhide HN).2]
  rintro e w4 ⟨u0, rfl, ho, hb⟩
  have OU4 := hide ho
  have B4 := hide ((unhide B3).trans (hb.mono (unhide B3).size))
  have c0 : w4.cell? ⟨w.heap.size, 0, none⟩ = some (.int .i64 n) := range_below (unhide HX).1 (unhide B4) hsw 0 _ rfl
  have c1 : w4.cell? ⟨w.heap.size, 1, none⟩ = some (.slice a l.length cap) := range_below (unhide HX).1 (unhide B4) hsw 1 _ rfl
  clear hb ho
  go_wp2_with fail
  refine (toBook_any n _ l w4 (rdR_below (unhide HR1) (unhide B4) (Nat.le_refl _))).mono ?_
  rintro e w5 ⟨v5, rfl, ho5, hb⟩
  have O5 := hide ho5
  have OU5 := hide (ownR_below (unhide OU4) hb (Nat.le_refl _))
  have B5 := hide ((unhide B4).trans (hb.mono (unhide B4).size))
  have S45 := hb.size
  obtain ⟨a5, cap5, rfl, -, -⟩ := ho5
  clear hb c0 c1
  have H6 : Hid (Below w5.heap.size w5 (w5.alloc (Obj.cells #[.int .i64 n, .slice a5 l.length cap5] 25))) := (Below.refl _ _).alloc (Nat.le_refl _) _
  have X6 : Hid (World.rangeAt (w5.alloc (Obj.cells #[.int .i64 n, .slice a5 l.length cap5] 25)) w5.heap.size 0 [.int .i64 n, .slice a5 l.length cap5] ∧ w5.heap.size < (w5.alloc (Obj.cells #[.int .i64 n, .slice a5 l.length cap5] 25)).heap.size) := ⟨cells_made w5 [.int .i64 n, .slice a5 l.length cap5] _, by rw [size_made]; omega⟩
  go_wp2_with fail
  generalize (w5.alloc (Obj.cells #[.int .i64 n, .slice a5 l.length cap5] 25)) = W6 at H6 X6 ⊢
  have hs6 := (unhide X6).2
  have B6 := hide ((unhide B5).trans ((unhide H6).mono (unhide B5).size))
  have OX6 := hide (ownR_below (unhide O5) (unhide H6) (Nat.le_refl _))
  have OU6 := hide (ownR_below (unhide OU5) (unhide H6) (Nat.le_refl _))
  have S46 : Hid (w4.heap.size ≤ W6.heap.size) := Nat.le_trans S45 (unhide H6).size
  refine (implLevels_any n _ l W6 (ownR_rd (unhide OX6)) (unhide HG)).mono ?_
  rw [(unhide HN).1, (unhide HN).2]
  rintro e w7 ⟨g0, rfl, ho, hb⟩
  have OG7 := hide ho
  have OX7 := hide (ownR_below (unhide OX6) hb (Nat.le_refl _))
  have OU7 := hide (ownR_below (unhide OU6) hb (Nat.le_refl _))
  have X7 := hide (range_below (unhide X6).1 hb hs6)
  have hs7 : w5.heap.size < w7.heap.size := Nat.lt_of_lt_of_le hs6 hb.size
  have B7 := hide ((unhide B6).trans (hb.mono (unhide B6).size))
  clear ho hb
  go_wp2_with fail
  refine (eqLevelS_same g0 u0 L _ (ownR_rd (unhide OG7)) (ownR_rd (unhide OU7))).mono ?_
  rintro e w8 ⟨rfl, hb⟩
  have OG8 := hide (ownR_below (unhide OG7) hb (Nat.le_refl _))
  have OX8 := hide (ownR_below (unhide OX7) hb (Nat.le_refl _))
  have OU8 := hide (ownR_below (unhide OU7) hb (Nat.le_refl _))
  have X8 := hide (range_below (unhide X7) hb hs7)
  have hs8 : w5.heap.size < w8.heap.size := Nat.lt_of_lt_of_le hs7 hb.size
  have B8 := hide ((unhide B7).trans (hb.mono (unhide B7).size))
  have c0 : w8.cell? ⟨w.heap.size, 0, none⟩ = some (.int .i64 n) := range_below (unhide HX).1 (unhide B8) hsw 0 _ rfl
  have c1 : w8.cell? ⟨w.heap.size, 1, none⟩ = some (.slice a l.length cap) := range_below (unhide HX).1 (unhide B8) hsw 1 _ rfl
  have d0 : w8.cell? ⟨w5.heap.size, 0, none⟩ = some (.int .i64 n) := unhide X8 0 _ rfl
  have d1 : w8.cell? ⟨w5.heap.size, 1, none⟩ = some (.slice a5 l.length cap5) := unhide X8 1 _ rfl
  clear hb
  have OXd : Hid (OwnR Od.vs 6 w4.heap.size w8.drew (.slice a5 l.length cap5) l) := unhide OX8
  have OGd : Hid (OwnR Lv.vs 4 W6.heap.size w8.drew g0 L) := unhide OG8
  have OUd : Hid (OwnR Lv.vs 4 w3.heap.size w8.drew u0 L) := unhide OU8
  have R8d : Hid (RdR Od.vs 6 w8.drew (.slice a l.length cap) l) := rdR_below (unhide HR1) (unhide B8).drew (Nat.le_refl _)
  have X8d : Hid (w8.drew.rangeAt w5.heap.size 0 [.int .i64 n, .slice a5 l.length cap5]) := unhide X8
  have hs8d : w5.heap.size < w8.drew.heap.size := hs8
  have B8d : Hid (Below W1.heap.size W1 w8.drew) := (unhide B8).drew
  go_wp2_with fail
  go_region_with (first
    | (go_at_call 14; refine (toBook_any n _ l w8.drew (unhide R8d)).mono ?_; rintro e wb ⟨v8, rfl, ho8, hb8⟩; have O8b := hide ho8; have OXb := hide (ownR_below (unhide OXd) hb8 (Nat.le_refl _)); have OGb := hide (ownR_below (unhide OGd) hb8 (Nat.le_refl _)); have OUb := hide (ownR_below (unhide OUd) hb8 (Nat.le_refl _)); have Xb := hide (range_below (unhide X8d) hb8 hs8d); have e0 := unhide Xb 0 _ rfl; have e1 := unhide Xb 1 _ rfl; have Bb := hide ((unhide B8d).trans (hb8.mono (unhide B8d).size)); have hsb : w5.heap.size < wb.heap.size := Nat.lt_of_lt_of_le hs8d hb8.size; obtain ⟨a8, cap8, rfl, ho8a, ho8b⟩ := ho8; clear hb8 ho8a ho8b)
    | (go_at_call 16; refine (eqBook_same n _ _ l wb (ownR_rd (unhide OXb)) (ownR_rd (unhide O8b))).mono ?_; rintro e wc ⟨rfl, hb9⟩; have OXc := hide (ownR_below (unhide OXb) hb9 (Nat.le_refl _)); have OGc := hide (ownR_below (unhide OGb) hb9 (Nat.le_refl _)); have OUc := hide (ownR_below (unhide OUb) hb9 (Nat.le_refl _)); have Xc := range_below (unhide Xb) hb9 hsb; have k0 := Xc 0 _ rfl; have k1 := Xc 1 _ rfl; have Bc := hide ((unhide Bb).trans (hb9.mono (unhide Bb).size)); clear hb9 Xc))
  all_goals (
    go_wp2_with fail
    refine (markBook_own n _ l _ (unhide OXc) (by omega)).mono ?_
    rintro e w11 ⟨rfl, G11, hgr, hG11⟩
    have OG11 := hide (ownR_grown (unhide OGc) hgr (fun hne e => by
      obtain ⟨g, h1, h2, _⟩ := ownR_lt (unhide OG7) hne
      obtain ⟨h3, _, h4⟩ := hG11 g (by rw [← e, h1])
      obtain ⟨g', h5, _, h6⟩ := ownR_lt (unhide OX6) h4
      rw [h3] at h5
      obtain rfl := Option.some.inj h5
      omega))
    have OU11 := hide (ownR_grown (unhide OUc) hgr (fun hne e => by
      obtain ⟨g, h1, _, h2⟩ := ownR_lt (unhide OU4) hne
      obtain ⟨_, h4, _⟩ := hG11 g (by rw [← e, h1])
      omega))
    have B11 := hide ((unhide Bc).trans (gr_below' hgr (fun g hg => Nat.le_trans (unhide B4).size (hG11 g hg).2.1) (unhide Bc).size))
    clear hgr hG11
    have hk : ¬ (((1 + 6 * l.length : Nat) : Int) < 0) := by omega
    go_wp2_with fail
    refine (eqLevelS_same g0 u0 L _ (ownR_rd (unhide OG11)) (ownR_rd (unhide OU11))).mono ?_
    rintro e w12 ⟨rfl, hb⟩
    have OG12 := hide (ownR_below (unhide OG11) hb (Nat.le_refl _))
    have OU12 := hide (ownR_below (unhide OU11) hb (Nat.le_refl _))
    have B12 := hide ((unhide B11).trans (hb.mono (unhide B11).size))
    clear hb
    go_wp2_with fail
    refine (markL_own g0 L _ (unhide OG12) (unhide HLL)).mono ?_
    rintro e w13 ⟨rfl, ho, G13, hgr, hG13⟩
    have OM := hide ho
    have OU13 := hide (ownR_grown (unhide OU12) hgr (fun hne e => by
      obtain ⟨g, h1, _, h2⟩ := ownR_lt (unhide OU4) hne
      obtain ⟨_, h4, _⟩ := hG13 g (by rw [← e, h1])
      have := unhide S46
      omega))
    have B13 := hide ((unhide B12).trans (gr_below' hgr (fun g hg => Nat.le_trans (unhide B6).size (hG13 g hg).2.1) (unhide B12).size))
    clear hgr hG13 ho
    have hm : ¬ (((1 + 4 * L.length : Nat) : Int) < 0) := by omega
    go_wp2_with fail
    refine (heldLevelS_any g0 L.length 1 _ (unhide HLL) (by omega) (by omega) (ownR_rd (unhide OM))).mono ?_
    rintro e w14 ⟨rfl, hb⟩
    have OM14 := hide (ownR_below (unhide OM) hb (Nat.le_refl _))
    have OU14 := hide (ownR_below (unhide OU13) hb (Nat.le_refl _))
    have B14 := hide ((unhide B13).trans (hb.mono (unhide B13).size))
    have c0 : w14.cell? ⟨w.heap.size, 0, none⟩ = some (.int .i64 n) := range_below (unhide HX).1 (unhide B14) hsw 0 _ rfl
    have c1 : w14.cell? ⟨w.heap.size, 1, none⟩ = some (.slice a l.length cap) := range_below (unhide HX).1 (unhide B14) hsw 1 _ rfl
    clear hb
    go_wp2_with fail
    refine (toBook_any n _ l _ (rdR_below (unhide HR1) (unhide B14) (Nat.le_refl _))).mono ?_
    rintro e w15 ⟨s0, rfl, ho, hb⟩
    have OS := hide ho
    have OM15 := hide (ownR_below (unhide OM14) hb (Nat.le_refl _))
    have OU15 := hide (ownR_below (unhide OU14) hb (Nat.le_refl _))
    have B15 := hide ((unhide B14).trans (hb.mono (unhide B14).size))
    clear ho hb c0 c1
    go_wp2_with fail
    refine (implLevels_any n s0 l _ (ownR_rd (unhide OS)) (unhide HG)).mono ?_
    rw [(unhide HN).1, (unhide HN).2]
    rintro e w16 ⟨h0, rfl, ho, hb⟩
    have OH := hide ho
    have OM16 := hide (ownR_below (unhide OM15) hb (Nat.le_refl _))
    have OU16 := hide (ownR_below (unhide OU15) hb (Nat.le_refl _))
    have B16 := hide ((unhide B15).trans (hb.mono (unhide B15).size))
    clear ho hb
    go_wp2_with fail
    refine (eqLevelS_same h0 u0 L _ (ownR_rd (unhide OH)) (ownR_rd (unhide OU16))).mono ?_
    rintro e w17 ⟨rfl, hb⟩
    have OM17 := hide (ownR_below (unhide OM16) hb (Nat.le_refl _))
    have B17 := hide ((unhide B16).trans (hb.mono (unhide B16).size))
    clear hb
    go_wp2_with fail
    refine (heldLevelS_any g0 L.length 1 _ (unhide HLL) (by omega) (by omega) (ownR_rd (unhide OM17))).mono ?_
    rintro e w18 ⟨rfl, hb⟩
    have B18 := hide ((unhide B17).trans (hb.mono (unhide B17).size))
    clear hb
    go_wp2_with fail
    go_ret
    exact ⟨rfl, (unhide H0).trans ((unhide B18).mono (unhide H0).size)⟩)

theorem lawLevels (n : Int) (a : Option Addr) (len cap : Nat) (w : World) (h : (Lit.int .i64 n).wf = true ∧ IsOrders w a len cap) :
    Calls Try.prog 6 #[.agg #[.int .i64 n, .slice a len cap]] w fun e w' => e = .returned (.bool true) ∧ Below w.heap.size w w' := by
  by_cases hl : len ≤ 1048576
  · obtain ⟨l, rfl, hr, hok⟩ := h.2.2 (by omega)
    exact exactLevels n _ l w hr hl (fun c hc => (hok c hc).tag)
  · have HZ := hide (fun W => szBook_long n a len cap W (by omega) h.2.1)
    have H0 : Hid (Below w.heap.size w (w.alloc (Obj.cells #[.int .i64 n, .slice a len cap] 41))) := (Below.refl _ _).alloc (Nat.le_refl _) _
    clear h
    go_enter Try.func6, Try.ntmps6
    go_wp2_with fail
    refine (unhide HZ _).mono ?_
    rintro e w1 ⟨rfl, hb⟩
    have B1 := hide ((unhide H0).trans (hb.mono (unhide H0).size))
    clear hb
    go_wp2_with fail
    go_ret
    exact ⟨rfl, unhide B1⟩
end Go.Proofs.Ytadnjcgfoofjiaa
