/-
  A command done on a book, by the model: proved by walking the function.
-/
import Derived.Test.YthmgkabpcjkieaaVj34
namespace Go.Proofs.Ythmgkabpcjkieaa
open Go.RowKit
set_option linter.unusedVariables false

set_option maxRecDepth 100000 in
set_option maxHeartbeats 12800000 in
theorem l04Step_r (next : Int) (vb : Value) (l : List Od) (c : Cm) (w : World) (hway : refR next l c ≠ 0) (hr : RdR Od.vs 6 w vb l) (hs : SlOk vb) (hg : GoodL l) (hsd : ∀ x ∈ l, x.side = 1 ∨ x.side = 2) (h0 : 0 ≤ next) (h1 : next ≤ 1000000) (ht : c.g.size ≤ maxLen) :
    Calls Try.prog 23 #[.agg #[.int .i64 next, vb], cmV c] w fun e w' => ∃ vq vg, e = .returned (.tuple #[.agg #[.int .i64 (stN next l c), vq], vg]) ∧ ORow w' w.heap.size vq (stL next l c) ∧ ERow w' w.heap.size vg (stE next l c) ∧ Below w.heap.size w w' := by
  obtain ⟨i0, hi0, hz0, hz1, hz2⟩ := info_parts Try.infoOrder
  obtain ⟨j0, hj0, hy0, hy1, hy2⟩ := info_parts infoEv
  have HR := hide hr
  have HSL := hide hs
  have HG := hide hg
  have HTG := hide ht
  have hlen20 := hg.len
  have HNUM : Hid (0 ≤ next ∧ next ≤ 1000000) := ⟨h0, h1⟩
  have HREA := hide (fun (W : World) hW => l04Reason_any next vb l c W hW hs hg hsd ht)
  rw [ref_eq] at HREA
  have HK := hide (@ref_kind next l c)
  have HQ := hide (@ref_newq next l c)
  have HID := hide (@ref_id next l c)
  have HNS := hide (@ref_newS next l c)
  have HWAY := hide hway
  clear hway
  have HSN : Hid (stN next l c = if refR next l c = 0 ∧ c.k = 1 then next + 1 else next) := rfl
  have HSLL := hide (stL.eq_1 next l c)
  have HSE := hide (stE.eq_1 next l c)
  have HNO := hide (fun W => l02Normal_any c W ht)
  have HTA := hide (fun (a : Option Addr) (n cap : Nat) (W : World) => l04Taker_any next a n cap c W)
  have HMT := hide (fun (v : Value) (W : World) hr hs hp hq0 hq1 => l04Match_any v l c next W hr hg hs hp hq0 hq1)
  obtain ⟨a, cap, rfl, hrlen, hc⟩ := hr
  obtain ⟨kk, s, ty, li, qt, ii, pr, tg⟩ := c
  generalize stN next l ⟨kk, s, ty, li, qt, ii, pr, tg⟩ = sN at HSN ⊢
  generalize stL next l ⟨kk, s, ty, li, qt, ii, pr, tg⟩ = sL at HSLL ⊢
  generalize stE next l ⟨kk, s, ty, li, qt, ii, pr, tg⟩ = sE at HSE ⊢
  generalize refR next l ⟨kk, s, ty, li, qt, ii, pr, tg⟩ = rr at HREA HSN HSLL HSE HK HQ HID HNS HWAY
  unfold cmV at HREA HTA ⊢
  simp only at HREA HSN HSLL HSE HK HQ HID HNS HNO HTA HMT HTG HWAY ⊢
  have HB := hide (box3 w [.int .i64 next, .slice a l.length cap] [.int .i64 kk, .int .i64 s, .int .i64 ty, .int .i64 li, .int .i64 qt, .int .i64 ii, .float .f64 pr, .string tg] [.int .i64 0, .slice none 0 0] 26 66 26)
  clear hs hg hsd h0 h1 ht hc hrlen
  go_enter Try.func23, Try.ntmps23
  refine wp_seq_k fun K hK => ?_
  have HK1 := hide hK
  clear hK
  go_wp2_with fail
  refine unhide HK1 _ _ ?_
  clear HK1
  change Hid ((((w.alloc (Obj.cells #[.int .i64 next, .slice a l.length cap] 26)).alloc (Obj.cells #[.int .i64 kk, .int .i64 s, .int .i64 ty, .int .i64 li, .int .i64 qt, .int .i64 ii, .float .f64 pr, .string tg] 66)).alloc (Obj.cells #[.int .i64 0, .slice none 0 0] 26)).heap.size = w.heap.size + 3 ∧ World.rangeAt (((w.alloc (Obj.cells #[.int .i64 next, .slice a l.length cap] 26)).alloc (Obj.cells #[.int .i64 kk, .int .i64 s, .int .i64 ty, .int .i64 li, .int .i64 qt, .int .i64 ii, .float .f64 pr, .string tg] 66)).alloc (Obj.cells #[.int .i64 0, .slice none 0 0] 26)) w.heap.size 0 [.int .i64 next, .slice a l.length cap] ∧ World.rangeAt (((w.alloc (Obj.cells #[.int .i64 next, .slice a l.length cap] 26)).alloc (Obj.cells #[.int .i64 kk, .int .i64 s, .int .i64 ty, .int .i64 li, .int .i64 qt, .int .i64 ii, .float .f64 pr, .string tg] 66)).alloc (Obj.cells #[.int .i64 0, .slice none 0 0] 26)) (w.heap.size + 1) 0 [.int .i64 kk, .int .i64 s, .int .i64 ty, .int .i64 li, .int .i64 qt, .int .i64 ii, .float .f64 pr, .string tg] ∧ World.rangeAt (((w.alloc (Obj.cells #[.int .i64 next, .slice a l.length cap] 26)).alloc (Obj.cells #[.int .i64 kk, .int .i64 s, .int .i64 ty, .int .i64 li, .int .i64 qt, .int .i64 ii, .float .f64 pr, .string tg] 66)).alloc (Obj.cells #[.int .i64 0, .slice none 0 0] 26)) (w.heap.size + 1 + 1) 0 [.int .i64 0, .slice none 0 0] ∧ World.there (((w.alloc (Obj.cells #[.int .i64 next, .slice a l.length cap] 26)).alloc (Obj.cells #[.int .i64 kk, .int .i64 s, .int .i64 ty, .int .i64 li, .int .i64 qt, .int .i64 ii, .float .f64 pr, .string tg] 66)).alloc (Obj.cells #[.int .i64 0, .slice none 0 0] 26)) (w.heap.size + 1 + 1) 0 2 ∧ Below w.heap.size w (((w.alloc (Obj.cells #[.int .i64 next, .slice a l.length cap] 26)).alloc (Obj.cells #[.int .i64 kk, .int .i64 s, .int .i64 ty, .int .i64 li, .int .i64 qt, .int .i64 ii, .float .f64 pr, .string tg] 66)).alloc (Obj.cells #[.int .i64 0, .slice none 0 0] 26))) at HB
  generalize (((w.alloc (Obj.cells #[.int .i64 next, .slice a l.length cap] 26)).alloc (Obj.cells #[.int .i64 kk, .int .i64 s, .int .i64 ty, .int .i64 li, .int .i64 qt, .int .i64 ii, .float .f64 pr, .string tg] 66)).alloc (Obj.cells #[.int .i64 0, .slice none 0 0] 26)) = X at HB ⊢
  have HCELL : Hid (∀ W : World, Below X.heap.size X W → W.cell? ⟨w.heap.size, 0, none⟩ = some (.int .i64 next) ∧ W.cell? ⟨w.heap.size, 1, none⟩ = some (.slice a l.length cap) ∧ W.cell? ⟨w.heap.size + 1, 0, none⟩ = some (.int .i64 kk) ∧ W.cell? ⟨w.heap.size + 1, 1, none⟩ = some (.int .i64 s) ∧ W.cell? ⟨w.heap.size + 1, 2, none⟩ = some (.int .i64 ty) ∧ W.cell? ⟨w.heap.size + 1, 3, none⟩ = some (.int .i64 li) ∧ W.cell? ⟨w.heap.size + 1, 4, none⟩ = some (.int .i64 qt) ∧ W.cell? ⟨w.heap.size + 1, 5, none⟩ = some (.int .i64 ii) ∧ W.cell? ⟨w.heap.size + 1, 6, none⟩ = some (.float .f64 pr) ∧ W.cell? ⟨w.heap.size + 1, 7, none⟩ = some (.string tg)) := fun W hW =>
    have p := range_below (unhide HB).2.1 hW (by have := (unhide HB).1; omega)
    have q := range_below (unhide HB).2.2.1 hW (by have := (unhide HB).1; omega)
    ⟨p 0 _ rfl, p 1 _ rfl, q 0 _ rfl, q 1 _ rfl, q 2 _ rfl, q 3 _ rfl, q 4 _ rfl, q 5 _ rfl, q 6 _ rfl, q 7 _ rfl⟩
  have hRX : w.heap.size + 1 + 1 < X.heap.size := by have := (unhide HB).1; omega
  refine wp_seq_k fun K hK => ?_
  have HT : ∀ (a6 : Option Addr) (c6 : Nat) (w1 : World), ORow w1 X.heap.size (.slice a6 l.length c6) l → Below X.heap.size X w1 → K { tmps := #[.agg #[.int .i64 next, .slice a l.length cap], .agg #[.int .i64 kk, .int .i64 s, .int .i64 ty, .int .i64 li, .int .i64 qt, .int .i64 ii, .float .f64 pr, .string tg], .pointer (some ⟨w.heap.size, 0, none⟩), .pointer (some ⟨w.heap.size + 1, 0, none⟩), .pointer (some ⟨w.heap.size + 1 + 1, 0, none⟩), .slice none 0 0, .slice a6 l.length c6, undef, undef, undef, undef, undef, undef, undef, undef, undef, undef, undef, .slice (some ⟨X.heap.size, 0, none⟩) 0 0, .pointer (some ⟨w.heap.size, 1, none⟩), .slice a l.length cap, .slice a6 l.length c6, undef, undef, undef, undef, undef, undef, undef, undef, undef, undef, undef, undef, undef, undef, undef, undef, undef, undef, undef, undef, undef, undef, undef, undef, undef, undef, undef, undef, undef, undef, undef, undef, undef, undef, undef, undef, undef, undef, undef, undef, undef, undef, undef, undef, undef, undef, undef, undef, undef, undef, undef, undef, undef, undef, undef, undef, undef, undef, undef, undef, undef, undef, undef, undef, undef, undef, undef, undef, undef, undef, undef, undef, undef, undef, undef, undef, undef, undef, undef, undef, undef, undef, undef, undef, undef, undef, undef, undef, undef, undef, undef, undef, undef, undef, undef, undef, undef, undef, undef, undef, undef, undef, undef, undef, undef, undef, undef, undef, undef, undef, undef, undef, undef, undef, undef, undef, undef, undef, undef, undef, undef, undef, undef, undef, undef, undef, undef, undef, undef, undef, undef, undef, undef, undef, undef, undef, undef, undef, undef, undef, undef, undef, undef, undef, undef, undef, undef, undef, undef], defers := [] } w1 := by
    intro a6 c6 w1 ho1 hb1
    refine hK _ _ ?_
    clear hK
    have HO1 := hide ho1
    have HB1 := hide hb1
    clear ho1 hb1
    obtain ⟨z0, z1, y0, y1, y2, y3, y4, y5, y6, y7⟩ := unhide HCELL w1 (unhide HB1)
    refine wp_seq_k fun K hK => ?_
    have HK1 := hide hK
    clear hK
    go_wp2_with fail
    refine (unhide HREA w1 (rdR_below (unhide HR) ((unhide HB).2.2.2.2.2.trans ((unhide HB1).mono (unhide HB).2.2.2.2.2.size)) (Nat.le_refl _))).mono ?_
    rintro e w2 ⟨rfl, hb2⟩
    have HO2 := hide (oRow_below (unhide HO1) hb2)
    have HB2 := hide ((unhide HB1).trans (hb2.mono (unhide HB1).size))
    clear z0 z1 y0 y1 y2 y3 y4 y5 y6 y7 hb2 HO1
    obtain ⟨z0, z1, y0, y1, y2, y3, y4, y5, y6, y7⟩ := unhide HCELL w2 (unhide HB2)
    have HTR := hide (there_below (unhide HB).2.2.2.2.1 (unhide HB2) hRX)
    have hRb : w.heap.size + 1 + 1 < w2.heap.size := Nat.lt_of_lt_of_le hRX (unhide HB2).size
    have HBW := hide ((unhide HB).2.2.2.2.2.trans ((unhide HB2).mono (unhide HB).2.2.2.2.2.size))
    have hXw : w.heap.size ≤ X.heap.size := by omega
    have hX2 : X.heap.size ≤ w2.heap.size := (unhide HB2).size
    have hXb := hX2
    by_cases hrr : rr = 0
    · subst hrr
      have hkk := unhide HK rfl
      rcases hkk with rfl | rfl | rfl | rfl
      · exact absurd rfl (unhide HWAY)
      · exact absurd rfl (unhide HWAY)
      · exact absurd rfl (unhide HWAY)
      · exact absurd rfl (unhide HWAY)
    · have hrr0 := hrr
      have hrb : (rr == 0) = false := by rw [beq_eq_false_iff_ne]; exact hrr
      have HST : Hid (sN = next ∧ sL = l ∧ sE = [⟨2, ⟨kk, s, ty, li, qt, ii, pr, cutB tg⟩, 0, 0, 0, 0, rr⟩]) := ⟨by rw [unhide HSN, if_neg (fun h => hrr h.1)], by rw [unhide HSLL, if_neg hrr], by rw [unhide HSE, if_neg hrr]⟩
      clear hrr hrr0 HSN HSLL HSE HQ HID HK HNS HTA HMT HWAY
      have HZ0 := hide z0
      have HZ1 := hide z1
      have HY0 := hide y0
      have HY1 := hide y1
      have HY2 := hide y2
      have HY3 := hide y3
      have HY4 := hide y4
      have HY5 := hide y5
      have HY6 := hide y6
      have HY7 := hide y7
      have hRS : w.heap.size + 1 + 1 < X.heap.size := hRX
      go_wp2_with fail
      clear z0 z1 y0 y1 y2 y3 y4 y5 y6 y7
      refine wp_region_inv2 (RXA (fun f => { tmps := #[.agg #[.int .i64 next, .slice a l.length cap], .agg #[.int .i64 kk, .int .i64 s, .int .i64 ty, .int .i64 li, .int .i64 qt, .int .i64 ii, .float .f64 pr, .string tg], .pointer (some ⟨w.heap.size, 0, none⟩), .pointer (some ⟨w.heap.size + 1, 0, none⟩), .pointer (some ⟨w.heap.size + 1 + 1, 0, none⟩), f 10, .slice a6 l.length c6, .int .i64 rr, undef, undef, undef, undef, undef, undef, undef, undef, undef, undef, .slice (some ⟨X.heap.size, 0, none⟩) 0 0, .pointer (some ⟨w.heap.size, 1, none⟩), .slice a l.length cap, .slice a6 l.length c6, .agg #[.int .i64 next, .slice a l.length cap], .agg #[.int .i64 kk, .int .i64 s, .int .i64 ty, .int .i64 li, .int .i64 qt, .int .i64 ii, .float .f64 pr, .string tg], .int .i64 rr, .int .i64 rr, .bool (rr != 0), f 0, f 1, f 2, f 3, f 4, f 5, f 6, f 7, f 8, undef, undef, undef, undef, undef, undef, undef, undef, undef, undef, undef, undef, undef, undef, undef, undef, undef, undef, undef, undef, undef, undef, undef, undef, undef, undef, undef, undef, undef, undef, undef, undef, undef, undef, undef, undef, undef, undef, undef, undef, undef, undef, undef, undef, undef, undef, undef, undef, undef, undef, undef, undef, undef, undef, undef, undef, undef, undef, undef, undef, undef, undef, undef, undef, undef, undef, undef, undef, undef, undef, undef, undef, undef, undef, undef, undef, undef, undef, undef, undef, undef, undef, undef, undef, undef, undef, undef, undef, undef, undef, undef, undef, undef, undef, undef, undef, undef, undef, undef, undef, undef, undef, undef, undef, undef, undef, undef, undef, undef, undef, undef, undef, undef, undef, undef, undef, undef, undef, undef, undef, undef, undef, undef, undef, undef, undef, undef, undef, undef, undef, undef, undef, undef, undef, undef], defers := [] }) (CX [.pointer (some ⟨w.heap.size, 0, none⟩), .int .i64 next, .slice a6 l.length c6, .agg #[.int .i64 next, .slice a6 l.length c6], .agg #[.int .i64 kk, .int .i64 s, .int .i64 ty, .int .i64 li, .int .i64 qt, .int .i64 ii, .float .f64 pr, .string tg], .agg #[.int .i64 kk, .int .i64 s, .int .i64 ty, .int .i64 li, .int .i64 qt, .int .i64 ii, .float .f64 pr, .string (cutB tg)], .int .i64 rr, .agg #[.int .i64 2, .int .i64 kk, .int .i64 s, .int .i64 ty, .int .i64 li, .int .i64 qt, .int .i64 ii, .float .f64 pr, .string (cutB tg), .int .i64 0, .int .i64 0, .int .i64 0, .int .i64 0, .int .i64 rr], undef, undef, undef] [(8, 2), (9, 9), (10, 2)] (X.heap.size) (next) (l) ([⟨2, ⟨kk, s, ty, li, qt, ii, pr, cutB tg⟩, 0, 0, 0, 0, rr⟩])) (w.heap.size + 1 + 1) 2 9 (fun f => aggL (f 3)) w2) (by kernel_rfl) ?_ ?_ ?_
      · exact ⟨fun j => if j = 10 then .slice none 0 0 else undef, rfl, rx_start hRb (unhide HTR)⟩
      rotate_left
      · rintro x A V i op ⟨f, rfl, hR⟩ hcl hx ho hxi hall
        have HRR := hide hR
        have cellV : ∀ (p : Addr) u, w2.cell? p = some u → p.block ≠ w.heap.size + 1 + 1 → V.cell? p = some u := fun p u hu hp => kb_cell hR.k hu hp
        match i, ho with
        | 0, ho =>
          simp only [List.getElem?_cons_zero, Option.some.injEq] at ho
          subst ho
          clear hall hR cellV hcl
          rw [if_pos (by rfl)]
          unfold Oper.wp
          go_simp
          exact ⟨upd f 0 (.pointer (some ⟨w.heap.size, 0, none⟩)), by simp [upd], rx_val (unhide HRR) 0 _ (by decide) (fun _ => rfl) (cx_mkv rfl rfl)⟩
        | 1, ho =>
          simp only [List.getElem?_cons_succ, List.getElem?_cons_zero, Option.some.injEq] at ho
          subst ho
          have g0 : f 0 = .pointer (some ⟨w.heap.size, 0, none⟩) := cx_val (hR.c 0 (hall ⟨0, .data⟩ (by simp) rfl)) rfl rfl
          have z0 := cellV ⟨w.heap.size, 0, none⟩ _ (unhide HZ0) (show w.heap.size ≠ w.heap.size + 1 + 1 by omega)
          clear hall hR cellV hcl
          rw [if_pos (by rfl)]
          unfold Oper.wp
          go_simp
          exact ⟨upd f 1 (.int .i64 next), by simp [upd, g0], rx_val (unhide HRR) 1 _ (by decide) (fun _ => rfl) (cx_mkv rfl rfl)⟩
        | 2, ho =>
          simp only [List.getElem?_cons_succ, List.getElem?_cons_zero, Option.some.injEq] at ho
          subst ho
          clear hall hR cellV hcl
          rw [if_pos (by rfl)]
          unfold Oper.wp
          go_simp
          exact ⟨upd f 2 (.slice a6 l.length c6), by simp [upd], rx_val (unhide HRR) 2 _ (by decide) (fun _ => rfl) (cx_mkv rfl rfl)⟩
        | 3, ho =>
          simp only [List.getElem?_cons_succ, List.getElem?_cons_zero, Option.some.injEq] at ho
          subst ho
          have g1 : f 1 = .int .i64 next := cx_val (hR.c 1 (hall ⟨1, .data⟩ (by simp) rfl)) rfl rfl
          have g2 : f 2 = .slice a6 l.length c6 := cx_val (hR.c 2 (hall ⟨2, .data⟩ (by simp) rfl)) rfl rfl
          have hcl0 := hcl
          clear hall hR cellV hcl
          rw [if_pos (by rfl)]
          unfold Oper.wp
          go_simp
          exact ⟨upd f 3 (.agg #[.int .i64 next, .slice a6 l.length c6]), by simp [upd, g1, g2], rx_val (unhide HRR) 3 _ (by decide) (fun h => by rw [wait_no hcl0 12 3 9 (by kernel_rfl) hx (by simp) hxi] at h; cases h) (cx_mkv rfl rfl)⟩
        | 4, ho =>
          simp only [List.getElem?_cons_succ, List.getElem?_cons_zero, Option.some.injEq] at ho
          subst ho
          have y0 := cellV ⟨w.heap.size + 1, 0, none⟩ _ (unhide HY0) (show w.heap.size + 1 ≠ w.heap.size + 1 + 1 by omega)
          have y1 := cellV ⟨w.heap.size + 1, 1, none⟩ _ (unhide HY1) (show w.heap.size + 1 ≠ w.heap.size + 1 + 1 by omega)
          have y2 := cellV ⟨w.heap.size + 1, 2, none⟩ _ (unhide HY2) (show w.heap.size + 1 ≠ w.heap.size + 1 + 1 by omega)
          have y3 := cellV ⟨w.heap.size + 1, 3, none⟩ _ (unhide HY3) (show w.heap.size + 1 ≠ w.heap.size + 1 + 1 by omega)
          have y4 := cellV ⟨w.heap.size + 1, 4, none⟩ _ (unhide HY4) (show w.heap.size + 1 ≠ w.heap.size + 1 + 1 by omega)
          have y5 := cellV ⟨w.heap.size + 1, 5, none⟩ _ (unhide HY5) (show w.heap.size + 1 ≠ w.heap.size + 1 + 1 by omega)
          have y6 := cellV ⟨w.heap.size + 1, 6, none⟩ _ (unhide HY6) (show w.heap.size + 1 ≠ w.heap.size + 1 + 1 by omega)
          have y7 := cellV ⟨w.heap.size + 1, 7, none⟩ _ (unhide HY7) (show w.heap.size + 1 ≠ w.heap.size + 1 + 1 by omega)
          clear hall hR cellV hcl
          rw [if_pos (by rfl)]
          unfold Oper.wp
          go_simp
          exact ⟨upd f 4 (.agg #[.int .i64 kk, .int .i64 s, .int .i64 ty, .int .i64 li, .int .i64 qt, .int .i64 ii, .float .f64 pr, .string tg]), by simp [upd], rx_val (unhide HRR) 4 _ (by decide) (fun _ => rfl) (cx_mkv rfl rfl)⟩
        | 5, ho =>
          simp only [List.getElem?_cons_succ, List.getElem?_cons_zero, Option.some.injEq] at ho
          subst ho
          have g4 : f 4 = .agg #[.int .i64 kk, .int .i64 s, .int .i64 ty, .int .i64 li, .int .i64 qt, .int .i64 ii, .float .f64 pr, .string tg] := cx_val (hR.c 4 (hall ⟨4, .data⟩ (by simp) rfl)) rfl rfl
          clear hall hR hcl cellV
          rw [if_pos (by rfl)]
          unfold Oper.wp
          go_simp
          refine (unhide HNO V).mono ?_
          rintro e w4 ⟨rfl, hb4⟩
          exact ⟨upd f 5 (.agg #[.int .i64 kk, .int .i64 s, .int .i64 ty, .int .i64 li, .int .i64 qt, .int .i64 ii, .float .f64 pr, .string (cutB tg)]), by simp [upd, g4], rx_val (rx_grow (cx_mono hRS) (unhide HRR) hb4) 5 _ (by decide) (fun _ => rfl) (cx_mkv rfl rfl)⟩
        | 6, ho =>
          simp only [List.getElem?_cons_succ, List.getElem?_cons_zero, Option.some.injEq] at ho
          subst ho
          clear hall hR cellV hcl
          rw [if_pos (by rfl)]
          unfold Oper.wp
          go_simp
          exact ⟨upd f 6 (.int .i64 rr), by simp [upd], rx_val (unhide HRR) 6 _ (by decide) (fun _ => rfl) (cx_mkv rfl rfl)⟩
        | 7, ho =>
          simp only [List.getElem?_cons_succ, List.getElem?_cons_zero, Option.some.injEq] at ho
          subst ho
          have g5 : f 5 = .agg #[.int .i64 kk, .int .i64 s, .int .i64 ty, .int .i64 li, .int .i64 qt, .int .i64 ii, .float .f64 pr, .string (cutB tg)] := cx_val (hR.c 5 (hall ⟨5, .data⟩ (by simp) rfl)) rfl rfl
          have g6 : f 6 = .int .i64 rr := cx_val (hR.c 6 (hall ⟨6, .data⟩ (by simp) rfl)) rfl rfl
          clear hall hR cellV hcl
          rw [if_pos (by rfl)]
          unfold Oper.wp
          go_simp
          exact ⟨upd f 7 (.agg #[.int .i64 2, .int .i64 kk, .int .i64 s, .int .i64 ty, .int .i64 li, .int .i64 qt, .int .i64 ii, .float .f64 pr, .string (cutB tg), .int .i64 0, .int .i64 0, .int .i64 0, .int .i64 0, .int .i64 rr]), by simp [upd, g5, g6], rx_val (unhide HRR) 7 _ (by decide) (fun _ => rfl) (cx_mkv rfl rfl)⟩
        | 8, ho =>
          simp only [List.getElem?_cons_succ, List.getElem?_cons_zero, Option.some.injEq] at ho
          subst ho
          have g7 : f 7 = .agg #[.int .i64 2, .int .i64 kk, .int .i64 s, .int .i64 ty, .int .i64 li, .int .i64 qt, .int .i64 ii, .float .f64 pr, .string (cutB tg), .int .i64 0, .int .i64 0, .int .i64 0, .int .i64 0, .int .i64 rr] := cx_val (hR.c 7 (hall ⟨7, .data⟩ (by simp) rfl)) rfl rfl
          have hszV := Nat.le_trans hXb hR.k.size
          clear hall hR cellV hcl
          rw [if_pos (by rfl)]
          unfold Oper.wp
          go_simp
          exact ⟨upd f 8 (.slice (some ⟨V.heap.size, 0, none⟩) 1 1), by simp [upd, g7], rx_val (rx_grow (cx_mono hRS) (unhide HRR) ((Below.refl _ _).alloc (Nat.le_refl _) _)) 8 _ (by decide) (fun _ => rfl) (cx_mks (d := 2) rfl ⟨eRow_one V ⟨2, ⟨kk, s, ty, li, qt, ii, pr, cutB tg⟩, 0, 0, 0, 0, rr⟩ hszV, _, _, rfl⟩)⟩
        | 9, ho =>
          simp only [List.getElem?_cons_succ, List.getElem?_cons_zero, Option.some.injEq] at ho
          subst ho
          have g0 : f 3 = .agg #[.int .i64 next, .slice a6 l.length c6] := cx_val (hR.c 3 (hall ⟨3, .data⟩ (by simp) rfl)) rfl rfl
          obtain ⟨y0, z0, q0⟩ := there_any hR.t (j := 0) (by omega)
          obtain ⟨y1, z1, q1⟩ := there_any hR.t (j := 1) (by omega)
          clear hall hR cellV hcl
          rw [if_pos (by rfl)]
          unfold Oper.wp
          go_simp
          have hst := rx_store (cx_mono hRS) (unhide HRR) hxi (by simp [g0, aggL]) (fun _ _ => cx_mks (d := 9) rfl trivial)
          simp only [g0, aggL] at hst
          exact ⟨f, by simp [g0], hst⟩
        | 10, ho =>
          simp only [List.getElem?_cons_succ, List.getElem?_cons_zero, Option.some.injEq] at ho
          subst ho
          have h8 := cx_sp (d := 2) (hR.c 8 (hall ⟨8, .data⟩ (by simp) rfl)) rfl
          obtain ⟨a8, c8, g8⟩ := h8.2
          rw [g8] at h8
          have H8 := hide h8
          clear h8
          clear hall hR cellV hcl
          rw [if_pos (by rfl)]
          unfold Oper.wp
          go_simp
          exact ⟨upd f 10 (f 8), by simp [upd, g8], rx_val (unhide HRR) 10 _ (by decide) (fun _ => rfl) (cx_mks (d := 2) rfl (by rw [g8]; exact unhide H8))⟩
        | n + 11, ho => simp at ho
      · rintro x A V ⟨f, rfl, hR⟩ hx hrd
        have hallx := ready_allC hrd hx (by kernel_rfl)
        obtain ⟨hE8, a8, c8, e8⟩ := cx_sp (d := 2) (hR.c 10 (hallx 10 (by simp))) rfl
        have hres := hR.r (hallx 9 (by simp))
        obtain ⟨v4, hv4, ho4⟩ : ∃ v4, v4 = .slice a6 l.length c6 ∧ ORow V X.heap.size v4 l := ⟨_, rfl, kb_row (unhide HO2) hR.k hRS⟩
        have g3 : f 3 = .agg #[.int .i64 next, .slice a6 l.length c6] := cx_val (hR.c 3 (hallx 3 (by simp))) rfl rfl
        simp only [g3, aggL] at hres
        rw [← hv4] at hres
        clear g3
        have HO : Hid (ORow V w.heap.size v4 _ ∧ ERow V w.heap.size (.slice a8 _ c8) _) := ⟨rowE_mono ho4 (by omega), rowE_mono (e8 ▸ hE8) (by omega)⟩
        have HBV : Hid (Below w.heap.size w V) := ⟨hR.k.os.trans (unhide HBW).os, hR.k.tape.trans (unhide HBW).tape, hR.k.output.trans (unhide HBW).output, Nat.le_trans (unhide HBW).size hR.k.size, fun k hk => (hR.k.block k (Nat.lt_of_lt_of_le hk (unhide HBW).size) (by omega)).trans ((unhide HBW).block k hk)⟩
        have d0 : V.cell? ⟨w.heap.size + 1 + 1, 0, none⟩ = some (.int .i64 next) := hres 0 _ rfl
        have d1 : V.cell? ⟨w.heap.size + 1 + 1, 1, none⟩ = some v4 := hres 1 _ rfl
        simp only [e8]
        generalize f 0 = w0
        generalize f 1 = w1
        generalize f 2 = w2
        generalize f 3 = w3
        generalize f 4 = w4
        generalize f 5 = w5
        generalize f 6 = w6
        generalize f 7 = w7
        generalize f 8 = w8
        clear hR hallx hrd hx hres hE8 ho4
        go_wp2_with fail
        try simp only [Exit.inBlock, Exit.then]
        refine bodyPost_ret (by simp [results, Try.results23, go_sem, d0, d1]; try rfl) rfl ?_
        obtain ⟨rfl, rfl, rfl⟩ := unhide HST
        exact ⟨_, _, rfl, (unhide HO).1, (unhide HO).2, unhide HBV⟩
  rcases unhide HSL with hs | ⟨ad, nn, cc, hs⟩
  · simp only [Value.slice.injEq] at hs
    obtain ⟨rfl, hl0, rfl⟩ := hs
    obtain rfl := List.length_eq_zero_iff.1 hl0
    obtain ⟨z0, z1, y0, y1, y2, y3, y4, y5, y6, y7⟩ := unhide HCELL X (Below.refl _ _)
    have HO0 := hide (World.ownsRow_made (base := X.heap.size) (e := 61) (size := 6) X #[] 0 (Nat.le_refl _) (by decide) rfl)
    have hzX : World.cell? (X.alloc (Obj.cells #[] 61)) ⟨w.heap.size, 1, none⟩ = some (.slice none 0 0) := (unhide HCELL _ ((Below.refl _ _).alloc (Nat.le_refl _) _)).2.1
    have HT' := hide HT
    clear HT hK
    go_wp2_with (at_builtin; go_must (refine wpList_append_own_none rfl _ _ 24 rfl X.heap.size 61 i0 6 Try.underlying24 hi0 (.slice (some ⟨X.heap.size, 0, none⟩) 0 0) 0 [] rfl (unhide HO0) rfl ?_))
    exact unhide HT' _ _ _ (unhide HO0) ((Below.refl _ _).alloc (Nat.le_refl _) _)
  · simp only [Value.slice.injEq] at hs
    obtain ⟨rfl, rfl, rfl⟩ := hs
    obtain ⟨z0, z1, y0, y1, y2, y3, y4, y5, y6, y7⟩ := unhide HCELL X (Below.refl _ _)
    have HBX0 : Hid (Below X.heap.size X (X.alloc (Obj.cells #[] 61))) := (Below.refl _ _).alloc (Nat.le_refl _) _
    have HO0 := hide (World.ownsRow_made (base := X.heap.size) (e := 61) (size := 6) X #[] 0 (Nat.le_refl _) (by decide) rfl)
    have hzX : World.cell? (X.alloc (Obj.cells #[] 61)) ⟨w.heap.size, 1, none⟩ = some (.slice (some ad) l.length cap) := (unhide HCELL _ (unhide HBX0)).2.1
    have HSRC : Hid (∀ j u, (l.flatMap Od.vs)[j]? = some u → World.cell? (X.alloc (Obj.cells #[] 61)) (ad.add j) = some u) := rd_src (rdR_below (unhide HR) ((unhide HB).2.2.2.2.2.trans ((unhide HBX0).mono (unhide HB).2.2.2.2.2.size)) (Nat.le_refl _))
    have HT' := hide HT
    clear HT hK
    go_wp2_with (at_builtin; go_must (refine wpList_append_own _ rfl _ _ 24 rfl X.heap.size 61 i0 _ 6 56 Try.underlying24 hi0 hz0 hz1 hz2 rfl (by decide) (.slice (some ⟨X.heap.size, 0, none⟩) 0 0) 0 [] rfl (unhide HO0) ad l.length cap (l.flatMap Od.vs) rfl (by rw [flat_len Od.len]) (unhide HSRC) (one_all l) (by unfold maxLen; omega) (by omega) (unhide HBX0).size ?_); intro v1 w1 hown1 hg1 _; have HO1 := hide hown1; have HG1 := hide hg1; clear hown1 hg1)
    have HOO : Hid (ORow w1 X.heap.size v1 l) := by
      show w1.ownsRow _ _ _ _ l.length _
      simpa using unhide HO1
    obtain ⟨a6, c6, hv⟩ := row_form (unhide HOO)
    subst hv
    exact unhide HT' _ _ _ (unhide HOO) ((unhide HBX0).grown (unhide HG1) (unhide HBX0).size (fun k hk => ((unhide HO0).lt k hk).1))
end Go.Proofs.Ythmgkabpcjkieaa
