/-
  The exact law of ReasonOf, walked: it returns true, and nothing that was there is turned.
-/
import Derived.Test.YtdfihaabhichdaaRj07
import Derived.Test.YtdfihaabhichdaaRj08
import Derived.Test.YtdfihaabhichdaaRj45
import Derived.Test.YtdfihaabhichdaaRj46
import Derived.Test.YtdfihaabhichdaaRj47
namespace Go.Proofs.Ytdfihaabhichdaa
open Go.RowKit
set_option linter.unusedVariables false

/-- What each operation has while the model is asked. -/
def D8R (n : Int) (l : List Od) (bv cv tu ra rc : Value) (p : Prop) (W : World) : Nat → Value → Prop
  | 0, v => v = bv
  | 1, v => ∃ ad cp, v = .agg #[.int .i64 n, .slice (some ad) l.length cp] ∧ RdR Od.vs 6 W (.slice (some ad) l.length cp) l
  | 2, v => v = cv
  | 3, v => v = cv
  | 4, v => v = tu
  | 5, v => v = tu
  | 6, v => v = ra
  | 7, v => v = rc
  | 8, v => v = ra
  | 9, v => v = rc
  | _, _ => True
theorem d8r_mono {n : Int} {l : List Od} {bv cv tu ra rc : Value} : ∀ p W W' j v, Below W.heap.size W W' → D8R n l bv cv tu ra rc p W j v → D8R n l bv cv tu ra rc p W' j v := by
  intro p W W' j v hb h
  match j with
  | 0 | 2 | 3 | 4 | 5 | 6 | 7 | 8 | 9 => exact h
  | 1 => obtain ⟨ad, cp, h1, h2⟩ := h; exact ⟨ad, cp, h1, rdR_below h2 hb (Nat.le_refl _)⟩
  | j + 10 => trivial
/-- What each operation has while the argument is held against itself. -/
def D13R (n : Int) (l : List Od) (xv bv : Value) (p : Prop) (W : World) : Nat → Value → Prop
  | 0, v => v = xv
  | 1, v => v = bv
  | 2, v => ∃ v', v = .agg #[.int .i64 n, v'] ∧ RdR Od.vs 6 W v' l
  | 3, v => v = .bool true
  | 4, v => v = .bool false
  | _, _ => True
theorem d13r_mono {n : Int} {l : List Od} {xv bv : Value} : ∀ p W W' j v, Below W.heap.size W W' → D13R n l xv bv p W j v → D13R n l xv bv p W' j v := by
  intro p W W' j v hb h
  match j with
  | 0 | 1 | 3 | 4 => exact h
  | 2 => obtain ⟨v', h1, h2⟩ := h; exact ⟨v', h1, rdR_below h2 hb (Nat.le_refl _)⟩
  | j + 5 => trivial
theorem dv_mono {vs : List Value} : ∀ p W W' j v, Below W.heap.size W W' → DV vs p W j v → DV vs p W' j v := fun _ _ _ _ _ _ h => h
set_option maxRecDepth 100000 in
set_option maxHeartbeats 6400000 in
theorem exactReason (n : Int) (v : Value) (l : List Od) (c : Cm) (w : World) (hr : RdR Od.vs 6 w v l) (hl : l.length ≤ 1048576) (hg : ∀ c ∈ l, c.tag.size ≤ maxLen) (ht : c.g.size ≤ maxLen) :
    Calls Try.prog 3 #[.agg #[.int .i64 n, v], .agg #[.int .i64 c.k, .int .i64 c.s, .int .i64 c.t, .int .i64 c.l, .int .i64 c.q, .int .i64 c.i, .float .f64 c.p, .string c.g]] w fun e w' => e = .returned (.bool true) ∧ Below w.heap.size w w' := by
  have HR := hide hr
  have HG := hide hg
  have HSZ := hide (fun x W h0 h1 => szCmd_any c x W h0 h1 ht)
  have HTC := hide (fun W => toCmd_any c W)
  have HSP := hide (fun (W : World) ad cp hW => specReasonOf_any n (.slice (some ad) l.length cp) l c W hW (.inr ⟨_, _, _, rfl⟩) hg ht)
  have HIM := hide (fun (W : World) ad cp hW => implReasonOf_any n (.slice (some ad) l.length cp) l c W hW (.inr ⟨_, _, _, rfl⟩) hg ht)
  obtain ⟨a, cap, rfl, _, hc⟩ := hr
  generalize reaR n l c = ra at HSP HIM
  generalize reaC n l = rc at HSP HIM
  obtain ⟨kk, s, ty, li, qt, ii, pr, tg⟩ := c
  unfold cmV at HSP HIM
  simp only at HSZ HTC HSP HIM ⊢
  clear hg hc ht
  have hs1 : (w.alloc (Obj.cells #[.int .i64 n, .slice a l.length cap] 24)).heap.size = w.heap.size + 1 := size_made _ _
  have hs2 : ((w.alloc (Obj.cells #[.int .i64 n, .slice a l.length cap] 24)).alloc (Obj.cells #[.int .i64 kk, .int .i64 s, .int .i64 ty, .int .i64 li, .int .i64 qt, .int .i64 ii, .float .f64 pr, .string tg] 27)).heap.size = w.heap.size + 1 + 1 := by rw [size_made, hs1]
  have r1 := cells_made w [.int .i64 n, .slice a l.length cap] 24
  have r2 := cells_made (w.alloc (Obj.cells #[.int .i64 n, .slice a l.length cap] 24)) [.int .i64 kk, .int .i64 s, .int .i64 ty, .int .i64 li, .int .i64 qt, .int .i64 ii, .float .f64 pr, .string tg] 27
  rw [hs1] at r2
  have b12 : Below (w.heap.size + 1) (w.alloc (Obj.cells #[.int .i64 n, .slice a l.length cap] 24)) ((w.alloc (Obj.cells #[.int .i64 n, .slice a l.length cap] 24)).alloc (Obj.cells #[.int .i64 kk, .int .i64 s, .int .i64 ty, .int .i64 li, .int .i64 qt, .int .i64 ii, .float .f64 pr, .string tg] 27)) := (Below.refl _ _).alloc (by rw [hs1]; omega) _
  have H0 : Hid (Below w.heap.size w ((w.alloc (Obj.cells #[.int .i64 n, .slice a l.length cap] 24)).alloc (Obj.cells #[.int .i64 kk, .int .i64 s, .int .i64 ty, .int .i64 li, .int .i64 qt, .int .i64 ii, .float .f64 pr, .string tg] 27))) := ((Below.refl _ _).alloc (Nat.le_refl _) _).alloc (by rw [hs1]; omega) _
  have HX : Hid (_ ∧ _) := ⟨range_below r1 b12 (by omega), r2⟩
  have HLT : Hid (w.heap.size + 1 < ((w.alloc (Obj.cells #[.int .i64 n, .slice a l.length cap] 24)).alloc (Obj.cells #[.int .i64 kk, .int .i64 s, .int .i64 ty, .int .i64 li, .int .i64 qt, .int .i64 ii, .float .f64 pr, .string tg] 27)).heap.size) := by show _ < _; omega
  clear hs1 hs2 r1 r2 b12
  go_enter Try.func3, Try.ntmps3
  refine wp_seq_k fun K hK => ?_
  have HK1 := hide hK
  clear hK
  go_wp2_with fail
  refine unhide HK1 _ _ ?_
  clear HK1
  generalize ((w.alloc (Obj.cells #[.int .i64 n, .slice a l.length cap] 24)).alloc (Obj.cells #[.int .i64 kk, .int .i64 s, .int .i64 ty, .int .i64 li, .int .i64 qt, .int .i64 ii, .float .f64 pr, .string tg] 27)) = W1 at H0 HX HLT ⊢
  have HX : Hid (W1.rangeAt w.heap.size 0 [.int .i64 n, .slice a l.length cap] ∧ W1.rangeAt (w.heap.size + 1) 0 [.int .i64 kk, .int .i64 s, .int .i64 ty, .int .i64 li, .int .i64 qt, .int .i64 ii, .float .f64 pr, .string tg]) := unhide HX
  have hlt := unhide HLT
  have HR1 := hide (rdR_below (unhide HR) (unhide H0) (Nat.le_refl _))
  have HCELL : Hid (∀ W : World, Below W1.heap.size W1 W → W.cell? ⟨w.heap.size, 0, none⟩ = some (.int .i64 n) ∧ W.cell? ⟨w.heap.size, 1, none⟩ = some (.slice a l.length cap) ∧ W.cell? ⟨w.heap.size + 1, 0, none⟩ = some (.int .i64 kk) ∧ W.cell? ⟨w.heap.size + 1, 1, none⟩ = some (.int .i64 s) ∧ W.cell? ⟨w.heap.size + 1, 2, none⟩ = some (.int .i64 ty) ∧ W.cell? ⟨w.heap.size + 1, 3, none⟩ = some (.int .i64 li) ∧ W.cell? ⟨w.heap.size + 1, 4, none⟩ = some (.int .i64 qt) ∧ W.cell? ⟨w.heap.size + 1, 5, none⟩ = some (.int .i64 ii) ∧ W.cell? ⟨w.heap.size + 1, 6, none⟩ = some (.float .f64 pr) ∧ W.cell? ⟨w.heap.size + 1, 7, none⟩ = some (.string tg)) := fun W hW =>
    have p := range_below (unhide HX).1 hW (by omega)
    have q := range_below (unhide HX).2 hW hlt
    ⟨p 0 _ rfl, p 1 _ rfl, q 0 _ rfl, q 1 _ rfl, q 2 _ rfl, q 3 _ rfl, q 4 _ rfl, q 5 _ rfl, q 6 _ rfl, q 7 _ rfl⟩
  obtain ⟨z0, z1, y0, y1, y2, y3, y4, y5, y6, y7⟩ := unhide HCELL W1 (Below.refl _ _)
  go_wp2_with fail
  refine (szBook_any n _ l W1 (unhide HR1) hl (unhide HG)).mono ?_
  rintro e w2 ⟨y, rfl, hy0, hy1, hb⟩
  have B2 := hide hb
  clear hb z0 z1 y0 y1 y2 y3 y4 y5 y6 y7
  obtain ⟨z0, z1, y0, y1, y2, y3, y4, y5, y6, y7⟩ := unhide HCELL w2 (unhide B2)
  by_cases hy : y < 0
  · go_wp2_with fail
    go_ret
    exact ⟨rfl, (unhide H0).trans ((unhide B2).mono (unhide H0).size)⟩
  go_wp2_with fail
  refine (unhide HSZ y w2 (by omega) (by omega)).mono ?_
  rintro e w3 ⟨y', rfl, hz0, hz1, hb⟩
  have B3 := hide ((unhide B2).trans (hb.mono (unhide B2).size))
  clear hb z0 z1 y0 y1 y2 y3 y4 y5 y6 y7
  obtain ⟨z0, z1, y0, y1, y2, y3, y4, y5, y6, y7⟩ := unhide HCELL w3 (unhide B3)
  by_cases hy' : y' < 0
  · go_wp2_with fail
    go_ret
    exact ⟨rfl, (unhide H0).trans ((unhide B3).mono (unhide H0).size)⟩
  clear hy0 hy1 hz0 hz1
  have HR3 := hide (rdR_below (unhide HR1) (unhide B3) (Nat.le_refl _))
  go_wp2_with fail
  clear z0 z1 y0 y1 y2 y3 y4 y5 y6 y7
  refine wp_region_inv2 (RG w3 (fun f => { tmps := #[.agg #[.int .i64 n, .slice a l.length cap], .agg #[.int .i64 kk, .int .i64 s, .int .i64 ty, .int .i64 li, .int .i64 qt, .int .i64 ii, .float .f64 pr, .string tg], .pointer (some ⟨w.heap.size, 0, none⟩), .pointer (some ⟨w.heap.size + 1, 0, none⟩), .bool false, .int .i64 y', f 8, f 9, undef, undef, undef, .agg #[.int .i64 n, .slice a l.length cap], .int .i64 1048576, .int .i64 y, .int .i64 y, .bool (decide (y < 0)), .agg #[.int .i64 kk, .int .i64 s, .int .i64 ty, .int .i64 li, .int .i64 qt, .int .i64 ii, .float .f64 pr, .string tg], .int .i64 y, .int .i64 y', .int .i64 y', .bool (decide (y' < 0)), f 5, f 0, f 1, f 2, f 3, f 4, f 6, f 7, undef, undef, undef, undef, undef, undef, undef, undef, undef, undef, undef, undef, undef, undef, undef, undef, undef, undef, undef, undef, undef, undef], defers := [] }) 99 (D8R n l (.agg #[.int .i64 n, .slice a l.length cap]) (.agg #[.int .i64 kk, .int .i64 s, .int .i64 ty, .int .i64 li, .int .i64 qt, .int .i64 ii, .float .f64 pr, .string tg]) (.tuple #[.int .i64 ra, .int .i64 rc]) (.int .i64 ra) (.int .i64 rc))) (by kernel_rfl) ?_ ?_ ?_
  · exact ⟨fun _ => undef, rfl, ⟨rfl, rfl, rfl, Nat.le_refl _, fun _ _ => rfl⟩, fun j hj => by rw [List.getElem?_replicate] at hj; split at hj <;> simp at hj⟩
  rotate_left
  · rintro x A V i' o' ⟨f, rfl, hbel, hD⟩ hcl hx ho hxi hall
    clear hcl
    have HBV := hide hbel
    have HD := hide hD
    obtain ⟨z0, z1, y0, y1, y2, y3, y4, y5, y6, y7⟩ := unhide HCELL V ((unhide B3).trans (hbel.mono (unhide B3).size))
    have HRV := hide (rdR_below (unhide HR3) hbel (Nat.le_refl _))
    match i', ho with
    | 0, ho =>
      simp only [List.getElem?_cons_zero, Option.some.injEq] at ho
      subst ho
      clear hall hD hbel
      rw [if_pos (by rfl)]
      unfold Oper.wp
      go_simp
      exact ⟨upd f 0 (.agg #[.int .i64 n, .slice a l.length cap]), by simp [upd], rg_same (unhide HBV) (unhide HD) (by decide) rfl⟩
    | 1, ho =>
      simp only [List.getElem?_cons_succ, List.getElem?_cons_zero, Option.some.injEq] at ho
      subst ho
      have g0 : f 0 = .agg #[.int .i64 n, .slice a l.length cap] := hD 0 (hall ⟨0, .data⟩ (by simp) rfl)
      clear hall hD hbel
      rw [if_pos (by rfl)]
      unfold Oper.wp
      go_simp
      refine (toBook_some n _ l V (unhide HRV)).mono ?_
      rintro e w4 ⟨ad, cp, rfl, ho4, hb4⟩
      exact ⟨upd f 1 (.agg #[.int .i64 n, .slice (some ad) l.length cp]), by simp [upd, g0], rg_grow d8r_mono (unhide HBV) (unhide HD) hb4 (by decide) ⟨ad, cp, rfl, ownR_rd ho4⟩⟩
    | 2, ho =>
      simp only [List.getElem?_cons_succ, List.getElem?_cons_zero, Option.some.injEq] at ho
      subst ho
      clear hall hD hbel
      rw [if_pos (by rfl)]
      unfold Oper.wp
      go_simp
      exact ⟨upd f 2 (.agg #[.int .i64 kk, .int .i64 s, .int .i64 ty, .int .i64 li, .int .i64 qt, .int .i64 ii, .float .f64 pr, .string tg]), by simp [upd], rg_same (unhide HBV) (unhide HD) (by decide) rfl⟩
    | 3, ho =>
      simp only [List.getElem?_cons_succ, List.getElem?_cons_zero, Option.some.injEq] at ho
      subst ho
      have g2 : f 2 = .agg #[.int .i64 kk, .int .i64 s, .int .i64 ty, .int .i64 li, .int .i64 qt, .int .i64 ii, .float .f64 pr, .string tg] := hD 2 (hall ⟨2, .data⟩ (by simp) rfl)
      clear hall hD hbel
      rw [if_pos (by rfl)]
      unfold Oper.wp
      go_simp
      refine (unhide HTC V).mono ?_
      rintro e w4 ⟨rfl, hb4⟩
      exact ⟨upd f 3 (.agg #[.int .i64 kk, .int .i64 s, .int .i64 ty, .int .i64 li, .int .i64 qt, .int .i64 ii, .float .f64 pr, .string tg]), by simp [upd, g2], rg_grow d8r_mono (unhide HBV) (unhide HD) hb4 (by decide) rfl⟩
    | 4, ho =>
      simp only [List.getElem?_cons_succ, List.getElem?_cons_zero, Option.some.injEq] at ho
      subst ho
      obtain ⟨ad, cp, g1, hr1⟩ := hD 1 (hall ⟨1, .data⟩ (by simp) rfl)
      have HRR := hide hr1
      have g3 : f 3 = .agg #[.int .i64 kk, .int .i64 s, .int .i64 ty, .int .i64 li, .int .i64 qt, .int .i64 ii, .float .f64 pr, .string tg] := hD 3 (hall ⟨3, .data⟩ (by simp) rfl)
      clear hr1
      clear hall hD hbel
      rw [if_pos (by rfl)]
      unfold Oper.wp
      go_simp
      refine (unhide HSP V ad cp (unhide HRR)).mono ?_
      rintro e w4 ⟨rfl, hb4⟩
      exact ⟨upd f 4 (.tuple #[.int .i64 ra, .int .i64 rc]), by simp [upd, g1, g3], rg_grow d8r_mono (unhide HBV) (unhide HD) hb4 (by decide) rfl⟩
    | 5, ho =>
      simp only [List.getElem?_cons_succ, List.getElem?_cons_zero, Option.some.injEq] at ho
      subst ho
      have g4 : f 4 = .tuple #[.int .i64 ra, .int .i64 rc] := hD 4 (hall ⟨4, .data⟩ (by simp) rfl)
      clear hall hD hbel
      rw [if_pos (by rfl)]
      unfold Oper.wp
      go_simp
      exact ⟨upd f 5 (.tuple #[.int .i64 ra, .int .i64 rc]), by simp [upd, g4], rg_same (unhide HBV) (unhide HD) (by decide) rfl⟩
    | 6, ho =>
      simp only [List.getElem?_cons_succ, List.getElem?_cons_zero, Option.some.injEq] at ho
      subst ho
      have g5 : f 5 = .tuple #[.int .i64 ra, .int .i64 rc] := hD 5 (hall ⟨5, .data⟩ (by simp) rfl)
      clear hall hD hbel
      rw [if_pos (by rfl)]
      unfold Oper.wp
      go_simp
      exact ⟨upd f 6 (.int .i64 ra), by simp [upd, g5], rg_same (unhide HBV) (unhide HD) (by decide) rfl⟩
    | 7, ho =>
      simp only [List.getElem?_cons_succ, List.getElem?_cons_zero, Option.some.injEq] at ho
      subst ho
      have g5 : f 5 = .tuple #[.int .i64 ra, .int .i64 rc] := hD 5 (hall ⟨5, .data⟩ (by simp) rfl)
      clear hall hD hbel
      rw [if_pos (by rfl)]
      unfold Oper.wp
      go_simp
      exact ⟨upd f 7 (.int .i64 rc), by simp [upd, g5], rg_same (unhide HBV) (unhide HD) (by decide) rfl⟩
    | 8, ho =>
      simp only [List.getElem?_cons_succ, List.getElem?_cons_zero, Option.some.injEq] at ho
      subst ho
      have g6 : f 6 = .int .i64 ra := hD 6 (hall ⟨6, .data⟩ (by simp) rfl)
      clear hall hD hbel
      rw [if_pos (by rfl)]
      unfold Oper.wp
      go_simp
      exact ⟨upd f 8 (.int .i64 ra), by simp [upd, g6], rg_same (unhide HBV) (unhide HD) (by decide) rfl⟩
    | 9, ho =>
      simp only [List.getElem?_cons_succ, List.getElem?_cons_zero, Option.some.injEq] at ho
      subst ho
      have g7 : f 7 = .int .i64 rc := hD 7 (hall ⟨7, .data⟩ (by simp) rfl)
      clear hall hD hbel
      rw [if_pos (by rfl)]
      unfold Oper.wp
      go_simp
      exact ⟨upd f 9 (.int .i64 rc), by simp [upd, g7], rg_same (unhide HBV) (unhide HD) (by decide) rfl⟩
    | n + 10, ho => simp at ho
  · rintro x A V ⟨f, rfl, hbel, hD⟩ hx hrd
    have hallx := ready_allC hrd hx (by kernel_rfl)
    have e8 : f 8 = .int .i64 ra := hD 8 (hallx 8 (by simp))
    have e9 : f 9 = .int .i64 rc := hD 9 (hallx 9 (by simp))
    have B4 := hide ((unhide B3).trans (hbel.mono (unhide B3).size))
    simp only [e8, e9]
    generalize f 5 = u21
    generalize f 0 = u22
    generalize f 1 = u23
    generalize f 2 = u24
    generalize f 3 = u25
    generalize f 4 = u26
    generalize f 6 = u27
    generalize f 7 = u28
    clear hD hallx e8 e9 hrd hx hbel HR3
    have HR4 := hide (rdR_below (unhide HR1) (unhide B4) (Nat.le_refl _))
    obtain ⟨z0, z1, y0, y1, y2, y3, y4, y5, y6, y7⟩ := unhide HCELL V (unhide B4)
    go_wp2_with fail
    refine (toBook_some n _ l V (unhide HR4)).mono ?_
    rintro e w5 ⟨a5, cp5, rfl, ho5, hb⟩
    have O5 := hide ho5
    have B5 := hide ((unhide B4).trans (hb.mono (unhide B4).size))
    clear hb ho5 z0 z1 y0 y1 y2 y3 y4 y5 y6 y7
    have H6 : Hid (Below w5.heap.size w5 (w5.alloc (Obj.cells #[.int .i64 n, .slice (some a5) l.length cp5] 34))) := (Below.refl _ _).alloc (Nat.le_refl _) _
    have X6 : Hid (World.rangeAt (w5.alloc (Obj.cells #[.int .i64 n, .slice (some a5) l.length cp5] 34)) w5.heap.size 0 [.int .i64 n, .slice (some a5) l.length cp5] ∧ w5.heap.size < (w5.alloc (Obj.cells #[.int .i64 n, .slice (some a5) l.length cp5] 34)).heap.size) := ⟨cells_made w5 [.int .i64 n, .slice (some a5) l.length cp5] _, by rw [size_made]; omega⟩
    go_wp2_with fail
    generalize (w5.alloc (Obj.cells #[.int .i64 n, .slice (some a5) l.length cp5] 34)) = W6 at H6 X6 ⊢
    have B6 := hide ((unhide B5).trans ((unhide H6).mono (unhide B5).size))
    have RX6 := hide (rdR_below (ownR_rd (unhide O5)) (unhide H6) (Nat.le_refl _))
    refine wp_region_inv2 (RG W6 (fun f => { tmps := #[.agg #[.int .i64 n, .slice a l.length cap], .agg #[.int .i64 kk, .int .i64 s, .int .i64 ty, .int .i64 li, .int .i64 qt, .int .i64 ii, .float .f64 pr, .string tg], .pointer (some ⟨w.heap.size, 0, none⟩), .pointer (some ⟨w.heap.size + 1, 0, none⟩), .bool false, .int .i64 y', .int .i64 ra, .int .i64 rc, .pointer (some ⟨w5.heap.size, 0, none⟩), f 7, f 8, .agg #[.int .i64 n, .slice a l.length cap], .int .i64 1048576, .int .i64 y, .int .i64 y, .bool (decide (y < 0)), .agg #[.int .i64 kk, .int .i64 s, .int .i64 ty, .int .i64 li, .int .i64 qt, .int .i64 ii, .float .f64 pr, .string tg], .int .i64 y, .int .i64 y', .int .i64 y', .bool (decide (y' < 0)), u21, u22, u23, u24, u25, u26, u27, u28, .agg #[.int .i64 n, .slice a l.length cap], .agg #[.int .i64 n, .slice (some a5) l.length cp5], f 4, f 0, f 1, f 2, f 3, f 5, f 6, undef, undef, undef, undef, undef, undef, undef, undef, undef, undef, undef, undef, undef], defers := [] }) 99 (DV [.agg #[.int .i64 n, .slice (some a5) l.length cp5], .agg #[.int .i64 kk, .int .i64 s, .int .i64 ty, .int .i64 li, .int .i64 qt, .int .i64 ii, .float .f64 pr, .string tg], .agg #[.int .i64 kk, .int .i64 s, .int .i64 ty, .int .i64 li, .int .i64 qt, .int .i64 ii, .float .f64 pr, .string tg], .tuple #[.int .i64 ra, .int .i64 rc], .tuple #[.int .i64 ra, .int .i64 rc], .int .i64 ra, .int .i64 rc, .int .i64 ra, .int .i64 rc])) (by kernel_rfl) ?_ ?_ ?_
    · exact ⟨fun _ => undef, rfl, ⟨rfl, rfl, rfl, Nat.le_refl _, fun _ _ => rfl⟩, fun j hj => by rw [List.getElem?_replicate] at hj; split at hj <;> simp at hj⟩
    rotate_left
    · rintro x A V' i' o' ⟨f, rfl, hbel, hD⟩ hcl hx ho hxi hall
      clear hcl
      have HBV := hide hbel
      have HD := hide hD
      obtain ⟨z0, z1, y0, y1, y2, y3, y4, y5, y6, y7⟩ := unhide HCELL V' ((unhide B6).trans (hbel.mono (unhide B6).size))
      have d0 : V'.cell? ⟨w5.heap.size, 0, none⟩ = some (.int .i64 n) := range_below (unhide X6).1 hbel (unhide X6).2 0 _ rfl
      have d1 : V'.cell? ⟨w5.heap.size, 1, none⟩ = some (.slice (some a5) l.length cp5) := range_below (unhide X6).1 hbel (unhide X6).2 1 _ rfl
      have HRV := hide (rdR_below (unhide RX6) hbel (Nat.le_refl _))
      match i', ho with
      | 0, ho =>
        simp only [List.getElem?_cons_zero, Option.some.injEq] at ho
        subst ho
        clear hall hD hbel
        rw [if_pos (by rfl)]
        unfold Oper.wp
        go_simp
        exact ⟨upd f 0 (.agg #[.int .i64 n, .slice (some a5) l.length cp5]), by simp [upd], rg_same (unhide HBV) (unhide HD) (by decide) (fun u hu => by cases hu; rfl)⟩
      | 1, ho =>
        simp only [List.getElem?_cons_succ, List.getElem?_cons_zero, Option.some.injEq] at ho
        subst ho
        clear hall hD hbel
        rw [if_pos (by rfl)]
        unfold Oper.wp
        go_simp
        exact ⟨upd f 1 (.agg #[.int .i64 kk, .int .i64 s, .int .i64 ty, .int .i64 li, .int .i64 qt, .int .i64 ii, .float .f64 pr, .string tg]), by simp [upd], rg_same (unhide HBV) (unhide HD) (by decide) (fun u hu => by cases hu; rfl)⟩
      | 2, ho =>
        simp only [List.getElem?_cons_succ, List.getElem?_cons_zero, Option.some.injEq] at ho
        subst ho
        have g1 : f 1 = .agg #[.int .i64 kk, .int .i64 s, .int .i64 ty, .int .i64 li, .int .i64 qt, .int .i64 ii, .float .f64 pr, .string tg] := hD 1 (hall ⟨1, .data⟩ (by simp) rfl) _ rfl
        clear hall hD hbel
        rw [if_pos (by rfl)]
        unfold Oper.wp
        go_simp
        refine (unhide HTC V').mono ?_
        rintro e w8 ⟨rfl, hb8⟩
        exact ⟨upd f 2 (.agg #[.int .i64 kk, .int .i64 s, .int .i64 ty, .int .i64 li, .int .i64 qt, .int .i64 ii, .float .f64 pr, .string tg]), by simp [upd, g1], rg_grow dv_mono (unhide HBV) (unhide HD) hb8 (by decide) (fun u hu => by cases hu; rfl)⟩
      | 3, ho =>
        simp only [List.getElem?_cons_succ, List.getElem?_cons_zero, Option.some.injEq] at ho
        subst ho
        have g0 : f 0 = .agg #[.int .i64 n, .slice (some a5) l.length cp5] := hD 0 (hall ⟨0, .data⟩ (by simp) rfl) _ rfl
        have g2 : f 2 = .agg #[.int .i64 kk, .int .i64 s, .int .i64 ty, .int .i64 li, .int .i64 qt, .int .i64 ii, .float .f64 pr, .string tg] := hD 2 (hall ⟨2, .data⟩ (by simp) rfl) _ rfl
        clear hall hD hbel
        rw [if_pos (by rfl)]
        unfold Oper.wp
        go_simp
        refine (unhide HIM V' a5 cp5 (unhide HRV)).mono ?_
        rintro e w8 ⟨rfl, hb8⟩
        exact ⟨upd f 3 (.tuple #[.int .i64 ra, .int .i64 rc]), by simp [upd, g0, g2], rg_grow dv_mono (unhide HBV) (unhide HD) hb8 (by decide) (fun u hu => by cases hu; rfl)⟩
      | 4, ho =>
        simp only [List.getElem?_cons_succ, List.getElem?_cons_zero, Option.some.injEq] at ho
        subst ho
        have g3 : f 3 = .tuple #[.int .i64 ra, .int .i64 rc] := hD 3 (hall ⟨3, .data⟩ (by simp) rfl) _ rfl
        clear hall hD hbel
        rw [if_pos (by rfl)]
        unfold Oper.wp
        go_simp
        exact ⟨upd f 4 (.tuple #[.int .i64 ra, .int .i64 rc]), by simp [upd, g3], rg_same (unhide HBV) (unhide HD) (by decide) (fun u hu => by cases hu; rfl)⟩
      | 5, ho =>
        simp only [List.getElem?_cons_succ, List.getElem?_cons_zero, Option.some.injEq] at ho
        subst ho
        have g4 : f 4 = .tuple #[.int .i64 ra, .int .i64 rc] := hD 4 (hall ⟨4, .data⟩ (by simp) rfl) _ rfl
        clear hall hD hbel
        rw [if_pos (by rfl)]
        unfold Oper.wp
        go_simp
        exact ⟨upd f 5 (.int .i64 ra), by simp [upd, g4], rg_same (unhide HBV) (unhide HD) (by decide) (fun u hu => by cases hu; rfl)⟩
      | 6, ho =>
        simp only [List.getElem?_cons_succ, List.getElem?_cons_zero, Option.some.injEq] at ho
        subst ho
        have g4 : f 4 = .tuple #[.int .i64 ra, .int .i64 rc] := hD 4 (hall ⟨4, .data⟩ (by simp) rfl) _ rfl
        clear hall hD hbel
        rw [if_pos (by rfl)]
        unfold Oper.wp
        go_simp
        exact ⟨upd f 6 (.int .i64 rc), by simp [upd, g4], rg_same (unhide HBV) (unhide HD) (by decide) (fun u hu => by cases hu; rfl)⟩
      | 7, ho =>
        simp only [List.getElem?_cons_succ, List.getElem?_cons_zero, Option.some.injEq] at ho
        subst ho
        have g5 : f 5 = .int .i64 ra := hD 5 (hall ⟨5, .data⟩ (by simp) rfl) _ rfl
        clear hall hD hbel
        rw [if_pos (by rfl)]
        unfold Oper.wp
        go_simp
        exact ⟨upd f 7 (.int .i64 ra), by simp [upd, g5], rg_same (unhide HBV) (unhide HD) (by decide) (fun u hu => by cases hu; rfl)⟩
      | 8, ho =>
        simp only [List.getElem?_cons_succ, List.getElem?_cons_zero, Option.some.injEq] at ho
        subst ho
        have g6 : f 6 = .int .i64 rc := hD 6 (hall ⟨6, .data⟩ (by simp) rfl) _ rfl
        clear hall hD hbel
        rw [if_pos (by rfl)]
        unfold Oper.wp
        go_simp
        exact ⟨upd f 8 (.int .i64 rc), by simp [upd, g6], rg_same (unhide HBV) (unhide HD) (by decide) (fun u hu => by cases hu; rfl)⟩
      | n + 9, ho => simp at ho
    · rintro x A V' ⟨f, rfl, hbel, hD⟩ hx hrd
      have hallx := ready_allC hrd hx (by kernel_rfl)
      have e7 : f 7 = .int .i64 ra := hD 7 (hallx 7 (by simp)) _ rfl
      have e8 : f 8 = .int .i64 rc := hD 8 (hallx 8 (by simp)) _ rfl
      have B7 := hide ((unhide B6).trans (hbel.mono (unhide B6).size))
      have X7 := hide (range_below (unhide X6).1 hbel (unhide X6).2)
      have hs7 : w5.heap.size < V'.heap.size := Nat.lt_of_lt_of_le (unhide X6).2 hbel.size
      have RX7 := hide (rdR_below (unhide RX6) hbel (Nat.le_refl _))
      simp only [e7, e8]
      generalize f 4 = u31
      generalize f 0 = u32
      generalize f 1 = u33
      generalize f 2 = u34
      generalize f 3 = u35
      generalize f 5 = u36
      generalize f 6 = u37
      clear hD hallx e7 e8 hrd hx hbel RX6 X6
      have HR7 := hide (rdR_below (unhide HR1) (unhide B7) (Nat.le_refl _))
      go_wp2_with fail
      refine wp_region_inv2 (RG V' (fun f => { tmps := #[.agg #[.int .i64 n, .slice a l.length cap], .agg #[.int .i64 kk, .int .i64 s, .int .i64 ty, .int .i64 li, .int .i64 qt, .int .i64 ii, .float .f64 pr, .string tg], .pointer (some ⟨w.heap.size, 0, none⟩), .pointer (some ⟨w.heap.size + 1, 0, none⟩), .bool false, .int .i64 y', .int .i64 ra, .int .i64 rc, .pointer (some ⟨w5.heap.size, 0, none⟩), .int .i64 ra, .int .i64 rc, .agg #[.int .i64 n, .slice a l.length cap], .int .i64 1048576, .int .i64 y, .int .i64 y, .bool (decide (y < 0)), .agg #[.int .i64 kk, .int .i64 s, .int .i64 ty, .int .i64 li, .int .i64 qt, .int .i64 ii, .float .f64 pr, .string tg], .int .i64 y, .int .i64 y', .int .i64 y', .bool (decide (y' < 0)), u21, u22, u23, u24, u25, u26, u27, u28, .agg #[.int .i64 n, .slice a l.length cap], .agg #[.int .i64 n, .slice (some a5) l.length cp5], u31, u32, u33, u34, u35, u36, u37, .int .i64 ra, .int .i64 ra, .bool false, .bool false, .int .i64 rc, .int .i64 rc, .bool false, .bool false, f 0, f 1, f 2, f 3, f 4], defers := [] }) 99 (D13R n l (.agg #[.int .i64 n, .slice (some a5) l.length cp5]) (.agg #[.int .i64 n, .slice a l.length cap]))) (by kernel_rfl) ?_ ?_ ?_
      · exact ⟨fun _ => undef, rfl, ⟨rfl, rfl, rfl, Nat.le_refl _, fun _ _ => rfl⟩, fun j hj => by rw [List.getElem?_replicate] at hj; split at hj <;> simp at hj⟩
      rotate_left
      · rintro x A V8 i' o' ⟨f, rfl, hbel, hD⟩ hcl hx ho hxi hall
        clear hcl
        have HBV := hide hbel
        have HD := hide hD
        obtain ⟨z0, z1, y0, y1, y2, y3, y4, y5, y6, y7⟩ := unhide HCELL V8 ((unhide B7).trans (hbel.mono (unhide B7).size))
        have d0 : V8.cell? ⟨w5.heap.size, 0, none⟩ = some (.int .i64 n) := range_below (unhide X7) hbel hs7 0 _ rfl
        have d1 : V8.cell? ⟨w5.heap.size, 1, none⟩ = some (.slice (some a5) l.length cp5) := range_below (unhide X7) hbel hs7 1 _ rfl
        have HRV := hide (rdR_below (unhide HR7) hbel (Nat.le_refl _))
        have HRX := hide (rdR_below (unhide RX7) hbel (Nat.le_refl _))
        match i', ho with
        | 0, ho =>
          simp only [List.getElem?_cons_zero, Option.some.injEq] at ho
          subst ho
          clear hall hD hbel
          rw [if_pos (by rfl)]
          unfold Oper.wp
          go_simp
          exact ⟨upd f 0 (.agg #[.int .i64 n, .slice (some a5) l.length cp5]), by simp [upd], rg_same (unhide HBV) (unhide HD) (by decide) rfl⟩
        | 1, ho =>
          simp only [List.getElem?_cons_succ, List.getElem?_cons_zero, Option.some.injEq] at ho
          subst ho
          clear hall hD hbel
          rw [if_pos (by rfl)]
          unfold Oper.wp
          go_simp
          exact ⟨upd f 1 (.agg #[.int .i64 n, .slice a l.length cap]), by simp [upd], rg_same (unhide HBV) (unhide HD) (by decide) rfl⟩
        | 2, ho =>
          simp only [List.getElem?_cons_succ, List.getElem?_cons_zero, Option.some.injEq] at ho
          subst ho
          have g1 : f 1 = .agg #[.int .i64 n, .slice a l.length cap] := hD 1 (hall ⟨1, .data⟩ (by simp) rfl)
          clear hall hD hbel
          rw [if_pos (by rfl)]
          unfold Oper.wp
          go_simp
          refine (toBook_any n _ l V8 (unhide HRV)).mono ?_
          rintro e w9 ⟨v9, rfl, ho9, hb9⟩
          exact ⟨upd f 2 (.agg #[.int .i64 n, v9]), by simp [upd, g1], rg_grow d13r_mono (unhide HBV) (unhide HD) hb9 (by decide) ⟨v9, rfl, ownR_rd ho9⟩⟩
        | 3, ho =>
          simp only [List.getElem?_cons_succ, List.getElem?_cons_zero, Option.some.injEq] at ho
          subst ho
          have g0 : f 0 = .agg #[.int .i64 n, .slice (some a5) l.length cp5] := hD 0 (hall ⟨0, .data⟩ (by simp) rfl)
          obtain ⟨v9, g2, hr9⟩ := hD 2 (hall ⟨2, .data⟩ (by simp) rfl)
          have HR9 := hide hr9
          clear hr9
          clear hall hD hbel
          rw [if_pos (by rfl)]
          unfold Oper.wp
          go_simp
          refine (eqBook_same n _ v9 l V8 (unhide HRX) (unhide HR9)).mono ?_
          rintro e w9 ⟨rfl, hb9⟩
          exact ⟨upd f 3 (.bool true), by simp [upd, g0, g2], rg_grow d13r_mono (unhide HBV) (unhide HD) hb9 (by decide) rfl⟩
        | 4, ho =>
          simp only [List.getElem?_cons_succ, List.getElem?_cons_zero, Option.some.injEq] at ho
          subst ho
          have g3 : f 3 = .bool true := hD 3 (hall ⟨3, .data⟩ (by simp) rfl)
          clear hall hD hbel
          rw [if_pos (by rfl)]
          unfold Oper.wp
          go_simp
          exact ⟨upd f 4 (.bool false), by simp [upd, g3], rg_same (unhide HBV) (unhide HD) (by decide) rfl⟩
        | n + 5, ho => simp at ho
      · rintro x A V8 ⟨f, rfl, hbel, hD⟩ hx hrd
        have hallx := ready_all hrd hx (acyc _ (by kernel_rfl))
        have e4 : f 4 = .bool false := hD 4 (hallx 4 (by simp))
        have B8 := hide ((unhide B7).trans (hbel.mono (unhide B7).size))
        simp only [e4]
        clear hD hallx e4 hrd hx hbel
        go_wp2_with fail
        go_ret
        exact ⟨rfl, (unhide H0).trans ((unhide B8).mono (unhide H0).size)⟩

theorem lawReason (n : Int) (a : Option Addr) (len cap : Nat) (c : Cm) (w : World) (h : (Lit.int .i64 n).wf = true ∧ IsOrders w a len cap) (hc : c.ok) :
    Calls Try.prog 3 #[.agg #[.int .i64 n, .slice a len cap], .agg #[.int .i64 c.k, .int .i64 c.s, .int .i64 c.t, .int .i64 c.l, .int .i64 c.q, .int .i64 c.i, .float .f64 c.p, .string c.g]] w fun e w' => e = .returned (.bool true) ∧ Below w.heap.size w w' := by
  by_cases hl : len ≤ 1048576
  · obtain ⟨l, rfl, hr, hok⟩ := h.2.2 (by omega)
    exact exactReason n _ l c w hr hl (fun c hc => (hok c hc).tag) hc.g
  · have HZ := hide (fun W => szBook_long n a len cap W (by omega) h.2.1)
    obtain ⟨kk, s, ty, li, qt, ii, pr, tg⟩ := c
    simp only
    have hs1 : (w.alloc (Obj.cells #[.int .i64 n, .slice a len cap] 24)).heap.size = w.heap.size + 1 := size_made _ _
    have H0 : Hid (Below w.heap.size w ((w.alloc (Obj.cells #[.int .i64 n, .slice a len cap] 24)).alloc (Obj.cells #[.int .i64 kk, .int .i64 s, .int .i64 ty, .int .i64 li, .int .i64 qt, .int .i64 ii, .float .f64 pr, .string tg] 27))) := ((Below.refl _ _).alloc (Nat.le_refl _) _).alloc (by rw [hs1]; omega) _
    clear h hc hs1
    go_enter Try.func3, Try.ntmps3
    go_wp2_with fail
    refine (unhide HZ _).mono ?_
    rintro e w1 ⟨rfl, hb⟩
    have B1 := hide ((unhide H0).trans (hb.mono (unhide H0).size))
    clear hb
    go_wp2_with fail
    go_ret
    exact ⟨rfl, unhide B1⟩
end Go.Proofs.Ytdfihaabhichdaa
