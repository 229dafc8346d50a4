/-
  The levels of a book, by the program: proved by walking the function.
-/
import Derived.Test.YtadnjcgfoofjiaaLj30
import Derived.Test.YtadnjcgfoofjiaaLj34
import Derived.Laws.OwnMore
namespace Go.Proofs.Ytadnjcgfoofjiaa
open Go.RowKit
set_option linter.unusedVariables false

/-- The levels of a book, and the code. -/
def lvR (next : Int) (l : List Od) : List Lv := if okS next l = true then lvsOf true 1 (ofSide l 1) ++ lvsOf false 2 (ofSide l 2) else []
def lvC (next : Int) (l : List Od) : Int := if okS next l = true then 0 else 1
theorem field2_b (b : Nat) (W : World) : Sem.run Try.prog (Instr.field 61 (side_b b) 2) W = .ok (.func (.func 62) #[.pointer (some ⟨b, 0, none⟩)] #[]) W := by kernel_rfl
theorem field2_s (b : Nat) (W : World) : Sem.run Try.prog (Instr.field 61 (side_s b) 2) W = .ok (.func (.func 66) #[.pointer (some ⟨b, 0, none⟩)] #[]) W := by kernel_rfl
abbrev LRow (W : World) (B : Nat) (v : Value) (l : List Lv) : Prop := W.ownsRow B 37 4 v l.length (l.flatMap Lv.vs)
theorem row_below {W W' : World} {B e sz n : Nat} {v : Value} {xs : List Value} (h : W.ownsRow B e sz v n xs) (hb : Below W.heap.size W W') : W'.ownsRow B e sz v n xs :=
  h.kept (row := none) (below_gr hb (Nat.le_refl _)) (by cases v.ownBlock <;> simp)
theorem rd_lenR {α : Type} {f : α → List Value} {sz : Nat} {W : World} {v : Value} {l : List α} (h : RdR f sz W v l) : ∃ a c, v = .slice a l.length c := by
  obtain ⟨a, c, h1, _⟩ := h; exact ⟨a, c, h1⟩
theorem row_src {W : World} {B : Nat} {v : Value} {l : List Lv} (h : LRow W B v l) : (v = .slice none 0 0 ∧ l = []) ∨ ∃ g cap, v = .slice (some ⟨g, 0, none⟩) l.length cap ∧ ∀ j u, (l.flatMap Lv.vs)[j]? = some u → W.cell? ((⟨g, 0, none⟩ : Addr).add j) = some u := by
  have hc := fun g hg => h.cells (g := g) hg
  rcases h.2 with ⟨h1, h0⟩ | ⟨g, cap, cur, h1, hb, hg, hcap, _⟩
  · exact .inl ⟨h1, List.length_eq_zero_iff.1 h0⟩
  · exact .inr ⟨g, cap, h1, hc g (by rw [h1]; rfl)⟩
theorem one_lv (l : List Lv) : ∀ u ∈ l.flatMap Lv.vs, u.oneCell' = true := by
  intro u hu
  obtain ⟨o, _, ho⟩ := List.mem_flatMap.1 hu
  simp [Lv.vs] at ho
  rcases ho with rfl | rfl | rfl | rfl <;> rfl
/-- What each operation of the last statement has. -/
def DL (B : Nat) (BV : Value) (q1 q2 : List Od) (L1 L2 : List Lv) (p : Prop) (W : World) : Nat → Value → Prop
  | 0, v => v = BV
  | 1, v => ¬ p → ∃ b, v = side_b b ∧ Tb W b q1
  | 2, v => ¬ p → ∃ b, v = .func (.func 62) #[.pointer (some ⟨b, 0, none⟩)] #[] ∧ Tb W b q1
  | 3, v => ¬ p → LRow W B v L1
  | 4, v => v = BV
  | 5, v => ¬ p → ∃ b, v = side_s b ∧ Ts W b q2
  | 6, v => ¬ p → ∃ b, v = .func (.func 66) #[.pointer (some ⟨b, 0, none⟩)] #[] ∧ Ts W b q2
  | 7, v => ¬ p → LRow W B v L2
  | 8, v => LRow W B v (L1 ++ L2)
  | 9, v => p ∧ LRow W B v (L1 ++ L2)
  | 10, v => v = .int .i64 0
  | _, _ => True
theorem dl_mono {B : Nat} {BV : Value} {q1 q2 : List Od} {L1 L2 : List Lv} : ∀ p W W' j v, Below W.heap.size W W' → DL B BV q1 q2 L1 L2 p W j v → DL B BV q1 q2 L1 L2 p W' j v := by
  intro p W W' j v hb h
  match j with
  | 0 => exact h
  | 1 => exact fun hp => by obtain ⟨b, h1, h2⟩ := h hp; exact ⟨b, h1, treeAt_block h2 (hb.block _ (treeAt_lt h2))⟩
  | 2 => exact fun hp => by obtain ⟨b, h1, h2⟩ := h hp; exact ⟨b, h1, treeAt_block h2 (hb.block _ (treeAt_lt h2))⟩
  | 3 => exact fun hp => row_below (h hp) hb
  | 4 => exact h
  | 5 => exact fun hp => by obtain ⟨b, h1, h2⟩ := h hp; exact ⟨b, h1, treeAt_block h2 (hb.block _ (treeAt_lt h2))⟩
  | 6 => exact fun hp => by obtain ⟨b, h1, h2⟩ := h hp; exact ⟨b, h1, treeAt_block h2 (hb.block _ (treeAt_lt h2))⟩
  | 7 => exact fun hp => row_below (h hp) hb
  | 8 => exact row_below h hb
  | 9 => exact ⟨h.1, row_below h.2 hb⟩
  | 10 => exact h
  | n + 11 => trivial
theorem dl_write {B : Nat} {BV : Value} {q1 q2 : List Od} {L1 L2 : List Lv} {W W' : World} : ∀ j v, j ≠ 8 → DL B BV q1 q2 L1 L2 False W j v → DL B BV q1 q2 L1 L2 True W' j v := by
  intro j v hj h
  match j with
  | 0 => exact h
  | 1 => exact fun hp => absurd trivial hp
  | 2 => exact fun hp => absurd trivial hp
  | 3 => exact fun hp => absurd trivial hp
  | 4 => exact h
  | 5 => exact fun hp => absurd trivial hp
  | 6 => exact fun hp => absurd trivial hp
  | 7 => exact fun hp => absurd trivial hp
  | 8 => exact absurd rfl hj
  | 9 => exact h.1.elim
  | 10 => exact h
  | n + 11 => trivial

set_option maxRecDepth 100000 in
set_option maxHeartbeats 1600000 in
theorem implLevels_any (next : Int) (v : Value) (l : List Od) (w : World) (hr : RdR Od.vs 6 w v l) (hg : ∀ c ∈ l, c.tag.size ≤ maxLen) :
    Calls Try.prog 9 #[.agg #[.int .i64 next, v]] w fun e w' => ∃ v', e = .returned (.tuple #[v', .int .i64 (lvC next l)]) ∧ OwnR Lv.vs 4 w.heap.size w' v' (lvR next l) ∧ Below w.heap.size w w' := by
  have HR := hide hr
  have HG := hide hg
  obtain ⟨a, cap, rfl, hlen, hc⟩ := hr
  clear hc hg
  have HB0 : Hid (Below w.heap.size w (w.alloc (Obj.cells #[.int .i64 next, .slice a l.length cap] 25))) := (Below.refl _ _).alloc (Nat.le_refl _) _
  have HX : Hid (World.rangeAt (w.alloc (Obj.cells #[.int .i64 next, .slice a l.length cap] 25)) w.heap.size 0 [.int .i64 next, .slice a l.length cap] ∧ w.heap.size < (w.alloc (Obj.cells #[.int .i64 next, .slice a l.length cap] 25)).heap.size) := ⟨cells_made w [.int .i64 next, .slice a l.length cap] _, by rw [size_made]; omega⟩
  obtain ⟨i0, hi0, hz0, hz1, hz2⟩ := info_parts infoLv_b
  go_enter Try.func9, Try.ntmps9
  go_wp2_with fail
  generalize (w.alloc (Obj.cells #[.int .i64 next, .slice a l.length cap] 25)) = W2 at HB0 HX ⊢
  refine (implBookOK_any next _ l W2 (rdR_below (unhide HR) (unhide HB0) (Nat.le_refl _)) (unhide HG)).mono ?_
  rw [okI_eq]
  rintro e w3 ⟨rfl, hb3⟩
  have HB3 := hide ((unhide HB0).trans (hb3.mono (unhide HB0).size))
  have HX3 := hide (range_below (unhide HX).1 hb3 (unhide HX).2)
  have hw3 : w.heap.size < w3.heap.size := Nat.lt_of_lt_of_le (unhide HX).2 hb3.size
  clear hb3
  cases hok : okS next l
  · have HF : Hid (lvR next l = [] ∧ lvC next l = 1) := ⟨by rw [lvR, hok]; rfl, by rw [lvC, hok]; rfl⟩
    clear hok
    go_wp2_with fail
    go_ret2
    exact ⟨_, by rw [(unhide HF).2]; rfl, by rw [(unhide HF).1]; exact ⟨none, 0, rfl, by simp, fun h => absurd rfl h⟩, unhide HB3⟩
  obtain ⟨hn, hri, hlb⟩ := okS_left hok
  have HF : Hid (lvR next l = lvsOf true 1 (ofSide l 1) ++ lvsOf false 2 (ofSide l 2) ∧ lvC next l = 0) := ⟨by rw [lvR, if_pos hok], by rw [lvC, if_pos hok]⟩
  have HLB := hide hlb
  have HR3 := hide (rdR_below (unhide HR) (unhide HB3) (Nat.le_refl _))
  have n1 : (ofSide l 1).length ≤ 20 := Nat.le_trans (List.length_filter_le _ _) hn
  have n2 : (ofSide l 2).length ≤ 20 := Nat.le_trans (List.length_filter_le _ _) hn
  generalize hL1 : lvsOf true 1 (ofSide l 1) = L1 at HF
  generalize hL2 : lvsOf false 2 (ofSide l 2) = L2 at HF
  have hN1 : L1.length ≤ 20 := by rw [← hL1, lvsOf, List.length_map]; exact Nat.le_trans (tks_len _ _) n1
  have hN2 : L2.length ≤ 20 := by rw [← hL2, lvsOf, List.length_map]; exact Nat.le_trans (tks_len _ _) n2
  have HLL : Hid (lvsOf true 1 (ofSide l 1) = L1 ∧ lvsOf false 2 (ofSide l 2) = L2) := ⟨hL1, hL2⟩
  clear hok hri hlb hL1 hL2
  go_wp2_with fail
  refine wp_region_inv2 (RG w3 (fun f => { tmps := #[.agg #[.int .i64 next, .slice a l.length cap], .pointer (some ⟨w.heap.size, 0, none⟩), f 9, f 10, .agg #[.int .i64 next, .slice a l.length cap], .bool true, .bool false, f 0, f 1, f 2, f 3, f 4, f 5, f 6, f 7, f 8], defers := [] }) 8 (DL w3.heap.size (.agg #[.int .i64 next, .slice a l.length cap]) (ofSide l 1) (ofSide l 2) L1 L2)) (by kernel_rfl) ?_ ?_ ?_
  · exact ⟨fun j => if j = 9 then .slice none 0 0 else if j = 10 then .int .i64 0 else undef, rfl, ⟨rfl, rfl, rfl, Nat.le_refl _, fun _ _ => rfl⟩, fun j hj => by rw [List.getElem?_replicate] at hj; split at hj <;> simp at hj⟩
  · rintro x A V ⟨f, rfl, hbel, hD⟩ hx hrd
    have hallx := ready_all hrd hx (acyc _ (by kernel_rfl))
    have k9 : x[9]? = some true := hallx 9 (by simp)
    have k10 : x[10]? = some true := hallx 10 (by simp)
    have HO9 := hide (hD 9 k9).2
    have e10 : f 10 = .int .i64 0 := hD 10 k10
    have HB5 := hide ((unhide HB3).trans (hbel.mono (unhide HB3).size))
    simp only [e10]
    generalize f 9 = v9 at HO9 ⊢
    clear hD hallx k9 k10 e10 hrd hx hbel
    go_wp2_with fail
    go_ret2
    refine ⟨v9, by rw [(unhide HF).2]; rfl, ?_, unhide HB5⟩
    rw [(unhide HF).1]
    exact ownR_base (ownR_row Lv.len (by simp; omega) (unhide HO9)) (unhide HB3).size
  · rintro x A V i o ⟨f, rfl, hbel, hD⟩ hcl hx ho hxi hall
    have n8 : i < 8 → ¬ x[8]? = some true := fun hlt h8 => by
      have h7 := hcl 8 _ rfl h8 ⟨7, .data⟩ (by simp) rfl
      have h6 := hcl 7 _ rfl h7 ⟨6, .data⟩ (by simp) rfl
      have h5 := hcl 6 _ rfl h6 ⟨5, .data⟩ (by simp) rfl
      have h4 := hcl 5 _ rfl h5 ⟨4, .data⟩ (by simp) rfl
      have h3 := hcl 5 _ rfl h5 ⟨3, .chain⟩ (by simp) rfl
      have h2 := hcl 3 _ rfl h3 ⟨2, .data⟩ (by simp) rfl
      have h1 := hcl 2 _ rfl h2 ⟨1, .data⟩ (by simp) rfl
      have h0 := hcl 1 _ rfl h1 ⟨0, .data⟩ (by simp) rfl
      have hall8 : ∀ j, j < 8 → x[j]? = some true := fun j hj => by
        rcases (by omega : j = 0 ∨ j = 1 ∨ j = 2 ∨ j = 3 ∨ j = 4 ∨ j = 5 ∨ j = 6 ∨ j = 7) with rfl | rfl | rfl | rfl | rfl | rfl | rfl | rfl <;> assumption
      rw [hall8 i hlt] at hxi; cases hxi
    clear hcl
    have HBV := hide hbel
    have HD := hide hD
    have z0 := range_below (unhide HX3) hbel hw3 0 _ rfl
    have z1 := range_below (unhide HX3) hbel hw3 1 _ rfl
    rw [Nat.zero_add] at z0 z1
    have HRD := hide (rdR_below (unhide HR3) hbel (Nat.le_refl _))
    match i, ho with
    | 0, ho =>
      simp only [List.getElem?_cons_zero, Option.some.injEq] at ho
      subst ho
      clear hall hD hbel
      rw [if_pos (by rfl)]
      unfold Oper.wp
      go_simp
      exact ⟨upd f 0 (.agg #[.int .i64 next, .slice a l.length cap]), by simp [upd], rg_same (unhide HBV) (unhide HD) (by decide) rfl⟩
    | 1, ho =>
      simp only [List.getElem?_cons_succ, List.getElem?_cons_zero, Option.some.injEq] at ho
      subst ho
      have g0 : f 0 = .agg #[.int .i64 next, .slice a l.length cap] := hD 0 (hall ⟨0, .data⟩ (by simp) rfl)
      clear hall hD hbel
      rw [if_pos (by rfl)]
      unfold Oper.wp
      go_simp
      refine (sideOf_buy next _ l V (unhide HRD) hn (unhide HLB)).mono ?_
      rintro e w4 ⟨b, rfl, ht, hle, hb4⟩
      exact ⟨upd f 1 (side_b b), by simp [upd, g0], rg_grow dl_mono (unhide HBV) (unhide HD) hb4 (by decide) (fun _ => ⟨b, rfl, ht⟩)⟩
    | 2, ho =>
      simp only [List.getElem?_cons_succ, List.getElem?_cons_zero, Option.some.injEq] at ho
      subst ho
      have h8 : ¬ x[8]? = some true := n8 (by omega)
      obtain ⟨b, g1, g2⟩ := hD 1 (hall ⟨1, .data⟩ (by simp) rfl) h8
      have HG2 := hide g2
      have hfl := field2_b b V
      clear hall hD hbel g2
      rw [if_pos (by rfl)]
      unfold Oper.wp
      go_simp
      exact ⟨upd f 2 (.func (.func 62) #[.pointer (some ⟨b, 0, none⟩)] #[]), by simp [upd, g1], rg_same (unhide HBV) (unhide HD) (by decide) (fun _ => ⟨b, rfl, unhide HG2⟩)⟩
    | 3, ho =>
      simp only [List.getElem?_cons_succ, List.getElem?_cons_zero, Option.some.injEq] at ho
      subst ho
      have h8 : ¬ x[8]? = some true := n8 (by omega)
      obtain ⟨b, g1, g2⟩ := hD 2 (hall ⟨2, .data⟩ (by simp) rfl) h8
      have HG2 := hide g2
      clear hall hD hbel g2
      rw [if_pos (by rfl)]
      unfold Oper.wp
      go_simp
      refine (levelsO_b b 1 (ofSide l 1) V (unhide HG2) n1).mono ?_
      rw [(unhide HLL).1]
      rintro e w4 ⟨v4, rfl, ho4, hb4⟩
      exact ⟨upd f 3 v4, by simp [upd, g1], rg_grow dl_mono (unhide HBV) (unhide HD) hb4 (by decide) (fun _ => rowBase_b ho4 (unhide HBV).size)⟩
    | 4, ho =>
      simp only [List.getElem?_cons_succ, List.getElem?_cons_zero, Option.some.injEq] at ho
      subst ho
      clear hall hD hbel
      rw [if_pos (by rfl)]
      unfold Oper.wp
      go_simp
      exact ⟨upd f 4 (.agg #[.int .i64 next, .slice a l.length cap]), by simp [upd], rg_same (unhide HBV) (unhide HD) (by decide) rfl⟩
    | 5, ho =>
      simp only [List.getElem?_cons_succ, List.getElem?_cons_zero, Option.some.injEq] at ho
      subst ho
      have g0 : f 4 = .agg #[.int .i64 next, .slice a l.length cap] := hD 4 (hall ⟨4, .data⟩ (by simp) rfl)
      clear hall hD hbel
      rw [if_pos (by rfl)]
      unfold Oper.wp
      go_simp
      refine (sideOf_sell next 2 (by omega) _ l V (unhide HRD) hn (unhide HLB)).mono ?_
      rintro e w4 ⟨b, rfl, ht, hle, hb4⟩
      exact ⟨upd f 5 (side_s b), by simp [upd, g0], rg_grow dl_mono (unhide HBV) (unhide HD) hb4 (by decide) (fun _ => ⟨b, rfl, ht⟩)⟩
    | 6, ho =>
      simp only [List.getElem?_cons_succ, List.getElem?_cons_zero, Option.some.injEq] at ho
      subst ho
      have h8 : ¬ x[8]? = some true := n8 (by omega)
      obtain ⟨b, g1, g2⟩ := hD 5 (hall ⟨5, .data⟩ (by simp) rfl) h8
      have HG2 := hide g2
      have hfl := field2_s b V
      clear hall hD hbel g2
      rw [if_pos (by rfl)]
      unfold Oper.wp
      go_simp
      exact ⟨upd f 6 (.func (.func 66) #[.pointer (some ⟨b, 0, none⟩)] #[]), by simp [upd, g1], rg_same (unhide HBV) (unhide HD) (by decide) (fun _ => ⟨b, rfl, unhide HG2⟩)⟩
    | 7, ho =>
      simp only [List.getElem?_cons_succ, List.getElem?_cons_zero, Option.some.injEq] at ho
      subst ho
      have h8 : ¬ x[8]? = some true := n8 (by omega)
      obtain ⟨b, g1, g2⟩ := hD 6 (hall ⟨6, .data⟩ (by simp) rfl) h8
      have HG2 := hide g2
      clear hall hD hbel g2
      rw [if_pos (by rfl)]
      unfold Oper.wp
      go_simp
      refine (levelsO_s b 2 (ofSide l 2) V (unhide HG2) n2).mono ?_
      rw [(unhide HLL).2]
      rintro e w4 ⟨v4, rfl, ho4, hb4⟩
      exact ⟨upd f 7 v4, by simp [upd, g1], rg_grow dl_mono (unhide HBV) (unhide HD) hb4 (by decide) (fun _ => rowBase_b ho4 (unhide HBV).size)⟩
    | 8, ho =>
      simp only [List.getElem?_cons_succ, List.getElem?_cons_zero, Option.some.injEq] at ho
      subst ho
      have h8 : ¬ x[8]? = some true := by rw [hxi]; simp
      have g3 := hD 3 (hall ⟨3, .data⟩ (by simp) rfl) h8
      have g7 := hD 7 (hall ⟨7, .data⟩ (by simp) rfl) h8
      rw [if_pos (by rfl)]
      rcases row_src g7 with ⟨e7, hnil⟩ | ⟨g, cp, e7, hcl7⟩
      · refine wp_append_none (.tmp 10) (.tmp 14) 27 rfl w3.heap.size 37 i0 4 Try.underlying27 hi0 (f 3) L1.length (L1.flatMap Lv.vs) rfl g3 e7 ?_
        refine ⟨upd f 8 (f 3), rfl, rg_write hbel hD hxi (fun j v hj h => dl_write j v hj h) ?_⟩
        show LRow V w3.heap.size (f 3) (L1 ++ L2)
        rw [hnil, List.append_nil]; exact g3
      · refine wp_append_own V (.tmp 10) (.tmp 14) 27 rfl w3.heap.size 37 i0 _ 4 32 Try.underlying27 hi0 hz0 hz1 hz2 rfl (by decide) (f 3) L1.length (L1.flatMap Lv.vs) rfl g3 ⟨g, 0, none⟩ L2.length cp (L2.flatMap Lv.vs) e7 (by rw [flat_len Lv.len]) hcl7 (one_lv _) (by unfold maxLen; omega) (by omega) hbel.size ?_
        intro v' w' hown hgr _
        refine ⟨upd f 8 v', rfl, rg_write (hbel.grown hgr hbel.size (fun k hk => (g3.lt k hk).1)) hD hxi (fun j v hj h => dl_write j v hj h) ?_⟩
        show LRow w' w3.heap.size v' (L1 ++ L2)
        show w'.ownsRow _ _ _ _ (L1 ++ L2).length _
        rw [List.length_append, List.flatMap_append]; exact hown
    | 9, ho =>
      simp only [List.getElem?_cons_succ, List.getElem?_cons_zero, Option.some.injEq] at ho
      subst ho
      have k8 : x[8]? = some true := hall ⟨8, .data⟩ (by simp) rfl
      have g8 : LRow V w3.heap.size (f 8) (L1 ++ L2) := hD 8 k8
      have HG8 := hide g8
      clear hall hD hbel g8
      rw [if_pos (by rfl)]
      unfold Oper.wp
      go_simp
      exact ⟨upd f 9 (f 8), by simp [upd], rg_same (unhide HBV) (unhide HD) (by decide) ⟨k8, unhide HG8⟩⟩
    | 10, ho =>
      simp only [List.getElem?_cons_succ, List.getElem?_cons_zero, Option.some.injEq] at ho
      subst ho
      clear hall hD hbel
      rw [if_pos (by rfl)]
      unfold Oper.wp
      go_simp
      exact ⟨upd f 10 (.int .i64 0), by simp [upd], rg_same (unhide HBV) (unhide HD) (by decide) rfl⟩
    | n + 11, ho => simp at ho
end Go.Proofs.Ytadnjcgfoofjiaa
