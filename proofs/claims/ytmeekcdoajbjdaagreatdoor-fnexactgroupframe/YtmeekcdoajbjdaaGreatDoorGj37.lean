/-
  A frame of whatever mark and payload, by the program and by the model: proved by walking the functions.
-/
import Derived.Test.YtmeekcdoajbjdaaGreatDoorGj36
namespace Go.Proofs.YtmeekcdoajbjdaaGreatDoor
open Go.RowKit
set_option linter.unusedVariables false

theorem frH_lenG {m : Int} {p : List Int} (hp : p.length ≤ 8192) : (frH m p).length ≤ 8203 := by
  have h1 := putU_len10 (zz p.length) (zz_lt _ (by omega) (by omega))
  rw [frH, List.cons_append, List.length_cons, List.length_append]; omega
theorem bRow_nil {W : World} {B : Nat} {v : Value} {l : List Int} (h : BRow W B v l) : NilOk v := by
  intro n c e
  rcases h.2 with ⟨h0, _⟩ | ⟨g, cap, cur, h0, _⟩
  · rw [h0] at e; simp at e; omega
  · rw [h0] at e; simp at e
set_option maxRecDepth 100000 in
set_option maxHeartbeats 3200000 in
theorem frameG_any (m : Int) (hm : 0 ≤ m ∧ m ≤ 255) (vp : Value) (p : List Int) (was : Int) (B : Nat) (w : World) (hp : BRow w B vp p) (hl : p.length ≤ 8192) (hb : Bts p) (h0 : 0 ≤ was) (h1 : was < 65521) :
    Calls Tryz.prog 21 #[.int .u8 m, vp, .int .i64 was] w fun e w' => ∃ v, e = .returned (.tuple #[v, .int .i64 (frS m p was)]) ∧ BRow w' w.heap.size v (frL m p was) ∧ Below w.heap.size w w' := by
  obtain ⟨i0, hi0, hz0, hz1, hz2⟩ := info_parts Tryz.infoByte
  have HP := hide hp
  obtain ⟨ap, cp, rfl⟩ := bRow_form hp
  have hb1 : Below w.heap.size w (w.alloc (Obj.cells #[.int .u8 m] 5)) := (Below.refl _ _).alloc (Nat.le_refl _) _
  have HR1 : Hid (BRow (w.alloc (Obj.cells #[.int .u8 m] 5)) w.heap.size (.slice (some ⟨w.heap.size, 0, none⟩) 1 1) [m]) := ⟨rfl, .inr ⟨w.heap.size, 1, _, rfl, Nat.le_refl _, heap_alloc_new w _, Nat.le_refl _, by decide, rfl, rfl⟩⟩
  have HB1 := hide hb1
  have h10 := putU_len10 (zz p.length) (zz_lt _ (by omega) (by omega))
  have HFH : Hid (frH m p = [m] ++ putU (zz p.length) ++ p) := rfl
  have hfl := frH_lenG (m := m) hl
  have HFB := hide (frH_bts hm hb)
  have HSB := hide (sumL_bd (frH m p) was h0 h1)
  have HSO : Hid (sumOf (frH m p) was = frS m p was) := if_neg (by omega)
  have HSL : Hid (sumL (frH m p) was = frS m p was) := rfl
  have HFL : Hid (frL m p was = frH m p ++ [frS m p was / 256, frS m p was % 256]) := rfl
  clear hp hb hb1
  go_enter Tryz.func21, Tryz.ntmps21
  refine wp_seq_k fun K hK => ?_
  have HK1 := hide hK
  clear hK
  go_wp2_with fail
  refine unhide HK1 _ _ ?_
  clear HK1
  refine wp_seq_k fun K hK => ?_
  have HK1 := hide hK
  clear hK
  go_wp2_with fail
  generalize (w.alloc (Obj.cells #[.int .u8 m] 5)) = W1 at HR1 HB1 ⊢
  refine (implPut_any p.length W1 (by omega) (by omega)).mono ?_
  rintro e w2 ⟨v2, rfl, ho2, hb2⟩
  obtain ⟨g, cp2, rfl, hgl, hsrc⟩ := ownT_src ho2
  have HSRC := hide hsrc
  have HRW := hide (bRow_below (unhide HR1) hb2)
  have HSZ : Hid (w.heap.size ≤ w2.heap.size) := Nat.le_trans (unhide HB1).size hb2.size
  have HB2 := hide ((unhide HB1).trans (hb2.mono (unhide HB1).size))
  have HP2 := hide (bRow_below (bRow_below (unhide HP) (unhide HB1)) hb2)
  clear ho2 hb2 hsrc
  generalize putU (zz p.length) = P at HFH h10 HSRC ⊢
  go_wp2_with (at_builtin; go_must (refine wpList_append_own _ rfl _ _ 24 rfl w.heap.size 5 i0 _ 1 1 Tryz.underlying24 hi0 hz0 hz1 hz2 rfl (by decide) (.slice (some ⟨w.heap.size, 0, none⟩) 1 1) _ _ rfl (unhide HRW) ⟨g, 0, none⟩ _ cp2 (P.map (Value.int .u8)) rfl (by simp) (unhide HSRC) (one_b _) (by unfold maxLen; simp; omega) (by simp; omega) (unhide HSZ) ?_); intro v3 w3 hown hg _; have HOW := hide hown; have HGR := hide hg; clear hown hg)
  go_wp2_with fail
  refine unhide HK1 _ _ ?_
  clear HK1
  have HR3 : Hid (BRow w3 w.heap.size v3 ([m] ++ P)) := bRow_more (unhide HOW)
  have HB3 := hide ((unhide HB2).grown (unhide HGR) (unhide HB2).size (fun q hq => ((unhide HRW).lt q hq).1))
  have HP3 := hide (World.ownsRow.kept (unhide HP2) (unhide HGR) (by cases e : (Value.slice ap p.length cp).ownBlock with | none => exact .inl rfl | some q => exact .inr fun e2 => by have h1 := ((unhide HP).lt q e).2; have h2 := ((unhide HRW).lt q e2.symm).1; omega))
  clear HOW HGR HSRC
  have HRP := hide (bRow_rd (unhide HP3) (by omega))
  have HNP := hide (bRow_nil (unhide HP3))
  have HSZ3 : Hid (w.heap.size ≤ w3.heap.size) := (unhide HB3).size
  generalize hM : [m] ++ P = M at HR3 HFH
  have hMl : M.length ≤ 11 := by rw [← hM]; simp; omega
  clear hM
  refine wp_seq_k fun K hK => ?_
  have HK1 := hide hK
  clear hK
  go_wp2_with (at_builtin; go_must (refine wpList_append_rd _ rfl _ _ 24 rfl w.heap.size 5 i0 Tryz.underlying24 hi0 hz0 hz1 hz2 v3 _ _ rfl (unhide HR3) _ p rfl (unhide HRP) (unhide HNP) (by omega) (unhide HSZ3) ?_); intro v4 w4 hown hg; have HOW := hide hown; have HGR := hide hg; clear hown hg)
  go_wp2_with fail
  refine unhide HK1 _ _ ?_
  clear HK1
  have HR4 : Hid (BRow w4 w.heap.size v4 (frH m p)) := by rw [unhide HFH]; exact bRow_more (unhide HOW)
  have HB4 := hide ((unhide HB3).grown (unhide HGR) (unhide HB3).size (fun q hq => ((unhide HR3).lt q hq).1))
  clear HOW HGR
  generalize frH m p = FH at HR4 hfl HFB HSB HSO HSL HFL HFH
  refine wp_seq_k fun K hK => ?_
  have HK1 := hide hK
  clear hK
  go_wp2_with fail
  rw [unhide HSL] at HSB
  obtain ⟨hs0, hs1⟩ := unhide HSB
  generalize hSS : frS m p was = S at HFL HSB HSO HSL hs0 hs1
  have HSS := hide hSS
  clear hSS
  refine (implSum_any v4 FH was w4 (bRow_rd (unhide HR4) (by omega)) (unhide HFB)).mono ?_
  rw [unhide HSO]
  rintro e w5 ⟨rfl, hw5⟩
  rw [hw5]
  clear hw5 w5
  go_wp2_with fail
  refine unhide HK1 _ _ ?_
  clear HK1
  have hbA : Below w4.heap.size w4 (w4.alloc (Obj.cells #[.int .u8 (S / 256), .int .u8 (S % 256)] 5)) := (Below.refl _ _).alloc (Nat.le_refl _) _
  have HRA := hide (bRow_below (unhide HR4) hbA)
  have HBA := hide ((unhide HB4).trans (hbA.mono (unhide HB4).size))
  have HSZ5 : Hid (w.heap.size ≤ (w4.alloc (Obj.cells #[.int .u8 (S / 256), .int .u8 (S % 256)] 5)).heap.size) := (unhide HBA).size
  clear hbA
  go_wp2_with (at_builtin; go_must (refine wpList_append_own _ rfl _ _ 24 rfl w.heap.size 5 i0 _ 1 1 Tryz.underlying24 hi0 hz0 hz1 hz2 rfl (by decide) v4 _ _ rfl (unhide HRA) ⟨w4.heap.size, 0, none⟩ 2 2 ([S / 256, S % 256].map (Value.int .u8)) rfl rfl (cells_srcE w4 _ _) (one_b _) (by unfold maxLen; omega) (by omega) (unhide HSZ5) ?_); intro v5 w5 hown hg _; have HOW := hide hown; have HGR := hide hg; clear hown hg)
  have HN : Hid (BRow w5 w.heap.size v5 (FH ++ [S / 256, S % 256]) ∧ Below w.heap.size w w5) := ⟨bRow_more (m := [S / 256, S % 256]) (unhide HOW), (unhide HBA).grown (unhide HGR) (unhide HBA).size (fun q hq => ((unhide HRA).lt q hq).1)⟩
  clear HOW HGR
  go_wp2_with fail
  go_ret2
  exact ⟨_, by rw [unhide HSS]; rfl, by rw [unhide HFL]; exact (unhide HN).1, (unhide HN).2⟩
set_option maxRecDepth 100000 in
set_option maxHeartbeats 3200000 in
theorem l06FrameG_any (m : Int) (hm : 0 ≤ m ∧ m ≤ 255) (vp : Value) (p : List Int) (was : Int) (B : Nat) (w : World) (hp : BRow w B vp p) (hl : p.length ≤ 8192) (hb : Bts p) (h0 : 0 ≤ was) (h1 : was < 65521) :
    Calls Tryz.prog 16 #[.int .u8 m, vp, .int .i64 was] w fun e w' => ∃ v, e = .returned (.tuple #[v, .int .i64 (frS m p was)]) ∧ BRow w' w.heap.size v (frL m p was) ∧ Below w.heap.size w w' := by
  obtain ⟨i0, hi0, hz0, hz1, hz2⟩ := info_parts Tryz.infoByte
  have HP := hide hp
  obtain ⟨ap, cp, rfl⟩ := bRow_form hp
  have hb1 : Below w.heap.size w (w.alloc (Obj.cells #[.int .u8 m] 5)) := (Below.refl _ _).alloc (Nat.le_refl _) _
  have HR1 : Hid (BRow (w.alloc (Obj.cells #[.int .u8 m] 5)) w.heap.size (.slice (some ⟨w.heap.size, 0, none⟩) 1 1) [m]) := ⟨rfl, .inr ⟨w.heap.size, 1, _, rfl, Nat.le_refl _, heap_alloc_new w _, Nat.le_refl _, by decide, rfl, rfl⟩⟩
  have HB1 := hide hb1
  have h10 := putU_len10 (zz p.length) (zz_lt _ (by omega) (by omega))
  have HFH : Hid (frH m p = [m] ++ putU (zz p.length) ++ p) := rfl
  have hfl := frH_lenG (m := m) hl
  have HFB := hide (frH_bts hm hb)
  have HSB := hide (sumL_bd (frH m p) was h0 h1)
  have HSO : Hid (sumOf (frH m p) was = frS m p was) := if_neg (by omega)
  have HSL : Hid (sumL (frH m p) was = frS m p was) := rfl
  have HFL : Hid (frL m p was = frH m p ++ [frS m p was / 256, frS m p was % 256]) := rfl
  clear hp hb hb1
  go_enter Tryz.func16, Tryz.ntmps16
  refine wp_seq_k fun K hK => ?_
  have HK1 := hide hK
  clear hK
  go_wp2_with fail
  refine unhide HK1 _ _ ?_
  clear HK1
  refine wp_seq_k fun K hK => ?_
  have HK1 := hide hK
  clear hK
  go_wp2_with fail
  generalize (w.alloc (Obj.cells #[.int .u8 m] 5)) = W1 at HR1 HB1 ⊢
  refine (l01Put_any p.length W1 (by omega) (by omega)).mono ?_
  rintro e w2 ⟨v2, rfl, ho2, hb2⟩
  obtain ⟨g, cp2, rfl, hgl, hsrc⟩ := ownT_src ho2
  have HSRC := hide hsrc
  have HRW := hide (bRow_below (unhide HR1) hb2)
  have HSZ : Hid (w.heap.size ≤ w2.heap.size) := Nat.le_trans (unhide HB1).size hb2.size
  have HB2 := hide ((unhide HB1).trans (hb2.mono (unhide HB1).size))
  have HP2 := hide (bRow_below (bRow_below (unhide HP) (unhide HB1)) hb2)
  clear ho2 hb2 hsrc
  generalize putU (zz p.length) = P at HFH h10 HSRC ⊢
  go_wp2_with (at_builtin; go_must (refine wpList_append_own _ rfl _ _ 24 rfl w.heap.size 5 i0 _ 1 1 Tryz.underlying24 hi0 hz0 hz1 hz2 rfl (by decide) (.slice (some ⟨w.heap.size, 0, none⟩) 1 1) _ _ rfl (unhide HRW) ⟨g, 0, none⟩ _ cp2 (P.map (Value.int .u8)) rfl (by simp) (unhide HSRC) (one_b _) (by unfold maxLen; simp; omega) (by simp; omega) (unhide HSZ) ?_); intro v3 w3 hown hg _; have HOW := hide hown; have HGR := hide hg; clear hown hg)
  go_wp2_with fail
  refine unhide HK1 _ _ ?_
  clear HK1
  have HR3 : Hid (BRow w3 w.heap.size v3 ([m] ++ P)) := bRow_more (unhide HOW)
  have HB3 := hide ((unhide HB2).grown (unhide HGR) (unhide HB2).size (fun q hq => ((unhide HRW).lt q hq).1))
  have HP3 := hide (World.ownsRow.kept (unhide HP2) (unhide HGR) (by cases e : (Value.slice ap p.length cp).ownBlock with | none => exact .inl rfl | some q => exact .inr fun e2 => by have h1 := ((unhide HP).lt q e).2; have h2 := ((unhide HRW).lt q e2.symm).1; omega))
  clear HOW HGR HSRC
  have HRP := hide (bRow_rd (unhide HP3) (by omega))
  have HNP := hide (bRow_nil (unhide HP3))
  have HSZ3 : Hid (w.heap.size ≤ w3.heap.size) := (unhide HB3).size
  generalize hM : [m] ++ P = M at HR3 HFH
  have hMl : M.length ≤ 11 := by rw [← hM]; simp; omega
  clear hM
  refine wp_seq_k fun K hK => ?_
  have HK1 := hide hK
  clear hK
  go_wp2_with (at_builtin; go_must (refine wpList_append_rd _ rfl _ _ 24 rfl w.heap.size 5 i0 Tryz.underlying24 hi0 hz0 hz1 hz2 v3 _ _ rfl (unhide HR3) _ p rfl (unhide HRP) (unhide HNP) (by omega) (unhide HSZ3) ?_); intro v4 w4 hown hg; have HOW := hide hown; have HGR := hide hg; clear hown hg)
  go_wp2_with fail
  refine unhide HK1 _ _ ?_
  clear HK1
  have HR4 : Hid (BRow w4 w.heap.size v4 (frH m p)) := by rw [unhide HFH]; exact bRow_more (unhide HOW)
  have HB4 := hide ((unhide HB3).grown (unhide HGR) (unhide HB3).size (fun q hq => ((unhide HR3).lt q hq).1))
  clear HOW HGR
  generalize frH m p = FH at HR4 hfl HFB HSB HSO HSL HFL HFH
  refine wp_seq_k fun K hK => ?_
  have HK1 := hide hK
  clear hK
  go_wp2_with fail
  rw [unhide HSL] at HSB
  obtain ⟨hs0, hs1⟩ := unhide HSB
  generalize hSS : frS m p was = S at HFL HSB HSO HSL hs0 hs1
  have HSS := hide hSS
  clear hSS
  refine (l01Sum_any v4 FH was w4 (bRow_rd (unhide HR4) (by omega)) (unhide HFB) h0 h1).mono ?_
  rw [unhide HSL]
  rintro e w5 ⟨rfl, hw5⟩
  rw [hw5]
  clear hw5 w5
  go_wp2_with fail
  refine unhide HK1 _ _ ?_
  clear HK1
  have hbA : Below w4.heap.size w4 (w4.alloc (Obj.cells #[.int .u8 (S / 256), .int .u8 (S % 256)] 5)) := (Below.refl _ _).alloc (Nat.le_refl _) _
  have HRA := hide (bRow_below (unhide HR4) hbA)
  have HBA := hide ((unhide HB4).trans (hbA.mono (unhide HB4).size))
  have HSZ5 : Hid (w.heap.size ≤ (w4.alloc (Obj.cells #[.int .u8 (S / 256), .int .u8 (S % 256)] 5)).heap.size) := (unhide HBA).size
  clear hbA
  go_wp2_with (at_builtin; go_must (refine wpList_append_own _ rfl _ _ 24 rfl w.heap.size 5 i0 _ 1 1 Tryz.underlying24 hi0 hz0 hz1 hz2 rfl (by decide) v4 _ _ rfl (unhide HRA) ⟨w4.heap.size, 0, none⟩ 2 2 ([S / 256, S % 256].map (Value.int .u8)) rfl rfl (cells_srcE w4 _ _) (one_b _) (by unfold maxLen; omega) (by omega) (unhide HSZ5) ?_); intro v5 w5 hown hg _; have HOW := hide hown; have HGR := hide hg; clear hown hg)
  have HN : Hid (BRow w5 w.heap.size v5 (FH ++ [S / 256, S % 256]) ∧ Below w.heap.size w w5) := ⟨bRow_more (m := [S / 256, S % 256]) (unhide HOW), (unhide HBA).grown (unhide HGR) (unhide HBA).size (fun q hq => ((unhide HRA).lt q hq).1)⟩
  clear HOW HGR
  go_wp2_with fail
  go_ret2
  exact ⟨_, by rw [unhide HSS]; rfl, by rw [unhide HFL]; exact (unhide HN).1, (unhide HN).2⟩
end Go.Proofs.YtmeekcdoajbjdaaGreatDoor
