/-
  The frame of totals, by the program: proved by walking the functions.
-/
import Derived.Test.YtelnpobhmjdaoaaEndP
namespace Go.Proofs.Ytelnpobhmjdaoaa
open Go.RowKit
set_option linter.unusedVariables false

set_option maxRecDepth 100000 in
set_option maxHeartbeats 3200000 in
theorem totalsPayload_any (t : Tt) (ht : t.ok) (w : World) :
    Calls Try.prog 14 #[.agg #[.int .i64 t.a, .int .i64 t.b, .int .i64 t.c, .int .i64 t.d, .int .i64 t.e, .int .i64 t.f, .int .i64 t.g, .int .i64 t.h]] w fun e w' => ∃ v, e = .returned v ∧ BRow w' w.heap.size v (pay t.ns) ∧ Below w.heap.size w w' := by
  obtain ⟨i0, hi0, hz0, hz1, hz2⟩ := info_parts Try.infoByte
  obtain ⟨n0, n1, n2, n3, n4, n5, n6, n7⟩ := t
  have HOK : Hid (∀ n ∈ [n0, n1, n2, n3, n4, n5, n6, n7], I6 n) := ht
  clear ht
  show Calls _ _ _ _ fun e w' => ∃ v, e = .returned v ∧ BRow w' w.heap.size v (pay [n0, n1, n2, n3, n4, n5, n6, n7]) ∧ Below w.heap.size w w'
  simp only
  have hb1 : Below w.heap.size w (w.alloc (Obj.cells #[.int .i64 n0, .int .i64 n1, .int .i64 n2, .int .i64 n3, .int .i64 n4, .int .i64 n5, .int .i64 n6, .int .i64 n7] 27)) := (Below.refl _ _).alloc (Nat.le_refl _) _
  have HB1 := hide hb1
  have HR1 : Hid (World.rangeAt (w.alloc (Obj.cells #[.int .i64 n0, .int .i64 n1, .int .i64 n2, .int .i64 n3, .int .i64 n4, .int .i64 n5, .int .i64 n6, .int .i64 n7] 27)) w.heap.size 0 [.int .i64 n0, .int .i64 n1, .int .i64 n2, .int .i64 n3, .int .i64 n4, .int .i64 n5, .int .i64 n6, .int .i64 n7]) := cells_madeE w [.int .i64 n0, .int .i64 n1, .int .i64 n2, .int .i64 n3, .int .i64 n4, .int .i64 n5, .int .i64 n6, .int .i64 n7] _
  clear hb1
  go_enter Try.func14, Try.ntmps14
  refine wp_seq_k fun K hK => ?_
  have HK1 := hide hK
  clear hK
  go_wp2_with fail
  refine unhide HK1 _ _ ?_
  clear HK1
  generalize (w.alloc (Obj.cells #[.int .i64 n0, .int .i64 n1, .int .i64 n2, .int .i64 n3, .int .i64 n4, .int .i64 n5, .int .i64 n6, .int .i64 n7] 27)) = X at HB1 HR1 ⊢
  have z0 : X.cell? ⟨w.heap.size, 0, none⟩ = some (.int .i64 n0) := unhide HR1 0 _ rfl
  have z1 : X.cell? ⟨w.heap.size, 1, none⟩ = some (.int .i64 n1) := unhide HR1 1 _ rfl
  have z2 : X.cell? ⟨w.heap.size, 2, none⟩ = some (.int .i64 n2) := unhide HR1 2 _ rfl
  have z3 : X.cell? ⟨w.heap.size, 3, none⟩ = some (.int .i64 n3) := unhide HR1 3 _ rfl
  have z4 : X.cell? ⟨w.heap.size, 4, none⟩ = some (.int .i64 n4) := unhide HR1 4 _ rfl
  have z5 : X.cell? ⟨w.heap.size, 5, none⟩ = some (.int .i64 n5) := unhide HR1 5 _ rfl
  have z6 : X.cell? ⟨w.heap.size, 6, none⟩ = some (.int .i64 n6) := unhide HR1 6 _ rfl
  have z7 : X.cell? ⟨w.heap.size, 7, none⟩ = some (.int .i64 n7) := unhide HR1 7 _ rfl
  refine wp_seq_k fun K hK => ?_
  have HK1 := hide hK
  clear hK
  go_wp2_with fail
  refine unhide HK1 _ _ ?_
  clear HK1
  refine wp_seq_k fun K hK => ?_
  have HK1 := hide hK
  clear hK
  go_wp2_with fail
  clear z0 z1 z2 z3 z4 z5 z6 z7
  go_loopw [3, 23] (fun ov iv wr => ∃ (k : Nat), k ≤ 8 ∧ iv = .int .i64 k ∧ Hid (BRow wr X.heap.size ov (pay ([n0, n1, n2, n3, n4, n5, n6, n7].take k)) ∧ Below X.heap.size X wr)) (fun _ iv _ => 8 - (intOf iv).toNat)
  case atStart => exact ⟨0, by omega, rfl, World.ownsRow_nil _ _ _ _, Below.refl _ _⟩
  case round =>
    obtain ⟨k, hk, rfl, hin⟩ := hrel
    by_cases hlt : k < 8
    · rcases (by omega : k = 0 ∨ k = 1 ∨ k = 2 ∨ k = 3 ∨ k = 4 ∨ k = 5 ∨ k = 6 ∨ k = 7) with rfl | rfl | rfl | rfl | rfl | rfl | rfl | rfl
      · have HNX : Hid (pay ([n0, n1, n2, n3, n4, n5, n6, n7].take (0 + 1)) = pay ([n0, n1, n2, n3, n4, n5, n6, n7].take 0) ++ putU (zz n0)) := pay_more [n0, n1, n2, n3, n4, n5, n6, n7] rfl
        have hin6 := unhide HOK n0 (by simp)
        obtain ⟨hrow, hbel⟩ := unhide hin
        have hle := pay_len ([n0, n1, n2, n3, n4, n5, n6, n7].take 0) (fun m hm => unhide HOK m (List.mem_of_mem_take hm))
        have hle2 : (pay ([n0, n1, n2, n3, n4, n5, n6, n7].take 0)).length ≤ 80 := Nat.le_trans hle (by simp)
        generalize pay ([n0, n1, n2, n3, n4, n5, n6, n7].take 0) = L at hrow HNX hle2
        have HRO := hide hrow
        have HBE := hide hbel
        clear hrow hbel hle hin
        have hix : ∀ W : World, Sem.run Try.prog (Instr.index 40 (.agg #[.int .i64 n0, .int .i64 n1, .int .i64 n2, .int .i64 n3, .int .i64 n4, .int .i64 n5, .int .i64 n6, .int .i64 n7]) (.int .i64 0)) W = .ok (.int .i64 n0) W := fun W => by kernel_rfl
        go_wp2_with fail
        clear hix
        refine (implPut_any n0 wr hin6.1 hin6.2).mono ?_
        rintro e w2 ⟨v2, rfl, ho2, hb2⟩
        have h10 := putU_len10 _ (zz_lt n0 hin6.1 hin6.2)
        obtain ⟨g, cp, rfl, hgl, hsrc⟩ := ownT_src ho2
        have HSRC := hide hsrc
        have HRW := hide (bRow_below (unhide HRO) hb2)
        have HSZ : Hid (X.heap.size ≤ w2.heap.size) := Nat.le_trans (unhide HBE).size hb2.size
        have HB2 := hide ((unhide HBE).trans (hb2.mono (unhide HBE).size))
        clear ho2 hb2 hsrc
        generalize putU (zz n0) = P at HNX h10 HSRC ⊢
        go_wp2_with (at_builtin; go_must (refine wpList_append_own _ rfl _ _ 24 rfl X.heap.size 5 i0 _ 1 1 Try.underlying24 hi0 hz0 hz1 hz2 rfl (by decide) (u3) _ _ rfl (unhide HRW) ⟨g, 0, none⟩ _ cp ((P).map (Value.int .u8)) rfl (by simp) (unhide HSRC) (one_b _) (by unfold maxLen; omega) (by omega) (unhide HSZ) ?_); intro v3 w3 hown hg _; have HOW := hide hown; have HGR := hide hg; clear hown hg)
        have HN : Hid (BRow w3 X.heap.size v3 (pay ([n0, n1, n2, n3, n4, n5, n6, n7].take (0 + 1))) ∧ Below X.heap.size X w3) := by
          rw [unhide HNX]
          exact ⟨bRow_more (unhide HOW), (unhide HB2).grown (unhide HGR) (unhide HB2).size (fun q hq => ((unhide HRW).lt q hq).1)⟩
        clear HOW HGR
        go_wp2_with fail
        go_roundw
        case rel => exact ⟨0 + 1, by omega, by go_num, unhide HN⟩
        case measure => simp [intOf]
      · have HNX : Hid (pay ([n0, n1, n2, n3, n4, n5, n6, n7].take (1 + 1)) = pay ([n0, n1, n2, n3, n4, n5, n6, n7].take 1) ++ putU (zz n1)) := pay_more [n0, n1, n2, n3, n4, n5, n6, n7] rfl
        have hin6 := unhide HOK n1 (by simp)
        obtain ⟨hrow, hbel⟩ := unhide hin
        have hle := pay_len ([n0, n1, n2, n3, n4, n5, n6, n7].take 1) (fun m hm => unhide HOK m (List.mem_of_mem_take hm))
        have hle2 : (pay ([n0, n1, n2, n3, n4, n5, n6, n7].take 1)).length ≤ 80 := Nat.le_trans hle (by simp)
        generalize pay ([n0, n1, n2, n3, n4, n5, n6, n7].take 1) = L at hrow HNX hle2
        have HRO := hide hrow
        have HBE := hide hbel
        clear hrow hbel hle hin
        have hix : ∀ W : World, Sem.run Try.prog (Instr.index 40 (.agg #[.int .i64 n0, .int .i64 n1, .int .i64 n2, .int .i64 n3, .int .i64 n4, .int .i64 n5, .int .i64 n6, .int .i64 n7]) (.int .i64 1)) W = .ok (.int .i64 n1) W := fun W => by kernel_rfl
        go_wp2_with fail
        clear hix
        refine (implPut_any n1 wr hin6.1 hin6.2).mono ?_
        rintro e w2 ⟨v2, rfl, ho2, hb2⟩
        have h10 := putU_len10 _ (zz_lt n1 hin6.1 hin6.2)
        obtain ⟨g, cp, rfl, hgl, hsrc⟩ := ownT_src ho2
        have HSRC := hide hsrc
        have HRW := hide (bRow_below (unhide HRO) hb2)
        have HSZ : Hid (X.heap.size ≤ w2.heap.size) := Nat.le_trans (unhide HBE).size hb2.size
        have HB2 := hide ((unhide HBE).trans (hb2.mono (unhide HBE).size))
        clear ho2 hb2 hsrc
        generalize putU (zz n1) = P at HNX h10 HSRC ⊢
        go_wp2_with (at_builtin; go_must (refine wpList_append_own _ rfl _ _ 24 rfl X.heap.size 5 i0 _ 1 1 Try.underlying24 hi0 hz0 hz1 hz2 rfl (by decide) (u3) _ _ rfl (unhide HRW) ⟨g, 0, none⟩ _ cp ((P).map (Value.int .u8)) rfl (by simp) (unhide HSRC) (one_b _) (by unfold maxLen; omega) (by omega) (unhide HSZ) ?_); intro v3 w3 hown hg _; have HOW := hide hown; have HGR := hide hg; clear hown hg)
        have HN : Hid (BRow w3 X.heap.size v3 (pay ([n0, n1, n2, n3, n4, n5, n6, n7].take (1 + 1))) ∧ Below X.heap.size X w3) := by
          rw [unhide HNX]
          exact ⟨bRow_more (unhide HOW), (unhide HB2).grown (unhide HGR) (unhide HB2).size (fun q hq => ((unhide HRW).lt q hq).1)⟩
        clear HOW HGR
        go_wp2_with fail
        go_roundw
        case rel => exact ⟨1 + 1, by omega, by go_num, unhide HN⟩
        case measure => simp [intOf]
      · have HNX : Hid (pay ([n0, n1, n2, n3, n4, n5, n6, n7].take (2 + 1)) = pay ([n0, n1, n2, n3, n4, n5, n6, n7].take 2) ++ putU (zz n2)) := pay_more [n0, n1, n2, n3, n4, n5, n6, n7] rfl
        have hin6 := unhide HOK n2 (by simp)
        obtain ⟨hrow, hbel⟩ := unhide hin
        have hle := pay_len ([n0, n1, n2, n3, n4, n5, n6, n7].take 2) (fun m hm => unhide HOK m (List.mem_of_mem_take hm))
        have hle2 : (pay ([n0, n1, n2, n3, n4, n5, n6, n7].take 2)).length ≤ 80 := Nat.le_trans hle (by simp)
        generalize pay ([n0, n1, n2, n3, n4, n5, n6, n7].take 2) = L at hrow HNX hle2
        have HRO := hide hrow
        have HBE := hide hbel
        clear hrow hbel hle hin
        have hix : ∀ W : World, Sem.run Try.prog (Instr.index 40 (.agg #[.int .i64 n0, .int .i64 n1, .int .i64 n2, .int .i64 n3, .int .i64 n4, .int .i64 n5, .int .i64 n6, .int .i64 n7]) (.int .i64 2)) W = .ok (.int .i64 n2) W := fun W => by kernel_rfl
        go_wp2_with fail
        clear hix
        refine (implPut_any n2 wr hin6.1 hin6.2).mono ?_
        rintro e w2 ⟨v2, rfl, ho2, hb2⟩
        have h10 := putU_len10 _ (zz_lt n2 hin6.1 hin6.2)
        obtain ⟨g, cp, rfl, hgl, hsrc⟩ := ownT_src ho2
        have HSRC := hide hsrc
        have HRW := hide (bRow_below (unhide HRO) hb2)
        have HSZ : Hid (X.heap.size ≤ w2.heap.size) := Nat.le_trans (unhide HBE).size hb2.size
        have HB2 := hide ((unhide HBE).trans (hb2.mono (unhide HBE).size))
        clear ho2 hb2 hsrc
        generalize putU (zz n2) = P at HNX h10 HSRC ⊢
        go_wp2_with (at_builtin; go_must (refine wpList_append_own _ rfl _ _ 24 rfl X.heap.size 5 i0 _ 1 1 Try.underlying24 hi0 hz0 hz1 hz2 rfl (by decide) (u3) _ _ rfl (unhide HRW) ⟨g, 0, none⟩ _ cp ((P).map (Value.int .u8)) rfl (by simp) (unhide HSRC) (one_b _) (by unfold maxLen; omega) (by omega) (unhide HSZ) ?_); intro v3 w3 hown hg _; have HOW := hide hown; have HGR := hide hg; clear hown hg)
        have HN : Hid (BRow w3 X.heap.size v3 (pay ([n0, n1, n2, n3, n4, n5, n6, n7].take (2 + 1))) ∧ Below X.heap.size X w3) := by
          rw [unhide HNX]
          exact ⟨bRow_more (unhide HOW), (unhide HB2).grown (unhide HGR) (unhide HB2).size (fun q hq => ((unhide HRW).lt q hq).1)⟩
        clear HOW HGR
        go_wp2_with fail
        go_roundw
        case rel => exact ⟨2 + 1, by omega, by go_num, unhide HN⟩
        case measure => simp [intOf]
      · have HNX : Hid (pay ([n0, n1, n2, n3, n4, n5, n6, n7].take (3 + 1)) = pay ([n0, n1, n2, n3, n4, n5, n6, n7].take 3) ++ putU (zz n3)) := pay_more [n0, n1, n2, n3, n4, n5, n6, n7] rfl
        have hin6 := unhide HOK n3 (by simp)
        obtain ⟨hrow, hbel⟩ := unhide hin
        have hle := pay_len ([n0, n1, n2, n3, n4, n5, n6, n7].take 3) (fun m hm => unhide HOK m (List.mem_of_mem_take hm))
        have hle2 : (pay ([n0, n1, n2, n3, n4, n5, n6, n7].take 3)).length ≤ 80 := Nat.le_trans hle (by simp)
        generalize pay ([n0, n1, n2, n3, n4, n5, n6, n7].take 3) = L at hrow HNX hle2
        have HRO := hide hrow
        have HBE := hide hbel
        clear hrow hbel hle hin
        have hix : ∀ W : World, Sem.run Try.prog (Instr.index 40 (.agg #[.int .i64 n0, .int .i64 n1, .int .i64 n2, .int .i64 n3, .int .i64 n4, .int .i64 n5, .int .i64 n6, .int .i64 n7]) (.int .i64 3)) W = .ok (.int .i64 n3) W := fun W => by kernel_rfl
        go_wp2_with fail
        clear hix
        refine (implPut_any n3 wr hin6.1 hin6.2).mono ?_
        rintro e w2 ⟨v2, rfl, ho2, hb2⟩
        have h10 := putU_len10 _ (zz_lt n3 hin6.1 hin6.2)
        obtain ⟨g, cp, rfl, hgl, hsrc⟩ := ownT_src ho2
        have HSRC := hide hsrc
        have HRW := hide (bRow_below (unhide HRO) hb2)
        have HSZ : Hid (X.heap.size ≤ w2.heap.size) := Nat.le_trans (unhide HBE).size hb2.size
        have HB2 := hide ((unhide HBE).trans (hb2.mono (unhide HBE).size))
        clear ho2 hb2 hsrc
        generalize putU (zz n3) = P at HNX h10 HSRC ⊢
        go_wp2_with (at_builtin; go_must (refine wpList_append_own _ rfl _ _ 24 rfl X.heap.size 5 i0 _ 1 1 Try.underlying24 hi0 hz0 hz1 hz2 rfl (by decide) (u3) _ _ rfl (unhide HRW) ⟨g, 0, none⟩ _ cp ((P).map (Value.int .u8)) rfl (by simp) (unhide HSRC) (one_b _) (by unfold maxLen; omega) (by omega) (unhide HSZ) ?_); intro v3 w3 hown hg _; have HOW := hide hown; have HGR := hide hg; clear hown hg)
        have HN : Hid (BRow w3 X.heap.size v3 (pay ([n0, n1, n2, n3, n4, n5, n6, n7].take (3 + 1))) ∧ Below X.heap.size X w3) := by
          rw [unhide HNX]
          exact ⟨bRow_more (unhide HOW), (unhide HB2).grown (unhide HGR) (unhide HB2).size (fun q hq => ((unhide HRW).lt q hq).1)⟩
        clear HOW HGR
        go_wp2_with fail
        go_roundw
        case rel => exact ⟨3 + 1, by omega, by go_num, unhide HN⟩
        case measure => simp [intOf]
      · have HNX : Hid (pay ([n0, n1, n2, n3, n4, n5, n6, n7].take (4 + 1)) = pay ([n0, n1, n2, n3, n4, n5, n6, n7].take 4) ++ putU (zz n4)) := pay_more [n0, n1, n2, n3, n4, n5, n6, n7] rfl
        have hin6 := unhide HOK n4 (by simp)
        obtain ⟨hrow, hbel⟩ := unhide hin
        have hle := pay_len ([n0, n1, n2, n3, n4, n5, n6, n7].take 4) (fun m hm => unhide HOK m (List.mem_of_mem_take hm))
        have hle2 : (pay ([n0, n1, n2, n3, n4, n5, n6, n7].take 4)).length ≤ 80 := Nat.le_trans hle (by simp)
        generalize pay ([n0, n1, n2, n3, n4, n5, n6, n7].take 4) = L at hrow HNX hle2
        have HRO := hide hrow
        have HBE := hide hbel
        clear hrow hbel hle hin
        have hix : ∀ W : World, Sem.run Try.prog (Instr.index 40 (.agg #[.int .i64 n0, .int .i64 n1, .int .i64 n2, .int .i64 n3, .int .i64 n4, .int .i64 n5, .int .i64 n6, .int .i64 n7]) (.int .i64 4)) W = .ok (.int .i64 n4) W := fun W => by kernel_rfl
        go_wp2_with fail
        clear hix
        refine (implPut_any n4 wr hin6.1 hin6.2).mono ?_
        rintro e w2 ⟨v2, rfl, ho2, hb2⟩
        have h10 := putU_len10 _ (zz_lt n4 hin6.1 hin6.2)
        obtain ⟨g, cp, rfl, hgl, hsrc⟩ := ownT_src ho2
        have HSRC := hide hsrc
        have HRW := hide (bRow_below (unhide HRO) hb2)
        have HSZ : Hid (X.heap.size ≤ w2.heap.size) := Nat.le_trans (unhide HBE).size hb2.size
        have HB2 := hide ((unhide HBE).trans (hb2.mono (unhide HBE).size))
        clear ho2 hb2 hsrc
        generalize putU (zz n4) = P at HNX h10 HSRC ⊢
        go_wp2_with (at_builtin; go_must (refine wpList_append_own _ rfl _ _ 24 rfl X.heap.size 5 i0 _ 1 1 Try.underlying24 hi0 hz0 hz1 hz2 rfl (by decide) (u3) _ _ rfl (unhide HRW) ⟨g, 0, none⟩ _ cp ((P).map (Value.int .u8)) rfl (by simp) (unhide HSRC) (one_b _) (by unfold maxLen; omega) (by omega) (unhide HSZ) ?_); intro v3 w3 hown hg _; have HOW := hide hown; have HGR := hide hg; clear hown hg)
        have HN : Hid (BRow w3 X.heap.size v3 (pay ([n0, n1, n2, n3, n4, n5, n6, n7].take (4 + 1))) ∧ Below X.heap.size X w3) := by
          rw [unhide HNX]
          exact ⟨bRow_more (unhide HOW), (unhide HB2).grown (unhide HGR) (unhide HB2).size (fun q hq => ((unhide HRW).lt q hq).1)⟩
        clear HOW HGR
        go_wp2_with fail
        go_roundw
        case rel => exact ⟨4 + 1, by omega, by go_num, unhide HN⟩
        case measure => simp [intOf]
      · have HNX : Hid (pay ([n0, n1, n2, n3, n4, n5, n6, n7].take (5 + 1)) = pay ([n0, n1, n2, n3, n4, n5, n6, n7].take 5) ++ putU (zz n5)) := pay_more [n0, n1, n2, n3, n4, n5, n6, n7] rfl
        have hin6 := unhide HOK n5 (by simp)
        obtain ⟨hrow, hbel⟩ := unhide hin
        have hle := pay_len ([n0, n1, n2, n3, n4, n5, n6, n7].take 5) (fun m hm => unhide HOK m (List.mem_of_mem_take hm))
        have hle2 : (pay ([n0, n1, n2, n3, n4, n5, n6, n7].take 5)).length ≤ 80 := Nat.le_trans hle (by simp)
        generalize pay ([n0, n1, n2, n3, n4, n5, n6, n7].take 5) = L at hrow HNX hle2
        have HRO := hide hrow
        have HBE := hide hbel
        clear hrow hbel hle hin
        have hix : ∀ W : World, Sem.run Try.prog (Instr.index 40 (.agg #[.int .i64 n0, .int .i64 n1, .int .i64 n2, .int .i64 n3, .int .i64 n4, .int .i64 n5, .int .i64 n6, .int .i64 n7]) (.int .i64 5)) W = .ok (.int .i64 n5) W := fun W => by kernel_rfl
        go_wp2_with fail
        clear hix
        refine (implPut_any n5 wr hin6.1 hin6.2).mono ?_
        rintro e w2 ⟨v2, rfl, ho2, hb2⟩
        have h10 := putU_len10 _ (zz_lt n5 hin6.1 hin6.2)
        obtain ⟨g, cp, rfl, hgl, hsrc⟩ := ownT_src ho2
        have HSRC := hide hsrc
        have HRW := hide (bRow_below (unhide HRO) hb2)
        have HSZ : Hid (X.heap.size ≤ w2.heap.size) := Nat.le_trans (unhide HBE).size hb2.size
        have HB2 := hide ((unhide HBE).trans (hb2.mono (unhide HBE).size))
        clear ho2 hb2 hsrc
        generalize putU (zz n5) = P at HNX h10 HSRC ⊢
        go_wp2_with (at_builtin; go_must (refine wpList_append_own _ rfl _ _ 24 rfl X.heap.size 5 i0 _ 1 1 Try.underlying24 hi0 hz0 hz1 hz2 rfl (by decide) (u3) _ _ rfl (unhide HRW) ⟨g, 0, none⟩ _ cp ((P).map (Value.int .u8)) rfl (by simp) (unhide HSRC) (one_b _) (by unfold maxLen; omega) (by omega) (unhide HSZ) ?_); intro v3 w3 hown hg _; have HOW := hide hown; have HGR := hide hg; clear hown hg)
        have HN : Hid (BRow w3 X.heap.size v3 (pay ([n0, n1, n2, n3, n4, n5, n6, n7].take (5 + 1))) ∧ Below X.heap.size X w3) := by
          rw [unhide HNX]
          exact ⟨bRow_more (unhide HOW), (unhide HB2).grown (unhide HGR) (unhide HB2).size (fun q hq => ((unhide HRW).lt q hq).1)⟩
        clear HOW HGR
        go_wp2_with fail
        go_roundw
        case rel => exact ⟨5 + 1, by omega, by go_num, unhide HN⟩
        case measure => simp [intOf]
      · have HNX : Hid (pay ([n0, n1, n2, n3, n4, n5, n6, n7].take (6 + 1)) = pay ([n0, n1, n2, n3, n4, n5, n6, n7].take 6) ++ putU (zz n6)) := pay_more [n0, n1, n2, n3, n4, n5, n6, n7] rfl
        have hin6 := unhide HOK n6 (by simp)
        obtain ⟨hrow, hbel⟩ := unhide hin
        have hle := pay_len ([n0, n1, n2, n3, n4, n5, n6, n7].take 6) (fun m hm => unhide HOK m (List.mem_of_mem_take hm))
        have hle2 : (pay ([n0, n1, n2, n3, n4, n5, n6, n7].take 6)).length ≤ 80 := Nat.le_trans hle (by simp)
        generalize pay ([n0, n1, n2, n3, n4, n5, n6, n7].take 6) = L at hrow HNX hle2
        have HRO := hide hrow
        have HBE := hide hbel
        clear hrow hbel hle hin
        have hix : ∀ W : World, Sem.run Try.prog (Instr.index 40 (.agg #[.int .i64 n0, .int .i64 n1, .int .i64 n2, .int .i64 n3, .int .i64 n4, .int .i64 n5, .int .i64 n6, .int .i64 n7]) (.int .i64 6)) W = .ok (.int .i64 n6) W := fun W => by kernel_rfl
        go_wp2_with fail
        clear hix
        refine (implPut_any n6 wr hin6.1 hin6.2).mono ?_
        rintro e w2 ⟨v2, rfl, ho2, hb2⟩
        have h10 := putU_len10 _ (zz_lt n6 hin6.1 hin6.2)
        obtain ⟨g, cp, rfl, hgl, hsrc⟩ := ownT_src ho2
        have HSRC := hide hsrc
        have HRW := hide (bRow_below (unhide HRO) hb2)
        have HSZ : Hid (X.heap.size ≤ w2.heap.size) := Nat.le_trans (unhide HBE).size hb2.size
        have HB2 := hide ((unhide HBE).trans (hb2.mono (unhide HBE).size))
        clear ho2 hb2 hsrc
        generalize putU (zz n6) = P at HNX h10 HSRC ⊢
        go_wp2_with (at_builtin; go_must (refine wpList_append_own _ rfl _ _ 24 rfl X.heap.size 5 i0 _ 1 1 Try.underlying24 hi0 hz0 hz1 hz2 rfl (by decide) (u3) _ _ rfl (unhide HRW) ⟨g, 0, none⟩ _ cp ((P).map (Value.int .u8)) rfl (by simp) (unhide HSRC) (one_b _) (by unfold maxLen; omega) (by omega) (unhide HSZ) ?_); intro v3 w3 hown hg _; have HOW := hide hown; have HGR := hide hg; clear hown hg)
        have HN : Hid (BRow w3 X.heap.size v3 (pay ([n0, n1, n2, n3, n4, n5, n6, n7].take (6 + 1))) ∧ Below X.heap.size X w3) := by
          rw [unhide HNX]
          exact ⟨bRow_more (unhide HOW), (unhide HB2).grown (unhide HGR) (unhide HB2).size (fun q hq => ((unhide HRW).lt q hq).1)⟩
        clear HOW HGR
        go_wp2_with fail
        go_roundw
        case rel => exact ⟨6 + 1, by omega, by go_num, unhide HN⟩
        case measure => simp [intOf]
      · have HNX : Hid (pay ([n0, n1, n2, n3, n4, n5, n6, n7].take (7 + 1)) = pay ([n0, n1, n2, n3, n4, n5, n6, n7].take 7) ++ putU (zz n7)) := pay_more [n0, n1, n2, n3, n4, n5, n6, n7] rfl
        have hin6 := unhide HOK n7 (by simp)
        obtain ⟨hrow, hbel⟩ := unhide hin
        have hle := pay_len ([n0, n1, n2, n3, n4, n5, n6, n7].take 7) (fun m hm => unhide HOK m (List.mem_of_mem_take hm))
        have hle2 : (pay ([n0, n1, n2, n3, n4, n5, n6, n7].take 7)).length ≤ 80 := Nat.le_trans hle (by simp)
        generalize pay ([n0, n1, n2, n3, n4, n5, n6, n7].take 7) = L at hrow HNX hle2
        have HRO := hide hrow
        have HBE := hide hbel
        clear hrow hbel hle hin
        have hix : ∀ W : World, Sem.run Try.prog (Instr.index 40 (.agg #[.int .i64 n0, .int .i64 n1, .int .i64 n2, .int .i64 n3, .int .i64 n4, .int .i64 n5, .int .i64 n6, .int .i64 n7]) (.int .i64 7)) W = .ok (.int .i64 n7) W := fun W => by kernel_rfl
        go_wp2_with fail
        clear hix
        refine (implPut_any n7 wr hin6.1 hin6.2).mono ?_
        rintro e w2 ⟨v2, rfl, ho2, hb2⟩
        have h10 := putU_len10 _ (zz_lt n7 hin6.1 hin6.2)
        obtain ⟨g, cp, rfl, hgl, hsrc⟩ := ownT_src ho2
        have HSRC := hide hsrc
        have HRW := hide (bRow_below (unhide HRO) hb2)
        have HSZ : Hid (X.heap.size ≤ w2.heap.size) := Nat.le_trans (unhide HBE).size hb2.size
        have HB2 := hide ((unhide HBE).trans (hb2.mono (unhide HBE).size))
        clear ho2 hb2 hsrc
        generalize putU (zz n7) = P at HNX h10 HSRC ⊢
        go_wp2_with (at_builtin; go_must (refine wpList_append_own _ rfl _ _ 24 rfl X.heap.size 5 i0 _ 1 1 Try.underlying24 hi0 hz0 hz1 hz2 rfl (by decide) (u3) _ _ rfl (unhide HRW) ⟨g, 0, none⟩ _ cp ((P).map (Value.int .u8)) rfl (by simp) (unhide HSRC) (one_b _) (by unfold maxLen; omega) (by omega) (unhide HSZ) ?_); intro v3 w3 hown hg _; have HOW := hide hown; have HGR := hide hg; clear hown hg)
        have HN : Hid (BRow w3 X.heap.size v3 (pay ([n0, n1, n2, n3, n4, n5, n6, n7].take (7 + 1))) ∧ Below X.heap.size X w3) := by
          rw [unhide HNX]
          exact ⟨bRow_more (unhide HOW), (unhide HB2).grown (unhide HGR) (unhide HB2).size (fun q hq => ((unhide HRW).lt q hq).1)⟩
        clear HOW HGR
        go_wp2_with fail
        go_roundw
        case rel => exact ⟨7 + 1, by omega, by go_num, unhide HN⟩
        case measure => simp [intOf]
    · obtain rfl : k = 8 := by omega
      have HIN : Hid (BRow wr X.heap.size u3 (pay [n0, n1, n2, n3, n4, n5, n6, n7]) ∧ Below X.heap.size X wr) := unhide hin
      clear hin
      go_wp2_with fail
      refine unhide HK1 _ _ ?_
      clear HK1
      go_wp2_with fail
      go_ret
      exact ⟨_, rfl, bRow_base (unhide HIN).1 (unhide HB1).size, (unhide HB1).trans ((unhide HIN).2.mono (unhide HB1).size)⟩
end Go.Proofs.Ytelnpobhmjdaoaa
