/-
  The bytes of an event, by the model, where a command was taken on: proved by walking the function.
-/
import Derived.Test.YtmeekcdoajbjdaaGreatDoorGj30
namespace Go.Proofs.YtmeekcdoajbjdaaGreatDoor
open Go.RowKit
set_option linter.unusedVariables false

set_option maxRecDepth 100000 in
set_option maxHeartbeats 6400000 in
theorem enc1_any (e : Ev) (w : World) (he : e.fit) (hk : e.kind = 1) : Calls Tryz.prog 26 #[evV e] w fun r w' => ∃ v, r = .returned v ∧ OwnT w.heap.size w' v (evL e) ∧ Below w.heap.size w w' := by
  have hsf := sfl
  obtain ⟨i0, hi0, hz0, hz1, hz2⟩ := info_parts Tryz.infoByte
  have HEN := hide (enc_eq e (by omega))
  have HLL := hide (evL_len e he)
  have HNM := hide (fun W => numbers_any e W)
  have hnn : ∀ i, -9223372036854775808 ≤ (numsE e).getD i 0 ∧ (numsE e).getD i 0 ≤ 9223372036854775807 := nums_bd e he
  have hn5 : (numsE e).length = 5 := rfl
  have n1 := he.n 1
  have n2 := he.n 2
  have n3 := he.n 3
  have n4 := he.n 4
  have n5 := he.n 5
  have n6 := he.n 6
  have hg := he.g
  generalize numsE e = ns at *
  clear he
  generalize evL e = EL at *
  obtain ⟨kind, ⟨ck, cs, ct, cl, cq, ci, cp, cg⟩, id, other, qty, price, reason⟩ := e
  simp only at hk
  subst hk
  unfold Ev.num at n1 n2 n3 n4 n5 n6
  unfold cmL at HEN
  unfold evV at HNM ⊢
  simp only at n1 n2 n3 n4 n5 n6 hg HNM HEN ⊢
  have hf5 : (fldK 1).length = 5 := (fldK_len2 1).resolve_left (fldK_ne2 1 (by omega))
  have h1 := bx_made w [.int .i64 1, .int .i64 ck, .int .i64 cs, .int .i64 ct, .int .i64 cl, .int .i64 cq, .int .i64 ci, .float .f64 cp, .string cg, .int .i64 id, .int .i64 other, .int .i64 qty, .int .i64 price, .int .i64 reason] 46
  have s1 : (w.alloc (Obj.cells #[.int .i64 1, .int .i64 ck, .int .i64 cs, .int .i64 ct, .int .i64 cl, .int .i64 cq, .int .i64 ci, .float .f64 cp, .string cg, .int .i64 id, .int .i64 other, .int .i64 qty, .int .i64 price, .int .i64 reason] 46)).heap.size = w.heap.size + 1 := by simp
  have s2 : ((w.alloc (Obj.cells #[.int .i64 1, .int .i64 ck, .int .i64 cs, .int .i64 ct, .int .i64 cl, .int .i64 cq, .int .i64 ci, .float .f64 cp, .string cg, .int .i64 id, .int .i64 other, .int .i64 qty, .int .i64 price, .int .i64 reason] 46)).alloc (Obj.cells #[.int .u8 1] 5)).heap.size = w.heap.size + 2 := by simp
  have b2 : Below (w.heap.size + 1) (w.alloc (Obj.cells #[.int .i64 1, .int .i64 ck, .int .i64 cs, .int .i64 ct, .int .i64 cl, .int .i64 cq, .int .i64 ci, .float .f64 cp, .string cg, .int .i64 id, .int .i64 other, .int .i64 qty, .int .i64 price, .int .i64 reason] 46)) ((w.alloc (Obj.cells #[.int .i64 1, .int .i64 ck, .int .i64 cs, .int .i64 ct, .int .i64 cl, .int .i64 cq, .int .i64 ci, .float .f64 cp, .string cg, .int .i64 id, .int .i64 other, .int .i64 qty, .int .i64 price, .int .i64 reason] 46)).alloc (Obj.cells #[.int .u8 1] 5)) := (Below.refl _ _).alloc (by omega) _
  have b3 : Below (w.heap.size + 2) ((w.alloc (Obj.cells #[.int .i64 1, .int .i64 ck, .int .i64 cs, .int .i64 ct, .int .i64 cl, .int .i64 cq, .int .i64 ci, .float .f64 cp, .string cg, .int .i64 id, .int .i64 other, .int .i64 qty, .int .i64 price, .int .i64 reason] 46)).alloc (Obj.cells #[.int .u8 1] 5)) (((w.alloc (Obj.cells #[.int .i64 1, .int .i64 ck, .int .i64 cs, .int .i64 ct, .int .i64 cl, .int .i64 cq, .int .i64 ci, .float .f64 cp, .string cg, .int .i64 id, .int .i64 other, .int .i64 qty, .int .i64 price, .int .i64 reason] 46)).alloc (Obj.cells #[.int .u8 1] 5)).alloc (Obj.cells #[.int .i64 ck, .int .i64 cs, .int .i64 ct, .int .i64 cl, .int .i64 cq, .int .i64 ci, .float .f64 cp, .string cg] 44)) := (Below.refl _ _).alloc (by omega) _
  have hr2 : BRow ((w.alloc (Obj.cells #[.int .i64 1, .int .i64 ck, .int .i64 cs, .int .i64 ct, .int .i64 cl, .int .i64 cq, .int .i64 ci, .float .f64 cp, .string cg, .int .i64 id, .int .i64 other, .int .i64 qty, .int .i64 price, .int .i64 reason] 46)).alloc (Obj.cells #[.int .u8 1] 5)) w.heap.size (.slice (some ⟨w.heap.size + 1, 0, none⟩) 1 1) [1] := by
    have h : BRow ((w.alloc (Obj.cells #[.int .i64 1, .int .i64 ck, .int .i64 cs, .int .i64 ct, .int .i64 cl, .int .i64 cq, .int .i64 ci, .float .f64 cp, .string cg, .int .i64 id, .int .i64 other, .int .i64 qty, .int .i64 price, .int .i64 reason] 46)).alloc (Obj.cells #[.int .u8 1] 5)) w.heap.size (.slice (some ⟨(w.alloc (Obj.cells #[.int .i64 1, .int .i64 ck, .int .i64 cs, .int .i64 ct, .int .i64 cl, .int .i64 cq, .int .i64 ci, .float .f64 cp, .string cg, .int .i64 id, .int .i64 other, .int .i64 qty, .int .i64 price, .int .i64 reason] 46)).heap.size, 0, none⟩) 1 1) [1] := ⟨rfl, .inr ⟨(w.alloc (Obj.cells #[.int .i64 1, .int .i64 ck, .int .i64 cs, .int .i64 ct, .int .i64 cl, .int .i64 cq, .int .i64 ci, .float .f64 cp, .string cg, .int .i64 id, .int .i64 other, .int .i64 qty, .int .i64 price, .int .i64 reason] 46)).heap.size, 1, _, rfl, by omega, heap_alloc_new (w.alloc (Obj.cells #[.int .i64 1, .int .i64 ck, .int .i64 cs, .int .i64 ct, .int .i64 cl, .int .i64 cq, .int .i64 ci, .float .f64 cp, .string cg, .int .i64 id, .int .i64 other, .int .i64 qty, .int .i64 price, .int .i64 reason] 46)) _, Nat.le_refl _, by decide, rfl, rfl⟩⟩
    rwa [s1] at h
  have hc3 : Bx (((w.alloc (Obj.cells #[.int .i64 1, .int .i64 ck, .int .i64 cs, .int .i64 ct, .int .i64 cl, .int .i64 cq, .int .i64 ci, .float .f64 cp, .string cg, .int .i64 id, .int .i64 other, .int .i64 qty, .int .i64 price, .int .i64 reason] 46)).alloc (Obj.cells #[.int .u8 1] 5)).alloc (Obj.cells #[.int .i64 ck, .int .i64 cs, .int .i64 ct, .int .i64 cl, .int .i64 cq, .int .i64 ci, .float .f64 cp, .string cg] 44)) (w.heap.size + 2) [.int .i64 ck, .int .i64 cs, .int .i64 ct, .int .i64 cl, .int .i64 cq, .int .i64 ci, .float .f64 cp, .string cg] := by
    have h := bx_made ((w.alloc (Obj.cells #[.int .i64 1, .int .i64 ck, .int .i64 cs, .int .i64 ct, .int .i64 cl, .int .i64 cq, .int .i64 ci, .float .f64 cp, .string cg, .int .i64 id, .int .i64 other, .int .i64 qty, .int .i64 price, .int .i64 reason] 46)).alloc (Obj.cells #[.int .u8 1] 5)) [.int .i64 ck, .int .i64 cs, .int .i64 ct, .int .i64 cl, .int .i64 cq, .int .i64 ci, .float .f64 cp, .string cg] 44
    rw [s2] at h
    exact h
  have hb3 : Below w.heap.size w (((w.alloc (Obj.cells #[.int .i64 1, .int .i64 ck, .int .i64 cs, .int .i64 ct, .int .i64 cl, .int .i64 cq, .int .i64 ci, .float .f64 cp, .string cg, .int .i64 id, .int .i64 other, .int .i64 qty, .int .i64 price, .int .i64 reason] 46)).alloc (Obj.cells #[.int .u8 1] 5)).alloc (Obj.cells #[.int .i64 ck, .int .i64 cs, .int .i64 ct, .int .i64 cl, .int .i64 cq, .int .i64 ci, .float .f64 cp, .string cg] 44)) := (((Below.refl _ w).alloc (Nat.le_refl _) _).trans (b2.mono (by omega))).trans (b3.mono (by omega))
  have HS : Hid (ES w [.int .i64 1, .int .i64 ck, .int .i64 cs, .int .i64 ct, .int .i64 cl, .int .i64 cq, .int .i64 ci, .float .f64 cp, .string cg, .int .i64 id, .int .i64 other, .int .i64 qty, .int .i64 price, .int .i64 reason] [.int .i64 ck, .int .i64 cs, .int .i64 ct, .int .i64 cl, .int .i64 cq, .int .i64 ci, .float .f64 cp, .string cg] (.slice (some ⟨w.heap.size + 1, 0, none⟩) 1 1) [1] (((w.alloc (Obj.cells #[.int .i64 1, .int .i64 ck, .int .i64 cs, .int .i64 ct, .int .i64 cl, .int .i64 cq, .int .i64 ci, .float .f64 cp, .string cg, .int .i64 id, .int .i64 other, .int .i64 qty, .int .i64 price, .int .i64 reason] 46)).alloc (Obj.cells #[.int .u8 1] 5)).alloc (Obj.cells #[.int .i64 ck, .int .i64 cs, .int .i64 ct, .int .i64 cl, .int .i64 cq, .int .i64 ci, .float .f64 cp, .string cg] 44))) :=
    ⟨bRow_below hr2 (by rw [s2]; exact b3), fun q hq => by simp [Value.ownBlock] at hq; omega, bx_below (bx_below h1 b2 (by omega)) b3 (by omega), hc3, hb3, by simp⟩
  have x0 := bx_cell (bx_below (bx_below h1 b2 (by omega)) b3 (by omega)) 0 rfl
  clear h1 s1 s2 b2 b3 hr2 hc3 hb3
  skip
  go_enter Tryz.func26, Tryz.ntmps26
  refine wp_seq_k fun K hK => ?_
  have HK1 := hide hK
  clear hK
  go_wp2_with fail
  refine unhide HK1 _ _ ?_
  clear HK1
  refine wp_seq_k fun K hK => ?_
  have HK1 := hide hK
  clear hK
  go_wp2_with fail
  refine unhide HK1 _ _ ?_
  clear HK1
  refine wp_seq_k fun K hK => ?_
  have HK1 := hide hK
  clear hK
  go_wp2_with fail
  refine unhide HK1 _ _ ?_
  clear HK1
  generalize (((w.alloc (Obj.cells #[.int .i64 1, .int .i64 ck, .int .i64 cs, .int .i64 ct, .int .i64 cl, .int .i64 cq, .int .i64 ci, .float .f64 cp, .string cg, .int .i64 id, .int .i64 other, .int .i64 qty, .int .i64 price, .int .i64 reason] 46)).alloc (Obj.cells #[.int .u8 1] 5)).alloc (Obj.cells #[.int .i64 ck, .int .i64 cs, .int .i64 ct, .int .i64 cl, .int .i64 cq, .int .i64 ci, .float .f64 cp, .string cg] 44)) = W0 at HS x0 ⊢
  have y2 := bx_cell (unhide HS).c 1 rfl
  go_wp2_with fail
  refine (l01Put_any cs _ n2.1 n2.2).mono ?_
  rintro r W2 ⟨v2, rfl, ho2, hb2⟩
  have HS2 := hide ((unhide HS).below hb2)
  have HOT := hide ho2
  have hpl : (putU (zz cs)).length ≤ 23 := Nat.le_trans (putU_len10 _ (zz_lt _ n2.1 n2.2)) (by omega)
  have hll : ([1]).length ≤ 1000 := by simp only [List.length_cons, List.length_nil]; omega
  clear hb2 ho2 y2 x0 HS
  go_wp2_with (at_builtin; go_must (refine wpList_append_ot _ rfl _ _ 24 rfl w.heap.size i0 Tryz.underlying24 hi0 hz0 hz1 hz2 _ _ rfl (unhide HS2).r _ _ _ rfl (unhide HOT) (by omega) (unhide HS2).b.size ?_); intro ov W3 hr3 hg3 ha3; have HS := hide ((unhide HS2).app hr3 hg3 ha3); clear hr3 hg3 ha3; have x0 := bx_cell (unhide HS).e 0 rfl; have y3 := bx_cell (unhide HS).c 2 rfl)
  clear HS2 HOT
  refine (l01Put_any ct _ n3.1 n3.2).mono ?_
  rintro r W2 ⟨v2, rfl, ho2, hb2⟩
  have HS2 := hide ((unhide HS).below hb2)
  have HOT := hide ho2
  have hpl : (putU (zz ct)).length ≤ 23 := Nat.le_trans (putU_len10 _ (zz_lt _ n3.1 n3.2)) (by omega)
  have hll : ([1] ++ putU (zz cs)).length ≤ 1000 := by simp only [List.length_append, List.length_cons, List.length_nil]; omega
  clear hb2 ho2 y3 x0 HS
  go_wp2_with (at_builtin; go_must (refine wpList_append_ot _ rfl _ _ 24 rfl w.heap.size i0 Tryz.underlying24 hi0 hz0 hz1 hz2 _ _ rfl (unhide HS2).r _ _ _ rfl (unhide HOT) (by omega) (unhide HS2).b.size ?_); intro ov W3 hr3 hg3 ha3; have HS := hide ((unhide HS2).app hr3 hg3 ha3); clear hr3 hg3 ha3; have x0 := bx_cell (unhide HS).e 0 rfl; have y4 := bx_cell (unhide HS).c 3 rfl)
  clear HS2 HOT
  refine (l01Put_any cl _ n4.1 n4.2).mono ?_
  rintro r W2 ⟨v2, rfl, ho2, hb2⟩
  have HS2 := hide ((unhide HS).below hb2)
  have HOT := hide ho2
  have hpl : (putU (zz cl)).length ≤ 23 := Nat.le_trans (putU_len10 _ (zz_lt _ n4.1 n4.2)) (by omega)
  have hll : ([1] ++ putU (zz cs) ++ putU (zz ct)).length ≤ 1000 := by simp only [List.length_append, List.length_cons, List.length_nil]; omega
  clear hb2 ho2 y4 x0 HS
  go_wp2_with (at_builtin; go_must (refine wpList_append_ot _ rfl _ _ 24 rfl w.heap.size i0 Tryz.underlying24 hi0 hz0 hz1 hz2 _ _ rfl (unhide HS2).r _ _ _ rfl (unhide HOT) (by omega) (unhide HS2).b.size ?_); intro ov W3 hr3 hg3 ha3; have HS := hide ((unhide HS2).app hr3 hg3 ha3); clear hr3 hg3 ha3; have x0 := bx_cell (unhide HS).e 0 rfl; have y5 := bx_cell (unhide HS).c 4 rfl)
  clear HS2 HOT
  refine (l01Put_any cq _ n5.1 n5.2).mono ?_
  rintro r W2 ⟨v2, rfl, ho2, hb2⟩
  have HS2 := hide ((unhide HS).below hb2)
  have HOT := hide ho2
  have hpl : (putU (zz cq)).length ≤ 23 := Nat.le_trans (putU_len10 _ (zz_lt _ n5.1 n5.2)) (by omega)
  have hll : ([1] ++ putU (zz cs) ++ putU (zz ct) ++ putU (zz cl)).length ≤ 1000 := by simp only [List.length_append, List.length_cons, List.length_nil]; omega
  clear hb2 ho2 y5 x0 HS
  go_wp2_with (at_builtin; go_must (refine wpList_append_ot _ rfl _ _ 24 rfl w.heap.size i0 Tryz.underlying24 hi0 hz0 hz1 hz2 _ _ rfl (unhide HS2).r _ _ _ rfl (unhide HOT) (by omega) (unhide HS2).b.size ?_); intro ov W3 hr3 hg3 ha3; have HS := hide ((unhide HS2).app hr3 hg3 ha3); clear hr3 hg3 ha3; have x0 := bx_cell (unhide HS).e 0 rfl; have y7 := bx_cell (unhide HS).c 6 rfl)
  clear HS2 HOT
  refine (l01Float_any cp _).mono ?_
  rintro r W2 ⟨v2, rfl, ho2, hb2⟩
  have HS2 := hide ((unhide HS).below hb2)
  have HOT := hide ho2
  have hpl : (fl8 (fbit cp)).length ≤ 23 := by rw [fl8_len]; omega
  have hll : ([1] ++ putU (zz cs) ++ putU (zz ct) ++ putU (zz cl) ++ putU (zz cq)).length ≤ 1000 := by simp only [List.length_append, List.length_cons, List.length_nil]; omega
  clear hb2 ho2 y7 x0 HS
  go_wp2_with (at_builtin; go_must (refine wpList_append_ot _ rfl _ _ 24 rfl w.heap.size i0 Tryz.underlying24 hi0 hz0 hz1 hz2 _ _ rfl (unhide HS2).r _ _ _ rfl (unhide HOT) (by omega) (unhide HS2).b.size ?_); intro ov W3 hr3 hg3 ha3; have HS := hide ((unhide HS2).app hr3 hg3 ha3); clear hr3 hg3 ha3; have x0 := bx_cell (unhide HS).e 0 rfl; have y8 := bx_cell (unhide HS).c 7 rfl)
  clear HS2 HOT
  refine (l01Text_any cg _ hg).mono ?_
  rintro r W2 ⟨v2, rfl, ho2, hb2⟩
  have HS2 := hide ((unhide HS).below hb2)
  have HOT := hide ho2
  have hpl := textL_le cg
  have hll : ([1] ++ putU (zz cs) ++ putU (zz ct) ++ putU (zz cl) ++ putU (zz cq) ++ fl8 (fbit cp)).length ≤ 1000 := by simp only [List.length_append, List.length_cons, List.length_nil, fl8_len]; omega
  clear hb2 ho2 y8 x0 HS
  go_wp2_with (at_builtin; go_must (refine wpList_append_ot _ rfl _ _ 24 rfl w.heap.size i0 Tryz.underlying24 hi0 hz0 hz1 hz2 _ _ rfl (unhide HS2).r _ _ _ rfl (unhide HOT) (by omega) (unhide HS2).b.size ?_); intro ov W3 hr3 hg3 ha3; have HS := hide ((unhide HS2).app hr3 hg3 ha3); clear hr3 hg3 ha3; have x0 := bx_cell (unhide HS).e 0 rfl)
  clear HS2 HOT
  have HLE : Hid (([1] ++ putU (zz cs) ++ putU (zz ct) ++ putU (zz cl) ++ putU (zz cq) ++ fl8 (fbit cp) ++ textL cg) ++ lpB (fldK 1) ns 5 = EL) := by
    show ([1] ++ putU (zz cs) ++ putU (zz ct) ++ putU (zz cl) ++ putU (zz cq) ++ fl8 (fbit cp) ++ textL cg) ++ lpB (fldK 1) ns 5 = EL
    rw [← unhide HEN]
    simp [wrF, Ev.num]
  have hLL : ([1] ++ putU (zz cs) ++ putU (zz ct) ++ putU (zz cl) ++ putU (zz cq) ++ fl8 (fbit cp) ++ textL cg).length ≤ 900 := by simp only [List.length_append, List.length_cons, List.length_nil, fl8_len]; omega
  generalize [1] ++ putU (zz cs) ++ putU (zz ct) ++ putU (zz cl) ++ putU (zz cq) ++ fl8 (fbit cp) ++ textL cg = LC at *
  clear HEN
  refine (fields_any 1 _).mono ?_
  rintro r W4 ⟨F, rfl, hF0, hF, hb4⟩
  rw [hf5]
  have hS4 := (unhide HS).below hb4
  have HQ4 := hide (fun q hq => Nat.lt_of_lt_of_le ((unhide HS).r.lt q hq).2 hF0)
  have hFl := bx_lt2 hF (by rw [List.length_map, hf5]; decide)
  have x0 := bx_cell hS4.e 0 rfl
  have x1 := bx_cell hS4.e 1 rfl
  have x2 := bx_cell hS4.e 2 rfl
  have x3 := bx_cell hS4.e 3 rfl
  have x4 := bx_cell hS4.e 4 rfl
  have x5 := bx_cell hS4.e 5 rfl
  have x6 := bx_cell hS4.e 6 rfl
  have x7 := bx_cell hS4.e 7 rfl
  have x8 := bx_cell hS4.e 8 rfl
  have x9 := bx_cell hS4.e 9 rfl
  have x10 := bx_cell hS4.e 10 rfl
  have x11 := bx_cell hS4.e 11 rfl
  have x12 := bx_cell hS4.e 12 rfl
  have x13 := bx_cell hS4.e 13 rfl
  have HS4 := hide hS4
  have HF4 := hide hF
  clear HS hb4 hS4 hF
  go_wp2_with fail
  refine (unhide HNM _).mono ?_
  rintro r W5 ⟨G, rfl, hG0, hG, hb5⟩
  have hGl := bx_lt2 hG (by rw [List.length_map, hn5]; decide)
  have HS5 := hide (es2_mk ((unhide HS4).below hb5) (bx_below (unhide HF4) hb5 hFl) hG (fun q hq => ⟨Nat.ne_of_lt (unhide HQ4 q hq), Nat.ne_of_lt (Nat.lt_of_lt_of_le (Nat.lt_trans (unhide HQ4 q hq) hFl) hG0)⟩) (Nat.lt_of_lt_of_le hFl hb5.size) hGl)
  clear hb5 hG HS4 HF4 HQ4 HNM x0 x1 x2 x3 x4 x5 x6 x7 x8 x9 x10 x11 x12 x13
  go_wp2_with fail
  go_loopw [3, 7] (fun ov iv wr => ∃ i : Nat, i ≤ 5 ∧ iv = .int .i64 i ∧ Hid (ES2 w [.int .i64 1, .int .i64 ck, .int .i64 cs, .int .i64 ct, .int .i64 cl, .int .i64 cq, .int .i64 ci, .float .f64 cp, .string cg, .int .i64 id, .int .i64 other, .int .i64 qty, .int .i64 price, .int .i64 reason] [.int .i64 ck, .int .i64 cs, .int .i64 ct, .int .i64 cl, .int .i64 cq, .int .i64 ci, .float .f64 cp, .string cg] F G (fldK 1) ns ov (LC ++ lpB (fldK 1) ns i) wr)) (fun _ iv _ => 5 - (intOf iv).toNat)
  case atStart => exact ⟨0, by omega, rfl, by rw [show lpB (fldK 1) ns 0 = [] from rfl, List.append_nil]; exact unhide HS5⟩
  case round =>
    obtain ⟨i, hi, rfl, hin⟩ := hrel
    by_cases hlt : i < 5
    · have hin' := unhide hin
      have hff : wr.cell? ⟨F, i, none⟩ = some (.bool ((fldK 1).getD i false)) := bx_cell hin'.f i (by rw [List.getElem?_map, List.getElem?_eq_getElem (by omega)]; simp [List.getD, show i < (fldK 1).length by omega])
      have hgg : wr.cell? ⟨G, i, none⟩ = some (.int .i64 (ns.getD i 0)) := bx_cell hin'.g i (by rw [List.getElem?_map, List.getElem?_eq_getElem (by omega)]; simp [List.getD, show i < ns.length by omega])
      have hlt' : (i : Int) < 5 := by omega
      have HYes := hide (fun h => lpB_yes (fs := fldK 1) (ns := ns) (i := i) h)
      have HNo := hide (fun h => lpB_no (fs := fldK 1) (ns := ns) (i := i) h)
      have hbl := lpB_len (fldK 1) ns hnn i
      have hni := hnn i
      generalize lpB (fldK 1) ns i = LB at *
      generalize ns.getD i 0 = n at *
      have HI := hide hin'
      clear hin hin'
      cases hfv : (fldK 1).getD i false with
      | true =>
        rw [hfv] at hff
        have HY := hide (unhide HYes hfv)
        clear hfv HYes HNo
        go_wp2_with fail
        refine (l01Put_any n wr hni.1 hni.2).mono ?_
        rintro r W6 ⟨v6, rfl, ho6, hb6⟩
        have HI6 := hide ((unhide HI).below hb6)
        have HOT := hide ho6
        have hpl := putU_len10 (zz n) (zz_lt n hni.1 hni.2)
        have hll : (LC ++ LB).length ≤ 1000 := by rw [List.length_append]; omega
        clear hb6 ho6 HI
        go_wp2_with (at_builtin; go_must (refine wpList_append_ot _ rfl _ _ 24 rfl w.heap.size i0 Tryz.underlying24 hi0 hz0 hz1 hz2 _ _ rfl (unhide HI6).s.r _ _ _ rfl (unhide HOT) (by omega) (unhide HI6).s.b.size ?_); intro ov W7 hr7 hg7 ha7; have HI7 := hide ((unhide HI6).app hr7 hg7 ha7); clear hr7 hg7 ha7)
        go_roundw
        case rel => exact ⟨i + 1, by omega, by go_num, by rw [unhide HY, ← List.append_assoc]; exact unhide HI7⟩
        case measure => simp [intOf]; omega
      | false =>
        rw [hfv] at hff
        have HY := hide (unhide HNo hfv)
        clear hfv HYes HNo
        go_wp2_with fail
        go_roundw
        case rel => exact ⟨i + 1, by omega, by go_num, by rw [unhide HY]; exact unhide HI⟩
        case measure => simp [intOf]; omega
    · obtain rfl : i = 5 := by omega
      have h := unhide hin
      rw [unhide HLE] at h
      have HR := hide (bRow_own h.s.r (unhide HLL).1 (by have := (unhide HLL).2; omega))
      have HB := hide h.s.b
      clear h hin
      go_wp2_with fail
      go_ret
      exact ⟨_, rfl, unhide HR, unhide HB⟩
end Go.Proofs.YtmeekcdoajbjdaaGreatDoor
