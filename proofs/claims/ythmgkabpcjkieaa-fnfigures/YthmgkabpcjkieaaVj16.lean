/-
  Orders as records of six cells: copied one by one and in rows, held against each other, their size: proved by walking the laws' own helpers.
-/
import Derived.Test.YthmgkabpcjkieaaVj15
namespace Go.Proofs.Ythmgkabpcjkieaa
open Go.RowKit
set_option linter.unusedVariables false

theorem there1O {w : World} {b o n : Nat} (h : w.there b o n) (j : Nat) (hj : j < n) : ∃ v, w.cell? ⟨b, o + j, none⟩ = some v ∧ w.frozen? ⟨b, o + j, none⟩ = false := by
  obtain ⟨v, hv⟩ := Option.isSome_iff_exists.1 (h j hj).1
  exact ⟨v, hv, (h j hj).2⟩
theorem takeR {α : Type} (l : List α) (k : Nat) (c : α) (h : l[k]? = some c) : l.take (k + 1) = l.take k ++ [c] := by
  obtain ⟨hk, rfl⟩ := List.getElem?_eq_some_iff.1 h
  rw [List.take_succ_eq_append_getElem hk]
theorem Try.infoOrder : (Try.prog.info? 61).map (fun i => (i.zero, i.size, i.bytes)) = some (some (.agg #[.int .i64 0, .int .i64 0, .int .i64 0, .int .i64 0, .int .i64 0, .string ⟨#[]⟩]), 6, 56) := by kernel_rfl
end Go.Proofs.Ythmgkabpcjkieaa
namespace Go.Proofs.Ythmgkabpcjkieaa
open Go.RowKit
set_option linter.unusedVariables false

/-- A book is right, as the program asks it. -/
def okI (next : Int) (l : List Od) : Bool := betB next 1 1000000 && decide (l.length ≤ 20) && idsR next 0 l && l.all ordB &&
  (decide ((lvsOf true 1 (ofSide l 1)).length + (lvsOf false 2 (ofSide l 2)).length ≤ 8) && !meetB (quOf true (ofSide l 1)) (quOf false (ofSide l 2)))
set_option maxRecDepth 100000 in
set_option maxHeartbeats 800000 in
theorem implBookOK_any (next : Int) (v : Value) (l : List Od) (w : World) (hr : RdR Od.vs 6 w v l) (hg : ∀ c ∈ l, c.tag.size ≤ maxLen) :
    Calls Try.prog 12 #[.agg #[.int .i64 next, v]] w fun e w' => e = .returned (.bool (okI next l)) ∧ Below w.heap.size w w' := by
  have HR := hide hr
  have HG := hide hg
  obtain ⟨a, cap, rfl, hlen, hc⟩ := hr
  have hcell : ∀ (k : Nat) (c : Od), l[k]? = some c → ∃ b off, a = some ⟨b, off, none⟩ ∧ b < w.heap.size ∧ w.rangeAt b (off + k * 6) c.vs := by
    intro k c hk
    obtain ⟨b, off, h1, h2, h3⟩ := hc (by intro h; rw [h] at hk; simp at hk)
    exact ⟨b, off, h1, h2, h3 k c hk⟩
  have HC := hide hcell
  clear hcell hc hg
  have HB0 : Hid (Below w.heap.size w (w.alloc (Obj.cells #[.int .i64 next, .slice a l.length cap] 26))) := (Below.refl _ _).alloc (Nat.le_refl _) _
  have hbx := cells_made w [.int .i64 next, .slice a l.length cap] 26
  have HX : Hid (World.cell? (w.alloc (Obj.cells #[.int .i64 next, .slice a l.length cap] 26)) ⟨w.heap.size, 0, none⟩ = some (.int .i64 next) ∧ World.cell? (w.alloc (Obj.cells #[.int .i64 next, .slice a l.length cap] 26)) ⟨w.heap.size, 1, none⟩ = some (.slice a l.length cap) ∧ w.heap.size < (w.alloc (Obj.cells #[.int .i64 next, .slice a l.length cap] 26)).heap.size) := ⟨hbx 0 _ rfl, hbx 1 _ rfl, by rw [size_made]; omega⟩
  clear hbx
  cases h1 : betB next 1 1000000
  · go_enter Try.func12, Try.ntmps12
    go_wp2_with fail
    refine (implBetween_any next 1 1000000 _).mono ?_
    rintro e w1 ⟨rfl, rfl⟩
    go_wp2_with fail
    go_ret
    exact ⟨ret_bool (by simp [okI, h1]), unhide HB0⟩
  by_cases h2 : l.length ≤ 20
  rotate_left
  · have h2' : (20 : Int) < l.length := by omega
    go_enter Try.func12, Try.ntmps12
    go_wp2_with fail
    refine (implBetween_any next 1 1000000 _).mono ?_
    rintro e w1 ⟨rfl, rfl⟩
    go_wp2_with fail
    go_ret
    exact ⟨ret_bool (by simp [okI, h1, h2]), unhide HB0⟩
  have h2' : ¬ ((20 : Int) < l.length) := by omega
  cases h3 : idsR next 0 l
  · go_enter Try.func12, Try.ntmps12
    go_wp2_with fail
    refine (implBetween_any next 1 1000000 _).mono ?_
    rintro e w1 ⟨rfl, rfl⟩
    go_wp2_with fail
    refine (idsRise_any next _ l _ (rdR_below (unhide HR) (unhide HB0) (Nat.le_refl _))).mono ?_
    rintro e w2 ⟨rfl, hb2⟩
    have HB2 := hide ((unhide HB0).trans (hb2.mono (unhide HB0).size))
    clear hb2
    go_wp2_with fail
    go_ret
    exact ⟨ret_bool (by simp [okI, h3]), unhide HB2⟩
  go_enter Try.func12, Try.ntmps12
  go_wp2_with fail
  refine (implBetween_any next 1 1000000 _).mono ?_
  rintro e w1 ⟨rfl, rfl⟩
  go_wp2_with fail
  refine (idsRise_any next _ l _ (rdR_below (unhide HR) (unhide HB0) (Nat.le_refl _))).mono ?_
  rintro e w2 ⟨rfl, hb2⟩
  have HB2 := hide ((unhide HB0).trans (hb2.mono (unhide HB0).size))
  have x0 := (hb2.cell (p := ⟨w.heap.size, 0, none⟩) (unhide HX).2.2).trans (unhide HX).1
  have x1 := (hb2.cell (p := ⟨w.heap.size, 1, none⟩) (unhide HX).2.2).trans (unhide HX).2.1
  have hsz2 : w.heap.size < w2.heap.size := Nat.lt_of_lt_of_le (unhide HX).2.2 hb2.size
  have HX2 : Hid (w2.cell? ⟨w.heap.size, 0, none⟩ = some (.int .i64 next) ∧ w2.cell? ⟨w.heap.size, 1, none⟩ = some (.slice a l.length cap)) := ⟨x0, x1⟩
  clear hb2 x0
  go_wp2_with fail
  go_loopw [25] (fun iv wr => ∃ (k : Nat), k ≤ l.length ∧ iv = .int .i64 k ∧ Hid (l.all ordB = (l.drop k).all ordB) ∧ Below w2.heap.size w2 wr) (fun iv _ => l.length - (intOf iv).toNat)
  case atStart => exact ⟨0, Nat.zero_le _, rfl, by simp [Hid], Below.refl _ _⟩
  case round =>
    obtain ⟨k, hk, rfl, hall, hbel⟩ := hrel
    have HB := hide hbel
    clear hbel x1
    by_cases hlt : k < l.length
    · obtain ⟨c, hkc⟩ : ∃ c, l[k]? = some c := ⟨_, List.getElem?_eq_getElem hlt⟩
      have hdr : l.drop k = c :: l.drop (k + 1) := by
        obtain ⟨h1, rfl⟩ := List.getElem?_eq_some_iff.1 hkc
        exact List.drop_eq_getElem_cons h1
      have HI : Hid (l.all ordB = (ordB c && (l.drop (k + 1)).all ordB)) := by
        have := unhide hall
        rw [hdr] at this
        exact this
      obtain ⟨b, off, rfl, hb, hcl⟩ := unhide HC k c hkc
      obtain ⟨g0, g1, g2, g3, g4, g5⟩ := od_cells (range_below hcl ((unhide HB2).trans ((unhide HB).mono (unhide HB2).size)) hb)
      have HS := hide (unhide HG c (List.mem_of_getElem? hkc))
      have hlt' : (k : Int) < l.length := by omega
      have hszr := (unhide HB).size
      clear hkc hcl hb hdr hall
      go_wp2_with fail
      refine (orderOK_any c _ (unhide HS)).mono ?_
      rintro e w3 ⟨rfl, hb3⟩
      have HB3 := hide (((unhide HB).alloc hszr _).trans (hb3.mono (by rw [size_made]; omega)))
      clear hb3
      cases ho : ordB c
      · have HN : Hid (l.all ordB = false) := by
          have := unhide HI
          rw [ho, Bool.false_and] at this
          exact this
        go_wp2_with fail
        go_ret
        exact ⟨ret_bool (by rw [okI, unhide HN]; simp), (unhide HB2).trans ((unhide HB3).mono (unhide HB2).size)⟩
      · have HN : Hid (l.all ordB = (l.drop (k + 1)).all ordB) := by
          have := unhide HI
          rw [ho, Bool.true_and] at this
          exact this
        go_wp2_with fail
        go_roundw
        case rel => exact ⟨k + 1, by omega, by go_num, unhide HN, unhide HB3⟩
        case measure => simp [intOf]; omega
    · have hall2 : l.all ordB = true := by
        have h := unhide hall
        rw [List.drop_of_length_le (by omega)] at h
        rw [h]; rfl
      have HALL := hide hall2
      clear hall hall2
      have y0 := ((unhide HB).cell (p := ⟨w.heap.size, 0, none⟩) hsz2).trans (unhide HX2).1
      have y1 := ((unhide HB).cell (p := ⟨w.heap.size, 1, none⟩) hsz2).trans (unhide HX2).2
      go_wp2_with fail
      have HRr := hide (rdR_below (rdR_below (unhide HR) (unhide HB2) (Nat.le_refl _)) (unhide HB) (Nat.le_refl _))
      have hwr : w.heap.size < wr.heap.size := Nat.lt_of_lt_of_le hsz2 (unhide HB).size
      have HLB : Hid (∀ o' ∈ l, 0 ≤ o'.left ∧ o'.left ≤ 1000000) := fun o' ho' => by
        have := List.all_eq_true.1 (unhide HALL) o' ho'
        simp [ordB, betB] at this
        omega
      have HY : Hid (wr.cell? ⟨w.heap.size, 0, none⟩ = some (.int .i64 next) ∧ wr.cell? ⟨w.heap.size, 1, none⟩ = some (.slice a l.length cap)) := ⟨y0, y1⟩
      clear y0 y1
      refine wp_region_inv (fun x A W => ∃ v33 v34 v35 v36 v5 v6 b1 b2 p5 p6, A = { tmps := #[.agg #[.int .i64 next, .slice a l.length cap], .pointer (some ⟨w.heap.size, 0, none⟩), u2, undef, u4, v5, v6, .pointer (some ⟨w.heap.size, 0, none⟩), .int .i64 next, .bool true, .bool false, .bool false, .pointer (some ⟨w.heap.size, 1, none⟩), .slice a l.length cap, .int .i64 l.length, .bool (decide ((20 : Int) < l.length)), .bool (decide ((20 : Int) < l.length)), .bool (decide ((20 : Int) < l.length)), .agg #[.int .i64 next, .slice a l.length cap], .bool true, .bool false, .bool (decide ((20 : Int) < l.length)), .pointer (some ⟨w.heap.size, 1, none⟩), .slice a l.length cap, .int .i64 l.length, .int .i64 k, .bool false, u27, u28, u29, u30, u31, u32, v33, v34, v35, v36, undef, undef, undef, undef, undef, undef, undef, undef, undef, undef], defers := [] } ∧ RW9 wr (.agg #[.int .i64 next, .slice a l.length cap]) (ofSide l 1) (ofSide l 2) x v33 v34 v35 v36 v5 v6 b1 b2 p5 p6 W) (by kernel_rfl) ?_ ?_ ?_
      · refine ⟨undef, undef, undef, undef, undef, undef, 0, 0, 0, 0, rfl, ?_⟩
        refine ⟨⟨rfl, rfl, rfl, Nat.le_refl _, fun _ _ => rfl⟩, ?_, ?_, ?_, ?_, ?_, ?_, ?_, ?_, ?_, ?_, ?_, ?_, ?_⟩ <;> simp
      · rintro x A W ⟨v33, v34, v35, v36, v5, v6, b1, b2, p5, p6, rfl, hR⟩ hx hrd
        have q0 := ready_none hrd hx 0 _ rfl (by simp)
        have q2 := ready_none hrd hx 2 _ rfl (by simp)
        have q4 := ready_none hrd hx 4 _ rfl (by simp)
        have q5 := ready_none hrd hx 5 _ rfl (by simp)
        have q1 := ready_none hrd hx 1 _ rfl (by simp [q0])
        have q3 := ready_none hrd hx 3 _ rfl (by simp [q1, q2])
        have q6 := ready_none hrd hx 6 _ rfl (by simp [q0, q1, q2, q3, q4, q5])
        have q7 := ready_none hrd hx 7 _ rfl (by simp [q0, q1, q2, q3, q4, q5, q6])
        obtain ⟨e1, e2⟩ := hR.c34 q1
        obtain ⟨e3, e4⟩ := hR.c36 q3
        obtain ⟨e5, e6, e7, e8⟩ := hR.c5 q4
        obtain ⟨f5, f6, f7, f8⟩ := hR.c6 q5
        have e9 := (hR.s5 q6).2
        have f9 := (hR.s6 q7).2
        have hbW := hR.bel
        subst e1 e3 e5 f5
        have HW : Hid (Tb W b1 (ofSide l 1) ∧ Ts W b2 (ofSide l 2) ∧ W.rangeAt p5 0 (sideL_b b1) ∧ W.rangeAt p6 0 (sideL_s b2) ∧ p5 < W.heap.size ∧ p6 < W.heap.size ∧ Below wr.heap.size wr W) := ⟨e2, e4, e9, f9, e6, f6, hbW⟩
        clear hR q0 q1 q2 q3 q4 q5 q6 q7 e2 e4 e6 e7 e8 f6 f7 f8 e9 f9 hbW hrd hx
        have n1 : (ofSide l 1).length ≤ 20 := Nat.le_trans (List.length_filter_le _ _) h2
        have n2 : (ofSide l 2).length ≤ 20 := Nat.le_trans (List.length_filter_le _ _) h2
        obtain ⟨hT1, hT2, r5, r6, hp5, hp6, -⟩ := unhide HW
        have HBW := hide ((unhide HB2).trans (((unhide HB).trans ((unhide HW).2.2.2.2.2.2.mono (unhide HB).size)).mono (unhide HB2).size))
        have HT1 := hide hT1
        have HT2 := hide hT2
        have HR5 := hide r5
        have HR6 := hide r6
        have hb1s := treeAt_lt hT1
        have hb2s := treeAt_lt hT2
        clear hT1 hT2 r5 r6
        generalize hL1 : (lvsOf true 1 (ofSide l 1)).length = N1
        generalize hL2 : (lvsOf false 2 (ofSide l 2)).length = N2
        generalize hmt : meetB (quOf true (ofSide l 1)) (quOf false (ofSide l 2)) = mt
        have HOK : Hid (okI next l = (decide (N1 + N2 ≤ 8) && !mt)) := by
          show okI next l = _
          rw [okI, h1, h3, unhide HALL, hL1, hL2, hmt, decide_eq_true h2]; rfl
        have HLL : Hid ((lvsOf true 1 (ofSide l 1)).length = N1 ∧ (lvsOf false 2 (ofSide l 2)).length = N2 ∧ meetB (quOf true (ofSide l 1)) (quOf false (ofSide l 2)) = mt) := ⟨hL1, hL2, hmt⟩
        clear hL1 hL2 hmt
        have d0 := unhide HR5 0 _ rfl
        have d1 := unhide HR5 1 _ rfl
        have d2 := unhide HR5 2 _ rfl
        have e0 := unhide HR6 0 _ rfl
        have e1 := unhide HR6 1 _ rfl
        have e2 := unhide HR6 2 _ rfl
        rw [Nat.zero_add] at d0 d1 d2 e0 e1 e2
        go_wp2_with fail
        refine (countLevels_any b1 b2 1 2 (ofSide l 1) (ofSide l 2) W (unhide HT1) (unhide HT2) n1 n2).mono ?_
        rw [(unhide HLL).1, (unhide HLL).2.1]
        rintro e w4 ⟨rfl, hb4⟩
        have HB4 := hide ((unhide HBW).trans (hb4.mono (unhide HBW).size))
        have HT14 := hide (treeAt_block (unhide HT1) (hb4.block _ hb1s))
        have HT24 := hide (treeAt_block (unhide HT2) (hb4.block _ hb2s))
        have d0 := range_below (unhide HR5) hb4 hp5 0 _ rfl
        have d1 := range_below (unhide HR5) hb4 hp5 1 _ rfl
        have d2 := range_below (unhide HR5) hb4 hp5 2 _ rfl
        have e0 := range_below (unhide HR6) hb4 hp6 0 _ rfl
        have e1 := range_below (unhide HR6) hb4 hp6 1 _ rfl
        have e2 := range_below (unhide HR6) hb4 hp6 2 _ rfl
        rw [Nat.zero_add] at d0 d1 d2 e0 e1 e2
        clear hb4
        by_cases h8 : N1 + N2 ≤ 8
        · have h8' : (N1 : Int) + N2 ≤ 8 := by omega
          have HK : Hid (okI next l = !mt) := by
            have := unhide HOK
            rw [decide_eq_true h8, Bool.true_and] at this
            exact this
          go_wp2_with fail
          refine (sidesMeet_any b1 b2 1 2 (ofSide l 1) (ofSide l 2) w4 (unhide HT14) (unhide HT24) n1 n2).mono ?_
          rw [(unhide HLL).2.2]
          rintro e w5 ⟨rfl, hb5⟩
          have HB5 := hide ((unhide HB4).trans (hb5.mono (unhide HB4).size))
          clear hb5
          go_wp2_with fail
          go_ret
          exact ⟨ret_bool (unhide HK).symm, unhide HB5⟩
        · have h8' : ¬ ((N1 : Int) + N2 ≤ 8) := by omega
          have HK : Hid (okI next l = false) := by
            have := unhide HOK
            rw [decide_eq_false h8, Bool.false_and] at this
            exact this
          go_wp2_with fail
          go_ret
          exact ⟨ret_bool (unhide HK).symm, unhide HB4⟩
      · rintro x A W i o ⟨v33, v34, v35, v36, v5, v6, b1, b2, p5, p6, rfl, hR⟩ hx ho hxi hall
        have HRR := hide hR
        have z0 := (hR.bel.cell (p := ⟨w.heap.size, 0, none⟩) hwr).trans (unhide HY).1
        have z1 := (hR.bel.cell (p := ⟨w.heap.size, 1, none⟩) hwr).trans (unhide HY).2
        have HRD := hide (rdR_below (unhide HRr) hR.bel (Nat.le_refl _))
        match i, ho with
        | 0, ho =>
          simp only [List.getElem?_cons_zero, Option.some.injEq] at ho
          subst ho
          rw [if_pos (by rfl)]
          unfold Oper.wp
          clear hall hR
          go_simp
          exact ⟨_, _, _, _, _, _, ⟨rfl, rfl, rfl, rfl, rfl, rfl⟩, _, _, _, _, rw9_0 (unhide HRR)⟩
        | 1, ho =>
          simp only [List.getElem?_cons_succ, List.getElem?_cons_zero, Option.some.injEq] at ho
          subst ho
          have h0 : x[0]? = some true := hall ⟨0, .data⟩ (by simp) rfl
          obtain rfl := hR.c33 h0
          have h6 : x[6]? ≠ some true := fun e => by have := (hR.s5 e).1.1; rw [hxi] at this; cases this
          clear hall hR
          rw [if_pos (by rfl)]
          unfold Oper.wp
          go_simp
          refine (sideOf_buy next _ l W (unhide HRD) h2 (unhide HLB)).mono ?_
          rintro e w3 ⟨b, rfl, ht, hle, hb⟩
          exact ⟨_, _, _, _, _, _, ⟨rfl, rfl, rfl, rfl, rfl, rfl⟩, b, _, _, _, rw9_1 (unhide HRR) h6 hb hle ht⟩
        | 2, ho =>
          simp only [List.getElem?_cons_succ, List.getElem?_cons_zero, Option.some.injEq] at ho
          subst ho
          rw [if_pos (by rfl)]
          unfold Oper.wp
          clear hall hR
          go_simp
          exact ⟨_, _, _, _, _, _, ⟨rfl, rfl, rfl, rfl, rfl, rfl⟩, _, _, _, _, rw9_2 (unhide HRR)⟩
        | 3, ho =>
          simp only [List.getElem?_cons_succ, List.getElem?_cons_zero, Option.some.injEq] at ho
          subst ho
          have h22 : x[2]? = some true := hall ⟨2, .data⟩ (by simp) rfl
          obtain rfl := hR.c35 h22
          have h7 : x[7]? ≠ some true := fun e => by have := (hR.s6 e).1.1; rw [hxi] at this; cases this
          clear hall hR
          rw [if_pos (by rfl)]
          unfold Oper.wp
          go_simp
          refine (sideOf_sell next 2 (by omega) _ l W (unhide HRD) h2 (unhide HLB)).mono ?_
          rintro e w3 ⟨b, rfl, ht, hle, hb⟩
          exact ⟨_, _, _, _, _, _, ⟨rfl, rfl, rfl, rfl, rfl, rfl⟩, _, b, _, _, rw9_3 (unhide HRR) h7 hb hle ht⟩
        | 4, ho =>
          simp only [List.getElem?_cons_succ, List.getElem?_cons_zero, Option.some.injEq] at ho
          subst ho
          have h6 : x[6]? ≠ some true := fun e => by have := (hR.s5 e).1.2; rw [hxi] at this; cases this
          clear hall hR
          rw [if_pos (by rfl)]
          unfold Oper.wp
          go_simp
          exact ⟨_, _, _, _, _, _, ⟨rfl, rfl, rfl, rfl, rfl, rfl⟩, _, _, _, _, rw9_4 (unhide HRR) h6 _⟩
        | 5, ho =>
          simp only [List.getElem?_cons_succ, List.getElem?_cons_zero, Option.some.injEq] at ho
          subst ho
          have h7 : x[7]? ≠ some true := fun e => by have := (hR.s6 e).1.2; rw [hxi] at this; cases this
          clear hall hR
          rw [if_pos (by rfl)]
          unfold Oper.wp
          go_simp
          exact ⟨_, _, _, _, _, _, ⟨rfl, rfl, rfl, rfl, rfl, rfl⟩, _, _, _, _, rw9_5 (unhide HRR) h7 _⟩
        | 6, ho =>
          simp only [List.getElem?_cons_succ, List.getElem?_cons_zero, Option.some.injEq] at ho
          subst ho
          have k1 : x[1]? = some true := hall ⟨1, .data⟩ (by simp) rfl
          have k3 : x[3]? = some true := hall ⟨3, .chain⟩ (by simp) rfl
          have k4 : x[4]? = some true := hall ⟨4, .data⟩ (by simp) rfl
          have k5 : x[5]? = some true := hall ⟨5, .phase⟩ (by simp) rfl
          obtain rfl := (hR.c34 k1).1
          obtain ⟨e5, -, -, e8⟩ := hR.c5 k4
          subst e5
          obtain ⟨⟨x0, y0, z0'⟩, ⟨x1, y1, z1'⟩, x2, y2, z2'⟩ : (∃ v, W.cell? ⟨p5, 0, none⟩ = some v ∧ W.frozen? ⟨p5, 0, none⟩ = false) ∧ (∃ v, W.cell? ⟨p5, 1, none⟩ = some v ∧ W.frozen? ⟨p5, 1, none⟩ = false) ∧ (∃ v, W.cell? ⟨p5, 2, none⟩ = some v ∧ W.frozen? ⟨p5, 2, none⟩ = false) := ⟨by simpa using there1O e8 0 (by omega), by simpa using there1O e8 1 (by omega), by simpa using there1O e8 2 (by omega)⟩
          have HE := hide (rw9_6 (unhide HRR) k1 k3 k4 k5 (F0 := _) (F1 := _) (F2 := _) rfl)
          clear hall hR z0 z1 e8
          unfold side_b at HE ⊢
          generalize hF0 : Value.func (.func 61) #[.pointer (some ⟨b1, 0, none⟩)] #[] = F0 at HE ⊢
          generalize hF1 : Value.func (.func 62) #[.pointer (some ⟨b1, 0, none⟩)] #[] = F1 at HE ⊢
          generalize hF2 : Value.func (.func 63) #[.pointer (some ⟨b1, 0, none⟩)] #[] = F2 at HE ⊢
          have hst : ∀ (V : World) (o : Nat) (m : Mode), ((store ⟨p5, o, none⟩ F0 m).run Try.prog V = stored Try.prog V ⟨p5, o, none⟩ F0 m) ∧ ((store ⟨p5, o, none⟩ F1 m).run Try.prog V = stored Try.prog V ⟨p5, o, none⟩ F1 m) ∧ ((store ⟨p5, o, none⟩ F2 m).run Try.prog V = stored Try.prog V ⟨p5, o, none⟩ F2 m) := fun V o m => by
            subst hF0 hF1 hF2
            exact ⟨run_store _ V _ _ m rfl, run_store _ V _ _ m rfl, run_store _ V _ _ m rfl⟩
          have hst0 := fun V o m => (hst V o m).1
          have hst1 := fun V o m => (hst V o m).2.1
          have hst2 := fun V o m => (hst V o m).2.2
          clear hst hF0 hF1 hF2
          rw [if_pos (by rfl)]
          unfold Oper.wp
          go_simp
          exact ⟨_, _, _, _, _, _, ⟨rfl, rfl, rfl, rfl, rfl, rfl⟩, _, _, _, _, unhide HE⟩
        | 7, ho =>
          simp only [List.getElem?_cons_succ, List.getElem?_cons_zero, Option.some.injEq] at ho
          subst ho
          have k1 : x[1]? = some true := hall ⟨1, .phase⟩ (by simp) rfl
          have k3 : x[3]? = some true := hall ⟨3, .data⟩ (by simp) rfl
          have k4 : x[4]? = some true := hall ⟨4, .phase⟩ (by simp) rfl
          have k5 : x[5]? = some true := hall ⟨5, .data⟩ (by simp) rfl
          obtain rfl := (hR.c36 k3).1
          obtain ⟨e5, -, -, e8⟩ := hR.c6 k5
          subst e5
          obtain ⟨⟨x0, y0, z0'⟩, ⟨x1, y1, z1'⟩, x2, y2, z2'⟩ : (∃ v, W.cell? ⟨p6, 0, none⟩ = some v ∧ W.frozen? ⟨p6, 0, none⟩ = false) ∧ (∃ v, W.cell? ⟨p6, 1, none⟩ = some v ∧ W.frozen? ⟨p6, 1, none⟩ = false) ∧ (∃ v, W.cell? ⟨p6, 2, none⟩ = some v ∧ W.frozen? ⟨p6, 2, none⟩ = false) := ⟨by simpa using there1O e8 0 (by omega), by simpa using there1O e8 1 (by omega), by simpa using there1O e8 2 (by omega)⟩
          have HE := hide (rw9_7 (unhide HRR) k1 k3 k4 k5 (F0 := _) (F1 := _) (F2 := _) rfl)
          clear hall hR z0 z1 e8
          unfold side_s at HE ⊢
          generalize hF0 : Value.func (.func 65) #[.pointer (some ⟨b2, 0, none⟩)] #[] = F0 at HE ⊢
          generalize hF1 : Value.func (.func 66) #[.pointer (some ⟨b2, 0, none⟩)] #[] = F1 at HE ⊢
          generalize hF2 : Value.func (.func 67) #[.pointer (some ⟨b2, 0, none⟩)] #[] = F2 at HE ⊢
          have hst : ∀ (V : World) (o : Nat) (m : Mode), ((store ⟨p6, o, none⟩ F0 m).run Try.prog V = stored Try.prog V ⟨p6, o, none⟩ F0 m) ∧ ((store ⟨p6, o, none⟩ F1 m).run Try.prog V = stored Try.prog V ⟨p6, o, none⟩ F1 m) ∧ ((store ⟨p6, o, none⟩ F2 m).run Try.prog V = stored Try.prog V ⟨p6, o, none⟩ F2 m) := fun V o m => by
            subst hF0 hF1 hF2
            exact ⟨run_store _ V _ _ m rfl, run_store _ V _ _ m rfl, run_store _ V _ _ m rfl⟩
          have hst0 := fun V o m => (hst V o m).1
          have hst1 := fun V o m => (hst V o m).2.1
          have hst2 := fun V o m => (hst V o m).2.2
          clear hst hF0 hF1 hF2
          rw [if_pos (by rfl)]
          unfold Oper.wp
          go_simp
          exact ⟨_, _, _, _, _, _, ⟨rfl, rfl, rfl, rfl, rfl, rfl⟩, _, _, _, _, unhide HE⟩
        | n + 8, ho => simp at ho
end Go.Proofs.Ythmgkabpcjkieaa
