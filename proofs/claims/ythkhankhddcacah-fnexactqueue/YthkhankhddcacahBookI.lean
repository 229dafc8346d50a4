/-
  Whether a book is right, as the program says it: proved by walking the function.
-/
import Derived.Test.YthkhankhddcacahReg9
import Derived.Test.YthkhankhddcacahOrdW
namespace Go.Proofs.Ythkhankhddcacah
open Go.RowKit
set_option linter.unusedVariables false

/-- A book is right, as the program asks it. -/
def okI (next : Int) (l : List Od) : Bool := betB next 1 1000000 && decide (l.length ≤ 20) && idsR next 0 l && l.all ordB &&
  (decide ((lvsOf true 1 (ofSide l 1)).length + (lvsOf false 2 (ofSide l 2)).length ≤ 8) && !meetB (quOf true (ofSide l 1)) (quOf false (ofSide l 2)))

theorem insT_len (s : Bool) (k : Int) : ∀ T : List Int, (insT s k T).length ≤ T.length + 1
  | [] => by simp [insT]
  | a :: r => by
    have := insT_len s k r
    rw [insT]; split
    · simp
    · split <;> simp <;> omega
theorem tks_len (s : Bool) : ∀ seq : List Od, (tks s seq).length ≤ seq.length
  | [] => by simp [tks]
  | o :: r => by
    have h1 := insT_len s o.ticks (tks s r)
    have h2 := tks_len s r
    rw [tks]; simp; omega
/-- The edges of a region go back. -/
def backB : Nat → List Oper → Bool
  | _, [] => true
  | i, o :: r => o.after.toList.all (fun e => decide (e.on < i)) && backB (i + 1) r
theorem back_spec : ∀ (l : List Oper) (n : Nat), backB n l = true → ∀ (i : Nat) (o : Oper), l[i]? = some o → ∀ e ∈ o.after, e.on < n + i
  | [], _, _, i, o, h, _, _ => by simp at h
  | a :: r, n, hb, 0, o, h, e, he => by
    simp at h; subst h
    simp only [backB, Bool.and_eq_true, List.all_eq_true, decide_eq_true_eq] at hb
    exact hb.1 e (by simpa using he)
  | a :: r, n, hb, i + 1, o, h, e, he => by
    simp only [backB, Bool.and_eq_true] at hb
    have := back_spec r (n + 1) hb.2 i o (by simpa using h) e he
    omega
theorem acyc (l : List Oper) (h : backB 0 l = true) : ∀ (i : Nat) (o : Oper), l[i]? = some o → ∀ e ∈ o.after, e.on < i := fun i o ho e he => by
  have := back_spec l 0 h i o ho e he; omega
/-- What each operation of the last statement has. -/
def C10 (b1 b2 p5 p6 N1 N2 : Nat) (b8 mt : Bool) : Nat → Value → Prop
  | 0, v => v = .pointer (some ⟨p5, 2, none⟩)
  | 1, v => v = .func (.func 53) #[.pointer (some ⟨b1, 0, none⟩)] #[]
  | 2, v => ∃ a c, v = .slice a N1 c
  | 3, v => v = .int .i64 N1
  | 4, v => v = .pointer (some ⟨p6, 2, none⟩)
  | 5, v => v = .func (.func 57) #[.pointer (some ⟨b2, 0, none⟩)] #[]
  | 6, v => ∃ a c, v = .slice a N2 c
  | 7, v => v = .int .i64 N2
  | 8, v => v = .int .i64 ((N1 : Int) + N2)
  | 9, v => v = .bool b8
  | 10, v => v = .bool b8
  | 11, v => b8 = true → v = side_b b1
  | 12, v => b8 = true → v = side_s b2
  | 13, v => b8 = true → v = .bool mt
  | 14, v => b8 = true → v = .bool (!mt)
  | 15, v => v = .bool (b8 && !mt)
  | 16, v => v = .bool (b8 && !mt)
  | _, _ => True

set_option maxRecDepth 100000 in
set_option maxHeartbeats 800000 in
theorem implBookOK_any (next : Int) (v : Value) (l : List Od) (w : World) (hr : RdR Od.vs 6 w v l) (hg : ∀ c ∈ l, c.tag.size ≤ maxLen) :
    Calls Try.prog 10 #[.agg #[.int .i64 next, v]] w fun e w' => e = .returned (.bool (okI next l)) ∧ Below w.heap.size w w' := by
  have HR := hide hr
  have HG := hide hg
  obtain ⟨a, cap, rfl, hlen, hc⟩ := hr
  have hcell : ∀ (k : Nat) (c : Od), l[k]? = some c → ∃ b off, a = some ⟨b, off, none⟩ ∧ b < w.heap.size ∧ w.rangeAt b (off + k * 6) c.vs := by
    intro k c hk
    obtain ⟨b, off, h1, h2, h3⟩ := hc (by intro h; rw [h] at hk; simp at hk)
    exact ⟨b, off, h1, h2, h3 k c hk⟩
  have HC := hide hcell
  clear hcell hc hg
  have HB0 : Hid (Below w.heap.size w (w.alloc (Obj.cells #[.int .i64 next, .slice a l.length cap] 29))) := (Below.refl _ _).alloc (Nat.le_refl _) _
  have hbx := cells_made w [.int .i64 next, .slice a l.length cap] 29
  have HX : Hid (World.cell? (w.alloc (Obj.cells #[.int .i64 next, .slice a l.length cap] 29)) ⟨w.heap.size, 0, none⟩ = some (.int .i64 next) ∧ World.cell? (w.alloc (Obj.cells #[.int .i64 next, .slice a l.length cap] 29)) ⟨w.heap.size, 1, none⟩ = some (.slice a l.length cap) ∧ w.heap.size < (w.alloc (Obj.cells #[.int .i64 next, .slice a l.length cap] 29)).heap.size) := ⟨hbx 0 _ rfl, hbx 1 _ rfl, by rw [size_made]; omega⟩
  clear hbx
  cases h1 : betB next 1 1000000
  · go_enter Try.func10, Try.ntmps10
    go_wp2_with fail
    refine (implBetween_any next 1 1000000 _).mono ?_
    rintro e w1 ⟨rfl, rfl⟩
    go_wp2_with fail
    go_ret
    exact ⟨ret_bool (by simp [okI, h1]), unhide HB0⟩
  by_cases h2 : l.length ≤ 20
  rotate_left
  · have h2' : (20 : Int) < l.length := by omega
    go_enter Try.func10, Try.ntmps10
    go_wp2_with fail
    refine (implBetween_any next 1 1000000 _).mono ?_
    rintro e w1 ⟨rfl, rfl⟩
    go_wp2_with fail
    go_ret
    exact ⟨ret_bool (by simp [okI, h1, h2]), unhide HB0⟩
  have h2' : ¬ ((20 : Int) < l.length) := by omega
  cases h3 : idsR next 0 l
  · go_enter Try.func10, Try.ntmps10
    go_wp2_with fail
    refine (implBetween_any next 1 1000000 _).mono ?_
    rintro e w1 ⟨rfl, rfl⟩
    go_wp2_with fail
    refine (idsRise_any next _ l _ (rdR_below (unhide HR) (unhide HB0) (Nat.le_refl _))).mono ?_
    rintro e w2 ⟨rfl, hb2⟩
    have HB2 := hide ((unhide HB0).trans (hb2.mono (unhide HB0).size))
    clear hb2
    go_wp2_with fail
    go_ret
    exact ⟨ret_bool (by simp [okI, h3]), unhide HB2⟩
  go_enter Try.func10, Try.ntmps10
  go_wp2_with fail
  refine (implBetween_any next 1 1000000 _).mono ?_
  rintro e w1 ⟨rfl, rfl⟩
  go_wp2_with fail
  refine (idsRise_any next _ l _ (rdR_below (unhide HR) (unhide HB0) (Nat.le_refl _))).mono ?_
  rintro e w2 ⟨rfl, hb2⟩
  have HB2 := hide ((unhide HB0).trans (hb2.mono (unhide HB0).size))
  have x0 := (hb2.cell (p := ⟨w.heap.size, 0, none⟩) (unhide HX).2.2).trans (unhide HX).1
  have x1 := (hb2.cell (p := ⟨w.heap.size, 1, none⟩) (unhide HX).2.2).trans (unhide HX).2.1
  have hsz2 : w.heap.size < w2.heap.size := Nat.lt_of_lt_of_le (unhide HX).2.2 hb2.size
  have HX2 : Hid (w2.cell? ⟨w.heap.size, 0, none⟩ = some (.int .i64 next) ∧ w2.cell? ⟨w.heap.size, 1, none⟩ = some (.slice a l.length cap)) := ⟨x0, x1⟩
  clear hb2 x0
  go_wp2_with fail
  go_loopw [25] (fun iv wr => ∃ (k : Nat), k ≤ l.length ∧ iv = .int .i64 k ∧ Hid (l.all ordB = (l.drop k).all ordB) ∧ Below w2.heap.size w2 wr) (fun iv _ => l.length - (intOf iv).toNat)
  case atStart => exact ⟨0, Nat.zero_le _, rfl, by simp [Hid], Below.refl _ _⟩
  case round =>
    obtain ⟨k, hk, rfl, hall, hbel⟩ := hrel
    have HB := hide hbel
    clear hbel x1
    by_cases hlt : k < l.length
    · obtain ⟨c, hkc⟩ : ∃ c, l[k]? = some c := ⟨_, List.getElem?_eq_getElem hlt⟩
      have hdr : l.drop k = c :: l.drop (k + 1) := by
        obtain ⟨h1, rfl⟩ := List.getElem?_eq_some_iff.1 hkc
        exact List.drop_eq_getElem_cons h1
      have HI : Hid (l.all ordB = (ordB c && (l.drop (k + 1)).all ordB)) := by
        have := unhide hall
        rw [hdr] at this
        exact this
      obtain ⟨b, off, rfl, hb, hcl⟩ := unhide HC k c hkc
      obtain ⟨g0, g1, g2, g3, g4, g5⟩ := od_cells (range_below hcl ((unhide HB2).trans ((unhide HB).mono (unhide HB2).size)) hb)
      have HS := hide (unhide HG c (List.mem_of_getElem? hkc))
      have hlt' : (k : Int) < l.length := by omega
      have hszr := (unhide HB).size
      clear hkc hcl hb hdr hall
      go_wp2_with fail
      refine (orderOK_any c _ (unhide HS)).mono ?_
      rintro e w3 ⟨rfl, hb3⟩
      have HB3 := hide (((unhide HB).alloc hszr _).trans (hb3.mono (by rw [size_made]; omega)))
      clear hb3
      cases ho : ordB c
      · have HN : Hid (l.all ordB = false) := by
          have := unhide HI
          rw [ho, Bool.false_and] at this
          exact this
        go_wp2_with fail
        go_ret
        exact ⟨ret_bool (by rw [okI, unhide HN]; simp), (unhide HB2).trans ((unhide HB3).mono (unhide HB2).size)⟩
      · have HN : Hid (l.all ordB = (l.drop (k + 1)).all ordB) := by
          have := unhide HI
          rw [ho, Bool.true_and] at this
          exact this
        go_wp2_with fail
        go_roundw
        case rel => exact ⟨k + 1, by omega, by go_num, unhide HN, unhide HB3⟩
        case measure => simp [intOf]; omega
    · have hall2 : l.all ordB = true := by
        have h := unhide hall
        rw [List.drop_of_length_le (by omega)] at h
        rw [h]; rfl
      have HALL := hide hall2
      clear hall hall2
      have y0 := ((unhide HB).cell (p := ⟨w.heap.size, 0, none⟩) hsz2).trans (unhide HX2).1
      have y1 := ((unhide HB).cell (p := ⟨w.heap.size, 1, none⟩) hsz2).trans (unhide HX2).2
      go_wp2_with fail
      have HRr := hide (rdR_below (rdR_below (unhide HR) (unhide HB2) (Nat.le_refl _)) (unhide HB) (Nat.le_refl _))
      have hwr : w.heap.size < wr.heap.size := Nat.lt_of_lt_of_le hsz2 (unhide HB).size
      have HLB : Hid (∀ o' ∈ l, 0 ≤ o'.left ∧ o'.left ≤ 1000000) := fun o' ho' => by
        have := List.all_eq_true.1 (unhide HALL) o' ho'
        simp [ordB, betB] at this
        omega
      have HY : Hid (wr.cell? ⟨w.heap.size, 0, none⟩ = some (.int .i64 next) ∧ wr.cell? ⟨w.heap.size, 1, none⟩ = some (.slice a l.length cap)) := ⟨y0, y1⟩
      clear y0 y1
      refine wp_region_inv (fun x A W => ∃ v33 v34 v35 v36 v5 v6 b1 b2 p5 p6, A = { tmps := #[.agg #[.int .i64 next, .slice a l.length cap], .pointer (some ⟨w.heap.size, 0, none⟩), u2, undef, u4, v5, v6, .pointer (some ⟨w.heap.size, 0, none⟩), .int .i64 next, .bool true, .bool false, .bool false, .pointer (some ⟨w.heap.size, 1, none⟩), .slice a l.length cap, .int .i64 l.length, .bool (decide ((20 : Int) < l.length)), .bool (decide ((20 : Int) < l.length)), .bool (decide ((20 : Int) < l.length)), .agg #[.int .i64 next, .slice a l.length cap], .bool true, .bool false, .bool (decide ((20 : Int) < l.length)), .pointer (some ⟨w.heap.size, 1, none⟩), .slice a l.length cap, .int .i64 l.length, .int .i64 k, .bool false, u27, u28, u29, u30, u31, u32, v33, v34, v35, v36, undef, undef, undef, undef, undef, undef, undef, undef, undef, undef, undef, undef, undef, undef, undef, undef], defers := [] } ∧ RW9 wr (.agg #[.int .i64 next, .slice a l.length cap]) (ofSide l 1) (ofSide l 2) x v33 v34 v35 v36 v5 v6 b1 b2 p5 p6 W) (by kernel_rfl) ?_ ?_ ?_
      · refine ⟨undef, undef, undef, undef, undef, undef, 0, 0, 0, 0, rfl, ?_⟩
        refine ⟨⟨rfl, rfl, rfl, Nat.le_refl _, fun _ _ => rfl⟩, ?_, ?_, ?_, ?_, ?_, ?_, ?_, ?_, ?_, ?_, ?_, ?_, ?_⟩ <;> simp
      · rintro x A W ⟨v33, v34, v35, v36, v5, v6, b1, b2, p5, p6, rfl, hR⟩ hx hrd
        have q0 := ready_none hrd hx 0 _ rfl (by simp)
        have q2 := ready_none hrd hx 2 _ rfl (by simp)
        have q4 := ready_none hrd hx 4 _ rfl (by simp)
        have q5 := ready_none hrd hx 5 _ rfl (by simp)
        have q1 := ready_none hrd hx 1 _ rfl (by simp [q0])
        have q3 := ready_none hrd hx 3 _ rfl (by simp [q1, q2])
        have q6 := ready_none hrd hx 6 _ rfl (by simp [q0, q1, q2, q3, q4, q5])
        have q7 := ready_none hrd hx 7 _ rfl (by simp [q0, q1, q2, q3, q4, q5, q6])
        obtain ⟨e1, e2⟩ := hR.c34 q1
        obtain ⟨e3, e4⟩ := hR.c36 q3
        obtain ⟨e5, e6, e7, e8⟩ := hR.c5 q4
        obtain ⟨f5, f6, f7, f8⟩ := hR.c6 q5
        have e9 := (hR.s5 q6).2
        have f9 := (hR.s6 q7).2
        have hbW := hR.bel
        subst e1 e3 e5 f5
        have HW : Hid (Tb W b1 (ofSide l 1) ∧ Ts W b2 (ofSide l 2) ∧ W.rangeAt p5 0 (sideL_b b1) ∧ W.rangeAt p6 0 (sideL_s b2) ∧ p5 < W.heap.size ∧ p6 < W.heap.size ∧ Below wr.heap.size wr W) := ⟨e2, e4, e9, f9, e6, f6, hbW⟩
        clear hR q0 q1 q2 q3 q4 q5 q6 q7 e2 e4 e6 e7 e8 f6 f7 f8 e9 f9 hbW hrd hx
        have n1 : (ofSide l 1).length ≤ 20 := Nat.le_trans (List.length_filter_le _ _) h2
        have n2 : (ofSide l 2).length ≤ 20 := Nat.le_trans (List.length_filter_le _ _) h2
        obtain ⟨hT1, hT2, r5, r6, hp5, hp6, -⟩ := unhide HW
        have HBW := hide ((unhide HB2).trans (((unhide HB).trans ((unhide HW).2.2.2.2.2.2.mono (unhide HB).size)).mono (unhide HB2).size))
        have HT1 := hide hT1
        have HT2 := hide hT2
        have HR5 := hide r5
        have HR6 := hide r6
        have hb1s := treeAt_lt hT1
        have hb2s := treeAt_lt hT2
        clear hT1 hT2 r5 r6
        generalize hL1 : (lvsOf true 1 (ofSide l 1)).length = N1
        generalize hL2 : (lvsOf false 2 (ofSide l 2)).length = N2
        generalize hmt : meetB (quOf true (ofSide l 1)) (quOf false (ofSide l 2)) = mt
        generalize hb8 : decide (N1 + N2 ≤ 8) = b8
        have hN1 : N1 ≤ 20 := by rw [← hL1, lvsOf, List.length_map]; exact Nat.le_trans (tks_len _ _) n1
        have hN2 : N2 ≤ 20 := by rw [← hL2, lvsOf, List.length_map]; exact Nat.le_trans (tks_len _ _) n2
        have HOK : Hid (okI next l = (b8 && !mt)) := by
          show okI next l = _
          rw [okI, h1, h3, unhide HALL, hL1, hL2, hmt, hb8, decide_eq_true h2]; rfl
        have HLL : Hid ((lvsOf true 1 (ofSide l 1)).length = N1 ∧ (lvsOf false 2 (ofSide l 2)).length = N2 ∧ meetB (quOf true (ofSide l 1)) (quOf false (ofSide l 2)) = mt) := ⟨hL1, hL2, hmt⟩
        have h8' : decide ((N1 : Int) + N2 ≤ 8) = b8 := by rw [← hb8, Bool.eq_iff_iff]; simp; omega
        clear hL1 hL2 hmt hb8
        go_wp2_with fail
        refine wp_region_inv (RGrow W (fun f => { tmps := #[.agg #[.int .i64 next, .slice a l.length cap], .pointer (some ⟨w.heap.size, 0, none⟩), f 16, undef, u4, .pointer (some ⟨p5, 0, none⟩), .pointer (some ⟨p6, 0, none⟩), .pointer (some ⟨w.heap.size, 0, none⟩), .int .i64 next, .bool true, .bool false, .bool false, .pointer (some ⟨w.heap.size, 1, none⟩), .slice a l.length cap, .int .i64 l.length, .bool (decide ((20 : Int) < l.length)), .bool (decide ((20 : Int) < l.length)), .bool (decide ((20 : Int) < l.length)), .agg #[.int .i64 next, .slice a l.length cap], .bool true, .bool false, .bool (decide ((20 : Int) < l.length)), .pointer (some ⟨w.heap.size, 1, none⟩), .slice a l.length cap, .int .i64 l.length, .int .i64 k, .bool false, u27, u28, u29, u30, u31, u32, v33, side_b b1, v35, side_s b2, f 0, f 1, f 2, f 3, f 4, f 5, f 6, f 7, f 8, f 9, f 10, f 11, f 12, f 13, f 14, f 15], defers := [] }) (C10 b1 b2 p5 p6 N1 N2 b8 mt)) (by kernel_rfl) ?_ ?_ ?_
        · exact ⟨upd (fun _ => undef) 16 u2, rfl, ⟨rfl, rfl, rfl, Nat.le_refl _, fun _ _ => rfl⟩, fun j hj => by rw [List.getElem?_replicate] at hj; split at hj <;> simp at hj⟩
        · rintro x A V ⟨f, rfl, hbel, hC⟩ hx hrd
          have hall16 := ready_all hrd hx (acyc _ (by kernel_rfl)) 16 (by simp)
          have e16 : f 16 = .bool (b8 && !mt) := hC 16 hall16
          simp only [e16]
          have HBV := hide hbel
          clear hC hx hrd hall16 e16 hbel
          go_wp2_with fail
          go_ret
          exact ⟨ret_bool (unhide HOK).symm, (unhide HBW).trans ((unhide HBV).mono (unhide HBW).size)⟩
        · rintro x A V i o ⟨f, rfl, hbel, hC⟩ hx ho hxi hall
          have HBV := hide hbel
          have HC := hide hC
          match i, ho with
          | 0, ho =>
            simp only [List.getElem?_cons_zero, Option.some.injEq] at ho
            subst ho
            clear hall hC hbel
            rw [if_pos (by rfl)]
            unfold Oper.wp
            go_simp
            exact ⟨upd f 0 (.pointer (some ⟨p5, 2, none⟩)), by simp [upd], unhide HBV, step_upd (unhide HC) rfl⟩
          | 1, ho =>
            simp only [List.getElem?_cons_succ, List.getElem?_cons_zero, Option.some.injEq] at ho
            subst ho
            have g0 : C10 b1 b2 p5 p6 N1 N2 b8 mt 0 (f 0) := hC 0 (hall ⟨0, .data⟩ (by simp) rfl)
            simp only [C10] at g0
            have d2 := range_below (unhide HR5) hbel hp5 2 _ rfl
            clear hall hC hbel
            rw [if_pos (by rfl)]
            unfold Oper.wp
            go_simp
            exact ⟨upd f 1 (.func (.func 53) #[.pointer (some ⟨b1, 0, none⟩)] #[]), by simp [upd, g0], unhide HBV, step_upd (unhide HC) rfl⟩
          | 2, ho =>
            simp only [List.getElem?_cons_succ, List.getElem?_cons_zero, Option.some.injEq] at ho
            subst ho
            have g1 : C10 b1 b2 p5 p6 N1 N2 b8 mt 1 (f 1) := hC 1 (hall ⟨1, .data⟩ (by simp) rfl)
            simp only [C10] at g1
            have ht := treeAt_block (unhide HT1) (hbel.block _ hb1s)
            have HTV := hide ht
            clear hall hC hbel ht
            rw [if_pos (by rfl)]
            unfold Oper.wp
            go_simp
            refine (levels_b b1 1 (ofSide l 1) V (unhide HTV) n1).mono ?_
            rintro e w4 ⟨v4, rfl, ⟨al, cp, rfl, -, -⟩, hb4⟩
            rw [(unhide HLL).1]
            exact ⟨upd f 2 (.slice al N1 cp), by simp [upd, g1], (unhide HBV).trans (hb4.mono (unhide HBV).size), step_upd (unhide HC) ⟨al, cp, rfl⟩⟩
          | 3, ho =>
            simp only [List.getElem?_cons_succ, List.getElem?_cons_zero, Option.some.injEq] at ho
            subst ho
            have g2 : C10 b1 b2 p5 p6 N1 N2 b8 mt 2 (f 2) := hC 2 (hall ⟨2, .data⟩ (by simp) rfl)
            obtain ⟨al, cp, g2⟩ := g2
            clear hall hC hbel
            rw [if_pos (by rfl)]
            unfold Oper.wp
            go_simp
            exact ⟨upd f 3 (.int .i64 N1), by simp [upd, g2], unhide HBV, step_upd (unhide HC) rfl⟩
          | 4, ho =>
            simp only [List.getElem?_cons_succ, List.getElem?_cons_zero, Option.some.injEq] at ho
            subst ho
            clear hall hC hbel
            rw [if_pos (by rfl)]
            unfold Oper.wp
            go_simp
            exact ⟨upd f 4 (.pointer (some ⟨p6, 2, none⟩)), by simp [upd], unhide HBV, step_upd (unhide HC) rfl⟩
          | 5, ho =>
            simp only [List.getElem?_cons_succ, List.getElem?_cons_zero, Option.some.injEq] at ho
            subst ho
            have g4 : C10 b1 b2 p5 p6 N1 N2 b8 mt 4 (f 4) := hC 4 (hall ⟨4, .data⟩ (by simp) rfl)
            simp only [C10] at g4
            have d2 := range_below (unhide HR6) hbel hp6 2 _ rfl
            clear hall hC hbel
            rw [if_pos (by rfl)]
            unfold Oper.wp
            go_simp
            exact ⟨upd f 5 (.func (.func 57) #[.pointer (some ⟨b2, 0, none⟩)] #[]), by simp [upd, g4], unhide HBV, step_upd (unhide HC) rfl⟩
          | 6, ho =>
            simp only [List.getElem?_cons_succ, List.getElem?_cons_zero, Option.some.injEq] at ho
            subst ho
            have g5 : C10 b1 b2 p5 p6 N1 N2 b8 mt 5 (f 5) := hC 5 (hall ⟨5, .data⟩ (by simp) rfl)
            simp only [C10] at g5
            have ht := treeAt_block (unhide HT2) (hbel.block _ hb2s)
            have HTV := hide ht
            clear hall hC hbel ht
            rw [if_pos (by rfl)]
            unfold Oper.wp
            go_simp
            refine (levels_s b2 2 (ofSide l 2) V (unhide HTV) n2).mono ?_
            rintro e w4 ⟨v4, rfl, ⟨al, cp, rfl, -, -⟩, hb4⟩
            rw [(unhide HLL).2.1]
            exact ⟨upd f 6 (.slice al N2 cp), by simp [upd, g5], (unhide HBV).trans (hb4.mono (unhide HBV).size), step_upd (unhide HC) ⟨al, cp, rfl⟩⟩
          | 7, ho =>
            simp only [List.getElem?_cons_succ, List.getElem?_cons_zero, Option.some.injEq] at ho
            subst ho
            have g6 : C10 b1 b2 p5 p6 N1 N2 b8 mt 6 (f 6) := hC 6 (hall ⟨6, .data⟩ (by simp) rfl)
            obtain ⟨al, cp, g6⟩ := g6
            clear hall hC hbel
            rw [if_pos (by rfl)]
            unfold Oper.wp
            go_simp
            exact ⟨upd f 7 (.int .i64 N2), by simp [upd, g6], unhide HBV, step_upd (unhide HC) rfl⟩
          | 8, ho =>
            simp only [List.getElem?_cons_succ, List.getElem?_cons_zero, Option.some.injEq] at ho
            subst ho
            have g3 : C10 b1 b2 p5 p6 N1 N2 b8 mt 3 (f 3) := hC 3 (hall ⟨3, .data⟩ (by simp) rfl)
            have g7 : C10 b1 b2 p5 p6 N1 N2 b8 mt 7 (f 7) := hC 7 (hall ⟨7, .data⟩ (by simp) rfl)
            simp only [C10] at g3
            simp only [C10] at g7
            have hwr8 : IntKind.i64.wrap ((N1 : Int) + N2) = (N1 : Int) + N2 := by rw [IntKind.wrap_i64]; omega
            clear hall hC hbel
            rw [if_pos (by rfl)]
            unfold Oper.wp
            go_simp
            exact ⟨upd f 8 (.int .i64 ((N1 : Int) + N2)), by simp [upd, g3, g7], unhide HBV, step_upd (unhide HC) rfl⟩
          | 9, ho =>
            simp only [List.getElem?_cons_succ, List.getElem?_cons_zero, Option.some.injEq] at ho
            subst ho
            have g8 : C10 b1 b2 p5 p6 N1 N2 b8 mt 8 (f 8) := hC 8 (hall ⟨8, .data⟩ (by simp) rfl)
            simp only [C10] at g8
            clear hall hC hbel
            rw [if_pos (by rfl)]
            unfold Oper.wp
            go_simp
            exact ⟨upd f 9 (.bool b8), by simp [upd, g8], unhide HBV, step_upd (unhide HC) rfl⟩
          | 10, ho =>
            simp only [List.getElem?_cons_succ, List.getElem?_cons_zero, Option.some.injEq] at ho
            subst ho
            have g9 : C10 b1 b2 p5 p6 N1 N2 b8 mt 9 (f 9) := hC 9 (hall ⟨9, .data⟩ (by simp) rfl)
            simp only [C10] at g9
            clear hall hC hbel
            rw [if_pos (by rfl)]
            unfold Oper.wp
            go_simp
            exact ⟨upd f 10 (.bool b8), by simp [upd, g9], unhide HBV, step_upd (unhide HC) rfl⟩
          | 11, ho =>
            simp only [List.getElem?_cons_succ, List.getElem?_cons_zero, Option.some.injEq] at ho
            subst ho
            have g10 : C10 b1 b2 p5 p6 N1 N2 b8 mt 10 (f 10) := hC 10 (hall ⟨10, .guard⟩ (by simp) rfl)
            have g10 : f 10 = .bool b8 := g10
            cases b8
            · rw [if_neg (by simp [Region.wanted, yielded, g10])]
              exact ⟨upd f 11 undef, by simp [upd, Act.put], unhide HBV, step_upd (unhide HC) (fun h => by cases h)⟩
            · rw [if_pos (by simp [Region.wanted, yielded, g10])]
              have d0 := range_below (unhide HR5) hbel hp5 0 _ rfl
              have d1 := range_below (unhide HR5) hbel hp5 1 _ rfl
              have d2 := range_below (unhide HR5) hbel hp5 2 _ rfl
              clear hall hC hbel
              unfold Oper.wp
              go_simp
              exact ⟨upd f 11 (side_b b1), by simp [upd, g10, side_b], unhide HBV, step_upd (unhide HC) (fun _ => rfl)⟩
          | 12, ho =>
            simp only [List.getElem?_cons_succ, List.getElem?_cons_zero, Option.some.injEq] at ho
            subst ho
            have g10 : C10 b1 b2 p5 p6 N1 N2 b8 mt 10 (f 10) := hC 10 (hall ⟨10, .guard⟩ (by simp) rfl)
            have g10 : f 10 = .bool b8 := g10
            cases b8
            · rw [if_neg (by simp [Region.wanted, yielded, g10])]
              exact ⟨upd f 12 undef, by simp [upd, Act.put], unhide HBV, step_upd (unhide HC) (fun h => by cases h)⟩
            · rw [if_pos (by simp [Region.wanted, yielded, g10])]
              have d0 := range_below (unhide HR6) hbel hp6 0 _ rfl
              have d1 := range_below (unhide HR6) hbel hp6 1 _ rfl
              have d2 := range_below (unhide HR6) hbel hp6 2 _ rfl
              clear hall hC hbel
              unfold Oper.wp
              go_simp
              exact ⟨upd f 12 (side_s b2), by simp [upd, g10, side_s], unhide HBV, step_upd (unhide HC) (fun _ => rfl)⟩
          | 13, ho =>
            simp only [List.getElem?_cons_succ, List.getElem?_cons_zero, Option.some.injEq] at ho
            subst ho
            have g10 : C10 b1 b2 p5 p6 N1 N2 b8 mt 10 (f 10) := hC 10 (hall ⟨10, .guard⟩ (by simp) rfl)
            have g11 : C10 b1 b2 p5 p6 N1 N2 b8 mt 11 (f 11) := hC 11 (hall ⟨11, .data⟩ (by simp) rfl)
            have g12 : C10 b1 b2 p5 p6 N1 N2 b8 mt 12 (f 12) := hC 12 (hall ⟨12, .data⟩ (by simp) rfl)
            have g10 : f 10 = .bool b8 := g10
            cases b8
            · rw [if_neg (by simp [Region.wanted, yielded, g10])]
              exact ⟨upd f 13 undef, by simp [upd, Act.put], unhide HBV, step_upd (unhide HC) (fun h => by cases h)⟩
            · rw [if_pos (by simp [Region.wanted, yielded, g10])]
              have e11 : f 11 = side_b b1 := g11 rfl
              have e12 : f 12 = side_s b2 := g12 rfl
              have HTV1 := hide (treeAt_block (unhide HT1) (hbel.block _ hb1s))
              have HTV2 := hide (treeAt_block (unhide HT2) (hbel.block _ hb2s))
              clear hall hC hbel g11 g12
              unfold Oper.wp
              go_simp
              refine (sidesMeet_any b1 b2 1 2 (ofSide l 1) (ofSide l 2) V (unhide HTV1) (unhide HTV2) n1 n2).mono ?_
              rintro e w4 ⟨rfl, hb4⟩
              rw [(unhide HLL).2.2]
              exact ⟨upd f 13 (.bool mt), by simp [upd, g10, e11, e12], (unhide HBV).trans (hb4.mono (unhide HBV).size), step_upd (unhide HC) (fun _ => rfl)⟩
          | 14, ho =>
            simp only [List.getElem?_cons_succ, List.getElem?_cons_zero, Option.some.injEq] at ho
            subst ho
            have g10 : C10 b1 b2 p5 p6 N1 N2 b8 mt 10 (f 10) := hC 10 (hall ⟨10, .guard⟩ (by simp) rfl)
            have g13 : C10 b1 b2 p5 p6 N1 N2 b8 mt 13 (f 13) := hC 13 (hall ⟨13, .data⟩ (by simp) rfl)
            have g10 : f 10 = .bool b8 := g10
            cases b8
            · rw [if_neg (by simp [Region.wanted, yielded, g10])]
              exact ⟨upd f 14 undef, by simp [upd, Act.put], unhide HBV, step_upd (unhide HC) (fun h => by cases h)⟩
            · rw [if_pos (by simp [Region.wanted, yielded, g10])]
              have e13 : f 13 = .bool mt := g13 rfl
              clear hall hC hbel g13
              unfold Oper.wp
              go_simp
              exact ⟨upd f 14 (.bool (!mt)), by simp [upd, g10, e13], unhide HBV, step_upd (unhide HC) (fun _ => rfl)⟩
          | 15, ho =>
            simp only [List.getElem?_cons_succ, List.getElem?_cons_zero, Option.some.injEq] at ho
            subst ho
            have g10 : C10 b1 b2 p5 p6 N1 N2 b8 mt 10 (f 10) := hC 10 (hall ⟨10, .data⟩ (by simp) rfl)
            have g14 : C10 b1 b2 p5 p6 N1 N2 b8 mt 14 (f 14) := hC 14 (hall ⟨14, .data⟩ (by simp) rfl)
            have g10 : f 10 = .bool b8 := g10
            cases b8
            · clear hall hC hbel g14
              rw [if_pos (by rfl)]
              unfold Oper.wp
              go_simp
              exact ⟨upd f 15 (.bool false), by simp [upd, g10], unhide HBV, step_upd (unhide HC) rfl⟩
            · have e14 : f 14 = .bool (!mt) := g14 rfl
              clear hall hC hbel g14
              rw [if_pos (by rfl)]
              unfold Oper.wp
              go_simp
              exact ⟨upd f 15 (.bool (!mt)), by simp [upd, g10, e14], unhide HBV, step_upd (unhide HC) rfl⟩
          | 16, ho =>
            simp only [List.getElem?_cons_succ, List.getElem?_cons_zero, Option.some.injEq] at ho
            subst ho
            have g15 : C10 b1 b2 p5 p6 N1 N2 b8 mt 15 (f 15) := hC 15 (hall ⟨15, .data⟩ (by simp) rfl)
            simp only [C10] at g15
            clear hall hC hbel
            rw [if_pos (by rfl)]
            unfold Oper.wp
            go_simp
            exact ⟨upd f 16 (.bool (b8 && !mt)), by simp [upd, g15], unhide HBV, step_upd (unhide HC) rfl⟩
          | n + 17, ho => simp at ho
      · rintro x A W i o ⟨v33, v34, v35, v36, v5, v6, b1, b2, p5, p6, rfl, hR⟩ hx ho hxi hall
        have HRR := hide hR
        have z0 := (hR.bel.cell (p := ⟨w.heap.size, 0, none⟩) hwr).trans (unhide HY).1
        have z1 := (hR.bel.cell (p := ⟨w.heap.size, 1, none⟩) hwr).trans (unhide HY).2
        have HRD := hide (rdR_below (unhide HRr) hR.bel (Nat.le_refl _))
        match i, ho with
        | 0, ho =>
          simp only [List.getElem?_cons_zero, Option.some.injEq] at ho
          subst ho
          rw [if_pos (by rfl)]
          unfold Oper.wp
          clear hall hR
          go_simp
          exact ⟨_, _, _, _, _, _, ⟨rfl, rfl, rfl, rfl, rfl, rfl⟩, _, _, _, _, rw9_0 (unhide HRR)⟩
        | 1, ho =>
          simp only [List.getElem?_cons_succ, List.getElem?_cons_zero, Option.some.injEq] at ho
          subst ho
          have h0 : x[0]? = some true := hall ⟨0, .data⟩ (by simp) rfl
          obtain rfl := hR.c33 h0
          have h6 : x[6]? ≠ some true := fun e => by have := (hR.s5 e).1.1; rw [hxi] at this; cases this
          clear hall hR
          rw [if_pos (by rfl)]
          unfold Oper.wp
          go_simp
          refine (sideOf_buy next _ l W (unhide HRD) h2 (unhide HLB)).mono ?_
          rintro e w3 ⟨b, rfl, ht, hle, hb⟩
          exact ⟨_, _, _, _, _, _, ⟨rfl, rfl, rfl, rfl, rfl, rfl⟩, b, _, _, _, rw9_1 (unhide HRR) h6 hb hle ht⟩
        | 2, ho =>
          simp only [List.getElem?_cons_succ, List.getElem?_cons_zero, Option.some.injEq] at ho
          subst ho
          rw [if_pos (by rfl)]
          unfold Oper.wp
          clear hall hR
          go_simp
          exact ⟨_, _, _, _, _, _, ⟨rfl, rfl, rfl, rfl, rfl, rfl⟩, _, _, _, _, rw9_2 (unhide HRR)⟩
        | 3, ho =>
          simp only [List.getElem?_cons_succ, List.getElem?_cons_zero, Option.some.injEq] at ho
          subst ho
          have h22 : x[2]? = some true := hall ⟨2, .data⟩ (by simp) rfl
          obtain rfl := hR.c35 h22
          have h7 : x[7]? ≠ some true := fun e => by have := (hR.s6 e).1.1; rw [hxi] at this; cases this
          clear hall hR
          rw [if_pos (by rfl)]
          unfold Oper.wp
          go_simp
          refine (sideOf_sell next 2 (by omega) _ l W (unhide HRD) h2 (unhide HLB)).mono ?_
          rintro e w3 ⟨b, rfl, ht, hle, hb⟩
          exact ⟨_, _, _, _, _, _, ⟨rfl, rfl, rfl, rfl, rfl, rfl⟩, _, b, _, _, rw9_3 (unhide HRR) h7 hb hle ht⟩
        | 4, ho =>
          simp only [List.getElem?_cons_succ, List.getElem?_cons_zero, Option.some.injEq] at ho
          subst ho
          have h6 : x[6]? ≠ some true := fun e => by have := (hR.s5 e).1.2; rw [hxi] at this; cases this
          clear hall hR
          rw [if_pos (by rfl)]
          unfold Oper.wp
          go_simp
          exact ⟨_, _, _, _, _, _, ⟨rfl, rfl, rfl, rfl, rfl, rfl⟩, _, _, _, _, rw9_4 (unhide HRR) h6 _⟩
        | 5, ho =>
          simp only [List.getElem?_cons_succ, List.getElem?_cons_zero, Option.some.injEq] at ho
          subst ho
          have h7 : x[7]? ≠ some true := fun e => by have := (hR.s6 e).1.2; rw [hxi] at this; cases this
          clear hall hR
          rw [if_pos (by rfl)]
          unfold Oper.wp
          go_simp
          exact ⟨_, _, _, _, _, _, ⟨rfl, rfl, rfl, rfl, rfl, rfl⟩, _, _, _, _, rw9_5 (unhide HRR) h7 _⟩
        | 6, ho =>
          simp only [List.getElem?_cons_succ, List.getElem?_cons_zero, Option.some.injEq] at ho
          subst ho
          have k1 : x[1]? = some true := hall ⟨1, .data⟩ (by simp) rfl
          have k3 : x[3]? = some true := hall ⟨3, .chain⟩ (by simp) rfl
          have k4 : x[4]? = some true := hall ⟨4, .data⟩ (by simp) rfl
          have k5 : x[5]? = some true := hall ⟨5, .phase⟩ (by simp) rfl
          obtain rfl := (hR.c34 k1).1
          obtain ⟨e5, -, -, e8⟩ := hR.c5 k4
          subst e5
          obtain ⟨⟨x0, y0, z0'⟩, ⟨x1, y1, z1'⟩, x2, y2, z2'⟩ : (∃ v, W.cell? ⟨p5, 0, none⟩ = some v ∧ W.frozen? ⟨p5, 0, none⟩ = false) ∧ (∃ v, W.cell? ⟨p5, 1, none⟩ = some v ∧ W.frozen? ⟨p5, 1, none⟩ = false) ∧ (∃ v, W.cell? ⟨p5, 2, none⟩ = some v ∧ W.frozen? ⟨p5, 2, none⟩ = false) := ⟨by simpa using there1O e8 0 (by omega), by simpa using there1O e8 1 (by omega), by simpa using there1O e8 2 (by omega)⟩
          have HE := hide (rw9_6 (unhide HRR) k1 k3 k4 k5 (F0 := _) (F1 := _) (F2 := _) rfl)
          clear hall hR z0 z1 e8
          unfold side_b at HE ⊢
          generalize hF0 : Value.func (.func 51) #[.pointer (some ⟨b1, 0, none⟩)] #[] = F0 at HE ⊢
          generalize hF1 : Value.func (.func 52) #[.pointer (some ⟨b1, 0, none⟩)] #[] = F1 at HE ⊢
          generalize hF2 : Value.func (.func 53) #[.pointer (some ⟨b1, 0, none⟩)] #[] = F2 at HE ⊢
          have hst : ∀ (V : World) (o : Nat) (m : Mode), ((store ⟨p5, o, none⟩ F0 m).run Try.prog V = stored Try.prog V ⟨p5, o, none⟩ F0 m) ∧ ((store ⟨p5, o, none⟩ F1 m).run Try.prog V = stored Try.prog V ⟨p5, o, none⟩ F1 m) ∧ ((store ⟨p5, o, none⟩ F2 m).run Try.prog V = stored Try.prog V ⟨p5, o, none⟩ F2 m) := fun V o m => by
            subst hF0 hF1 hF2
            exact ⟨run_store _ V _ _ m rfl, run_store _ V _ _ m rfl, run_store _ V _ _ m rfl⟩
          have hst0 := fun V o m => (hst V o m).1
          have hst1 := fun V o m => (hst V o m).2.1
          have hst2 := fun V o m => (hst V o m).2.2
          clear hst hF0 hF1 hF2
          rw [if_pos (by rfl)]
          unfold Oper.wp
          go_simp
          exact ⟨_, _, _, _, _, _, ⟨rfl, rfl, rfl, rfl, rfl, rfl⟩, _, _, _, _, unhide HE⟩
        | 7, ho =>
          simp only [List.getElem?_cons_succ, List.getElem?_cons_zero, Option.some.injEq] at ho
          subst ho
          have k1 : x[1]? = some true := hall ⟨1, .phase⟩ (by simp) rfl
          have k3 : x[3]? = some true := hall ⟨3, .data⟩ (by simp) rfl
          have k4 : x[4]? = some true := hall ⟨4, .phase⟩ (by simp) rfl
          have k5 : x[5]? = some true := hall ⟨5, .data⟩ (by simp) rfl
          obtain rfl := (hR.c36 k3).1
          obtain ⟨e5, -, -, e8⟩ := hR.c6 k5
          subst e5
          obtain ⟨⟨x0, y0, z0'⟩, ⟨x1, y1, z1'⟩, x2, y2, z2'⟩ : (∃ v, W.cell? ⟨p6, 0, none⟩ = some v ∧ W.frozen? ⟨p6, 0, none⟩ = false) ∧ (∃ v, W.cell? ⟨p6, 1, none⟩ = some v ∧ W.frozen? ⟨p6, 1, none⟩ = false) ∧ (∃ v, W.cell? ⟨p6, 2, none⟩ = some v ∧ W.frozen? ⟨p6, 2, none⟩ = false) := ⟨by simpa using there1O e8 0 (by omega), by simpa using there1O e8 1 (by omega), by simpa using there1O e8 2 (by omega)⟩
          have HE := hide (rw9_7 (unhide HRR) k1 k3 k4 k5 (F0 := _) (F1 := _) (F2 := _) rfl)
          clear hall hR z0 z1 e8
          unfold side_s at HE ⊢
          generalize hF0 : Value.func (.func 55) #[.pointer (some ⟨b2, 0, none⟩)] #[] = F0 at HE ⊢
          generalize hF1 : Value.func (.func 56) #[.pointer (some ⟨b2, 0, none⟩)] #[] = F1 at HE ⊢
          generalize hF2 : Value.func (.func 57) #[.pointer (some ⟨b2, 0, none⟩)] #[] = F2 at HE ⊢
          have hst : ∀ (V : World) (o : Nat) (m : Mode), ((store ⟨p6, o, none⟩ F0 m).run Try.prog V = stored Try.prog V ⟨p6, o, none⟩ F0 m) ∧ ((store ⟨p6, o, none⟩ F1 m).run Try.prog V = stored Try.prog V ⟨p6, o, none⟩ F1 m) ∧ ((store ⟨p6, o, none⟩ F2 m).run Try.prog V = stored Try.prog V ⟨p6, o, none⟩ F2 m) := fun V o m => by
            subst hF0 hF1 hF2
            exact ⟨run_store _ V _ _ m rfl, run_store _ V _ _ m rfl, run_store _ V _ _ m rfl⟩
          have hst0 := fun V o m => (hst V o m).1
          have hst1 := fun V o m => (hst V o m).2.1
          have hst2 := fun V o m => (hst V o m).2.2
          clear hst hF0 hF1 hF2
          rw [if_pos (by rfl)]
          unfold Oper.wp
          go_simp
          exact ⟨_, _, _, _, _, _, ⟨rfl, rfl, rfl, rfl, rfl, rfl⟩, _, _, _, _, unhide HE⟩
        | n + 8, ho => simp at ho
end Go.Proofs.Ythkhankhddcacah
