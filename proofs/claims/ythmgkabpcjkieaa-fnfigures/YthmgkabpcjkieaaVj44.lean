/-
  The figures of totals and a right book, by the program: proved by walking the function.
-/
import Derived.Test.YthmgkabpcjkieaaVj43
namespace Go.Proofs.Ythmgkabpcjkieaa
open Go.RowKit
set_option linter.unusedVariables false
/-- What each operation of the last part has. -/
def CF (S p q : Nat) (b1 b2 : Nat) (te tf A B : Int) (m s : Nat) (W : World) : Nat → Value → Prop
  | 0, v => v = .pointer (some ⟨S, 5, none⟩)
  | 1, v => v = .int .i64 tf
  | 2, v => v = .pointer (some ⟨S, 4, none⟩)
  | 3, v => v = .int .i64 te
  | 5, v => v = .float .f64 m
  | 6, v => v = .float .f64 s
  | 7, v => v = .agg #[.func (.func 61) #[.pointer (some ⟨b1, 0, none⟩)] #[], .func (.func 62) #[.pointer (some ⟨b1, 0, none⟩)] #[], .func (.func 63) #[.pointer (some ⟨b1, 0, none⟩)] #[]]
  | 8, v => v = .int .i64 A
  | 9, v => v = .agg #[.func (.func 65) #[.pointer (some ⟨b2, 0, none⟩)] #[], .func (.func 66) #[.pointer (some ⟨b2, 0, none⟩)] #[], .func (.func 67) #[.pointer (some ⟨b2, 0, none⟩)] #[]]
  | 10, v => v = .int .i64 B
  | 4, v => ∃ x, v = .float .f64 (fbit x) ∧ HasF (vwO tf te) x
  | 11, v => ∃ y, v = .float .f64 (fbit y) ∧ HasF (tlO A B) y
  | 12, v => ∃ x y, v = .agg #[.float .f64 (fbit x), .float .f64 m, .float .f64 s, .float .f64 (fbit y)] ∧ HasF (vwO tf te) x ∧ HasF (tlO A B) y
  | _, _ => True
theorem ry_keep {C : World → Nat → Value → Prop} {n : Nat} {Q : (Nat → Value) → World → Prop} {base W : World} {x : List Bool} {f : Nat → Value} (h : RY C n Q base x f W) {i : Nat} (hn : x[n]? = some true) (hin : i ≠ n) : RY C n Q base (x.set i true) f W :=
  ⟨fun e => (by rw [gqY hin, hn] at e; cases e), fun e => (by rw [gqY hin, hn] at e; cases e), fun _ => h.m hn⟩
set_option maxRecDepth 100000 in
set_option maxHeartbeats 3200000 in
theorem implFig_ok (ta tb tc td te tf tg th next : Int) (v : Value) (l : List Od) (w : World) (hr : RdR Od.vs 6 w v l) (hg : ∀ c ∈ l, c.tag.size ≤ maxLen) (hok : okS next l = true) (hte : 0 ≤ te) (htf : 0 ≤ tf) :
    Calls Try.prog 6 #[.agg #[.int .i64 ta, .int .i64 tb, .int .i64 tc, .int .i64 td, .int .i64 te, .int .i64 tf, .int .i64 tg, .int .i64 th], .agg #[.int .i64 next, v]] w fun e w' => ∃ x m s y, e = .returned (.tuple #[.agg #[.float .f64 (fbit x), .float .f64 m, .float .f64 s, .float .f64 (fbit y)], .int .i64 0]) ∧ HasF (vwO tf te) x ∧ HasF (mdO (quOf true (ofSide l 1)) (quOf false (ofSide l 2))) m ∧ HasF (spO (quOf true (ofSide l 1)) (quOf false (ofSide l 2))) s ∧ HasF (tlO (sumL (ofSide l 1)) (sumL (ofSide l 2))) y ∧ Below w.heap.size w w' := by
  have HR := hide hr
  have HOK := hide (fun W h => implBookOK_any next v l W h hg)
  rw [okI_eq, hok] at HOK
  obtain ⟨h2, _, hlb⟩ := okF_left hok
  have HLB := hide hlb
  obtain ⟨a, cap, rfl, _, _⟩ := hr
  have HM := hide (fg_made w [.int .i64 ta, .int .i64 tb, .int .i64 tc, .int .i64 td, .int .i64 te, .int .i64 tf, .int .i64 tg, .int .i64 th] [.int .i64 next, .slice a l.length cap] [.float .f64 0, .float .f64 0, .float .f64 0, .float .f64 0] 28 26 37)
  have hsf := sflF
  have hte' : ¬ te < 0 := by omega
  have htf' : ¬ tf < 0 := by omega
  clear hg hlb hok
  go_enter Try.func6, Try.ntmps6
  go_wp2_with fail
  change Calls _ _ _ (((w.alloc (Obj.cells #[.int .i64 ta, .int .i64 tb, .int .i64 tc, .int .i64 td, .int .i64 te, .int .i64 tf, .int .i64 tg, .int .i64 th] 28)).alloc (Obj.cells #[.int .i64 next, .slice a l.length cap] 26)).alloc (Obj.cells #[.float .f64 0, .float .f64 0, .float .f64 0, .float .f64 0] 37)) _
  generalize (((w.alloc (Obj.cells #[.int .i64 ta, .int .i64 tb, .int .i64 tc, .int .i64 td, .int .i64 te, .int .i64 tf, .int .i64 tg, .int .i64 th] 28)).alloc (Obj.cells #[.int .i64 next, .slice a l.length cap] 26)).alloc (Obj.cells #[.float .f64 0, .float .f64 0, .float .f64 0, .float .f64 0] 37)) = X at HM ⊢
  have HM : Hid (Fg w X [.int .i64 ta, .int .i64 tb, .int .i64 tc, .int .i64 td, .int .i64 te, .int .i64 tf, .int .i64 tg, .int .i64 th] [.int .i64 next, .slice a l.length cap] [.float .f64 0, .float .f64 0, .float .f64 0, .float .f64 0]) := unhide HM
  refine (unhide HOK X (rdR_below (unhide HR) (unhide HM).b (Nat.le_refl _))).mono ?_
  rintro e wr ⟨rfl, hbW⟩
  have HF := hide (fg_below (unhide HM) hbW)
  clear hbW HM HOK
  have c4 : wr.cell? ⟨w.heap.size, 4, none⟩ = some (.int .i64 te) := bx_cell (unhide HF).t 4 rfl
  have c5 : wr.cell? ⟨w.heap.size, 5, none⟩ = some (.int .i64 tf) := bx_cell (unhide HF).t 5 rfl
  have y0 : wr.cell? ⟨w.heap.size + 1 + 1, 0, none⟩ = some (.float .f64 0) := bx_cell (unhide HF).o 0 rfl
  have q0 : wr.frozen? ⟨w.heap.size + 1 + 1, 0, none⟩ = false := bx_free (unhide HF).o 0 (by decide)
  have y1 : wr.cell? ⟨w.heap.size + 1 + 1, 1, none⟩ = some (.float .f64 0) := bx_cell (unhide HF).o 1 rfl
  have q1 : wr.frozen? ⟨w.heap.size + 1 + 1, 1, none⟩ = false := bx_free (unhide HF).o 1 (by decide)
  have y2 : wr.cell? ⟨w.heap.size + 1 + 1, 2, none⟩ = some (.float .f64 0) := bx_cell (unhide HF).o 2 rfl
  have q2 : wr.frozen? ⟨w.heap.size + 1 + 1, 2, none⟩ = false := bx_free (unhide HF).o 2 (by decide)
  have y3 : wr.cell? ⟨w.heap.size + 1 + 1, 3, none⟩ = some (.float .f64 0) := bx_cell (unhide HF).o 3 rfl
  have q3 : wr.frozen? ⟨w.heap.size + 1 + 1, 3, none⟩ = false := bx_free (unhide HF).o 3 (by decide)
  go_wp2_with fail
  have HRr := hide (rdR_below (unhide HR) (unhide HF).b (Nat.le_refl _))
  have hwr : w.heap.size + 1 < wr.heap.size := by have := (unhide HF).z; omega
  have HY : Hid (wr.cell? ⟨w.heap.size + 1, 0, none⟩ = some (.int .i64 next) ∧ wr.cell? ⟨w.heap.size + 1, 1, none⟩ = some (.slice a l.length cap)) := ⟨bx_cell (unhide HF).k 0 rfl, bx_cell (unhide HF).k 1 rfl⟩
  clear c4 c5 y0 y1 y2 y3 q0 q1 q2 q3
  refine wp_region_inv (fun x A W => ∃ v33 v34 v35 v36 v5 v6 b1 b2 p5 p6, A = { tmps := #[.agg #[.int .i64 ta, .int .i64 tb, .int .i64 tc, .int .i64 td, .int .i64 te, .int .i64 tf, .int .i64 tg, .int .i64 th], .agg #[.int .i64 next, .slice a l.length cap], .pointer (some ⟨w.heap.size, 0, none⟩), .pointer (some ⟨w.heap.size + 1, 0, none⟩), .pointer (some ⟨w.heap.size + 1 + 1, 0, none⟩), .int .i64 0, v5, v6, undef, undef, .agg #[.int .i64 next, .slice a l.length cap], .bool true, .bool false, .bool false, .pointer (some ⟨w.heap.size, 4, none⟩), .int .i64 te, .bool (decide (te < 0)), .bool (decide (te < 0)), .bool (decide (te < 0)), .pointer (some ⟨w.heap.size, 5, none⟩), .int .i64 tf, .bool (decide (tf < 0)), .bool (decide (te < 0) || decide (tf < 0)), undef, v33, v34, v35, v36, undef, undef, undef, undef, undef, undef, undef, undef, undef, undef, undef, undef, undef, undef, undef, undef, undef, undef, undef], defers := [] } ∧ RW9 wr (.agg #[.int .i64 next, .slice a l.length cap]) (ofSide l 1) (ofSide l 2) x v33 v34 v35 v36 v5 v6 b1 b2 p5 p6 W) (by kernel_rfl) ?_ ?_ ?_
  · refine ⟨undef, undef, undef, undef, undef, undef, 0, 0, 0, 0, rfl, ?_⟩
    refine ⟨⟨rfl, rfl, rfl, Nat.le_refl _, fun _ _ => rfl⟩, ?_, ?_, ?_, ?_, ?_, ?_, ?_, ?_, ?_, ?_, ?_, ?_, ?_⟩ <;> simp
  · rintro x A W ⟨v33, v34, v35, v36, v5, v6, b1, b2, p5, p6, rfl, hR⟩ hx hrd
    have q0 := ready_none hrd hx 0 _ rfl (by simp)
    have q2 := ready_none hrd hx 2 _ rfl (by simp)
    have q4 := ready_none hrd hx 4 _ rfl (by simp)
    have q5 := ready_none hrd hx 5 _ rfl (by simp)
    have q1 := ready_none hrd hx 1 _ rfl (by simp [q0])
    have q3 := ready_none hrd hx 3 _ rfl (by simp [q1, q2])
    have q6 := ready_none hrd hx 6 _ rfl (by simp [q0, q1, q2, q3, q4, q5])
    have q7 := ready_none hrd hx 7 _ rfl (by simp [q0, q1, q2, q3, q4, q5, q6])
    obtain ⟨e1, e2⟩ := hR.c34 q1
    obtain ⟨e3, e4⟩ := hR.c36 q3
    obtain ⟨e5, e6, e7, e8⟩ := hR.c5 q4
    obtain ⟨f5, f6, f7, f8⟩ := hR.c6 q5
    have e9 := (hR.s5 q6).2
    have f9 := (hR.s6 q7).2
    have hbW := hR.bel
    subst e1 e3 e5 f5
    have HF2 := hide (fg_below (unhide HF) hbW)
    have HT1 := hide e2
    have HT2 := hide e4
    have HR5 := hide e9
    have HR6 := hide f9
    have hp5 := e6
    have hp6 := f6
    have hb1s := treeAt_lt e2
    have hb2s := treeAt_lt e4
    have n1 : (ofSide l 1).length ≤ 20 := Nat.le_trans (List.length_filter_le _ _) h2
    have n2 : (ofSide l 2).length ≤ 20 := Nat.le_trans (List.length_filter_le _ _) h2
    clear hR q0 q1 q2 q3 q4 q5 q6 q7 e2 e4 e6 e7 e8 f6 f7 f8 e9 f9 hbW hrd hx HY HRr HF
    generalize v33 = u33
    generalize v35 = u35
    have d0 := unhide HR5 0 _ rfl
    have d1 := unhide HR5 1 _ rfl
    have d2 := unhide HR5 2 _ rfl
    have e0 := unhide HR6 0 _ rfl
    have e1 := unhide HR6 1 _ rfl
    have e2 := unhide HR6 2 _ rfl
    rw [Nat.zero_add] at d0 d1 d2 e0 e1 e2
    go_wp2_with fail
    refine (mid_any b1 b2 1 2 (ofSide l 1) (ofSide l 2) W (unhide HT1) (unhide HT2) n1 n2).mono ?_
    rintro e w4 ⟨m, s, rfl, hm, hs, hb4⟩
    have HMM := hide hm
    have HSS := hide hs
    have HF4 := hide (fg_below (unhide HF2) hb4)
    have HT14 := hide (treeAt_block (unhide HT1) (hb4.block _ hb1s))
    have HT24 := hide (treeAt_block (unhide HT2) (hb4.block _ hb2s))
    have HR54 := hide (range_below (unhide HR5) hb4 hp5)
    have HR64 := hide (range_below (unhide HR6) hb4 hp6)
    have hp54 : p5 < w4.heap.size := Nat.lt_of_lt_of_le hp5 hb4.size
    have hp64 : p6 < w4.heap.size := Nat.lt_of_lt_of_le hp6 hb4.size
    have hb14 : b1 < w4.heap.size := Nat.lt_of_lt_of_le hb1s hb4.size
    have hb24 : b2 < w4.heap.size := Nat.lt_of_lt_of_le hb2s hb4.size
    clear hb4 hm hs HT1 HT2 HR5 HR6 HF2 d0 d1 d2 e0 e1 e2
    go_wp2_with fail
    obtain ⟨A, hA⟩ : ∃ A, A = sumL (ofSide l 1) := ⟨_, rfl⟩
    obtain ⟨B, hB⟩ : ∃ B, B = sumL (ofSide l 2) := ⟨_, rfl⟩
    have hlb1 := sumL_bound (ofSide l 1) (fun o ho => unhide HLB o (List.mem_filter.1 ho).1)
    have hlb2 := sumL_bound (ofSide l 2) (fun o ho => unhide HLB o (List.mem_filter.1 ho).1)
    have hA0 : 0 ≤ A := by omega
    have hA1 : A ≤ 20000000 := by omega
    have hB0 : 0 ≤ B := by omega
    have hB1 : B ≤ 20000000 := by omega
    have HAB : Hid (sumL (ofSide l 1) = A ∧ sumL (ofSide l 2) = B) := ⟨hA.symm, hB.symm⟩
    clear hlb1 hlb2 hA hB
    refine wp_region_inv2 (RYA (fun f => { tmps := #[.agg #[.int .i64 ta, .int .i64 tb, .int .i64 tc, .int .i64 td, .int .i64 te, .int .i64 tf, .int .i64 tg, .int .i64 th], .agg #[.int .i64 next, .slice a l.length cap], .pointer (some ⟨w.heap.size, 0, none⟩), .pointer (some ⟨w.heap.size + 1, 0, none⟩), .pointer (some ⟨w.heap.size + 1 + 1, 0, none⟩), .int .i64 0, .pointer (some ⟨p5, 0, none⟩), .pointer (some ⟨p6, 0, none⟩), .float .f64 m, .float .f64 s, .agg #[.int .i64 next, .slice a l.length cap], .bool true, .bool false, .bool false, .pointer (some ⟨w.heap.size, 4, none⟩), .int .i64 te, .bool (decide (te < 0)), .bool (decide (te < 0)), .bool (decide (te < 0)), .pointer (some ⟨w.heap.size, 5, none⟩), .int .i64 tf, .bool (decide (tf < 0)), .bool (decide (te < 0) || decide (tf < 0)), undef, u33, side_b b1, u35, side_s b2, .tuple #[.float .f64 m, .float .f64 s], .agg #[.func (.func 61) #[.pointer (some ⟨b1, 0, none⟩)] #[], .func (.func 62) #[.pointer (some ⟨b1, 0, none⟩)] #[], .func (.func 63) #[.pointer (some ⟨b1, 0, none⟩)] #[]], .agg #[.func (.func 65) #[.pointer (some ⟨b2, 0, none⟩)] #[], .func (.func 66) #[.pointer (some ⟨b2, 0, none⟩)] #[], .func (.func 67) #[.pointer (some ⟨b2, 0, none⟩)] #[]], .tuple #[.float .f64 m, .float .f64 s], .float .f64 m, .float .f64 s, f 0, f 1, f 2, f 3, f 4, f 5, f 6, f 7, f 8, f 9, f 10, f 11, f 12], defers := [] }) (CF w.heap.size p5 p6 b1 b2 te tf A B m s) 13 (fun _ W => ∃ x y V, Below w4.heap.size w4 V ∧ W = V.setCells (w.heap.size + 1 + 1) 0 [.float .f64 (fbit x), .float .f64 m, .float .f64 s, .float .f64 (fbit y)] ∧ HasF (vwO tf te) x ∧ HasF (tlO A B) y) w4) (by kernel_rfl) ?_ ?_ ?_
    · exact ⟨fun _ => undef, rfl, ry_start (by decide)⟩
    · rintro x A' V ⟨f, rfl, hR⟩ hx hrd
      have hallx := ready_all hrd hx (acyc _ (by kernel_rfl))
      obtain ⟨x1, y1, V2, hb2, eV, hx1, hy1⟩ := hR.m (hallx 13 (by simp))
      have HX1 := hide hx1
      have HY1 := hide hy1
      dsimp only
      generalize f 0 = v0
      generalize f 1 = v1
      generalize f 2 = v2
      generalize f 3 = v3
      generalize f 4 = v4
      generalize f 5 = v5
      generalize f 6 = v6
      generalize f 7 = v7
      generalize f 8 = v8
      generalize f 9 = v9
      generalize f 10 = v10
      generalize f 11 = v11
      generalize f 12 = v12
      have HF5 := hide (fg_below (unhide HF4) hb2)
      clear hb2 hR hallx hrd hx hx1 hy1
      subst eV
      have HR8 := hide (bx_setCells (us := [.float .f64 (fbit x1), .float .f64 m, .float .f64 s, .float .f64 (fbit y1)]) (unhide HF5).o rfl)
      have HB8 := hide (below_setCells (w.heap.size + 1 + 1) (by omega) [.float .f64 (fbit x1), .float .f64 m, .float .f64 s, .float .f64 (fbit y1)] 0 V2 (unhide HF5).b)
      generalize V2.setCells (w.heap.size + 1 + 1) 0 [.float .f64 (fbit x1), .float .f64 m, .float .f64 s, .float .f64 (fbit y1)] = WE at HR8 HB8 ⊢
      have d0 : WE.cell? ⟨w.heap.size + 1 + 1, 0, none⟩ = some (.float .f64 (fbit x1)) := bx_cell (unhide HR8) 0 rfl
      have d1 : WE.cell? ⟨w.heap.size + 1 + 1, 1, none⟩ = some (.float .f64 m) := bx_cell (unhide HR8) 1 rfl
      have d2 : WE.cell? ⟨w.heap.size + 1 + 1, 2, none⟩ = some (.float .f64 s) := bx_cell (unhide HR8) 2 rfl
      have d3 : WE.cell? ⟨w.heap.size + 1 + 1, 3, none⟩ = some (.float .f64 (fbit y1)) := bx_cell (unhide HR8) 3 rfl
      go_wp2_with fail
      refine bodyPost_ret (by simp [results, Try.results6, go_sem, d0, d1, d2, d3]; try rfl) rfl ?_
      refine ⟨x1, m, s, y1, rfl, unhide HX1, unhide HMM, unhide HSS, ?_, unhide HB8⟩
      rw [(unhide HAB).1, (unhide HAB).2]
      exact unhide HY1
    · rintro x A' V i op ⟨f, rfl, hR⟩ hcl hx ho hxi hall
      have HRR := hide hR
      match i, ho with
      | 0, ho =>
        simp only [List.getElem?_cons_zero, Option.some.injEq] at ho
        subst ho
        have hn : x[13]? = some false := wait_no hcl 14 0 13 (by kernel_rfl) hx (by simp) hxi
        have hbV := hR.b hn
        clear hall hR hcl
        rw [if_pos (by rfl)]
        unfold Oper.wp
        go_simp
        exact ⟨upd f 0 (.pointer (some ⟨w.heap.size, 5, none⟩)), by simp [upd], ry_val (unhide HRR) 0 _ hn (by decide) rfl⟩
      | 1, ho =>
        simp only [List.getElem?_cons_succ, List.getElem?_cons_zero, Option.some.injEq] at ho
        subst ho
        have hn : x[13]? = some false := wait_no hcl 14 1 13 (by kernel_rfl) hx (by simp) hxi
        have g0 : f 0 = .pointer (some ⟨w.heap.size, 5, none⟩) := hR.c hn 0 (hall ⟨0, .data⟩ (by simp) rfl)
        have hbV := hR.b hn
        have z5 := bx_cell (fg_below (unhide HF4) hbV).t 5 rfl
        clear hall hR hcl
        rw [if_pos (by rfl)]
        unfold Oper.wp
        go_simp
        exact ⟨upd f 1 (.int .i64 tf), by simp [upd, g0], ry_val (unhide HRR) 1 _ hn (by decide) rfl⟩
      | 2, ho =>
        simp only [List.getElem?_cons_succ, List.getElem?_cons_zero, Option.some.injEq] at ho
        subst ho
        have hn : x[13]? = some false := wait_no hcl 14 2 13 (by kernel_rfl) hx (by simp) hxi
        have hbV := hR.b hn
        clear hall hR hcl
        rw [if_pos (by rfl)]
        unfold Oper.wp
        go_simp
        exact ⟨upd f 2 (.pointer (some ⟨w.heap.size, 4, none⟩)), by simp [upd], ry_val (unhide HRR) 2 _ hn (by decide) rfl⟩
      | 3, ho =>
        simp only [List.getElem?_cons_succ, List.getElem?_cons_zero, Option.some.injEq] at ho
        subst ho
        have hn : x[13]? = some false := wait_no hcl 14 3 13 (by kernel_rfl) hx (by simp) hxi
        have g2 : f 2 = .pointer (some ⟨w.heap.size, 4, none⟩) := hR.c hn 2 (hall ⟨2, .data⟩ (by simp) rfl)
        have hbV := hR.b hn
        have z4 := bx_cell (fg_below (unhide HF4) hbV).t 4 rfl
        clear hall hR hcl
        rw [if_pos (by rfl)]
        unfold Oper.wp
        go_simp
        exact ⟨upd f 3 (.int .i64 te), by simp [upd, g2], ry_val (unhide HRR) 3 _ hn (by decide) rfl⟩
      | 4, ho =>
        simp only [List.getElem?_cons_succ, List.getElem?_cons_zero, Option.some.injEq] at ho
        subst ho
        have hn : x[13]? = some false := wait_no hcl 14 4 13 (by kernel_rfl) hx (by simp) hxi
        have g1 : f 1 = .int .i64 tf := hR.c hn 1 (hall ⟨1, .data⟩ (by simp) rfl)
        have g3 : f 3 = .int .i64 te := hR.c hn 3 (hall ⟨3, .data⟩ (by simp) rfl)
        have hbV := hR.b hn
        clear hall hR hcl
        rw [if_pos (by rfl)]
        unfold Oper.wp
        go_simp
        refine (meanPrice_any tf te V).mono ?_
        rintro e w6 ⟨x1, k1, rfl, hx1, rfl⟩
        exact ⟨upd f 4 (.float .f64 (fbit x1)), by simp [upd, g1, g3], ry_val (ry_grow (fun _ _ _ _ _ h => h) (unhide HRR) hn (below_drewN' (Below.refl _ _) k1)) 4 _ hn (by decide) ⟨x1, rfl, hx1⟩⟩
      | 5, ho =>
        simp only [List.getElem?_cons_succ, List.getElem?_cons_zero, Option.some.injEq] at ho
        subst ho
        have hn : x[13]? = some false := wait_no hcl 14 5 13 (by kernel_rfl) hx (by simp) hxi
        have hbV := hR.b hn
        clear hall hR hcl
        rw [if_pos (by rfl)]
        unfold Oper.wp
        go_simp
        exact ⟨upd f 5 (.float .f64 m), by simp [upd], ry_val (unhide HRR) 5 _ hn (by decide) rfl⟩
      | 6, ho =>
        simp only [List.getElem?_cons_succ, List.getElem?_cons_zero, Option.some.injEq] at ho
        subst ho
        have hn : x[13]? = some false := wait_no hcl 14 6 13 (by kernel_rfl) hx (by simp) hxi
        have hbV := hR.b hn
        clear hall hR hcl
        rw [if_pos (by rfl)]
        unfold Oper.wp
        go_simp
        exact ⟨upd f 6 (.float .f64 s), by simp [upd], ry_val (unhide HRR) 6 _ hn (by decide) rfl⟩
      | 7, ho =>
        simp only [List.getElem?_cons_succ, List.getElem?_cons_zero, Option.some.injEq] at ho
        subst ho
        have hn : x[13]? = some false := wait_no hcl 14 7 13 (by kernel_rfl) hx (by simp) hxi
        have hbV := hR.b hn
        have z0 := range_below (unhide HR54) hbV hp54 0 _ rfl
        have z1 := range_below (unhide HR54) hbV hp54 1 _ rfl
        have z2 := range_below (unhide HR54) hbV hp54 2 _ rfl
        rw [Nat.zero_add] at z0 z1 z2
        clear hall hR hcl
        rw [if_pos (by rfl)]
        unfold Oper.wp
        go_simp
        exact ⟨upd f 7 (.agg #[.func (.func 61) #[.pointer (some ⟨b1, 0, none⟩)] #[], .func (.func 62) #[.pointer (some ⟨b1, 0, none⟩)] #[], .func (.func 63) #[.pointer (some ⟨b1, 0, none⟩)] #[]]), by simp [upd], ry_val (unhide HRR) 7 _ hn (by decide) rfl⟩
      | 8, ho =>
        simp only [List.getElem?_cons_succ, List.getElem?_cons_zero, Option.some.injEq] at ho
        subst ho
        have hn : x[13]? = some false := wait_no hcl 14 8 13 (by kernel_rfl) hx (by simp) hxi
        have g7 : f 7 = .agg #[.func (.func 61) #[.pointer (some ⟨b1, 0, none⟩)] #[], .func (.func 62) #[.pointer (some ⟨b1, 0, none⟩)] #[], .func (.func 63) #[.pointer (some ⟨b1, 0, none⟩)] #[]] := hR.c hn 7 (hall ⟨7, .data⟩ (by simp) rfl)
        have hbV := hR.b hn
        clear hall hR hcl
        rw [if_pos (by rfl)]
        unfold Oper.wp
        go_simp
        refine (left_b b1 1 (ofSide l 1) V (treeAt_block (unhide HT14) (hbV.block _ hb14)) n1 (fun o ho => unhide HLB o (List.mem_filter.1 ho).1)).mono ?_
        rw [(unhide HAB).1]
        rintro e w6 ⟨rfl, hb6⟩
        exact ⟨upd f 8 (.int .i64 A), by simp [upd, g7], ry_val (ry_grow (fun _ _ _ _ _ h => h) (unhide HRR) hn hb6) 8 _ hn (by decide) rfl⟩
      | 9, ho =>
        simp only [List.getElem?_cons_succ, List.getElem?_cons_zero, Option.some.injEq] at ho
        subst ho
        have hn : x[13]? = some false := wait_no hcl 14 9 13 (by kernel_rfl) hx (by simp) hxi
        have hbV := hR.b hn
        have z0 := range_below (unhide HR64) hbV hp64 0 _ rfl
        have z1 := range_below (unhide HR64) hbV hp64 1 _ rfl
        have z2 := range_below (unhide HR64) hbV hp64 2 _ rfl
        rw [Nat.zero_add] at z0 z1 z2
        clear hall hR hcl
        rw [if_pos (by rfl)]
        unfold Oper.wp
        go_simp
        exact ⟨upd f 9 (.agg #[.func (.func 65) #[.pointer (some ⟨b2, 0, none⟩)] #[], .func (.func 66) #[.pointer (some ⟨b2, 0, none⟩)] #[], .func (.func 67) #[.pointer (some ⟨b2, 0, none⟩)] #[]]), by simp [upd], ry_val (unhide HRR) 9 _ hn (by decide) rfl⟩
      | 10, ho =>
        simp only [List.getElem?_cons_succ, List.getElem?_cons_zero, Option.some.injEq] at ho
        subst ho
        have hn : x[13]? = some false := wait_no hcl 14 10 13 (by kernel_rfl) hx (by simp) hxi
        have g9 : f 9 = .agg #[.func (.func 65) #[.pointer (some ⟨b2, 0, none⟩)] #[], .func (.func 66) #[.pointer (some ⟨b2, 0, none⟩)] #[], .func (.func 67) #[.pointer (some ⟨b2, 0, none⟩)] #[]] := hR.c hn 9 (hall ⟨9, .data⟩ (by simp) rfl)
        have hbV := hR.b hn
        clear hall hR hcl
        rw [if_pos (by rfl)]
        unfold Oper.wp
        go_simp
        refine (left_s b2 2 (ofSide l 2) V (treeAt_block (unhide HT24) (hbV.block _ hb24)) n2 (fun o ho => unhide HLB o (List.mem_filter.1 ho).1)).mono ?_
        rw [(unhide HAB).2]
        rintro e w6 ⟨rfl, hb6⟩
        exact ⟨upd f 10 (.int .i64 B), by simp [upd, g9], ry_val (ry_grow (fun _ _ _ _ _ h => h) (unhide HRR) hn hb6) 10 _ hn (by decide) rfl⟩
      | 11, ho =>
        simp only [List.getElem?_cons_succ, List.getElem?_cons_zero, Option.some.injEq] at ho
        subst ho
        have hn : x[13]? = some false := wait_no hcl 14 11 13 (by kernel_rfl) hx (by simp) hxi
        have hbV := hR.b hn
        have g8 : f 8 = .int .i64 A := hR.c hn 8 (hall ⟨8, .data⟩ (by simp) rfl)
        have g10 : f 10 = .int .i64 B := hR.c hn 10 (hall ⟨10, .data⟩ (by simp) rfl)
        clear hall hR hcl
        rw [if_pos (by rfl)]
        unfold Oper.wp
        go_simp
        refine (tiltOf_any A B V hA0 hA1 hB0 hB1).mono ?_
        rintro e w6 ⟨x1, k1, rfl, hx1, rfl⟩
        exact ⟨upd f 11 (.float .f64 (fbit x1)), by simp [upd, g8, g10], ry_val (ry_grow (fun _ _ _ _ _ h => h) (unhide HRR) hn (below_drewN' (Below.refl _ _) k1)) 11 _ hn (by decide) ⟨x1, rfl, hx1⟩⟩
      | 12, ho =>
        simp only [List.getElem?_cons_succ, List.getElem?_cons_zero, Option.some.injEq] at ho
        subst ho
        have hn : x[13]? = some false := wait_no hcl 14 12 13 (by kernel_rfl) hx (by simp) hxi
        have hbV := hR.b hn
        obtain ⟨x1, g4, hx1⟩ := hR.c hn 4 (hall ⟨4, .data⟩ (by simp) rfl)
        have g5 : f 5 = .float .f64 m := hR.c hn 5 (hall ⟨5, .data⟩ (by simp) rfl)
        have g6 : f 6 = .float .f64 s := hR.c hn 6 (hall ⟨6, .data⟩ (by simp) rfl)
        obtain ⟨y1, g11, hy1⟩ := hR.c hn 11 (hall ⟨11, .data⟩ (by simp) rfl)
        have HX1 := hide hx1
        have HY1 := hide hy1
        clear hx1 hy1
        clear hall hR hcl
        rw [if_pos (by rfl)]
        unfold Oper.wp
        go_simp
        exact ⟨upd f 12 (.agg #[.float .f64 (fbit x1), .float .f64 m, .float .f64 s, .float .f64 (fbit y1)]), by simp [upd, g4, g5, g6, g11], ry_val (unhide HRR) 12 _ hn (by decide) ⟨x1, y1, rfl, unhide HX1, unhide HY1⟩⟩
      | 13, ho =>
        simp only [List.getElem?_cons_succ, List.getElem?_cons_zero, Option.some.injEq] at ho
        subst ho
        have hn : x[13]? = some false := hxi
        have hbV := hR.b hn
        obtain ⟨x1, y1, g12, hx1, hy1⟩ := hR.c hn 12 (hall ⟨12, .data⟩ (by simp) rfl)
        have HX1 := hide hx1
        have HY1 := hide hy1
        clear hx1 hy1
        have hfg := fg_below (unhide HF4) hbV
        have yc0 : V.cell? ⟨w.heap.size + 1 + 1, 0, none⟩ = some (.float .f64 0) := bx_cell hfg.o 0 rfl
        have yc1 : V.cell? ⟨w.heap.size + 1 + 1, 1, none⟩ = some (.float .f64 0) := bx_cell hfg.o 1 rfl
        have yc2 : V.cell? ⟨w.heap.size + 1 + 1, 2, none⟩ = some (.float .f64 0) := bx_cell hfg.o 2 rfl
        have yc3 : V.cell? ⟨w.heap.size + 1 + 1, 3, none⟩ = some (.float .f64 0) := bx_cell hfg.o 3 rfl
        have q0 : V.frozen? ⟨w.heap.size + 1 + 1, 0, none⟩ = false := bx_free hfg.o 0 (by decide)
        have q1 : V.frozen? ⟨w.heap.size + 1 + 1, 1, none⟩ = false := bx_free hfg.o 1 (by decide)
        have q2 : V.frozen? ⟨w.heap.size + 1 + 1, 2, none⟩ = false := bx_free hfg.o 2 (by decide)
        have q3 : V.frozen? ⟨w.heap.size + 1 + 1, 3, none⟩ = false := bx_free hfg.o 3 (by decide)
        clear hfg
        clear hall hR hcl
        rw [if_pos (by rfl)]
        unfold Oper.wp
        go_simp
        exact ⟨f, by simp [g12], ry_writeN (unhide HRR) hn ⟨x1, y1, V, hbV, rfl, unhide HX1, unhide HY1⟩⟩
      | 14, ho =>
        simp only [List.getElem?_cons_succ, List.getElem?_cons_zero, Option.some.injEq] at ho
        subst ho
        have hn : x[13]? = some true := hall ⟨13, .chain⟩ (by simp) rfl
        clear hall hR hcl
        rw [if_pos (by rfl)]
        unfold Oper.wp
        go_simp
        exact ⟨f, by simp, ry_keep (unhide HRR) hn (by decide)⟩
      | i + 15, ho => simp at ho
  · rintro x A W i o ⟨v33, v34, v35, v36, v5, v6, b1, b2, p5, p6, rfl, hR⟩ hx ho hxi hall
    have HRR := hide hR
    have z0 := (hR.bel.cell (p := ⟨w.heap.size + 1, 0, none⟩) hwr).trans (unhide HY).1
    have z1 := (hR.bel.cell (p := ⟨w.heap.size + 1, 1, none⟩) hwr).trans (unhide HY).2
    have HRD := hide (rdR_below (unhide HRr) hR.bel (Nat.le_refl _))
    match i, ho with
    | 0, ho =>
      simp only [List.getElem?_cons_zero, Option.some.injEq] at ho
      subst ho
      rw [if_pos (by rfl)]
      unfold Oper.wp
      clear hall hR
      go_simp
      exact ⟨_, _, _, _, _, _, ⟨rfl, rfl, rfl, rfl, rfl, rfl⟩, _, _, _, _, rw9_0 (unhide HRR)⟩
    | 1, ho =>
      simp only [List.getElem?_cons_succ, List.getElem?_cons_zero, Option.some.injEq] at ho
      subst ho
      have h0 : x[0]? = some true := hall ⟨0, .data⟩ (by simp) rfl
      obtain rfl := hR.c33 h0
      have h6 : x[6]? ≠ some true := fun e => by have := (hR.s5 e).1.1; rw [hxi] at this; cases this
      clear hall hR
      rw [if_pos (by rfl)]
      unfold Oper.wp
      go_simp
      refine (sideOf_buy next _ l W (unhide HRD) h2 (unhide HLB)).mono ?_
      rintro e w3 ⟨b, rfl, ht, hle, hb⟩
      exact ⟨_, _, _, _, _, _, ⟨rfl, rfl, rfl, rfl, rfl, rfl⟩, b, _, _, _, rw9_1 (unhide HRR) h6 hb hle ht⟩
    | 2, ho =>
      simp only [List.getElem?_cons_succ, List.getElem?_cons_zero, Option.some.injEq] at ho
      subst ho
      rw [if_pos (by rfl)]
      unfold Oper.wp
      clear hall hR
      go_simp
      exact ⟨_, _, _, _, _, _, ⟨rfl, rfl, rfl, rfl, rfl, rfl⟩, _, _, _, _, rw9_2 (unhide HRR)⟩
    | 3, ho =>
      simp only [List.getElem?_cons_succ, List.getElem?_cons_zero, Option.some.injEq] at ho
      subst ho
      have h22 : x[2]? = some true := hall ⟨2, .data⟩ (by simp) rfl
      obtain rfl := hR.c35 h22
      have h7 : x[7]? ≠ some true := fun e => by have := (hR.s6 e).1.1; rw [hxi] at this; cases this
      clear hall hR
      rw [if_pos (by rfl)]
      unfold Oper.wp
      go_simp
      refine (sideOf_sell next 2 (by omega) _ l W (unhide HRD) h2 (unhide HLB)).mono ?_
      rintro e w3 ⟨b, rfl, ht, hle, hb⟩
      exact ⟨_, _, _, _, _, _, ⟨rfl, rfl, rfl, rfl, rfl, rfl⟩, _, b, _, _, rw9_3 (unhide HRR) h7 hb hle ht⟩
    | 4, ho =>
      simp only [List.getElem?_cons_succ, List.getElem?_cons_zero, Option.some.injEq] at ho
      subst ho
      have h6 : x[6]? ≠ some true := fun e => by have := (hR.s5 e).1.2; rw [hxi] at this; cases this
      clear hall hR
      rw [if_pos (by rfl)]
      unfold Oper.wp
      go_simp
      exact ⟨_, _, _, _, _, _, ⟨rfl, rfl, rfl, rfl, rfl, rfl⟩, _, _, _, _, rw9_4 (unhide HRR) h6 _⟩
    | 5, ho =>
      simp only [List.getElem?_cons_succ, List.getElem?_cons_zero, Option.some.injEq] at ho
      subst ho
      have h7 : x[7]? ≠ some true := fun e => by have := (hR.s6 e).1.2; rw [hxi] at this; cases this
      clear hall hR
      rw [if_pos (by rfl)]
      unfold Oper.wp
      go_simp
      exact ⟨_, _, _, _, _, _, ⟨rfl, rfl, rfl, rfl, rfl, rfl⟩, _, _, _, _, rw9_5 (unhide HRR) h7 _⟩
    | 6, ho =>
      simp only [List.getElem?_cons_succ, List.getElem?_cons_zero, Option.some.injEq] at ho
      subst ho
      have k1 : x[1]? = some true := hall ⟨1, .data⟩ (by simp) rfl
      have k3 : x[3]? = some true := hall ⟨3, .chain⟩ (by simp) rfl
      have k4 : x[4]? = some true := hall ⟨4, .data⟩ (by simp) rfl
      have k5 : x[5]? = some true := hall ⟨5, .phase⟩ (by simp) rfl
      obtain rfl := (hR.c34 k1).1
      obtain ⟨e5, -, -, e8⟩ := hR.c5 k4
      subst e5
      obtain ⟨⟨x0, y0, z0'⟩, ⟨x1, y1, z1'⟩, x2, y2, z2'⟩ : (∃ v, W.cell? ⟨p5, 0, none⟩ = some v ∧ W.frozen? ⟨p5, 0, none⟩ = false) ∧ (∃ v, W.cell? ⟨p5, 1, none⟩ = some v ∧ W.frozen? ⟨p5, 1, none⟩ = false) ∧ (∃ v, W.cell? ⟨p5, 2, none⟩ = some v ∧ W.frozen? ⟨p5, 2, none⟩ = false) := ⟨by simpa using there1O e8 0 (by omega), by simpa using there1O e8 1 (by omega), by simpa using there1O e8 2 (by omega)⟩
      have HE := hide (rw9_6 (unhide HRR) k1 k3 k4 k5 (F0 := _) (F1 := _) (F2 := _) rfl)
      clear hall hR z0 z1 e8
      unfold side_b at HE ⊢
      generalize hF0 : Value.func (.func 61) #[.pointer (some ⟨b1, 0, none⟩)] #[] = F0 at HE ⊢
      generalize hF1 : Value.func (.func 62) #[.pointer (some ⟨b1, 0, none⟩)] #[] = F1 at HE ⊢
      generalize hF2 : Value.func (.func 63) #[.pointer (some ⟨b1, 0, none⟩)] #[] = F2 at HE ⊢
      have hst : ∀ (V : World) (o : Nat) (m : Mode), ((store ⟨p5, o, none⟩ F0 m).run Try.prog V = stored Try.prog V ⟨p5, o, none⟩ F0 m) ∧ ((store ⟨p5, o, none⟩ F1 m).run Try.prog V = stored Try.prog V ⟨p5, o, none⟩ F1 m) ∧ ((store ⟨p5, o, none⟩ F2 m).run Try.prog V = stored Try.prog V ⟨p5, o, none⟩ F2 m) := fun V o m => by
        subst hF0 hF1 hF2
        exact ⟨run_store _ V _ _ m rfl, run_store _ V _ _ m rfl, run_store _ V _ _ m rfl⟩
      have hst0 := fun V o m => (hst V o m).1
      have hst1 := fun V o m => (hst V o m).2.1
      have hst2 := fun V o m => (hst V o m).2.2
      clear hst hF0 hF1 hF2
      rw [if_pos (by rfl)]
      unfold Oper.wp
      go_simp
      exact ⟨_, _, _, _, _, _, ⟨rfl, rfl, rfl, rfl, rfl, rfl⟩, _, _, _, _, unhide HE⟩
    | 7, ho =>
      simp only [List.getElem?_cons_succ, List.getElem?_cons_zero, Option.some.injEq] at ho
      subst ho
      have k1 : x[1]? = some true := hall ⟨1, .phase⟩ (by simp) rfl
      have k3 : x[3]? = some true := hall ⟨3, .data⟩ (by simp) rfl
      have k4 : x[4]? = some true := hall ⟨4, .phase⟩ (by simp) rfl
      have k5 : x[5]? = some true := hall ⟨5, .data⟩ (by simp) rfl
      obtain rfl := (hR.c36 k3).1
      obtain ⟨e5, -, -, e8⟩ := hR.c6 k5
      subst e5
      obtain ⟨⟨x0, y0, z0'⟩, ⟨x1, y1, z1'⟩, x2, y2, z2'⟩ : (∃ v, W.cell? ⟨p6, 0, none⟩ = some v ∧ W.frozen? ⟨p6, 0, none⟩ = false) ∧ (∃ v, W.cell? ⟨p6, 1, none⟩ = some v ∧ W.frozen? ⟨p6, 1, none⟩ = false) ∧ (∃ v, W.cell? ⟨p6, 2, none⟩ = some v ∧ W.frozen? ⟨p6, 2, none⟩ = false) := ⟨by simpa using there1O e8 0 (by omega), by simpa using there1O e8 1 (by omega), by simpa using there1O e8 2 (by omega)⟩
      have HE := hide (rw9_7 (unhide HRR) k1 k3 k4 k5 (F0 := _) (F1 := _) (F2 := _) rfl)
      clear hall hR z0 z1 e8
      unfold side_s at HE ⊢
      generalize hF0 : Value.func (.func 65) #[.pointer (some ⟨b2, 0, none⟩)] #[] = F0 at HE ⊢
      generalize hF1 : Value.func (.func 66) #[.pointer (some ⟨b2, 0, none⟩)] #[] = F1 at HE ⊢
      generalize hF2 : Value.func (.func 67) #[.pointer (some ⟨b2, 0, none⟩)] #[] = F2 at HE ⊢
      have hst : ∀ (V : World) (o : Nat) (m : Mode), ((store ⟨p6, o, none⟩ F0 m).run Try.prog V = stored Try.prog V ⟨p6, o, none⟩ F0 m) ∧ ((store ⟨p6, o, none⟩ F1 m).run Try.prog V = stored Try.prog V ⟨p6, o, none⟩ F1 m) ∧ ((store ⟨p6, o, none⟩ F2 m).run Try.prog V = stored Try.prog V ⟨p6, o, none⟩ F2 m) := fun V o m => by
        subst hF0 hF1 hF2
        exact ⟨run_store _ V _ _ m rfl, run_store _ V _ _ m rfl, run_store _ V _ _ m rfl⟩
      have hst0 := fun V o m => (hst V o m).1
      have hst1 := fun V o m => (hst V o m).2.1
      have hst2 := fun V o m => (hst V o m).2.2
      clear hst hF0 hF1 hF2
      rw [if_pos (by rfl)]
      unfold Oper.wp
      go_simp
      exact ⟨_, _, _, _, _, _, ⟨rfl, rfl, rfl, rfl, rfl, rfl⟩, _, _, _, _, unhide HE⟩
    | n + 8, ho => simp at ho
end Go.Proofs.Ythmgkabpcjkieaa
