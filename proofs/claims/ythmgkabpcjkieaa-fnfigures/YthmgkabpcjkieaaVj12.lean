/-
  How an order's level is found in the tree, or grown, proved by walking the function.
-/
import Derived.Test.YthmgkabpcjkieaaVj07
namespace Go.Proofs.Ythmgkabpcjkieaa
open Go.RowKit
set_option linter.unusedVariables false

theorem better_s (a c : Int) (w : World) :
    Calls Try.prog 107 #[.agg #[], .int .i64 a, .int .i64 c] w fun e w' => e = .returned (.bool (decide (a < c))) ∧ w.grownBy w' none := by
  go_enter Try.func107, Try.ntmps107
  go_wp2_with fail
  go_ret
  exact ⟨rfl, World.grownBy_alloc _ _ _⟩
theorem method_s (w : World) : Sem.run Try.prog (method 259 82 (.agg #[]) "loop.example/g00092/impl.better") w = .ok (107, .agg #[]) w := by kernel_rfl
theorem part_s {w : World} {b : Nat} (h : ∃ cur, w.heap[b]? = some (.cells cur 124 (0, 0))) : Sem.run Try.prog (partAt ⟨b, 0, none⟩ 0 0) w = .ok ⟨b, 0, none⟩ w := by
  obtain ⟨cur, h⟩ := h
  have hc : Try.prog.cellsOf 124 = 318 := by kernel_rfl
  have hy : byteOfCell Try.prog Try.prog.depth 124 0 = some 0 := by kernel_rfl
  have hs : w.shape? b = some (124, cur.size) := by simp [World.shape?, h]
  simp [partAt, byteOf, noView, viewAt, hs, hc, hy]
set_option maxRecDepth 100000 in
set_option maxHeartbeats 400000 in
theorem levelFor_s (b : Nat) (S : TS) (t : Tr) (o : Od) (w : World) (hT : TM 124 w b S) (hi : TI false S t) (hlc : S.lc < 20) :
    Calls Try.prog 83 #[.pointer (some ⟨b, 0, none⟩), .agg #[.int .i64 o.id, .int .i64 o.side, .int .i64 o.ticks, .int .i64 o.left, .int .i64 o.life, .string o.tag]] w fun e w' =>
      ∃ (h : Nat), e = .returned (.int .i64 h) ∧ LFEnd false 124 b S t o w h w' := by
  have HT := hide hT
  have HI := hide hi
  clear hT hi
  go_enter Try.func83, Try.ntmps83
  go_wp2_with fail
  have HW : Hid (∃ W, W = (w.alloc (Obj.cells #[.int .i64 o.id, .int .i64 o.side, .int .i64 o.ticks, .int .i64 o.left, .int .i64 o.life, .string o.tag] 61)) ∧ W.rangeAt w.heap.size 0 o.vs ∧ TM 124 W b S ∧ w.grownBy W (some b) ∧ w.heap.size < W.heap.size ∧ b ≠ w.heap.size) :=
    ⟨_, rfl, cells_made w o.vs _, tm_block (unhide HT) (Below.heap_alloc w _ _ (tm_lt (unhide HT))), World.grownBy_alloc _ _ _, by rw [size_made]; omega, by have := tm_lt (unhide HT); omega⟩
  obtain ⟨W, hW, hWW⟩ := unhide HW
  rw [← hW]
  have HW2 := hide hWW
  clear hW hWW HW HT
  go_loopg [5] (t.hs.length) (fun k p wr => LFI false b S t o.ticks W k p wr)
  case atStart => exact ⟨[], t, rfl, Nat.le_refl _, way_start (unhide HI) _, World.grownBy.refl _ _⟩
  case round =>
    obtain ⟨c, u, rfl, hk, hw, hg⟩ := hrel
    have HWay := hide hw
    have HG := hide hg
    have HK := hide hk
    have hT := tm_grown (unhide HW2).2.1 hg (by simp)
    have c0 := cur_cell hT (curOf c) (cur_ok (unhide HI) hw hlc)
    obtain ⟨o0, o1, o2, o3, o4, o5⟩ := od_cells (range_grown (unhide HW2).1 hg (unhide HW2).2.2.2.1 (by simp))
    clear hk hw hg
    by_cases ha : S.rd (curOf c) = 0
    · have hr0 := hT.lc
      have hf := hT.fr
      have HA0 := hide ha
      rw [ha] at c0
      have hlc' : (S.lc : Int) < 20 := by omega
      have e1 : ((S.lc + 1 : Nat) : Int) = (S.lc : Int) + 1 := by omega
      have hok := cur_ok (unhide HI) (unhide HWay) hlc
      have t1 := tm_lc hT (S.lc + 1)
      have t2 := tm_cur t1 (curOf c) hok (S.lc + 1)
      rw [e1] at t1 t2
      have d2 : _ = _ := (cur_cell t1 (curOf c) hok).trans (congrArg (fun x : Nat => some (Value.int .i64 x)) (show TS.rd _ (curOf c) = 0 from by rw [← ha]; cases (curOf c) <;> rfl))
      have d3 : _ = _ := t2.lc
      rw [(wr_same _ _ _).1] at d3
      simp only [e1] at d3
      have g1 := t1.fr
      have g2 := t2.fr
      obtain ⟨n0, n1, n2, n3, -⟩ := nd_cells (t2.nd (S.lc + 1) (by omega))
      have hb : b ≠ w.heap.size := (unhide HW2).2.2.2.2
      have p1 : ((wr.setCell ⟨b, 1, none⟩ (.int .i64 ((S.lc : Int) + 1))).setCell ⟨b, (curOf c).off, none⟩ (.int .i64 ((S.lc : Int) + 1))).cell? ⟨w.heap.size, 0 + 1, none⟩ = some (.int .i64 o.side) := by
        rw [World.cell?_setCell_other _ _ _ _ (fun e => hb (congrArg Addr.block e)), World.cell?_setCell_other _ _ _ _ (fun e => hb (congrArg Addr.block e))]; exact o1
      have p2 : ((wr.setCell ⟨b, 1, none⟩ (.int .i64 ((S.lc : Int) + 1))).setCell ⟨b, (curOf c).off, none⟩ (.int .i64 ((S.lc : Int) + 1))).cell? ⟨w.heap.size, 0 + 2, none⟩ = some (.int .i64 o.ticks) := by
        rw [World.cell?_setCell_other _ _ _ _ (fun e => hb (congrArg Addr.block e)), World.cell?_setCell_other _ _ _ _ (fun e => hb (congrArg Addr.block e))]; exact o2
      have HT2 := hide t2
      have HB := hide hb
      clear ha hT t1 t2 hok hb
      go_wp2_with fail
      have HG4 : Hid (wr.grownBy ((wr.setCell ⟨b, 1, none⟩ (.int .i64 ((S.lc : Int) + 1))).setCell ⟨b, (curOf c).off, none⟩ (.int .i64 ((S.lc : Int) + 1))) (some b)) := gr_setB (gr_setB (World.grownBy.refl _ _) _ _) _ _
      generalize hW4 : ((wr.setCell ⟨b, 1, none⟩ (.int .i64 ((S.lc : Int) + 1))).setCell ⟨b, (curOf c).off, none⟩ (.int .i64 ((S.lc : Int) + 1))) = W4 at *
      rw [← e1] at d3
      obtain ⟨m, hm⟩ : ∃ m, m = S.lc + 1 := ⟨_, rfl⟩
      rw [← hm] at d3 n0 n1 n2 n3
      have hm21 : (m : Int) < 21 := by omega
      have HM := hide hm
      clear hW4 hm e1 d2 hr0 hf g1 c0 o0 o1 o2 o3 o4 o5 hlc'
      go_region
      have t3 := unhide HT2
      have t4 := tm_nd t3 (S.lc + 1) 0 (by omega) (by omega) (.int .i64 o.side) { (TS.nd _ (S.lc + 1)) with side := o.side } rfl _ rfl
      have t5 := tm_nd t4 (S.lc + 1) 1 (by omega) (by omega) (.int .i64 o.ticks) { (TS.nd _ (S.lc + 1)) with ticks := o.ticks } rfl _ rfl
      have t6 := tm_nd t5 (S.lc + 1) 2 (by omega) (by omega) (.int .i64 0) { (TS.nd _ (S.lc + 1)) with qty := 0 } rfl _ rfl
      have t7 := tm_nd t6 (S.lc + 1) 3 (by omega) (by omega) (.int .i64 0) { (TS.nd _ (S.lc + 1)) with count := 0 } rfl _ rfl
      have HG7 := hide (gr_drew (gr_setB (gr_setB (gr_setB (gr_setB (unhide HG4) (2 + m * 8) (.int .i64 o.side)) (2 + m * 8 + 1) (.int .i64 o.ticks)) (2 + m * 8 + 2) (.int .i64 0)) (2 + m * 8 + 3) (.int .i64 0)))
      rw [← unhide HM] at t7
      simp only [upd_upd, upd_same] at t7
      have hS : _ = S.grow (curOf c) o.side o.ticks := grow_eq S (curOf c) o m (unhide HM)
      rw [hS] at t7
      have d7 : _ = some (Value.int .i64 (m : Int)) := t7.lc.trans (by rw [unhide HM]; rfl)
      have HT7 := hide t7
      clear t3 t4 t5 t6 t7 n0 n1 n2 n3 d3 p1 p2
      generalize (((W4.setCell ⟨b, 2 + m * 8, none⟩ (.int .i64 o.side)).setCell ⟨b, 2 + m * 8 + 1, none⟩ (.int .i64 o.ticks)).setCell ⟨b, 2 + m * 8 + 2, none⟩ (.int .i64 0)).setCell ⟨b, 2 + m * 8 + 3, none⟩ (.int .i64 0) = W7 at *
      go_wp2_with fail
      go_ret
      exact ⟨m, rfl, _, tm_block (unhide HT7) rfl, (unhide HW2).2.2.1.trans (((unhide HG).but _).trans (unhide HG7)), .inr ⟨c, u, unhide HWay, unhide HA0, unhide HM, rfl⟩⟩
    · have ham := way_at (unhide HWay) rfl ha
      have har := (unhide HI).range _ ham
      obtain ⟨a, hae⟩ : ∃ a, a = S.rd (curOf c) := ⟨_, rfl⟩
      rw [← hae] at c0 ha ham har
      have HAE := hide hae
      have ha' : ¬ ((a : Int) = 0) := by omega
      have ha21 : (a : Int) < 21 := by omega
      obtain ⟨n0, n1, n2, n3, n4, n5, n6, n7⟩ := nd_cells (hT.nd a (by omega))
      have HTM := hide hT
      have hpt : ∀ w', wr.grownBy w' none → Sem.run Try.prog (partAt ⟨b, 0, none⟩ 0 0) w' = .ok ⟨b, 0, none⟩ w' := fun w' h => part_s (tm_grown (unhide HTM) h (by simp)).obj
      have HPT := hide hpt
      have HN1 := hide (fun w' (h : wr.grownBy w' none) => h.cell n1 (by simp))
      have HO2 := hide (fun w' (h : wr.grownBy w' none) => h.cell o2 (by simp))
      clear hae hT hpt
      go_wp2_with fail
      go_quiet (fail)
      go_wp2_with fail
      refine wp_region_grow (W := wr) (by kernel_rfl) (by kernel_rfl) ⟨rfl, rfl, rfl, Nat.le_refl _, fun _ _ _ => rfl⟩ ?_
      iterate 12 (
        refine quiet_op (v := ?_) ?_ ?_ ?_
        rotate_left
        · rfl
        · intro w' hw'
          have f1 := unhide HN1 w' hw'
          have f2 := unhide HO2 w' hw'
          have f3 := unhide HPT w' hw'
          go_simp
          try rfl
        intro K hK
        go_simp
        refine hK _ ?_
        clear hK K)
      refine quiet_op (v := .bool (decide (o.ticks < (S.nd a).ticks))) ?_ ?_ ?_
      · rfl
      · intro w' hw'
        have hm := method_s w'
        go_simp
        refine (better_s _ _ _).mono ?_
        rintro e w3 ⟨rfl, hg3⟩
        exact ⟨rfl, hw'.trans hg3⟩
      intro K hK
      go_simp
      refine hK _ ?_
      clear hK K
      refine quiet_op (v := ?_) ?_ ?_ ?_
      rotate_left
      · rfl
      · intro w' hw'
        go_simp
        try rfl
      intro K hK
      go_simp
      refine hK _ ?_
      clear hK K
      refine wpQuiet_nil ?_
      intro w2 hg2
      have HG2 := hide hg2
      clear hg2
      by_cases h1 : o.ticks < (S.nd a).ticks
      · have h1' : decide (o.ticks < (S.nd a).ticks) = true := by simpa using h1
        go_wp2_with fail
        obtain ⟨l, r, rfl, hw2⟩ := way_be (unhide HI) (unhide HWay) (unhide HAE).symm ha h1
        go_roundg (l.hs.length)
        case measure => have := unhide HK; simp [Tr.hs] at this; omega
        case rel => exact ⟨_, l, rfl, Nat.le_refl _, hw2, (unhide HG).trans (unhide HG2)⟩
      · have h1' : decide (o.ticks < (S.nd a).ticks) = false := by simpa using h1
        go_wp2_with fail
        refine wp_region_grow (W := wr) (by kernel_rfl) (by kernel_rfl) (unhide HG2) ?_
        iterate 12 (
          refine quiet_op (v := ?_) ?_ ?_ ?_
          rotate_left
          · rfl
          · intro w' hw'
            have f1 := unhide HN1 w' hw'
            have f2 := unhide HO2 w' hw'
            have f3 := unhide HPT w' hw'
            go_simp
            try rfl
          intro K hK
          go_simp
          refine hK _ ?_
          clear hK K)
        refine quiet_op (v := .bool (decide ((S.nd a).ticks < o.ticks))) ?_ ?_ ?_
        · rfl
        · intro w' hw'
          have hm := method_s w'
          go_simp
          refine (better_s _ _ _).mono ?_
          rintro e w3 ⟨rfl, hg3⟩
          exact ⟨rfl, hw'.trans hg3⟩
        intro K hK
        go_simp
        refine hK _ ?_
        clear hK K
        refine quiet_op (v := ?_) ?_ ?_ ?_
        rotate_left
        · rfl
        · intro w' hw'
          go_simp
          try rfl
        intro K hK
        go_simp
        refine hK _ ?_
        clear hK K
        refine wpQuiet_nil ?_
        intro w3 hg3
        have HG3 := hide hg3
        clear hg3
        by_cases h2 : (S.nd a).ticks < o.ticks
        · have h2' : decide ((S.nd a).ticks < o.ticks) = true := by simpa using h2
          go_wp2_with fail
          obtain ⟨l, r, rfl, hw2⟩ := way_wo (unhide HI) (unhide HWay) (unhide HAE).symm ha h2
          go_roundg (r.hs.length)
          case measure => have := unhide HK; simp [Tr.hs] at this; omega
          case rel => exact ⟨_, r, rfl, Nat.le_refl _, hw2, (unhide HG).trans (unhide HG3)⟩
        · have h2' : decide ((S.nd a).ticks < o.ticks) = false := by simpa using h2
          have c3 := (unhide HG3).cell c0 (by simp)
          go_wp2_with fail
          go_ret
          have hG := (unhide HG).trans (unhide HG3)
          exact ⟨a, rfl, S, tm_grown (unhide HW2).2.1 hG (by simp), (unhide HW2).2.2.1.trans (hG.but _), .inl ⟨ham, by omega, rfl⟩⟩
end Go.Proofs.Ythmgkabpcjkieaa
namespace Go.Proofs.Ythmgkabpcjkieaa
open Go.RowKit
set_option linter.unusedVariables false

set_option maxRecDepth 100000 in
set_option maxHeartbeats 400000 in
theorem add_s (b : Nat) (sd : Int) (seq : List Od) (o : Od) (w : World) (h : TreeAt 124 false w b sd seq) (hsd : o.side = sd) (hn : seq.length < 20) (hl : ∀ o' ∈ seq, 0 ≤ o'.left ∧ o'.left ≤ 1000000) (hlo : 0 ≤ o.left ∧ o.left ≤ 1000000) :
    Calls Try.prog 68 #[.pointer (some ⟨b, 0, none⟩), .agg #[.int .i64 o.id, .int .i64 o.side, .int .i64 o.ticks, .int .i64 o.left, .int .i64 o.life, .string o.tag]] w fun e w' =>
      e = .returned (.tuple #[]) ∧ TreeAt 124 false w' b sd (seq ++ [o]) ∧ w.grownBy w' (some b) := by
  obtain ⟨S, t, hT, hi, hq, hlc⟩ := h
  have HI := hide hi
  have HQ := hide hq
  have HT := hide hT
  have HLC := hide hlc
  have HL := hide hl
  have HSD := hide hsd
  have HOC := hide hq.oc
  have hoc' : (S.oc : Int) < 20 := by have := hq.oc; omega
  have e1 : ((S.oc + 1 : Nat) : Int) = (S.oc : Int) + 1 := by omega
  have hb : b ≠ w.heap.size := by have := tm_lt hT; omega
  have hrange : World.rangeAt (w.alloc (Obj.cells #[.int .i64 o.id, .int .i64 o.side, .int .i64 o.ticks, .int .i64 o.left, .int .i64 o.life, .string o.tag] 61)) w.heap.size 0 o.vs := cells_made w o.vs 61
  have hTW : TM 124 (w.alloc (Obj.cells #[.int .i64 o.id, .int .i64 o.side, .int .i64 o.ticks, .int .i64 o.left, .int .i64 o.life, .string o.tag] 61)) b S := tm_block hT (Below.heap_alloc w _ _ (tm_lt hT))
  have c1 := hTW.oc
  have f1 := hTW.fr
  have hT1 := tm_oc hTW (S.oc + 1)
  have hR1 : Hid (World.rangeAt (World.setCell (w.alloc (Obj.cells #[.int .i64 o.id, .int .i64 o.side, .int .i64 o.ticks, .int .i64 o.left, .int .i64 o.life, .string o.tag] 61)) ⟨b, 170, none⟩ (.int .i64 ((S.oc + 1 : Nat) : Int))) w.heap.size 0 o.vs) := fun j u hu => by
    rw [World.cell?_setCell_other _ _ _ _ (fun e => hb (congrArg Addr.block e))]; exact hrange j u hu
  have hG1 : Hid (w.grownBy (World.setCell (w.alloc (Obj.cells #[.int .i64 o.id, .int .i64 o.side, .int .i64 o.ticks, .int .i64 o.left, .int .i64 o.life, .string o.tag] 61)) ⟨b, 170, none⟩ (.int .i64 ((S.oc + 1 : Nat) : Int))) (some b)) := gr_setB (World.grownBy_alloc w (Obj.cells #[.int .i64 o.id, .int .i64 o.side, .int .i64 o.ticks, .int .i64 o.left, .int .i64 o.life, .string o.tag] 61) _) _ _
  have HT1 := hide hT1
  have hs1 : Hid (w.heap.size < (World.heap (World.setCell (w.alloc (Obj.cells #[.int .i64 o.id, .int .i64 o.side, .int .i64 o.ticks, .int .i64 o.left, .int .i64 o.life, .string o.tag] 61)) ⟨b, 170, none⟩ (.int .i64 ((S.oc + 1 : Nat) : Int)))).size) := (by
    have := World.block_lt_of_cell? _ _ (hR1 0 _ rfl)
    exact this)
  clear hi hq hlc hl hsd hT hTW hrange hT1
  go_enter Try.func68, Try.ntmps68
  go_wp2_with fail
  rw [← e1]
  have em : ∃ m, m = S.oc + 1 := ⟨_, rfl⟩
  obtain ⟨m, hm⟩ := em
  rw [← hm] at hR1 hG1 HT1 hs1 ⊢
  generalize hW1 : World.setCell (w.alloc (Obj.cells #[.int .i64 o.id, .int .i64 o.side, .int .i64 o.ticks, .int .i64 o.left, .int .i64 o.life, .string o.tag] 61)) ⟨b, 170, none⟩ (.int .i64 (m : Int)) = W1 at hR1 hG1 HT1 hs1 ⊢
  have HM := hide hm
  have hm21 : (m : Int) < 21 := by omega
  obtain ⟨o0, o1, o2, o3, o4, o5⟩ := od_cells (unhide hR1)
  obtain ⟨q0, q1, q2, q3, q4, q5, q6⟩ := qo_cells ((unhide HT1).qo m (by omega))
  have f2 := (unhide HT1).fr
  have hlc20 : S.lc < 20 := by have := unhide HLC; omega
  have HB := hide hb
  clear hW1 hm e1 c1 f1 hoc' hb
  go_region
  have HT2 := hide (tm_put (unhide HT1) m (by omega) o)
  have HG2 := hide (gr_put (w := W1) (b := b) o m)
  generalize hW2 : (((((((W1.setCell ⟨b, 171 + m * 7, none⟩ (.int .i64 o.id)).setCell ⟨b, 171 + m * 7 + 1, none⟩ (.int .i64 o.side)).setCell ⟨b, 171 + m * 7 + 2, none⟩ (.int .i64 o.ticks)).setCell ⟨b, 171 + m * 7 + 3, none⟩ (.int .i64 o.left)).setCell
      ⟨b, 171 + m * 7 + 4, none⟩ (.int .i64 o.life)).setCell ⟨b, 171 + m * 7 + 5, none⟩ (.string o.tag)).setCell ⟨b, 171 + m * 7 + 6, none⟩ (.int .i64 0)) = W2 at HT2 HG2 ⊢
  clear hW2 o0 o1 o2 o3 o4 o5 q0 q1 q2 q3 q4 q5 q6 f2
  rw [show ({ root := S.root, lc := S.lc, oc := m, nd := S.nd, qo := upd S.qo m ⟨o, 0⟩ } : TS) = S.lay o from by rw [unhide HM]; rfl] at HT2
  have hR2 := hide (range_grown (unhide hR1) (unhide HG2) (unhide hs1) (fun e => unhide HB (Option.some.inj e).symm))
  obtain ⟨o0, o1, o2, o3, o4, o5⟩ := od_cells (unhide hR2)
  have HTI := hide (ti_lay o (unhide HI))
  have HT2d : Hid (TM 124 W2.drew.drew b (S.lay o)) := tm_block (unhide HT2) rfl
  go_wp2_with fail
  go_region_with (go_at_call 83; refine (levelFor_s b (S.lay o) t o W2.drew.drew (unhide HT2d) (unhide HTI) hlc20).mono ?_; rintro e W3 ⟨h, rfl, hend⟩; have HE := hide hend; have hh21 : (h : Int) < 21 := lf_lt hend (unhide HTI) hlc20; clear hend)
  obtain ⟨S3, hT3, hg3, hcase⟩ := unhide HE
  rw [← unhide HSD] at HQ
  obtain ⟨r1, r2, r3, r4, r5, t', r6, r7⟩ := add_ready (unhide HI) (unhide HQ) hcase
  have R4 := hide r4
  have R6 := hide r6
  have R7 := hide r7
  have R23 : Hid ((0 : Int) ≤ (S3.nd h).qty ∧ (S3.nd h).qty ≤ 20000000 ∧ (0 : Int) ≤ (S3.nd h).count ∧ (S3.nd h).count ≤ 20) := by
    have hb := sumL_bound (atK seq o.ticks) (fun o' ho' => unhide HL o' (List.mem_filter.1 ho').1)
    have hle : (atK seq o.ticks).length ≤ seq.length := List.length_filter_le _ _
    rw [r2, r3]
    refine ⟨hb.1, ?_, by omega, by omega⟩
    have := hb.2
    have h20 : ((atK seq o.ticks).length : Int) ≤ 20 := by omega
    omega
  have HT3 := hide hT3
  have HG3 : Hid (W2.grownBy W3 (some b)) := ⟨hg3.os, hg3.tape, hg3.output, hg3.size, hg3.block⟩
  have hR3 := hide (range_grown (unhide hR2) (unhide HG3) (Nat.lt_of_lt_of_le (unhide hs1) (unhide HG2).size) (fun e => unhide HB (Option.some.inj e).symm))
  have hy21 : (S3.nd h).yo < 21 := by omega
  have hm1 : m = 1 + seq.length := by have := unhide HM; have := unhide HOC; omega
  have HM1 := hide hm1
  clear hT3 hg3 hcase r1 r2 r3 r4 r5 r6 r7 o0 o1 o2 o3 o4 o5 hm1 HE
  have hb3 := (unhide HT3).fr
  obtain ⟨n0, n1, n2, n3, n4, n5, n6, n7⟩ := nd_cells ((unhide HT3).nd h (by omega))
  have h21 : h < 21 := by omega
  clear n0 n1 n2 n3 n4 n5
  by_cases hy : (S3.nd h).yo = 0
  · have t5 := tm_nd (unhide HT3) h 6 h21 (by omega) (.int .i64 m) { S3.nd h with el := m } rfl _ rfl
    have t6 := tm_nd t5 h 7 h21 (by omega) (.int .i64 m) { (TS.nd _ h) with yo := m } rfl _ rfl
    simp only [upd_upd, upd_same] at t6
    obtain ⟨-, -, -, -, -, -, -, k7⟩ := nd_cells (t5.nd h h21)
    have f5 := t5.fr
    rw [hy] at n7
    have HG6 := hide (gr_setB (gr_setB (World.grownBy.refl W3 (some b)) (2 + h * 8 + 6) (.int .i64 m)) (2 + h * 8 + 7) (.int .i64 m))
    have HT6 := hide t6
    clear t5 t6
    go_wp2_with fail
    generalize hW6 : (W3.setCell ⟨b, 2 + h * 8 + 6, none⟩ (.int .i64 m)).setCell ⟨b, 2 + h * 8 + 7, none⟩ (.int .i64 m) = W6 at HG6 HT6 ⊢
    clear HT3 hW6
    have f6 := (unhide HT6).fr
    obtain ⟨-, -, m2, m3, -⟩ := nd_cells ((unhide HT6).nd h h21)
    simp only [upd_same] at m2 m3
    have hR6 := range_grown (unhide hR3) (unhide HG6) (Nat.lt_of_lt_of_le (unhide hs1) (Nat.le_trans (unhide HG2).size (unhide HG3).size)) (fun e => unhide HB (Option.some.inj e).symm)
    obtain ⟨-, -, -, x3, -⟩ := od_cells hR6
    obtain ⟨b1, b2, b3, b4⟩ := unhide R23
    have t7 := tm_nd (unhide HT6) h 2 h21 (by omega) (.int .i64 ((S3.nd h).qty + o.left)) { (TS.nd _ h) with qty := (S3.nd h).qty + o.left } rfl _ rfl
    have t8 := tm_nd t7 h 3 h21 (by omega) (.int .i64 ((S3.nd h).count + 1)) { (TS.nd _ h) with count := (S3.nd h).count + 1 } rfl _ rfl
    obtain ⟨-, -, -, y3, -⟩ := nd_cells (t7.nd h h21)
    have f7 := t7.fr
    simp only [upd_upd, upd_same] at t8 y3
    have HT8 := hide t8
    have HG8 := hide (gr_setB (gr_setB (World.grownBy.refl W6 (some b)) (2 + h * 8 + 2) (.int .i64 ((S3.nd h).qty + o.left))) (2 + h * 8 + 3) (.int .i64 ((S3.nd h).count + 1)))
    have hsum : wrap64 ((S3.nd h).qty + o.left) = (S3.nd h).qty + o.left := by unfold wrap64; omega
    clear t7 t8 hR6
    go_region
    try simp only [IntKind.wrap_i64]
    try rw [show (IntKind.i64.wrap ((S3.nd h).qty + o.left)) = (S3.nd h).qty + o.left from by rw [IntKind.wrap_i64]; exact hsum]
    generalize hW7 : W6.setCell ⟨b, 2 + h * 8 + 2, none⟩ (.int .i64 ((S3.nd h).qty + o.left)) = W7 at *
    go_wp2_with fail
    go_end0
    have HS8 : Hid (_ = S3.link h m o.left) := link_eq0 S3 h m o.left hy
    rw [unhide HS8] at HT8
    rw [unhide HM1] at HT8
    refine ⟨rfl, ?_, ?_⟩
    · rw [← unhide HSD]
      refine ⟨_, t', tm_block (unhide HT8) rfl, unhide R6, unhide R7, ?_⟩
      have h1 := unhide R4
      have h2 := unhide HLC
      show S3.lc ≤ _
      simp; omega
    · exact gr_drewM (((((unhide hG1).trans (unhide HG2)).trans (unhide HG3)).trans (unhide HG6)).trans (unhide HG8)) rfl rfl rfl rfl
  · have t5 := tm_qo (unhide HT3) (S3.nd h).yo 6 hy21 (by omega) (.int .i64 m) { S3.qo (S3.nd h).yo with yg := m } rfl _ rfl
    have t6 := tm_nd t5 h 7 h21 (by omega) (.int .i64 m) { (TS.nd _ h) with yo := m } rfl _ rfl
    obtain ⟨-, -, -, -, -, -, -, k7⟩ := nd_cells (t5.nd h h21)
    obtain ⟨-, -, -, -, -, -, q6⟩ := qo_cells ((unhide HT3).qo (S3.nd h).yo hy21)
    have f5 := t5.fr
    have hyi : ((S3.nd h).yo : Int) < 21 := by omega
    have hy0 : ¬ (((S3.nd h).yo : Int) = 0) := by omega
    have HG6 := hide (gr_setB (gr_setB (World.grownBy.refl W3 (some b)) (171 + (S3.nd h).yo * 7 + 6) (.int .i64 m)) (2 + h * 8 + 7) (.int .i64 m))
    have HT6 := hide t6
    clear t5 t6
    go_wp2_with fail
    go_region
    go_wp2_with fail
    generalize hW6 : (W3.setCell ⟨b, 171 + (S3.nd h).yo * 7 + 6, none⟩ (.int .i64 m)).setCell ⟨b, 2 + h * 8 + 7, none⟩ (.int .i64 m) = W6 at HG6 HT6 ⊢
    clear HT3 hW6
    have f6 := (unhide HT6).fr
    obtain ⟨-, -, m2, m3, -⟩ := nd_cells ((unhide HT6).nd h h21)
    simp only [upd_same] at m2 m3
    have hR6 := range_grown (unhide hR3) (unhide HG6) (Nat.lt_of_lt_of_le (unhide hs1) (Nat.le_trans (unhide HG2).size (unhide HG3).size)) (fun e => unhide HB (Option.some.inj e).symm)
    obtain ⟨-, -, -, x3, -⟩ := od_cells hR6
    obtain ⟨b1, b2, b3, b4⟩ := unhide R23
    have t7 := tm_nd (unhide HT6) h 2 h21 (by omega) (.int .i64 ((S3.nd h).qty + o.left)) { (TS.nd _ h) with qty := (S3.nd h).qty + o.left } rfl _ rfl
    have t8 := tm_nd t7 h 3 h21 (by omega) (.int .i64 ((S3.nd h).count + 1)) { (TS.nd _ h) with count := (S3.nd h).count + 1 } rfl _ rfl
    obtain ⟨-, -, -, y3, -⟩ := nd_cells (t7.nd h h21)
    have f7 := t7.fr
    simp only [upd_upd, upd_same] at t8 y3
    have HT8 := hide t8
    have HG8 := hide (gr_setB (gr_setB (World.grownBy.refl W6 (some b)) (2 + h * 8 + 2) (.int .i64 ((S3.nd h).qty + o.left))) (2 + h * 8 + 3) (.int .i64 ((S3.nd h).count + 1)))
    have hsum : wrap64 ((S3.nd h).qty + o.left) = (S3.nd h).qty + o.left := by unfold wrap64; omega
    clear t7 t8 hR6
    go_region
    try simp only [IntKind.wrap_i64]
    try rw [show (IntKind.i64.wrap ((S3.nd h).qty + o.left)) = (S3.nd h).qty + o.left from by rw [IntKind.wrap_i64]; exact hsum]
    generalize hW7 : W6.setCell ⟨b, 2 + h * 8 + 2, none⟩ (.int .i64 ((S3.nd h).qty + o.left)) = W7 at *
    go_wp2_with fail
    go_end0
    have HS8 : Hid (_ = S3.link h m o.left) := link_eq1 S3 h m o.left hy
    rw [unhide HS8] at HT8
    rw [unhide HM1] at HT8
    refine ⟨rfl, ?_, ?_⟩
    · rw [← unhide HSD]
      refine ⟨_, t', tm_block (unhide HT8) rfl, unhide R6, unhide R7, ?_⟩
      have h1 := unhide R4
      have h2 := unhide HLC
      show S3.lc ≤ _
      simp; omega
    · exact gr_drewM (((((unhide hG1).trans (unhide HG2)).trans (unhide HG3)).trans (unhide HG6)).trans (unhide HG8)) rfl rfl rfl rfl
end Go.Proofs.Ythmgkabpcjkieaa
