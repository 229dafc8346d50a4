/-
  What the small functions that ask whether an order is right return, of the program and of the model: proved by walking them.
-/
import Derived.Test.YthmgkabpcjkieaaVj08
namespace Go.Proofs.Ythmgkabpcjkieaa
open Go.RowKit
set_option linter.unusedVariables false

def betB (n a b : Int) : Bool := decide (a ≤ n) && decide (n ≤ b)
theorem implBetween_any (n a b : Int) (w : World) :
    Calls Try.prog 28 #[.int .i64 n, .int .i64 a, .int .i64 b] w fun e w' => e = .returned (.bool (betB n a b)) ∧ w' = w := by
  go_enter Try.func28, Try.ntmps28
  go_wp2
  all_goals go_ret
  all_goals exact ⟨ret_bool (by rw [Bool.eq_iff_iff]; simp [betB]; omega), rfl⟩
theorem isSide_any (n : Int) (w : World) :
    Calls Try.prog 58 #[.int .i64 n] w fun e w' => e = .returned (.bool (betB n 1 2)) ∧ w' = w := by
  go_enter Try.func58, Try.ntmps58
  go_wp2
  all_goals go_ret
  all_goals exact ⟨ret_bool (by rw [Bool.eq_iff_iff]; simp [betB]; omega), rfl⟩
theorem isLife_any (n : Int) (w : World) :
    Calls Try.prog 59 #[.int .i64 n] w fun e w' => e = .returned (.bool (betB n 0 1)) ∧ w' = w := by
  go_enter Try.func59, Try.ntmps59
  go_wp2
  all_goals go_ret
  all_goals exact ⟨ret_bool (by rw [Bool.eq_iff_iff]; simp [betB]; omega), rfl⟩
def tagC (c : UInt8) : Bool := betB c.toNat 32 126
/-- The text may be a tag. -/
def tagB (s : ByteArray) : Bool := decide (s.size ≤ 12) && s.data.toList.all tagC
theorem drop_cons (s : ByteArray) (k : Nat) (h : k < s.size) : s.data.toList.drop k = s[k] :: s.data.toList.drop (k + 1) := by
  rw [get_nat s k h]
  exact List.drop_eq_getElem_cons (by rw [data_len]; exact h)
theorem tag_yes (s : ByteArray) (h : s.size ≤ 12) (hk : s.data.toList.all tagC = true) : tagB s = true := by simp only [tagB, hk, decide_eq_true h, Bool.and_true]
theorem tag_long (s : ByteArray) (h : ¬ s.size ≤ 12) : tagB s = false := by simp only [tagB, decide_eq_false h, Bool.false_and]
theorem tag_no (s : ByteArray) (hk : s.data.toList.all tagC = false) : tagB s = false := by simp only [tagB, hk, Bool.and_false]
set_option maxHeartbeats 400000 in
theorem isTag_any (s : ByteArray) (w : World) (hs : s.size ≤ maxLen) :
    Calls Try.prog 60 #[.string s] w fun e w' => e = .returned (.bool (tagB s)) ∧ w' = w := by
  unfold maxLen at hs
  by_cases hl : s.size ≤ 12
  · have hl' : ¬ ((12 : Int) < s.size) := by omega
    go_enter Try.func60, Try.ntmps60
    go_wp2_with fail
    go_loop [9] (fun i => ∃ k : Nat, k ≤ s.size ∧ i = .int .i64 k ∧ Hid (s.data.toList.all tagC = (s.data.toList.drop k).all tagC)) (fun i => s.size - (intOf i).toNat)
    case atStart => exact ⟨0, Nat.zero_le _, rfl, by simp [Hid]⟩
    case round =>
      obtain ⟨k, hk, rfl, hall⟩ := hrel
      by_cases hlt : k < s.size
      · have hlt' : (k : Int) < s.size := by omega
        have hdr := drop_cons s k hlt
        have hgen : ∃ c, c = s[k] := ⟨_, rfl⟩
        obtain ⟨c, hc⟩ := hgen
        have hw : betB (wrap64 (s[k].toNat : Int)) 32 126 = tagC c := by
          have hlt256 := UInt8.toNat_lt s[k]
          rw [hc, show wrap64 (s[k].toNat : Int) = (s[k].toNat : Int) by unfold wrap64; omega]; rfl
        cases ht : tagC c
        · rw [ht] at hw
          have HT : Hid (s.data.toList.all tagC = false) := by
            have := unhide hall
            rw [hdr, List.all_cons, ← hc, ht, Bool.false_and] at this
            exact this
          clear hdr hc ht
          go_wp2_with fail
          refine (implBetween_any (wrap64 (s[k].toNat : Int)) 32 126 w).mono ?_
          rintro e w1 ⟨rfl, rfl⟩
          go_wp2_with fail
          go_ret
          exact ⟨ret_bool (tag_no s (unhide HT)).symm, rfl⟩
        · rw [ht] at hw
          have HN : Hid (s.data.toList.all tagC = (s.data.toList.drop (k + 1)).all tagC) := by
            have := unhide hall
            rw [hdr, List.all_cons, ← hc, ht, Bool.true_and] at this
            exact this
          clear hdr hc ht
          go_wp2_with fail
          refine (implBetween_any (wrap64 (s[k].toNat : Int)) 32 126 w).mono ?_
          rintro e w1 ⟨rfl, rfl⟩
          go_wp2_with fail
          go_round
          case rel => exact ⟨k + 1, by omega, by go_num, unhide HN⟩
          case measure => simp [intOf]; omega
      · go_wp2_with fail
        go_ret
        have h := unhide hall
        rw [List.drop_of_length_le (by rw [data_len]; omega)] at h
        exact ⟨ret_bool (tag_yes s hl (by rw [h]; rfl)).symm, rfl⟩
  · have hl' : (12 : Int) < s.size := by omega
    go_enter Try.func60, Try.ntmps60
    go_wp2_with fail
    go_ret
    exact ⟨ret_bool (tag_long s hl).symm, rfl⟩
/-- The order is right by itself. -/
def ordB (o : Od) : Bool := betB o.side 1 2 && betB o.life 0 1 && tagB o.tag && betB o.ticks 1 1000000 && betB o.left 1 1000000
set_option maxHeartbeats 800000 in
theorem orderOK_any (o : Od) (w : World) (hs : o.tag.size ≤ maxLen) :
    Calls Try.prog 30 #[.agg #[.int .i64 o.id, .int .i64 o.side, .int .i64 o.ticks, .int .i64 o.left, .int .i64 o.life, .string o.tag]] w fun e w' => e = .returned (.bool (ordB o)) ∧ Below w.heap.size w w' := by
  have HT := hide (fun W => isTag_any o.tag W hs)
  clear hs
  cases h1 : betB o.side 1 2
  · go_enter Try.func30, Try.ntmps30
    go_wp2_with (first | (go_at_call 58; refine (isSide_any _ _).mono ?_; rintro e w' ⟨rfl, rfl⟩) | (go_at_call 59; refine (isLife_any _ _).mono ?_; rintro e w' ⟨rfl, rfl⟩) | (go_at_call 60; refine (unhide HT _).mono ?_; rintro e w' ⟨rfl, rfl⟩) | (go_at_call 28; refine (implBetween_any _ _ _ _).mono ?_; rintro e w' ⟨rfl, rfl⟩))
    go_ret
    exact ⟨ret_bool (by simp [ordB, h1]), by go_grown⟩
  ·
    cases h2 : betB o.life 0 1
    · go_enter Try.func30, Try.ntmps30
      go_wp2_with (first | (go_at_call 58; refine (isSide_any _ _).mono ?_; rintro e w' ⟨rfl, rfl⟩) | (go_at_call 59; refine (isLife_any _ _).mono ?_; rintro e w' ⟨rfl, rfl⟩) | (go_at_call 60; refine (unhide HT _).mono ?_; rintro e w' ⟨rfl, rfl⟩) | (go_at_call 28; refine (implBetween_any _ _ _ _).mono ?_; rintro e w' ⟨rfl, rfl⟩))
      go_ret
      exact ⟨ret_bool (by simp [ordB, h1, h2]), by go_grown⟩
    ·
      cases h3 : tagB o.tag
      · go_enter Try.func30, Try.ntmps30
        go_wp2_with (first | (go_at_call 58; refine (isSide_any _ _).mono ?_; rintro e w' ⟨rfl, rfl⟩) | (go_at_call 59; refine (isLife_any _ _).mono ?_; rintro e w' ⟨rfl, rfl⟩) | (go_at_call 60; refine (unhide HT _).mono ?_; rintro e w' ⟨rfl, rfl⟩) | (go_at_call 28; refine (implBetween_any _ _ _ _).mono ?_; rintro e w' ⟨rfl, rfl⟩))
        go_ret
        exact ⟨ret_bool (by simp [ordB, h1, h2, h3]), by go_grown⟩
      ·
        cases h4 : betB o.ticks 1 1000000
        · go_enter Try.func30, Try.ntmps30
          go_wp2_with (first | (go_at_call 58; refine (isSide_any _ _).mono ?_; rintro e w' ⟨rfl, rfl⟩) | (go_at_call 59; refine (isLife_any _ _).mono ?_; rintro e w' ⟨rfl, rfl⟩) | (go_at_call 60; refine (unhide HT _).mono ?_; rintro e w' ⟨rfl, rfl⟩) | (go_at_call 28; refine (implBetween_any _ _ _ _).mono ?_; rintro e w' ⟨rfl, rfl⟩))
          go_ret
          exact ⟨ret_bool (by simp [ordB, h1, h2, h3, h4]), by go_grown⟩
        ·
          cases h5 : betB o.left 1 1000000
          · go_enter Try.func30, Try.ntmps30
            go_wp2_with (first | (go_at_call 58; refine (isSide_any _ _).mono ?_; rintro e w' ⟨rfl, rfl⟩) | (go_at_call 59; refine (isLife_any _ _).mono ?_; rintro e w' ⟨rfl, rfl⟩) | (go_at_call 60; refine (unhide HT _).mono ?_; rintro e w' ⟨rfl, rfl⟩) | (go_at_call 28; refine (implBetween_any _ _ _ _).mono ?_; rintro e w' ⟨rfl, rfl⟩))
            go_ret
            exact ⟨ret_bool (by simp [ordB, h1, h2, h3, h4, h5]), by go_grown⟩
          · go_enter Try.func30, Try.ntmps30
            go_wp2_with (first | (go_at_call 58; refine (isSide_any _ _).mono ?_; rintro e w' ⟨rfl, rfl⟩) | (go_at_call 59; refine (isLife_any _ _).mono ?_; rintro e w' ⟨rfl, rfl⟩) | (go_at_call 60; refine (unhide HT _).mono ?_; rintro e w' ⟨rfl, rfl⟩) | (go_at_call 28; refine (implBetween_any _ _ _ _).mono ?_; rintro e w' ⟨rfl, rfl⟩))
            go_ret
            exact ⟨ret_bool (by simp [ordB, h1, h2, h3, h4, h5]), by go_grown⟩
end Go.Proofs.Ythmgkabpcjkieaa
namespace Go.Proofs.Ythmgkabpcjkieaa
open Go.RowKit
set_option linter.unusedVariables false

theorem better_b (a c : Int) (w : World) :
    Calls Try.prog 106 #[.agg #[], .int .i64 a, .int .i64 c] w fun e w' => e = .returned (.bool (decide (c < a))) ∧ w.grownBy w' none := by
  go_enter Try.func106, Try.ntmps106
  go_wp2_with fail
  go_ret
  exact ⟨rfl, World.grownBy_alloc _ _ _⟩
theorem method_b (w : World) : Sem.run Try.prog (method 259 78 (.agg #[]) "loop.example/g00092/impl.better") w = .ok (106, .agg #[]) w := by kernel_rfl
theorem part_b {w : World} {b : Nat} (h : ∃ cur, w.heap[b]? = some (.cells cur 121 (0, 0))) : Sem.run Try.prog (partAt ⟨b, 0, none⟩ 0 0) w = .ok ⟨b, 0, none⟩ w := by
  obtain ⟨cur, h⟩ := h
  have hc : Try.prog.cellsOf 121 = 318 := by kernel_rfl
  have hy : byteOfCell Try.prog Try.prog.depth 121 0 = some 0 := by kernel_rfl
  have hs : w.shape? b = some (121, cur.size) := by simp [World.shape?, h]
  simp [partAt, byteOf, noView, viewAt, hs, hc, hy]
set_option maxRecDepth 100000 in
set_option maxHeartbeats 400000 in
theorem levelFor_b (b : Nat) (S : TS) (t : Tr) (o : Od) (w : World) (hT : TM 121 w b S) (hi : TI true S t) (hlc : S.lc < 20) :
    Calls Try.prog 81 #[.pointer (some ⟨b, 0, none⟩), .agg #[.int .i64 o.id, .int .i64 o.side, .int .i64 o.ticks, .int .i64 o.left, .int .i64 o.life, .string o.tag]] w fun e w' =>
      ∃ (h : Nat), e = .returned (.int .i64 h) ∧ LFEnd true 121 b S t o w h w' := by
  have HT := hide hT
  have HI := hide hi
  clear hT hi
  go_enter Try.func81, Try.ntmps81
  go_wp2_with fail
  have HW : Hid (∃ W, W = (w.alloc (Obj.cells #[.int .i64 o.id, .int .i64 o.side, .int .i64 o.ticks, .int .i64 o.left, .int .i64 o.life, .string o.tag] 61)) ∧ W.rangeAt w.heap.size 0 o.vs ∧ TM 121 W b S ∧ w.grownBy W (some b) ∧ w.heap.size < W.heap.size ∧ b ≠ w.heap.size) :=
    ⟨_, rfl, cells_made w o.vs _, tm_block (unhide HT) (Below.heap_alloc w _ _ (tm_lt (unhide HT))), World.grownBy_alloc _ _ _, by rw [size_made]; omega, by have := tm_lt (unhide HT); omega⟩
  obtain ⟨W, hW, hWW⟩ := unhide HW
  rw [← hW]
  have HW2 := hide hWW
  clear hW hWW HW HT
  go_loopg [5] (t.hs.length) (fun k p wr => LFI true b S t o.ticks W k p wr)
  case atStart => exact ⟨[], t, rfl, Nat.le_refl _, way_start (unhide HI) _, World.grownBy.refl _ _⟩
  case round =>
    obtain ⟨c, u, rfl, hk, hw, hg⟩ := hrel
    have HWay := hide hw
    have HG := hide hg
    have HK := hide hk
    have hT := tm_grown (unhide HW2).2.1 hg (by simp)
    have c0 := cur_cell hT (curOf c) (cur_ok (unhide HI) hw hlc)
    obtain ⟨o0, o1, o2, o3, o4, o5⟩ := od_cells (range_grown (unhide HW2).1 hg (unhide HW2).2.2.2.1 (by simp))
    clear hk hw hg
    by_cases ha : S.rd (curOf c) = 0
    · have hr0 := hT.lc
      have hf := hT.fr
      have HA0 := hide ha
      rw [ha] at c0
      have hlc' : (S.lc : Int) < 20 := by omega
      have e1 : ((S.lc + 1 : Nat) : Int) = (S.lc : Int) + 1 := by omega
      have hok := cur_ok (unhide HI) (unhide HWay) hlc
      have t1 := tm_lc hT (S.lc + 1)
      have t2 := tm_cur t1 (curOf c) hok (S.lc + 1)
      rw [e1] at t1 t2
      have d2 : _ = _ := (cur_cell t1 (curOf c) hok).trans (congrArg (fun x : Nat => some (Value.int .i64 x)) (show TS.rd _ (curOf c) = 0 from by rw [← ha]; cases (curOf c) <;> rfl))
      have d3 : _ = _ := t2.lc
      rw [(wr_same _ _ _).1] at d3
      simp only [e1] at d3
      have g1 := t1.fr
      have g2 := t2.fr
      obtain ⟨n0, n1, n2, n3, -⟩ := nd_cells (t2.nd (S.lc + 1) (by omega))
      have hb : b ≠ w.heap.size := (unhide HW2).2.2.2.2
      have p1 : ((wr.setCell ⟨b, 1, none⟩ (.int .i64 ((S.lc : Int) + 1))).setCell ⟨b, (curOf c).off, none⟩ (.int .i64 ((S.lc : Int) + 1))).cell? ⟨w.heap.size, 0 + 1, none⟩ = some (.int .i64 o.side) := by
        rw [World.cell?_setCell_other _ _ _ _ (fun e => hb (congrArg Addr.block e)), World.cell?_setCell_other _ _ _ _ (fun e => hb (congrArg Addr.block e))]; exact o1
      have p2 : ((wr.setCell ⟨b, 1, none⟩ (.int .i64 ((S.lc : Int) + 1))).setCell ⟨b, (curOf c).off, none⟩ (.int .i64 ((S.lc : Int) + 1))).cell? ⟨w.heap.size, 0 + 2, none⟩ = some (.int .i64 o.ticks) := by
        rw [World.cell?_setCell_other _ _ _ _ (fun e => hb (congrArg Addr.block e)), World.cell?_setCell_other _ _ _ _ (fun e => hb (congrArg Addr.block e))]; exact o2
      have HT2 := hide t2
      have HB := hide hb
      clear ha hT t1 t2 hok hb
      go_wp2_with fail
      have HG4 : Hid (wr.grownBy ((wr.setCell ⟨b, 1, none⟩ (.int .i64 ((S.lc : Int) + 1))).setCell ⟨b, (curOf c).off, none⟩ (.int .i64 ((S.lc : Int) + 1))) (some b)) := gr_setB (gr_setB (World.grownBy.refl _ _) _ _) _ _
      generalize hW4 : ((wr.setCell ⟨b, 1, none⟩ (.int .i64 ((S.lc : Int) + 1))).setCell ⟨b, (curOf c).off, none⟩ (.int .i64 ((S.lc : Int) + 1))) = W4 at *
      rw [← e1] at d3
      obtain ⟨m, hm⟩ : ∃ m, m = S.lc + 1 := ⟨_, rfl⟩
      rw [← hm] at d3 n0 n1 n2 n3
      have hm21 : (m : Int) < 21 := by omega
      have HM := hide hm
      clear hW4 hm e1 d2 hr0 hf g1 c0 o0 o1 o2 o3 o4 o5 hlc'
      go_region
      have t3 := unhide HT2
      have t4 := tm_nd t3 (S.lc + 1) 0 (by omega) (by omega) (.int .i64 o.side) { (TS.nd _ (S.lc + 1)) with side := o.side } rfl _ rfl
      have t5 := tm_nd t4 (S.lc + 1) 1 (by omega) (by omega) (.int .i64 o.ticks) { (TS.nd _ (S.lc + 1)) with ticks := o.ticks } rfl _ rfl
      have t6 := tm_nd t5 (S.lc + 1) 2 (by omega) (by omega) (.int .i64 0) { (TS.nd _ (S.lc + 1)) with qty := 0 } rfl _ rfl
      have t7 := tm_nd t6 (S.lc + 1) 3 (by omega) (by omega) (.int .i64 0) { (TS.nd _ (S.lc + 1)) with count := 0 } rfl _ rfl
      have HG7 := hide (gr_drew (gr_setB (gr_setB (gr_setB (gr_setB (unhide HG4) (2 + m * 8) (.int .i64 o.side)) (2 + m * 8 + 1) (.int .i64 o.ticks)) (2 + m * 8 + 2) (.int .i64 0)) (2 + m * 8 + 3) (.int .i64 0)))
      rw [← unhide HM] at t7
      simp only [upd_upd, upd_same] at t7
      have hS : _ = S.grow (curOf c) o.side o.ticks := grow_eq S (curOf c) o m (unhide HM)
      rw [hS] at t7
      have d7 : _ = some (Value.int .i64 (m : Int)) := t7.lc.trans (by rw [unhide HM]; rfl)
      have HT7 := hide t7
      clear t3 t4 t5 t6 t7 n0 n1 n2 n3 d3 p1 p2
      generalize (((W4.setCell ⟨b, 2 + m * 8, none⟩ (.int .i64 o.side)).setCell ⟨b, 2 + m * 8 + 1, none⟩ (.int .i64 o.ticks)).setCell ⟨b, 2 + m * 8 + 2, none⟩ (.int .i64 0)).setCell ⟨b, 2 + m * 8 + 3, none⟩ (.int .i64 0) = W7 at *
      go_wp2_with fail
      go_ret
      exact ⟨m, rfl, _, tm_block (unhide HT7) rfl, (unhide HW2).2.2.1.trans (((unhide HG).but _).trans (unhide HG7)), .inr ⟨c, u, unhide HWay, unhide HA0, unhide HM, rfl⟩⟩
    · have ham := way_at (unhide HWay) rfl ha
      have har := (unhide HI).range _ ham
      obtain ⟨a, hae⟩ : ∃ a, a = S.rd (curOf c) := ⟨_, rfl⟩
      rw [← hae] at c0 ha ham har
      have HAE := hide hae
      have ha' : ¬ ((a : Int) = 0) := by omega
      have ha21 : (a : Int) < 21 := by omega
      obtain ⟨n0, n1, n2, n3, n4, n5, n6, n7⟩ := nd_cells (hT.nd a (by omega))
      have HTM := hide hT
      have hpt : ∀ w', wr.grownBy w' none → Sem.run Try.prog (partAt ⟨b, 0, none⟩ 0 0) w' = .ok ⟨b, 0, none⟩ w' := fun w' h => part_b (tm_grown (unhide HTM) h (by simp)).obj
      have HPT := hide hpt
      have HN1 := hide (fun w' (h : wr.grownBy w' none) => h.cell n1 (by simp))
      have HO2 := hide (fun w' (h : wr.grownBy w' none) => h.cell o2 (by simp))
      clear hae hT hpt
      go_wp2_with fail
      go_quiet (fail)
      go_wp2_with fail
      refine wp_region_grow (W := wr) (by kernel_rfl) (by kernel_rfl) ⟨rfl, rfl, rfl, Nat.le_refl _, fun _ _ _ => rfl⟩ ?_
      iterate 12 (
        refine quiet_op (v := ?_) ?_ ?_ ?_
        rotate_left
        · rfl
        · intro w' hw'
          have f1 := unhide HN1 w' hw'
          have f2 := unhide HO2 w' hw'
          have f3 := unhide HPT w' hw'
          go_simp
          try rfl
        intro K hK
        go_simp
        refine hK _ ?_
        clear hK K)
      refine quiet_op (v := .bool (decide ((S.nd a).ticks < o.ticks))) ?_ ?_ ?_
      · rfl
      · intro w' hw'
        have hm := method_b w'
        go_simp
        refine (better_b _ _ _).mono ?_
        rintro e w3 ⟨rfl, hg3⟩
        exact ⟨rfl, hw'.trans hg3⟩
      intro K hK
      go_simp
      refine hK _ ?_
      clear hK K
      refine quiet_op (v := ?_) ?_ ?_ ?_
      rotate_left
      · rfl
      · intro w' hw'
        go_simp
        try rfl
      intro K hK
      go_simp
      refine hK _ ?_
      clear hK K
      refine wpQuiet_nil ?_
      intro w2 hg2
      have HG2 := hide hg2
      clear hg2
      by_cases h1 : (S.nd a).ticks < o.ticks
      · have h1' : decide ((S.nd a).ticks < o.ticks) = true := by simpa using h1
        go_wp2_with fail
        obtain ⟨l, r, rfl, hw2⟩ := way_be (unhide HI) (unhide HWay) (unhide HAE).symm ha h1
        go_roundg (l.hs.length)
        case measure => have := unhide HK; simp [Tr.hs] at this; omega
        case rel => exact ⟨_, l, rfl, Nat.le_refl _, hw2, (unhide HG).trans (unhide HG2)⟩
      · have h1' : decide ((S.nd a).ticks < o.ticks) = false := by simpa using h1
        go_wp2_with fail
        refine wp_region_grow (W := wr) (by kernel_rfl) (by kernel_rfl) (unhide HG2) ?_
        iterate 12 (
          refine quiet_op (v := ?_) ?_ ?_ ?_
          rotate_left
          · rfl
          · intro w' hw'
            have f1 := unhide HN1 w' hw'
            have f2 := unhide HO2 w' hw'
            have f3 := unhide HPT w' hw'
            go_simp
            try rfl
          intro K hK
          go_simp
          refine hK _ ?_
          clear hK K)
        refine quiet_op (v := .bool (decide (o.ticks < (S.nd a).ticks))) ?_ ?_ ?_
        · rfl
        · intro w' hw'
          have hm := method_b w'
          go_simp
          refine (better_b _ _ _).mono ?_
          rintro e w3 ⟨rfl, hg3⟩
          exact ⟨rfl, hw'.trans hg3⟩
        intro K hK
        go_simp
        refine hK _ ?_
        clear hK K
        refine quiet_op (v := ?_) ?_ ?_ ?_
        rotate_left
        · rfl
        · intro w' hw'
          go_simp
          try rfl
        intro K hK
        go_simp
        refine hK _ ?_
        clear hK K
        refine wpQuiet_nil ?_
        intro w3 hg3
        have HG3 := hide hg3
        clear hg3
        by_cases h2 : o.ticks < (S.nd a).ticks
        · have h2' : decide (o.ticks < (S.nd a).ticks) = true := by simpa using h2
          go_wp2_with fail
          obtain ⟨l, r, rfl, hw2⟩ := way_wo (unhide HI) (unhide HWay) (unhide HAE).symm ha h2
          go_roundg (r.hs.length)
          case measure => have := unhide HK; simp [Tr.hs] at this; omega
          case rel => exact ⟨_, r, rfl, Nat.le_refl _, hw2, (unhide HG).trans (unhide HG3)⟩
        · have h2' : decide (o.ticks < (S.nd a).ticks) = false := by simpa using h2
          have c3 := (unhide HG3).cell c0 (by simp)
          go_wp2_with fail
          go_ret
          have hG := (unhide HG).trans (unhide HG3)
          exact ⟨a, rfl, S, tm_grown (unhide HW2).2.1 hG (by simp), (unhide HW2).2.2.1.trans (hG.but _), .inl ⟨ham, by omega, rfl⟩⟩
end Go.Proofs.Ythmgkabpcjkieaa
