/-
  How many levels two sides have together, by the program: proved by walking the function.
-/
import Derived.Test.YteljmhgpffekgaaFj27
namespace Go.Proofs.Yteljmhgpffekgaa
open Go.RowKit
set_option linter.unusedVariables false

theorem insT_len (s : Bool) (k : Int) : ∀ T : List Int, (insT s k T).length ≤ T.length + 1
  | [] => by simp [insT]
  | a :: r => by
    have := insT_len s k r
    rw [insT]; split
    · simp
    · split <;> simp <;> omega
theorem tks_len (s : Bool) : ∀ seq : List Od, (tks s seq).length ≤ seq.length
  | [] => by simp [tks]
  | o :: r => by
    have h1 := insT_len s o.ticks (tks s r)
    have h2 := tks_len s r
    rw [tks]; simp; omega
/-- The edges of a region go back. -/
def backB : Nat → List Oper → Bool
  | _, [] => true
  | i, o :: r => o.after.toList.all (fun e => decide (e.on < i)) && backB (i + 1) r
theorem back_spec : ∀ (l : List Oper) (n : Nat), backB n l = true → ∀ (i : Nat) (o : Oper), l[i]? = some o → ∀ e ∈ o.after, e.on < n + i
  | [], _, _, i, o, h, _, _ => by simp at h
  | a :: r, n, hb, 0, o, h, e, he => by
    simp at h; subst h
    simp only [backB, Bool.and_eq_true, List.all_eq_true, decide_eq_true_eq] at hb
    exact hb.1 e (by simpa using he)
  | a :: r, n, hb, i + 1, o, h, e, he => by
    simp only [backB, Bool.and_eq_true] at hb
    have := back_spec r (n + 1) hb.2 i o (by simpa using h) e he
    omega
theorem acyc (l : List Oper) (h : backB 0 l = true) : ∀ (i : Nat) (o : Oper), l[i]? = some o → ∀ e ∈ o.after, e.on < i := fun i o ho e he => by
  have := back_spec l 0 h i o ho e he; omega
/-- What each operation of the sum has. -/
def C10 (b1 b2 p5 p6 N1 N2 : Nat) : Nat → Value → Prop
  | 0, v => v = .pointer (some ⟨p5, 2, none⟩)
  | 1, v => v = .func (.func 102) #[.pointer (some ⟨b1, 0, none⟩)] #[]
  | 2, v => ∃ a c, v = .slice a N1 c
  | 3, v => v = .int .i64 N1
  | 4, v => v = .pointer (some ⟨p6, 2, none⟩)
  | 5, v => v = .func (.func 106) #[.pointer (some ⟨b2, 0, none⟩)] #[]
  | 6, v => ∃ a c, v = .slice a N2 c
  | 7, v => v = .int .i64 N2
  | 8, v => v = .int .i64 ((N1 : Int) + N2)
  | 9, v => v = .int .i64 ((N1 : Int) + N2)
  | _, _ => True

set_option maxRecDepth 100000 in
set_option maxHeartbeats 800000 in
theorem countLevels_any (b1 b2 : Nat) (sd1 sd2 : Int) (s1 s2 : List Od) (w : World) (h1 : TreeAt 158 true w b1 sd1 s1) (h2 : TreeAt 161 false w b2 sd2 s2) (n1 : s1.length ≤ 20) (n2 : s2.length ≤ 20) :
    Calls Try.prog 69 #[side_b b1, side_s b2] w fun e w' => e = .returned (.int .i64 (((lvsOf true sd1 s1).length : Int) + (lvsOf false sd2 s2).length)) ∧ Below w.heap.size w w' := by
  have hb1 := treeAt_lt h1
  have hb2 := treeAt_lt h2
  generalize hL1 : (lvsOf true sd1 s1).length = N1
  generalize hL2 : (lvsOf false sd2 s2).length = N2
  have hN1 : N1 ≤ 20 := by rw [← hL1, lvsOf, List.length_map]; exact Nat.le_trans (tks_len _ _) n1
  have hN2 : N2 ≤ 20 := by rw [← hL2, lvsOf, List.length_map]; exact Nat.le_trans (tks_len _ _) n2
  have HLL : Hid ((lvsOf true sd1 s1).length = N1 ∧ (lvsOf false sd2 s2).length = N2) := ⟨hL1, hL2⟩
  have hs1 : (w.alloc (Obj.cells (sideL_b b1).toArray 84)).heap.size = w.heap.size + 1 := size_made _ _
  have hs2 : ((w.alloc (Obj.cells (sideL_b b1).toArray 84)).alloc (Obj.cells (sideL_s b2).toArray 84)).heap.size = w.heap.size + 1 + 1 := by rw [size_made, hs1]
  have r0 := cells_made w (sideL_b b1) 84
  have r1 := cells_made (w.alloc (Obj.cells (sideL_b b1).toArray 84)) (sideL_s b2) 84
  rw [hs1] at r1
  have r0' := range_below r0 (C := w.heap.size + 1) ((Below.refl _ _).alloc (by rw [hs1]; omega) (Obj.cells (sideL_s b2).toArray 84)) (by omega)
  have HB0 : Hid (Below w.heap.size w ((w.alloc (Obj.cells (sideL_b b1).toArray 84)).alloc (Obj.cells (sideL_s b2).toArray 84))) := ((Below.refl _ _).alloc (Nat.le_refl _) _).alloc (by rw [hs1]; omega) _
  have HR5 := hide r0'
  have HR6 := hide r1
  have HS2 := hide hs2
  have HT1 := hide (treeAt_block h1 ((unhide HB0).block _ hb1))
  have HT2 := hide (treeAt_block h2 ((unhide HB0).block _ hb2))
  clear r0 r1 r0' hs1 hs2 hL1 hL2 h1 h2
  unfold side_b side_s
  go_enter Try.func69, Try.ntmps69
  go_wp2_with fail
  unfold sideL_b sideL_s at HB0 HR5 HR6 HS2 HT1 HT2
  generalize hW : ((w.alloc (Obj.cells (List.toArray [.func (.func 100) #[.pointer (some ⟨b1, 0, none⟩)] #[], .func (.func 101) #[.pointer (some ⟨b1, 0, none⟩)] #[], .func (.func 102) #[.pointer (some ⟨b1, 0, none⟩)] #[]]) 84)).alloc (Obj.cells (List.toArray [.func (.func 104) #[.pointer (some ⟨b2, 0, none⟩)] #[], .func (.func 105) #[.pointer (some ⟨b2, 0, none⟩)] #[], .func (.func 106) #[.pointer (some ⟨b2, 0, none⟩)] #[]]) 84)) = W at HB0 HR5 HR6 HS2 HT1 HT2
  have hb1s : b1 < W.heap.size := treeAt_lt (unhide HT1)
  have hb2s : b2 < W.heap.size := treeAt_lt (unhide HT2)
  have hp5 : w.heap.size < W.heap.size := by rw [unhide HS2]; omega
  have hp6 : w.heap.size + 1 < W.heap.size := by rw [unhide HS2]; omega
  refine wp_region_inv (RGrow W (fun f => { tmps := #[side_b b1, side_s b2, .pointer (some ⟨w.heap.size, 0, none⟩), .pointer (some ⟨w.heap.size + 1, 0, none⟩), f 9, f 0, f 1, f 2, f 3, f 4, f 5, f 6, f 7, f 8], defers := [] }) (C10 b1 b2 w.heap.size (w.heap.size + 1) N1 N2)) (by kernel_rfl) ?_ ?_ ?_
  · refine ⟨upd (fun _ => undef) 9 (.int .i64 0), rfl, ?_, fun j hj => by rw [List.getElem?_replicate] at hj; split at hj <;> simp at hj⟩
    rw [← hW]
    exact ⟨rfl, rfl, rfl, Nat.le_refl _, fun _ _ => rfl⟩
  · rintro x A V ⟨f, rfl, hbel, hC⟩ hx hrd
    have hall9 := ready_all hrd hx (acyc _ (by kernel_rfl)) 9 (by simp)
    have e9 : f 9 = .int .i64 ((N1 : Int) + N2) := hC 9 hall9
    simp only [e9]
    have HBV := hide hbel
    clear hC hx hrd hall9 e9 hbel
    go_wp2_with fail
    go_ret
    exact ⟨rfl, (unhide HB0).trans ((unhide HBV).mono (unhide HB0).size)⟩
  · rintro x A V i o ⟨f, rfl, hbel, hC⟩ hx ho hxi hall
    have HBV := hide hbel
    have HC := hide hC
    match i, ho with
    | 0, ho =>
      simp only [List.getElem?_cons_zero, Option.some.injEq] at ho
      subst ho
      clear hall hC hbel
      rw [if_pos (by rfl)]
      unfold Oper.wp
      go_simp
      exact ⟨upd f 0 (.pointer (some ⟨w.heap.size, 2, none⟩)), by simp [upd], unhide HBV, step_upd (unhide HC) rfl⟩
    | 1, ho =>
      simp only [List.getElem?_cons_succ, List.getElem?_cons_zero, Option.some.injEq] at ho
      subst ho
      have g0 : C10 b1 b2 w.heap.size (w.heap.size + 1) N1 N2 0 (f 0) := hC 0 (hall ⟨0, .data⟩ (by simp) rfl)
      simp only [C10] at g0
      have d2 := range_below (unhide HR5) hbel hp5 2 _ rfl
      clear hall hC hbel
      rw [if_pos (by rfl)]
      unfold Oper.wp
      go_simp
      exact ⟨upd f 1 (.func (.func 102) #[.pointer (some ⟨b1, 0, none⟩)] #[]), by simp [upd, g0], unhide HBV, step_upd (unhide HC) rfl⟩
    | 2, ho =>
      simp only [List.getElem?_cons_succ, List.getElem?_cons_zero, Option.some.injEq] at ho
      subst ho
      have g1 : C10 b1 b2 w.heap.size (w.heap.size + 1) N1 N2 1 (f 1) := hC 1 (hall ⟨1, .data⟩ (by simp) rfl)
      simp only [C10] at g1
      have ht := treeAt_block (unhide HT1) (hbel.block _ hb1s)
      have HTV := hide ht
      clear hall hC hbel ht
      rw [if_pos (by rfl)]
      unfold Oper.wp
      go_simp
      refine (levels_b b1 sd1 s1 V (unhide HTV) n1).mono ?_
      rintro e w4 ⟨v4, rfl, ⟨al, cp, rfl, -, -⟩, hb4⟩
      rw [(unhide HLL).1]
      exact ⟨upd f 2 (.slice al N1 cp), by simp [upd, g1], (unhide HBV).trans (hb4.mono (unhide HBV).size), step_upd (unhide HC) ⟨al, cp, rfl⟩⟩
    | 3, ho =>
      simp only [List.getElem?_cons_succ, List.getElem?_cons_zero, Option.some.injEq] at ho
      subst ho
      have g2 : C10 b1 b2 w.heap.size (w.heap.size + 1) N1 N2 2 (f 2) := hC 2 (hall ⟨2, .data⟩ (by simp) rfl)
      obtain ⟨al, cp, g2⟩ := g2
      clear hall hC hbel
      rw [if_pos (by rfl)]
      unfold Oper.wp
      go_simp
      exact ⟨upd f 3 (.int .i64 N1), by simp [upd, g2], unhide HBV, step_upd (unhide HC) rfl⟩
    | 4, ho =>
      simp only [List.getElem?_cons_succ, List.getElem?_cons_zero, Option.some.injEq] at ho
      subst ho
      clear hall hC hbel
      rw [if_pos (by rfl)]
      unfold Oper.wp
      go_simp
      exact ⟨upd f 4 (.pointer (some ⟨w.heap.size + 1, 2, none⟩)), by simp [upd], unhide HBV, step_upd (unhide HC) rfl⟩
    | 5, ho =>
      simp only [List.getElem?_cons_succ, List.getElem?_cons_zero, Option.some.injEq] at ho
      subst ho
      have g4 : C10 b1 b2 w.heap.size (w.heap.size + 1) N1 N2 4 (f 4) := hC 4 (hall ⟨4, .data⟩ (by simp) rfl)
      simp only [C10] at g4
      have d2 := range_below (unhide HR6) hbel hp6 2 _ rfl
      clear hall hC hbel
      rw [if_pos (by rfl)]
      unfold Oper.wp
      go_simp
      exact ⟨upd f 5 (.func (.func 106) #[.pointer (some ⟨b2, 0, none⟩)] #[]), by simp [upd, g4], unhide HBV, step_upd (unhide HC) rfl⟩
    | 6, ho =>
      simp only [List.getElem?_cons_succ, List.getElem?_cons_zero, Option.some.injEq] at ho
      subst ho
      have g5 : C10 b1 b2 w.heap.size (w.heap.size + 1) N1 N2 5 (f 5) := hC 5 (hall ⟨5, .data⟩ (by simp) rfl)
      simp only [C10] at g5
      have ht := treeAt_block (unhide HT2) (hbel.block _ hb2s)
      have HTV := hide ht
      clear hall hC hbel ht
      rw [if_pos (by rfl)]
      unfold Oper.wp
      go_simp
      refine (levels_s b2 sd2 s2 V (unhide HTV) n2).mono ?_
      rintro e w4 ⟨v4, rfl, ⟨al, cp, rfl, -, -⟩, hb4⟩
      rw [(unhide HLL).2]
      exact ⟨upd f 6 (.slice al N2 cp), by simp [upd, g5], (unhide HBV).trans (hb4.mono (unhide HBV).size), step_upd (unhide HC) ⟨al, cp, rfl⟩⟩
    | 7, ho =>
      simp only [List.getElem?_cons_succ, List.getElem?_cons_zero, Option.some.injEq] at ho
      subst ho
      have g6 : C10 b1 b2 w.heap.size (w.heap.size + 1) N1 N2 6 (f 6) := hC 6 (hall ⟨6, .data⟩ (by simp) rfl)
      obtain ⟨al, cp, g6⟩ := g6
      clear hall hC hbel
      rw [if_pos (by rfl)]
      unfold Oper.wp
      go_simp
      exact ⟨upd f 7 (.int .i64 N2), by simp [upd, g6], unhide HBV, step_upd (unhide HC) rfl⟩
    | 8, ho =>
      simp only [List.getElem?_cons_succ, List.getElem?_cons_zero, Option.some.injEq] at ho
      subst ho
      have g3 : C10 b1 b2 w.heap.size (w.heap.size + 1) N1 N2 3 (f 3) := hC 3 (hall ⟨3, .data⟩ (by simp) rfl)
      have g7 : C10 b1 b2 w.heap.size (w.heap.size + 1) N1 N2 7 (f 7) := hC 7 (hall ⟨7, .data⟩ (by simp) rfl)
      simp only [C10] at g3
      simp only [C10] at g7
      have hwr8 : IntKind.i64.wrap ((N1 : Int) + N2) = (N1 : Int) + N2 := by rw [IntKind.wrap_i64]; omega
      clear hall hC hbel
      rw [if_pos (by rfl)]
      unfold Oper.wp
      go_simp
      exact ⟨upd f 8 (.int .i64 ((N1 : Int) + N2)), by simp [upd, g3, g7], unhide HBV, step_upd (unhide HC) rfl⟩
    | 9, ho =>
      simp only [List.getElem?_cons_succ, List.getElem?_cons_zero, Option.some.injEq] at ho
      subst ho
      have g8 : C10 b1 b2 w.heap.size (w.heap.size + 1) N1 N2 8 (f 8) := hC 8 (hall ⟨8, .data⟩ (by simp) rfl)
      simp only [C10] at g8
      clear hall hC hbel
      rw [if_pos (by rfl)]
      unfold Oper.wp
      go_simp
      exact ⟨upd f 9 (.int .i64 ((N1 : Int) + N2)), by simp [upd, g8], unhide HBV, step_upd (unhide HC) rfl⟩
    | n + 10, ho => simp at ho
end Go.Proofs.Yteljmhgpffekgaa
