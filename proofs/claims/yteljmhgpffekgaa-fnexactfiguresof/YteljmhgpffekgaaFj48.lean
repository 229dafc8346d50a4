/-
  The exact law of FiguresOf, walked: it returns true, and nothing that was there is turned.
-/
import Derived.Test.YteljmhgpffekgaaFj09
import Derived.Test.YteljmhgpffekgaaFj47
namespace Go.Proofs.Yteljmhgpffekgaa
open Go.RowKit
set_option linter.unusedVariables false

theorem bx2_below {w W V : World} {r vs : List Value} (h : Bx2 w W r vs) (hb : Below W.heap.size W V) : Bx2 w V r vs := by
  have hz := h.z
  exact ⟨bx_below h.o hb (by omega), bx_below h.k hb (by omega), h.b.trans (hb.mono h.b.size), Nat.le_trans hz hb.size⟩
/-- What the operations of the model's part have. -/
def C5 (t : TtF) (n : Int) (l : List Od) (a : Option Addr) (cap : Nat) (c0 : Int) : Nat → Value → Prop
  | 0, v => v = .agg #[.int .i64 t.a, .int .i64 t.b, .int .i64 t.c, .int .i64 t.d, .int .i64 t.e, .int .i64 t.f, .int .i64 t.g, .int .i64 t.h]
  | 1, v => v = .agg #[.int .i64 t.a, .int .i64 t.b, .int .i64 t.c, .int .i64 t.d, .int .i64 t.e, .int .i64 t.f, .int .i64 t.g, .int .i64 t.h]
  | 2, v => v = .agg #[.int .i64 n, .slice a l.length cap]
  | 4, v => ∃ x m s y, v = .tuple #[.agg #[.float .f64 x, .float .f64 m, .float .f64 s, .float .f64 y], .int .i64 c0] ∧ FgB n l t.e t.f x m s y
  | 5, v => ∃ x m s y, v = .tuple #[.agg #[.float .f64 x, .float .f64 m, .float .f64 s, .float .f64 y], .int .i64 c0] ∧ FgB n l t.e t.f x m s y
  | 6, v => ∃ x m s y, v = .agg #[.float .f64 x, .float .f64 m, .float .f64 s, .float .f64 y] ∧ FgB n l t.e t.f x m s y
  | 7, v => v = .int .i64 c0
  | 10, v => v = .int .i64 c0
  | _, _ => True
def D5 (B : Nat) (n : Int) (l : List Od) (W : World) : Nat → Value → Prop
  | 3, v => ∃ a6 cap6, v = .agg #[.int .i64 n, .slice a6 l.length cap6] ∧ RdR Od.vs 6 W (.slice a6 l.length cap6) l
  | 8, v => ∃ b, v = .pointer (some ⟨b, 0, none⟩) ∧ B ≤ b ∧ b < W.heap.size ∧ Bx W b [.float .f64 0, .float .f64 0, .float .f64 0, .float .f64 0]
  | _, _ => True
theorem d5_mono {B : Nat} {n : Int} {l : List Od} : ∀ W W' j v, Below W.heap.size W W' → D5 B n l W j v → D5 B n l W' j v := by
  intro W W' j v hb h
  match j, h with
  | 3, ⟨a6, cap6, h1, h2⟩ => exact ⟨a6, cap6, h1, rdR_below h2 hb (Nat.le_refl _)⟩
  | 8, ⟨b, h1, h2, h3, h4⟩ => exact ⟨b, h1, h2, Nat.lt_of_lt_of_le h3 hb.size, bx_below h4 hb h3⟩
  | 0, _ | 1, _ | 2, _ | 4, _ | 5, _ | 6, _ | 7, _ => trivial
  | k + 9, _ => trivial
/-- What the operations of the program's part have. -/
def C7 (t : TtF) (n : Int) (l : List Od) (a5 : Option Addr) (cap5 : Nat) (c0 : Int) : Nat → Value → Prop
  | 0, v => v = .agg #[.int .i64 t.a, .int .i64 t.b, .int .i64 t.c, .int .i64 t.d, .int .i64 t.e, .int .i64 t.f, .int .i64 t.g, .int .i64 t.h]
  | 1, v => v = .agg #[.int .i64 t.a, .int .i64 t.b, .int .i64 t.c, .int .i64 t.d, .int .i64 t.e, .int .i64 t.f, .int .i64 t.g, .int .i64 t.h]
  | 2, v => v = .agg #[.int .i64 n, .slice a5 l.length cap5]
  | 3, v => ∃ x m s y, v = .tuple #[.agg #[.float .f64 x, .float .f64 m, .float .f64 s, .float .f64 y], .int .i64 c0] ∧ FgB n l t.e t.f x m s y
  | 4, v => ∃ x m s y, v = .tuple #[.agg #[.float .f64 x, .float .f64 m, .float .f64 s, .float .f64 y], .int .i64 c0] ∧ FgB n l t.e t.f x m s y
  | 5, v => ∃ x m s y, v = .agg #[.float .f64 x, .float .f64 m, .float .f64 s, .float .f64 y] ∧ FgB n l t.e t.f x m s y
  | 6, v => v = .int .i64 c0
  | 9, v => v = .int .i64 c0
  | _, _ => True
def D7 (B : Nat) (W : World) : Nat → Value → Prop
  | 7, v => ∃ b, v = .pointer (some ⟨b, 0, none⟩) ∧ B ≤ b ∧ b < W.heap.size ∧ Bx W b [.float .f64 0, .float .f64 0, .float .f64 0, .float .f64 0]
  | _, _ => True
theorem d7_mono {B : Nat} : ∀ W W' j v, Below W.heap.size W W' → D7 B W j v → D7 B W' j v := by
  intro W W' j v hb h
  match j, h with
  | 7, ⟨b, h1, h2, h3, h4⟩ => exact ⟨b, h1, h2, Nat.lt_of_lt_of_le h3 hb.size, bx_below h4 hb h3⟩
  | 0, _ | 1, _ | 2, _ | 3, _ | 4, _ | 5, _ | 6, _ => trivial
  | k + 8, _ => trivial
/-- A block that one of the two parts has written. -/
def QF (k : Nat) (base : World) (n : Int) (l : List Od) (te tf : Int) (f : Nat → Value) (W : World) : Prop :=
  ∃ b V x m s y, f k = .pointer (some ⟨b, 0, none⟩) ∧ base.heap.size ≤ b ∧ b < V.heap.size ∧ Bx V b [.float .f64 0, .float .f64 0, .float .f64 0, .float .f64 0] ∧ Below base.heap.size base V ∧ W = V.setCells b 0 [.float .f64 x, .float .f64 m, .float .f64 s, .float .f64 y] ∧ FgB n l te tf x m s y

set_option maxRecDepth 100000 in
set_option maxHeartbeats 3200000 in
theorem exactFig (t : TtF) (n : Int) (v : Value) (l : List Od) (w : World) (hr : RdR Od.vs 6 w v l) (hl : l.length ≤ 1048576) (hg : ∀ c ∈ l, c.tag.size ≤ maxLen) :
    Calls Try.prog 5 #[.agg #[.int .i64 t.a, .int .i64 t.b, .int .i64 t.c, .int .i64 t.d, .int .i64 t.e, .int .i64 t.f, .int .i64 t.g, .int .i64 t.h], .agg #[.int .i64 n, v]] w fun e w' => e = .returned (.bool true) ∧ Below w.heap.size w w' := by
  have HR := hide hr
  have HG := hide hg
  obtain ⟨a, cap, rfl, _, hc⟩ := hr
  generalize hc0 : fgC n l t.e t.f = c0
  have HC0 := hide hc0
  have HM := hide (bx2_made w [.int .i64 t.a, .int .i64 t.b, .int .i64 t.c, .int .i64 t.d, .int .i64 t.e, .int .i64 t.f, .int .i64 t.g, .int .i64 t.h] [.int .i64 n, .slice a l.length cap] 53 56)
  clear hg hc hc0
  go_enter Try.func5, Try.ntmps5
  go_wp2_with fail
  change Calls _ _ _ ((w.alloc (Obj.cells #[.int .i64 t.a, .int .i64 t.b, .int .i64 t.c, .int .i64 t.d, .int .i64 t.e, .int .i64 t.f, .int .i64 t.g, .int .i64 t.h] 53)).alloc (Obj.cells #[.int .i64 n, .slice a l.length cap] 56)) _
  generalize ((w.alloc (Obj.cells #[.int .i64 t.a, .int .i64 t.b, .int .i64 t.c, .int .i64 t.d, .int .i64 t.e, .int .i64 t.f, .int .i64 t.g, .int .i64 t.h] 53)).alloc (Obj.cells #[.int .i64 n, .slice a l.length cap] 56)) = X at HM ⊢
  have HM : Hid (Bx2 w X [.int .i64 t.a, .int .i64 t.b, .int .i64 t.c, .int .i64 t.d, .int .i64 t.e, .int .i64 t.f, .int .i64 t.g, .int .i64 t.h] [.int .i64 n, .slice a l.length cap]) := unhide HM
  refine (szBook_any n _ l X (rdR_below (unhide HR) (unhide HM).b (Nat.le_refl _)) hl (unhide HG)).mono ?_
  rintro e w2 ⟨y, rfl, hy0, hy1, hb⟩
  have HB2 := hide (bx2_below (unhide HM) hb)
  clear hb HM
  have HR2 := hide (rdR_below (unhide HR) (unhide HB2).b (Nat.le_refl _))
  by_cases hy : y < 0
  · go_wp2_with fail
    go_ret
    exact ⟨rfl, (unhide HB2).b⟩
  go_wp2_with fail
  refine wp_region_inv2 (RFA (fun f => { tmps := #[.agg #[.int .i64 t.a, .int .i64 t.b, .int .i64 t.c, .int .i64 t.d, .int .i64 t.e, .int .i64 t.f, .int .i64 t.g, .int .i64 t.h], .agg #[.int .i64 n, .slice a l.length cap], .pointer (some ⟨w.heap.size, 0, none⟩), .pointer (some ⟨w.heap.size + 1, 0, none⟩), .bool false, .int .i64 y, f 8, f 10, undef, undef, undef, .agg #[.int .i64 n, .slice a l.length cap], .int .i64 1048576, .int .i64 y, .int .i64 y, .bool (decide (y < 0)), f 5, f 0, f 1, f 2, f 3, f 4, f 6, f 7, undef, undef, undef, undef, undef, undef, undef, undef, undef, undef, undef, undef, undef, undef, undef, undef, undef, undef, undef, undef, undef, undef, undef], defers := [] }) (C5 t n l a cap c0) (D5 w2.heap.size n l) 9 (QF 8 w2 n l t.e t.f) w2) (by kernel_rfl) ?_ ?_ ?_
  · exact ⟨fun _ => undef, rfl, rf_start (by decide)⟩
  rotate_left
  · rintro x A V i op ⟨f, rfl, hR⟩ hcl hx ho hxi hall
    have HRR := hide hR
    match i, ho with
    | 0, ho =>
      simp only [List.getElem?_cons_zero, Option.some.injEq] at ho
      subst ho
      have hn : x[9]? = some false := wait_no hcl 14 0 9 (by kernel_rfl) hx (by simp) hxi
      have hbV := hR.b hn
      have z0 := bx_cell (bx2_below (unhide HB2) hbV).o 0 rfl
      have z1 := bx_cell (bx2_below (unhide HB2) hbV).o 1 rfl
      have z2 := bx_cell (bx2_below (unhide HB2) hbV).o 2 rfl
      have z3 := bx_cell (bx2_below (unhide HB2) hbV).o 3 rfl
      have z4 := bx_cell (bx2_below (unhide HB2) hbV).o 4 rfl
      have z5 := bx_cell (bx2_below (unhide HB2) hbV).o 5 rfl
      have z6 := bx_cell (bx2_below (unhide HB2) hbV).o 6 rfl
      have z7 := bx_cell (bx2_below (unhide HB2) hbV).o 7 rfl
      clear hall hR hcl
      rw [if_pos (by rfl)]
      unfold Oper.wp
      go_simp
      exact ⟨upd f 0 (.agg #[.int .i64 t.a, .int .i64 t.b, .int .i64 t.c, .int .i64 t.d, .int .i64 t.e, .int .i64 t.f, .int .i64 t.g, .int .i64 t.h]), by simp [upd], rf_val (unhide HRR) 0 _ hn (by decide) rfl trivial⟩
    | 1, ho =>
      simp only [List.getElem?_cons_succ, List.getElem?_cons_zero, Option.some.injEq] at ho
      subst ho
      have hn : x[9]? = some false := wait_no hcl 14 1 9 (by kernel_rfl) hx (by simp) hxi
      have hbV := hR.b hn
      have g0 : f 0 = .agg #[.int .i64 t.a, .int .i64 t.b, .int .i64 t.c, .int .i64 t.d, .int .i64 t.e, .int .i64 t.f, .int .i64 t.g, .int .i64 t.h] := hR.c 0 (hall ⟨0, .data⟩ (by simp) rfl)
      clear hall hR hcl
      rw [if_pos (by rfl)]
      unfold Oper.wp
      go_simp
      refine (toTotF_any t V).mono ?_
      rintro e w6 ⟨rfl, hb6⟩
      exact ⟨upd f 1 (.agg #[.int .i64 t.a, .int .i64 t.b, .int .i64 t.c, .int .i64 t.d, .int .i64 t.e, .int .i64 t.f, .int .i64 t.g, .int .i64 t.h]), by simp [upd, g0], rf_val (rf_grow d5_mono (unhide HRR) hn hb6) 1 _ hn (by decide) rfl trivial⟩
    | 2, ho =>
      simp only [List.getElem?_cons_succ, List.getElem?_cons_zero, Option.some.injEq] at ho
      subst ho
      have hn : x[9]? = some false := wait_no hcl 14 2 9 (by kernel_rfl) hx (by simp) hxi
      have hbV := hR.b hn
      have z0 := bx_cell (bx2_below (unhide HB2) hbV).k 0 rfl
      have z1 := bx_cell (bx2_below (unhide HB2) hbV).k 1 rfl
      clear hall hR hcl
      rw [if_pos (by rfl)]
      unfold Oper.wp
      go_simp
      exact ⟨upd f 2 (.agg #[.int .i64 n, .slice a l.length cap]), by simp [upd], rf_val (unhide HRR) 2 _ hn (by decide) rfl trivial⟩
    | 3, ho =>
      simp only [List.getElem?_cons_succ, List.getElem?_cons_zero, Option.some.injEq] at ho
      subst ho
      have hn : x[9]? = some false := wait_no hcl 14 3 9 (by kernel_rfl) hx (by simp) hxi
      have hbV := hR.b hn
      have g2 : f 2 = .agg #[.int .i64 n, .slice a l.length cap] := hR.c 2 (hall ⟨2, .data⟩ (by simp) rfl)
      clear hall hR hcl
      rw [if_pos (by rfl)]
      unfold Oper.wp
      go_simp
      refine (toBook_any n _ l V (rdR_below (unhide HR2) hbV (Nat.le_refl _))).mono ?_
      rintro e w6 ⟨v6, rfl, ho6, hb6⟩
      have hrd6 := ownR_rd ho6
      obtain ⟨a6, cap6, rfl, -, -⟩ := ho6
      exact ⟨upd f 3 (.agg #[.int .i64 n, .slice a6 l.length cap6]), by simp [upd, g2], rf_val (rf_grow d5_mono (unhide HRR) hn hb6) 3 _ hn (by decide) trivial ⟨a6, cap6, rfl, hrd6⟩⟩
    | 4, ho =>
      simp only [List.getElem?_cons_succ, List.getElem?_cons_zero, Option.some.injEq] at ho
      subst ho
      have hn : x[9]? = some false := wait_no hcl 14 4 9 (by kernel_rfl) hx (by simp) hxi
      have hbV := hR.b hn
      have g1 : f 1 = .agg #[.int .i64 t.a, .int .i64 t.b, .int .i64 t.c, .int .i64 t.d, .int .i64 t.e, .int .i64 t.f, .int .i64 t.g, .int .i64 t.h] := hR.c 1 (hall ⟨1, .data⟩ (by simp) rfl)
      obtain ⟨a6, cap6, g3, hrd6⟩ := hR.d hn 3 (hall ⟨3, .data⟩ (by simp) rfl)
      have HRD6 := hide hrd6
      clear hrd6
      clear hall hR hcl
      rw [if_pos (by rfl)]
      unfold Oper.wp
      go_simp
      refine (specFig_any t n _ l V (unhide HRD6) (unhide HG)).mono ?_
      rw [unhide HC0]
      rintro e w6 ⟨x1, m1, s1, y1, rfl, hF, hb6⟩
      exact ⟨upd f 4 (.tuple #[.agg #[.float .f64 x1, .float .f64 m1, .float .f64 s1, .float .f64 y1], .int .i64 c0]), by simp [upd, g1, g3], rf_val (rf_grow d5_mono (unhide HRR) hn hb6) 4 _ hn (by decide) ⟨x1, m1, s1, y1, rfl, hF⟩ trivial⟩
    | 5, ho =>
      simp only [List.getElem?_cons_succ, List.getElem?_cons_zero, Option.some.injEq] at ho
      subst ho
      have hn : x[9]? = some false := wait_no hcl 14 5 9 (by kernel_rfl) hx (by simp) hxi
      have hbV := hR.b hn
      obtain ⟨x1, m1, s1, y1, g4, hF⟩ := hR.c 4 (hall ⟨4, .data⟩ (by simp) rfl)
      have HFF := hide hF
      clear hF
      clear hall hR hcl
      rw [if_pos (by rfl)]
      unfold Oper.wp
      go_simp
      exact ⟨upd f 5 (.tuple #[.agg #[.float .f64 x1, .float .f64 m1, .float .f64 s1, .float .f64 y1], .int .i64 c0]), by simp [upd, g4], rf_val (unhide HRR) 5 _ hn (by decide) ⟨x1, m1, s1, y1, rfl, unhide HFF⟩ trivial⟩
    | 6, ho =>
      simp only [List.getElem?_cons_succ, List.getElem?_cons_zero, Option.some.injEq] at ho
      subst ho
      have hn : x[9]? = some false := wait_no hcl 14 6 9 (by kernel_rfl) hx (by simp) hxi
      have hbV := hR.b hn
      obtain ⟨x1, m1, s1, y1, g5, hF⟩ := hR.c 5 (hall ⟨5, .data⟩ (by simp) rfl)
      have HFF := hide hF
      clear hF
      clear hall hR hcl
      rw [if_pos (by rfl)]
      unfold Oper.wp
      go_simp
      exact ⟨upd f 6 (.agg #[.float .f64 x1, .float .f64 m1, .float .f64 s1, .float .f64 y1]), by simp [upd, g5], rf_val (unhide HRR) 6 _ hn (by decide) ⟨x1, m1, s1, y1, rfl, unhide HFF⟩ trivial⟩
    | 7, ho =>
      simp only [List.getElem?_cons_succ, List.getElem?_cons_zero, Option.some.injEq] at ho
      subst ho
      obtain ⟨x1, m1, s1, y1, g5, hF⟩ := hR.c 5 (hall ⟨5, .data⟩ (by simp) rfl)
      clear hF
      clear hall hR hcl
      rw [if_pos (by rfl)]
      unfold Oper.wp
      go_simp
      refine ⟨upd f 7 (.int .i64 c0), by simp [upd, g5], ?_⟩
      rcases bit_or (j := 9) hx (by decide) with hn | hn
      · exact rf_val (unhide HRR) 7 _ hn (by decide) rfl trivial
      · exact rf_after (unhide HRR) 7 _ hn (by decide) rfl (fun ⟨b, V, x1, m1, s1, y1, h8, h⟩ => ⟨b, V, x1, m1, s1, y1, h8, h⟩)
    | 8, ho =>
      simp only [List.getElem?_cons_succ, List.getElem?_cons_zero, Option.some.injEq] at ho
      subst ho
      have hn : x[9]? = some false := wait_no hcl 14 8 9 (by kernel_rfl) hx (by simp) hxi
      have hbV := hR.b hn
      clear hall hR hcl
      rw [if_pos (by rfl)]
      unfold Oper.wp
      go_simp
      have hb6 : Below V.heap.size V (V.alloc (Obj.cells #[.float .f64 0, .float .f64 0, .float .f64 0, .float .f64 0] 50)) := (Below.refl _ _).alloc (Nat.le_refl _) _
      exact ⟨upd f 8 (.pointer (some ⟨V.heap.size, 0, none⟩)), by simp [upd], rf_val (rf_grow d5_mono (unhide HRR) hn hb6) 8 _ hn (by decide) trivial ⟨V.heap.size, rfl, hbV.size, by simp, bx_made V [.float .f64 0, .float .f64 0, .float .f64 0, .float .f64 0] 50⟩⟩
    | 9, ho =>
      simp only [List.getElem?_cons_succ, List.getElem?_cons_zero, Option.some.injEq] at ho
      subst ho
      have hn : x[9]? = some false := hxi
      have hbV := hR.b hn
      obtain ⟨x1, m1, s1, y1, g6, hF⟩ := hR.c 6 (hall ⟨6, .data⟩ (by simp) rfl)
      obtain ⟨b, g8, hb0, hbs, hbx⟩ := hR.d hn 8 (hall ⟨8, .data⟩ (by simp) rfl)
      have HFF := hide hF
      clear hF
      have yc0 : V.cell? ⟨b, 0, none⟩ = some (.float .f64 0) := bx_cell hbx 0 rfl
      have yc1 : V.cell? ⟨b, 1, none⟩ = some (.float .f64 0) := bx_cell hbx 1 rfl
      have yc2 : V.cell? ⟨b, 2, none⟩ = some (.float .f64 0) := bx_cell hbx 2 rfl
      have yc3 : V.cell? ⟨b, 3, none⟩ = some (.float .f64 0) := bx_cell hbx 3 rfl
      have q0 : V.frozen? ⟨b, 0, none⟩ = false := bx_free hbx 0 (by decide)
      have q1 : V.frozen? ⟨b, 1, none⟩ = false := bx_free hbx 1 (by decide)
      have q2 : V.frozen? ⟨b, 2, none⟩ = false := bx_free hbx 2 (by decide)
      have q3 : V.frozen? ⟨b, 3, none⟩ = false := bx_free hbx 3 (by decide)
      have HBX := hide hbx
      clear hbx
      have hsf := sflF
      have HG8 := hide g8
      clear hall hR hcl
      rw [if_pos (by rfl)]
      unfold Oper.wp
      go_simp
      exact ⟨f, by simp [g6, g8], rf_write (unhide HRR) hn trivial ⟨b, V, x1, m1, s1, y1, unhide HG8, hb0, hbs, unhide HBX, hbV, rfl, unhide HFF⟩⟩
    | 10, ho =>
      simp only [List.getElem?_cons_succ, List.getElem?_cons_zero, Option.some.injEq] at ho
      subst ho
      have hn : x[9]? = some true := hall ⟨9, .chain⟩ (by simp) rfl
      have g7 : f 7 = .int .i64 c0 := hR.c 7 (hall ⟨7, .data⟩ (by simp) rfl)
      clear hall hR hcl
      rw [if_pos (by rfl)]
      unfold Oper.wp
      go_simp
      exact ⟨upd f 10 (.int .i64 c0), by simp [upd, g7], rf_after (unhide HRR) 10 _ hn (by decide) rfl (fun ⟨b, V, x1, m1, s1, y1, h8, h⟩ => ⟨b, V, x1, m1, s1, y1, h8, h⟩)⟩
    | i + 11, ho => simp at ho
  rintro x A W3 ⟨f, rfl, hR⟩ hx hrd
  have hallx := ready_allF hrd hx (by kernel_rfl)
  obtain ⟨b6, V, x1, m1, s1, y1, e8, hb0, hbs, hbx, hbV, eW, hF1⟩ := hR.m (hallx 9 (by simp))
  have e10 : f 10 = .int .i64 c0 := hR.c 10 (hallx 10 (by simp))
  have HF1 := hide hF1
  dsimp only
  rw [e8, e10]
  generalize f 0 = v0
  generalize f 1 = v1
  generalize f 2 = v2
  generalize f 3 = v3
  generalize f 4 = v4
  generalize f 5 = v5
  generalize f 6 = v6
  generalize f 7 = v7
  have HB3 : Hid (Bx2 w W3 [.int .i64 t.a, .int .i64 t.b, .int .i64 t.c, .int .i64 t.d, .int .i64 t.e, .int .i64 t.f, .int .i64 t.g, .int .i64 t.h] [.int .i64 n, .slice a l.length cap] ∧ Bx W3 b6 [.float .f64 x1, .float .f64 m1, .float .f64 s1, .float .f64 y1] ∧ b6 < W3.heap.size) := by
    have hz := (unhide HB2).z
    have h4 := bx2_below (unhide HB2) hbV
    subst eW
    exact ⟨⟨bx_others h4.o (by omega), bx_others h4.k (by omega), below_setCells b6 (by omega) _ 0 V h4.b, by rw [size_setCells]; exact h4.z⟩, bx_setCells hbx rfl, by rw [size_setCells]; exact hbs⟩
  clear hbx hbV eW hb0 hbs hR hallx hrd hx e8 e10 hF1 HB2 HR2
  have c0' : W3.cell? ⟨w.heap.size + 1, 0, none⟩ = some (.int .i64 n) := bx_cell (unhide HB3).1.k 0 rfl
  have c1' : W3.cell? ⟨w.heap.size + 1, 1, none⟩ = some (.slice a l.length cap) := bx_cell (unhide HB3).1.k 1 rfl
  go_wp2_with fail
  refine (toBook_any n _ l W3 (rdR_below (unhide HR) (unhide HB3).1.b (Nat.le_refl _))).mono ?_
  rintro e w5 ⟨v5, rfl, ho5, hb⟩
  have O5 := hide ho5
  have HB5 : Hid (Bx2 w w5 [.int .i64 t.a, .int .i64 t.b, .int .i64 t.c, .int .i64 t.d, .int .i64 t.e, .int .i64 t.f, .int .i64 t.g, .int .i64 t.h] [.int .i64 n, .slice a l.length cap] ∧ Bx w5 b6 [.float .f64 x1, .float .f64 m1, .float .f64 s1, .float .f64 y1] ∧ b6 < w5.heap.size) := ⟨bx2_below (unhide HB3).1 hb, bx_below (unhide HB3).2.1 hb (unhide HB3).2.2, Nat.lt_of_lt_of_le (unhide HB3).2.2 hb.size⟩
  obtain ⟨a5, cap5, rfl, -, -⟩ := ho5
  clear hb c0' c1' HB3
  have H6 : Hid (Below w5.heap.size w5 (w5.alloc (Obj.cells #[.int .i64 n, .slice a5 l.length cap5] 40))) := (Below.refl _ _).alloc (Nat.le_refl _) _
  have HX6 : Hid (Bx (w5.alloc (Obj.cells #[.int .i64 n, .slice a5 l.length cap5] 40)) w5.heap.size [.int .i64 n, .slice a5 l.length cap5]) := bx_made w5 [.int .i64 n, .slice a5 l.length cap5] 40
  have HS8 : Hid (w5.heap.size < (w5.alloc (Obj.cells #[.int .i64 n, .slice a5 l.length cap5] 40)).heap.size) := by show _ < _; simp
  go_wp2_with fail
  generalize (w5.alloc (Obj.cells #[.int .i64 n, .slice a5 l.length cap5] 40)) = W6 at H6 HX6 HS8 ⊢
  have HB6 := hide (bx2_below (unhide HB5).1 (unhide H6))
  have HY6 : Hid (Bx W6 b6 [.float .f64 x1, .float .f64 m1, .float .f64 s1, .float .f64 y1] ∧ b6 < W6.heap.size) := ⟨bx_below (unhide HB5).2.1 (unhide H6) (unhide HB5).2.2, Nat.lt_of_lt_of_le (unhide HB5).2.2 (unhide H6).size⟩
  have HR6 := hide (rdR_below (ownR_rd (unhide O5)) (unhide H6) (Nat.le_refl _))
  have hs8 := unhide HS8
  generalize w5.heap.size = b8 at HX6 hs8 ⊢
  clear H6 HB5 O5 HS8
  refine wp_region_inv2 (RFA (fun f => { tmps := #[.agg #[.int .i64 t.a, .int .i64 t.b, .int .i64 t.c, .int .i64 t.d, .int .i64 t.e, .int .i64 t.f, .int .i64 t.g, .int .i64 t.h], .agg #[.int .i64 n, .slice a l.length cap], .pointer (some ⟨w.heap.size, 0, none⟩), .pointer (some ⟨w.heap.size + 1, 0, none⟩), .bool false, .int .i64 y, .pointer (some ⟨b6, 0, none⟩), .int .i64 c0, .pointer (some ⟨b8, 0, none⟩), f 7, f 9, .agg #[.int .i64 n, .slice a l.length cap], .int .i64 1048576, .int .i64 y, .int .i64 y, .bool (decide (y < 0)), v5, v0, v1, v2, v3, v4, v6, v7, .agg #[.int .i64 n, .slice a l.length cap], .agg #[.int .i64 n, .slice a5 l.length cap5], f 4, f 0, f 1, f 2, f 3, f 5, f 6, undef, undef, undef, undef, undef, undef, undef, undef, undef, undef, undef, undef, undef, undef], defers := [] }) (C7 t n l a5 cap5 c0) (D7 W6.heap.size) 8 (QF 7 W6 n l t.e t.f) W6) (by kernel_rfl) ?_ ?_ ?_
  · exact ⟨fun _ => undef, rfl, rf_start (by decide)⟩
  rotate_left
  · rintro x A V i op ⟨f, rfl, hR⟩ hcl hx ho hxi hall
    have HRR := hide hR
    match i, ho with
    | 0, ho =>
      simp only [List.getElem?_cons_zero, Option.some.injEq] at ho
      subst ho
      have hn : x[8]? = some false := wait_no hcl 14 0 8 (by kernel_rfl) hx (by simp) hxi
      have hbV := hR.b hn
      have z0 := bx_cell (bx2_below (unhide HB6) hbV).o 0 rfl
      have z1 := bx_cell (bx2_below (unhide HB6) hbV).o 1 rfl
      have z2 := bx_cell (bx2_below (unhide HB6) hbV).o 2 rfl
      have z3 := bx_cell (bx2_below (unhide HB6) hbV).o 3 rfl
      have z4 := bx_cell (bx2_below (unhide HB6) hbV).o 4 rfl
      have z5 := bx_cell (bx2_below (unhide HB6) hbV).o 5 rfl
      have z6 := bx_cell (bx2_below (unhide HB6) hbV).o 6 rfl
      have z7 := bx_cell (bx2_below (unhide HB6) hbV).o 7 rfl
      clear hall hR hcl
      rw [if_pos (by rfl)]
      unfold Oper.wp
      go_simp
      exact ⟨upd f 0 (.agg #[.int .i64 t.a, .int .i64 t.b, .int .i64 t.c, .int .i64 t.d, .int .i64 t.e, .int .i64 t.f, .int .i64 t.g, .int .i64 t.h]), by simp [upd], rf_val (unhide HRR) 0 _ hn (by decide) rfl trivial⟩
    | 1, ho =>
      simp only [List.getElem?_cons_succ, List.getElem?_cons_zero, Option.some.injEq] at ho
      subst ho
      have hn : x[8]? = some false := wait_no hcl 14 1 8 (by kernel_rfl) hx (by simp) hxi
      have hbV := hR.b hn
      have g0 : f 0 = .agg #[.int .i64 t.a, .int .i64 t.b, .int .i64 t.c, .int .i64 t.d, .int .i64 t.e, .int .i64 t.f, .int .i64 t.g, .int .i64 t.h] := hR.c 0 (hall ⟨0, .data⟩ (by simp) rfl)
      clear hall hR hcl
      rw [if_pos (by rfl)]
      unfold Oper.wp
      go_simp
      refine (toTotF_any t V).mono ?_
      rintro e w6 ⟨rfl, hb6⟩
      exact ⟨upd f 1 (.agg #[.int .i64 t.a, .int .i64 t.b, .int .i64 t.c, .int .i64 t.d, .int .i64 t.e, .int .i64 t.f, .int .i64 t.g, .int .i64 t.h]), by simp [upd, g0], rf_val (rf_grow d7_mono (unhide HRR) hn hb6) 1 _ hn (by decide) rfl trivial⟩
    | 2, ho =>
      simp only [List.getElem?_cons_succ, List.getElem?_cons_zero, Option.some.injEq] at ho
      subst ho
      have hn : x[8]? = some false := wait_no hcl 14 2 8 (by kernel_rfl) hx (by simp) hxi
      have hbV := hR.b hn
      have z0 := bx_cell (bx_below (unhide HX6) hbV hs8) 0 rfl
      have z1 := bx_cell (bx_below (unhide HX6) hbV hs8) 1 rfl
      clear hall hR hcl
      rw [if_pos (by rfl)]
      unfold Oper.wp
      go_simp
      exact ⟨upd f 2 (.agg #[.int .i64 n, .slice a5 l.length cap5]), by simp [upd], rf_val (unhide HRR) 2 _ hn (by decide) rfl trivial⟩
    | 3, ho =>
      simp only [List.getElem?_cons_succ, List.getElem?_cons_zero, Option.some.injEq] at ho
      subst ho
      have hn : x[8]? = some false := wait_no hcl 14 3 8 (by kernel_rfl) hx (by simp) hxi
      have hbV := hR.b hn
      have g1 : f 1 = .agg #[.int .i64 t.a, .int .i64 t.b, .int .i64 t.c, .int .i64 t.d, .int .i64 t.e, .int .i64 t.f, .int .i64 t.g, .int .i64 t.h] := hR.c 1 (hall ⟨1, .data⟩ (by simp) rfl)
      have g2 : f 2 = .agg #[.int .i64 n, .slice a5 l.length cap5] := hR.c 2 (hall ⟨2, .data⟩ (by simp) rfl)
      clear hall hR hcl
      rw [if_pos (by rfl)]
      unfold Oper.wp
      go_simp
      refine (implFig_any t n _ l V (rdR_below (unhide HR6) hbV (Nat.le_refl _)) (unhide HG)).mono ?_
      rw [unhide HC0]
      rintro e w6 ⟨x1, m1, s1, y1, rfl, hF, hb6⟩
      exact ⟨upd f 3 (.tuple #[.agg #[.float .f64 x1, .float .f64 m1, .float .f64 s1, .float .f64 y1], .int .i64 c0]), by simp [upd, g1, g2], rf_val (rf_grow d7_mono (unhide HRR) hn hb6) 3 _ hn (by decide) ⟨x1, m1, s1, y1, rfl, hF⟩ trivial⟩
    | 4, ho =>
      simp only [List.getElem?_cons_succ, List.getElem?_cons_zero, Option.some.injEq] at ho
      subst ho
      have hn : x[8]? = some false := wait_no hcl 14 4 8 (by kernel_rfl) hx (by simp) hxi
      have hbV := hR.b hn
      obtain ⟨x1, m1, s1, y1, g3, hF⟩ := hR.c 3 (hall ⟨3, .data⟩ (by simp) rfl)
      have HFF := hide hF
      clear hF
      clear hall hR hcl
      rw [if_pos (by rfl)]
      unfold Oper.wp
      go_simp
      exact ⟨upd f 4 (.tuple #[.agg #[.float .f64 x1, .float .f64 m1, .float .f64 s1, .float .f64 y1], .int .i64 c0]), by simp [upd, g3], rf_val (unhide HRR) 4 _ hn (by decide) ⟨x1, m1, s1, y1, rfl, unhide HFF⟩ trivial⟩
    | 5, ho =>
      simp only [List.getElem?_cons_succ, List.getElem?_cons_zero, Option.some.injEq] at ho
      subst ho
      have hn : x[8]? = some false := wait_no hcl 14 5 8 (by kernel_rfl) hx (by simp) hxi
      have hbV := hR.b hn
      obtain ⟨x1, m1, s1, y1, g4, hF⟩ := hR.c 4 (hall ⟨4, .data⟩ (by simp) rfl)
      have HFF := hide hF
      clear hF
      clear hall hR hcl
      rw [if_pos (by rfl)]
      unfold Oper.wp
      go_simp
      exact ⟨upd f 5 (.agg #[.float .f64 x1, .float .f64 m1, .float .f64 s1, .float .f64 y1]), by simp [upd, g4], rf_val (unhide HRR) 5 _ hn (by decide) ⟨x1, m1, s1, y1, rfl, unhide HFF⟩ trivial⟩
    | 6, ho =>
      simp only [List.getElem?_cons_succ, List.getElem?_cons_zero, Option.some.injEq] at ho
      subst ho
      obtain ⟨x1, m1, s1, y1, g4, hF⟩ := hR.c 4 (hall ⟨4, .data⟩ (by simp) rfl)
      clear hF
      clear hall hR hcl
      rw [if_pos (by rfl)]
      unfold Oper.wp
      go_simp
      refine ⟨upd f 6 (.int .i64 c0), by simp [upd, g4], ?_⟩
      rcases bit_or (j := 8) hx (by decide) with hn | hn
      · exact rf_val (unhide HRR) 6 _ hn (by decide) rfl trivial
      · exact rf_after (unhide HRR) 6 _ hn (by decide) rfl (fun ⟨b, V, x1, m1, s1, y1, h8, h⟩ => ⟨b, V, x1, m1, s1, y1, h8, h⟩)
    | 7, ho =>
      simp only [List.getElem?_cons_succ, List.getElem?_cons_zero, Option.some.injEq] at ho
      subst ho
      have hn : x[8]? = some false := wait_no hcl 14 7 8 (by kernel_rfl) hx (by simp) hxi
      have hbV := hR.b hn
      clear hall hR hcl
      rw [if_pos (by rfl)]
      unfold Oper.wp
      go_simp
      have hb6 : Below V.heap.size V (V.alloc (Obj.cells #[.float .f64 0, .float .f64 0, .float .f64 0, .float .f64 0] 50)) := (Below.refl _ _).alloc (Nat.le_refl _) _
      exact ⟨upd f 7 (.pointer (some ⟨V.heap.size, 0, none⟩)), by simp [upd], rf_val (rf_grow d7_mono (unhide HRR) hn hb6) 7 _ hn (by decide) trivial ⟨V.heap.size, rfl, hbV.size, by simp, bx_made V [.float .f64 0, .float .f64 0, .float .f64 0, .float .f64 0] 50⟩⟩
    | 8, ho =>
      simp only [List.getElem?_cons_succ, List.getElem?_cons_zero, Option.some.injEq] at ho
      subst ho
      have hn : x[8]? = some false := hxi
      have hbV := hR.b hn
      obtain ⟨x1, m1, s1, y1, g5, hF⟩ := hR.c 5 (hall ⟨5, .data⟩ (by simp) rfl)
      obtain ⟨b, g7, hb0, hbs, hbx⟩ := hR.d hn 7 (hall ⟨7, .data⟩ (by simp) rfl)
      have HFF := hide hF
      clear hF
      have yc0 : V.cell? ⟨b, 0, none⟩ = some (.float .f64 0) := bx_cell hbx 0 rfl
      have yc1 : V.cell? ⟨b, 1, none⟩ = some (.float .f64 0) := bx_cell hbx 1 rfl
      have yc2 : V.cell? ⟨b, 2, none⟩ = some (.float .f64 0) := bx_cell hbx 2 rfl
      have yc3 : V.cell? ⟨b, 3, none⟩ = some (.float .f64 0) := bx_cell hbx 3 rfl
      have q0 : V.frozen? ⟨b, 0, none⟩ = false := bx_free hbx 0 (by decide)
      have q1 : V.frozen? ⟨b, 1, none⟩ = false := bx_free hbx 1 (by decide)
      have q2 : V.frozen? ⟨b, 2, none⟩ = false := bx_free hbx 2 (by decide)
      have q3 : V.frozen? ⟨b, 3, none⟩ = false := bx_free hbx 3 (by decide)
      have HBX := hide hbx
      clear hbx
      have hsf := sflF
      have HG7 := hide g7
      clear hall hR hcl
      rw [if_pos (by rfl)]
      unfold Oper.wp
      go_simp
      exact ⟨f, by simp [g5, g7], rf_write (unhide HRR) hn trivial ⟨b, V, x1, m1, s1, y1, unhide HG7, hb0, hbs, unhide HBX, hbV, rfl, unhide HFF⟩⟩
    | 9, ho =>
      simp only [List.getElem?_cons_succ, List.getElem?_cons_zero, Option.some.injEq] at ho
      subst ho
      have hn : x[8]? = some true := hall ⟨8, .chain⟩ (by simp) rfl
      have g6 : f 6 = .int .i64 c0 := hR.c 6 (hall ⟨6, .data⟩ (by simp) rfl)
      clear hall hR hcl
      rw [if_pos (by rfl)]
      unfold Oper.wp
      go_simp
      exact ⟨upd f 9 (.int .i64 c0), by simp [upd, g6], rf_after (unhide HRR) 9 _ hn (by decide) rfl (fun ⟨b, V, x1, m1, s1, y1, h8, h⟩ => ⟨b, V, x1, m1, s1, y1, h8, h⟩)⟩
    | i + 10, ho => simp at ho
  rintro x A W7 ⟨f, rfl, hR⟩ hx hrd
  have hallx := ready_allF hrd hx (by kernel_rfl)
  obtain ⟨b9, V, x2, m2, s2, y2, e7, hb0, hbs, hbx, hbV, eW, hF2⟩ := hR.m (hallx 8 (by simp))
  have e9 : f 9 = .int .i64 c0 := hR.c 9 (hallx 9 (by simp))
  have HF2 := hide hF2
  dsimp only
  rw [e7, e9]
  generalize f 0 = v10
  generalize f 1 = v11
  generalize f 2 = v12
  generalize f 3 = v13
  generalize f 4 = v14
  generalize f 5 = v15
  generalize f 6 = v16
  have HB7 : Hid (Bx2 w W7 [.int .i64 t.a, .int .i64 t.b, .int .i64 t.c, .int .i64 t.d, .int .i64 t.e, .int .i64 t.f, .int .i64 t.g, .int .i64 t.h] [.int .i64 n, .slice a l.length cap] ∧ Bx W7 b6 [.float .f64 x1, .float .f64 m1, .float .f64 s1, .float .f64 y1] ∧ Bx W7 b9 [.float .f64 x2, .float .f64 m2, .float .f64 s2, .float .f64 y2] ∧ Bx W7 b8 [.int .i64 n, .slice a5 l.length cap5] ∧ b8 < W7.heap.size ∧ RdR Od.vs 6 W7 (.slice a5 l.length cap5) l) := by
    have hz := (unhide HB6).z
    have h4 := bx2_below (unhide HB6) hbV
    have h5 := bx_below (unhide HY6).1 hbV (unhide HY6).2
    have h6 := bx_below (unhide HX6) hbV hs8
    have hy6 := (unhide HY6).2
    have h7 : RdR Od.vs 6 (V.setCells b9 0 [.float .f64 x2, .float .f64 m2, .float .f64 s2, .float .f64 y2]) (.slice a5 l.length cap5) l := rdR_below (unhide HR6) (below_setCells b9 hb0 _ 0 V hbV) (Nat.le_refl _)
    subst eW
    exact ⟨⟨bx_others h4.o (by omega), bx_others h4.k (by omega), below_setCells b9 (by omega) _ 0 V h4.b, by rw [size_setCells]; exact h4.z⟩, bx_others h5 (by omega), bx_setCells hbx rfl, bx_others h6 (by omega), by rw [size_setCells]; exact Nat.lt_of_lt_of_le hs8 hbV.size, h7⟩
  clear hbx hbV eW hb0 hbs hR hallx hrd hx e7 e9 hF2 HB6 HY6 HX6 HR6 hs8
  have k00 : W7.cell? ⟨b6, 0, none⟩ = some (.float .f64 x1) := bx_cell (unhide HB7).2.1 0 rfl
  have k01 : W7.cell? ⟨b6, 1, none⟩ = some (.float .f64 m1) := bx_cell (unhide HB7).2.1 1 rfl
  have k02 : W7.cell? ⟨b6, 2, none⟩ = some (.float .f64 s1) := bx_cell (unhide HB7).2.1 2 rfl
  have k03 : W7.cell? ⟨b6, 3, none⟩ = some (.float .f64 y1) := bx_cell (unhide HB7).2.1 3 rfl
  have k10 : W7.cell? ⟨b9, 0, none⟩ = some (.float .f64 x2) := bx_cell (unhide HB7).2.2.1 0 rfl
  have k11 : W7.cell? ⟨b9, 1, none⟩ = some (.float .f64 m2) := bx_cell (unhide HB7).2.2.1 1 rfl
  have k12 : W7.cell? ⟨b9, 2, none⟩ = some (.float .f64 s2) := bx_cell (unhide HB7).2.2.1 2 rfl
  have k13 : W7.cell? ⟨b9, 3, none⟩ = some (.float .f64 y2) := bx_cell (unhide HB7).2.2.1 3 rfl
  go_wp2_with fail
  refine (eqFig_any n l t.e t.f x2 m2 s2 y2 x1 m1 s1 y1 (unhide HF2) (unhide HF1) W7).mono ?_
  rintro e w7 ⟨rfl, hb⟩
  have HB8 := hide (bx2_below (unhide HB7).1 hb)
  have HX8 := hide (bx_below (unhide HB7).2.2.2.1 hb (unhide HB7).2.2.2.2.1)
  have R8 := hide (rdR_below (unhide HB7).2.2.2.2.2 hb (Nat.le_refl _))
  have hs7 : b8 < w7.heap.size := Nat.lt_of_lt_of_le (unhide HB7).2.2.2.2.1 hb.size
  clear hb HB7 k00 k01 k02 k03 k10 k11 k12 k13
  have c0' : w7.cell? ⟨w.heap.size + 1, 0, none⟩ = some (.int .i64 n) := bx_cell (unhide HB8).k 0 rfl
  have c1' : w7.cell? ⟨w.heap.size + 1, 1, none⟩ = some (.slice a l.length cap) := bx_cell (unhide HB8).k 1 rfl
  have d0' : w7.cell? ⟨b8, 0, none⟩ = some (.int .i64 n) := bx_cell (unhide HX8) 0 rfl
  have d1' : w7.cell? ⟨b8, 1, none⟩ = some (.slice a5 l.length cap5) := bx_cell (unhide HX8) 1 rfl
  have R7d : Hid (RdR Od.vs 6 w7.drew (.slice a l.length cap) l) := rdR_below (unhide HR) (unhide HB8).b.drew (Nat.le_refl _)
  have R8d : Hid (RdR Od.vs 6 w7.drew (.slice a5 l.length cap5) l) := unhide R8
  have X7d : Hid (w7.drew.rangeAt b8 0 [.int .i64 n, .slice a5 l.length cap5]) := (unhide HX8).r
  have hs7d : b8 < w7.drew.heap.size := hs7
  have B7d : Hid (Below w.heap.size w w7.drew) := (unhide HB8).b.drew
  go_wp2_with fail
  go_region_with (first
    | (go_at_call 23; refine (toBook_any n _ l w7.drew (unhide R7d)).mono ?_; rintro e w8 ⟨v8, rfl, ho8, hb8⟩; have O8 := hide ho8; have O58 := hide (rdR_below (unhide R8d) hb8 (Nat.le_refl _)); have e0 := range_below (unhide X7d) hb8 hs7d 0 _ rfl; have e1 := range_below (unhide X7d) hb8 hs7d 1 _ rfl; have B8 := hide ((unhide B7d).trans (hb8.mono (unhide B7d).size)); obtain ⟨a8, cap8, rfl, ho8a, ho8b⟩ := ho8; clear hb8 ho8a ho8b)
    | (go_at_call 25; refine (eqBook_same n _ _ l w8 (unhide O58) (ownR_rd (unhide O8))).mono ?_; rintro e w9 ⟨rfl, hb9⟩; have B9 := hide ((unhide B8).trans (hb9.mono (unhide B8).size)); clear hb9))
  all_goals go_wp2_with fail
  all_goals go_ret
  all_goals exact ⟨rfl, unhide B9⟩

theorem lawFig (t : TtF) (n : Int) (a : Option Addr) (len cap : Nat) (w : World) (h : (Lit.int .i64 n).wf = true ∧ IsOrders w a len cap) :
    Calls Try.prog 5 #[.agg #[.int .i64 t.a, .int .i64 t.b, .int .i64 t.c, .int .i64 t.d, .int .i64 t.e, .int .i64 t.f, .int .i64 t.g, .int .i64 t.h], .agg #[.int .i64 n, .slice a len cap]] w fun e w' => e = .returned (.bool true) ∧ Below w.heap.size w w' := by
  by_cases hl : len ≤ 1048576
  · obtain ⟨l, rfl, hr, hok⟩ := h.2.2 (by omega)
    exact exactFig t n _ l w hr hl (fun c hc => (hok c hc).tag)
  · have HZ := hide (fun W => szBook_long n a len cap W (by omega) h.2.1)
    have HM := hide (bx2_made w [.int .i64 t.a, .int .i64 t.b, .int .i64 t.c, .int .i64 t.d, .int .i64 t.e, .int .i64 t.f, .int .i64 t.g, .int .i64 t.h] [.int .i64 n, .slice a len cap] 53 56).b
    clear h
    go_enter Try.func5, Try.ntmps5
    go_wp2_with fail
    refine (unhide HZ _).mono ?_
    rintro e w1 ⟨rfl, hb⟩
    have B1 := hide ((unhide HM).trans (hb.mono (unhide HM).size))
    clear hb
    go_wp2_with fail
    go_ret
    exact ⟨rfl, unhide B1⟩
end Go.Proofs.Yteljmhgpffekgaa
