/-
  An event counted, by the model: proved by walking the function.
-/
import Derived.Test.YthmgkabpcjkieaaVj24
namespace Go.Proofs.Ythmgkabpcjkieaa
open Go.RowKit
set_option linter.unusedVariables false

/-- An event counted, by the model: what rests is counted, too. -/
def cntM (t : Tot) (e : Ev) : Tot :=
  if e.kind = 1 then { t with ac := wrap64 (t.ac + 1) } else if e.kind = 2 then { t with rf := wrap64 (t.rf + 1) }
  else if e.kind = 3 then { t with tr := wrap64 (t.tr + 1), vo := wrap64 (t.vo + e.qty), no := wrap64 (t.no + wrap64 (e.qty * e.price)), le := wrap64 (t.le - e.qty) }
  else if e.kind = 4 then { t with li := wrap64 (t.li + 1), le := wrap64 (t.le + e.qty) } else t
set_option maxRecDepth 100000 in
set_option maxHeartbeats 3200000 in
theorem l04Count_any (t : Tot) (e : Ev) (w : World) :
    Calls Try.prog 52 #[.agg #[.int .i64 t.gr, .int .i64 t.ac, .int .i64 t.rf, .int .i64 t.tr, .int .i64 t.vo, .int .i64 t.no, .int .i64 t.li, .int .i64 t.le], .agg #[.int .i64 e.kind, .int .i64 e.cmd.k, .int .i64 e.cmd.s, .int .i64 e.cmd.t, .int .i64 e.cmd.l, .int .i64 e.cmd.q, .int .i64 e.cmd.i, .float .f64 e.cmd.p, .string e.cmd.g, .int .i64 e.id, .int .i64 e.other, .int .i64 e.qty, .int .i64 e.price, .int .i64 e.reason]] w fun r w' => r = .returned (.agg #[.int .i64 (cntM t e).gr, .int .i64 (cntM t e).ac, .int .i64 (cntM t e).rf, .int .i64 (cntM t e).tr, .int .i64 (cntM t e).vo, .int .i64 (cntM t e).no, .int .i64 (cntM t e).li, .int .i64 (cntM t e).le]) ∧ Below w.heap.size w w' := by
  have HM : Hid (cntM t e = if e.kind = 1 then { t with ac := wrap64 (t.ac + 1) } else if e.kind = 2 then { t with rf := wrap64 (t.rf + 1) }
    else if e.kind = 3 then { t with tr := wrap64 (t.tr + 1), vo := wrap64 (t.vo + e.qty), no := wrap64 (t.no + wrap64 (e.qty * e.price)), le := wrap64 (t.le - e.qty) }
    else if e.kind = 4 then { t with li := wrap64 (t.li + 1), le := wrap64 (t.le + e.qty) } else t) := rfl
  generalize cntM t e = M at HM ⊢
  obtain ⟨tgr, tac, trf, ttr, tvo, tno, tli, tle⟩ := t
  simp only at HM ⊢
  have hsf := sfl
  have hs1 : (w.alloc (Obj.cells #[.int .i64 tgr, .int .i64 tac, .int .i64 trf, .int .i64 ttr, .int .i64 tvo, .int .i64 tno, .int .i64 tli, .int .i64 tle] 28)).heap.size = w.heap.size + 1 := size_made _ _
  have hs2 : ((w.alloc (Obj.cells #[.int .i64 tgr, .int .i64 tac, .int .i64 trf, .int .i64 ttr, .int .i64 tvo, .int .i64 tno, .int .i64 tli, .int .i64 tle] 28)).alloc (Obj.cells #[.int .i64 e.kind, .int .i64 e.cmd.k, .int .i64 e.cmd.s, .int .i64 e.cmd.t, .int .i64 e.cmd.l, .int .i64 e.cmd.q, .int .i64 e.cmd.i, .float .f64 e.cmd.p, .string e.cmd.g, .int .i64 e.id, .int .i64 e.other, .int .i64 e.qty, .int .i64 e.price, .int .i64 e.reason] 97)).heap.size = w.heap.size + 1 + 1 := by rw [size_made, hs1]
  have hs3 : (((w.alloc (Obj.cells #[.int .i64 tgr, .int .i64 tac, .int .i64 trf, .int .i64 ttr, .int .i64 tvo, .int .i64 tno, .int .i64 tli, .int .i64 tle] 28)).alloc (Obj.cells #[.int .i64 e.kind, .int .i64 e.cmd.k, .int .i64 e.cmd.s, .int .i64 e.cmd.t, .int .i64 e.cmd.l, .int .i64 e.cmd.q, .int .i64 e.cmd.i, .float .f64 e.cmd.p, .string e.cmd.g, .int .i64 e.id, .int .i64 e.other, .int .i64 e.qty, .int .i64 e.price, .int .i64 e.reason] 97)).alloc (Obj.cells #[.int .i64 0, .int .i64 0, .int .i64 0, .int .i64 0, .int .i64 0, .int .i64 0, .int .i64 0, .int .i64 0] 28)).heap.size = w.heap.size + 1 + 1 + 1 := by rw [size_made, hs2]
  have r1 := cells_made w [.int .i64 tgr, .int .i64 tac, .int .i64 trf, .int .i64 ttr, .int .i64 tvo, .int .i64 tno, .int .i64 tli, .int .i64 tle] 28
  have t1 := there_made w [.int .i64 tgr, .int .i64 tac, .int .i64 trf, .int .i64 ttr, .int .i64 tvo, .int .i64 tno, .int .i64 tli, .int .i64 tle] 28
  have r2 := cells_made (w.alloc (Obj.cells #[.int .i64 tgr, .int .i64 tac, .int .i64 trf, .int .i64 ttr, .int .i64 tvo, .int .i64 tno, .int .i64 tli, .int .i64 tle] 28)) [.int .i64 e.kind, .int .i64 e.cmd.k, .int .i64 e.cmd.s, .int .i64 e.cmd.t, .int .i64 e.cmd.l, .int .i64 e.cmd.q, .int .i64 e.cmd.i, .float .f64 e.cmd.p, .string e.cmd.g, .int .i64 e.id, .int .i64 e.other, .int .i64 e.qty, .int .i64 e.price, .int .i64 e.reason] 97
  have t3 := there_made ((w.alloc (Obj.cells #[.int .i64 tgr, .int .i64 tac, .int .i64 trf, .int .i64 ttr, .int .i64 tvo, .int .i64 tno, .int .i64 tli, .int .i64 tle] 28)).alloc (Obj.cells #[.int .i64 e.kind, .int .i64 e.cmd.k, .int .i64 e.cmd.s, .int .i64 e.cmd.t, .int .i64 e.cmd.l, .int .i64 e.cmd.q, .int .i64 e.cmd.i, .float .f64 e.cmd.p, .string e.cmd.g, .int .i64 e.id, .int .i64 e.other, .int .i64 e.qty, .int .i64 e.price, .int .i64 e.reason] 97)) [.int .i64 0, .int .i64 0, .int .i64 0, .int .i64 0, .int .i64 0, .int .i64 0, .int .i64 0, .int .i64 0] 28
  rw [hs2] at t3
  rw [hs1] at r2
  have b1 : Below w.heap.size w (w.alloc (Obj.cells #[.int .i64 tgr, .int .i64 tac, .int .i64 trf, .int .i64 ttr, .int .i64 tvo, .int .i64 tno, .int .i64 tli, .int .i64 tle] 28)) := (Below.refl _ _).alloc (Nat.le_refl _) _
  have b2 : Below (w.heap.size + 1) (w.alloc (Obj.cells #[.int .i64 tgr, .int .i64 tac, .int .i64 trf, .int .i64 ttr, .int .i64 tvo, .int .i64 tno, .int .i64 tli, .int .i64 tle] 28)) ((w.alloc (Obj.cells #[.int .i64 tgr, .int .i64 tac, .int .i64 trf, .int .i64 ttr, .int .i64 tvo, .int .i64 tno, .int .i64 tli, .int .i64 tle] 28)).alloc (Obj.cells #[.int .i64 e.kind, .int .i64 e.cmd.k, .int .i64 e.cmd.s, .int .i64 e.cmd.t, .int .i64 e.cmd.l, .int .i64 e.cmd.q, .int .i64 e.cmd.i, .float .f64 e.cmd.p, .string e.cmd.g, .int .i64 e.id, .int .i64 e.other, .int .i64 e.qty, .int .i64 e.price, .int .i64 e.reason] 97)) := (Below.refl _ _).alloc (by omega) _
  have b3 : Below (w.heap.size + 1 + 1) ((w.alloc (Obj.cells #[.int .i64 tgr, .int .i64 tac, .int .i64 trf, .int .i64 ttr, .int .i64 tvo, .int .i64 tno, .int .i64 tli, .int .i64 tle] 28)).alloc (Obj.cells #[.int .i64 e.kind, .int .i64 e.cmd.k, .int .i64 e.cmd.s, .int .i64 e.cmd.t, .int .i64 e.cmd.l, .int .i64 e.cmd.q, .int .i64 e.cmd.i, .float .f64 e.cmd.p, .string e.cmd.g, .int .i64 e.id, .int .i64 e.other, .int .i64 e.qty, .int .i64 e.price, .int .i64 e.reason] 97)) (((w.alloc (Obj.cells #[.int .i64 tgr, .int .i64 tac, .int .i64 trf, .int .i64 ttr, .int .i64 tvo, .int .i64 tno, .int .i64 tli, .int .i64 tle] 28)).alloc (Obj.cells #[.int .i64 e.kind, .int .i64 e.cmd.k, .int .i64 e.cmd.s, .int .i64 e.cmd.t, .int .i64 e.cmd.l, .int .i64 e.cmd.q, .int .i64 e.cmd.i, .float .f64 e.cmd.p, .string e.cmd.g, .int .i64 e.id, .int .i64 e.other, .int .i64 e.qty, .int .i64 e.price, .int .i64 e.reason] 97)).alloc (Obj.cells #[.int .i64 0, .int .i64 0, .int .i64 0, .int .i64 0, .int .i64 0, .int .i64 0, .int .i64 0, .int .i64 0] 28)) := (Below.refl _ _).alloc (by omega) _
  have HX : Hid (_ ∧ _ ∧ _ ∧ _ ∧ _) := ⟨range_below (range_below r1 b2 (by omega)) b3 (by omega), there_below (there_below t1 b2 (by omega)) b3 (by omega), t3, (b1.trans (b2.mono (by omega))).trans (b3.mono (by omega)), Nat.le_of_eq hs3.symm⟩
  have HEV := hide (range_below r2 b3 (by omega))
  clear hs1 hs2 hs3 r1 r2 t1 t3 b1 b2 b3
  go_enter Try.func52, Try.ntmps52
  refine wp_seq_k fun K hK => ?_
  have HK1 := hide hK
  clear hK
  go_wp2_with fail
  refine unhide HK1 _ _ ?_
  clear HK1
  generalize (((w.alloc (Obj.cells #[.int .i64 tgr, .int .i64 tac, .int .i64 trf, .int .i64 ttr, .int .i64 tvo, .int .i64 tno, .int .i64 tli, .int .i64 tle] 28)).alloc (Obj.cells #[.int .i64 e.kind, .int .i64 e.cmd.k, .int .i64 e.cmd.s, .int .i64 e.cmd.t, .int .i64 e.cmd.l, .int .i64 e.cmd.q, .int .i64 e.cmd.i, .float .f64 e.cmd.p, .string e.cmd.g, .int .i64 e.id, .int .i64 e.other, .int .i64 e.qty, .int .i64 e.price, .int .i64 e.reason] 97)).alloc (Obj.cells #[.int .i64 0, .int .i64 0, .int .i64 0, .int .i64 0, .int .i64 0, .int .i64 0, .int .i64 0, .int .i64 0] 28)) = X at HX HEV ⊢
  have HX : Hid (X.rangeAt w.heap.size 0 [.int .i64 tgr, .int .i64 tac, .int .i64 trf, .int .i64 ttr, .int .i64 tvo, .int .i64 tno, .int .i64 tli, .int .i64 tle] ∧ X.there w.heap.size 0 8 ∧ X.there (w.heap.size + 1 + 1) 0 8 ∧ Below w.heap.size w X ∧ w.heap.size + 1 + 1 + 1 ≤ X.heap.size) := unhide HX
  obtain ⟨g0, g1, g2, g3, g4, g5, g6, g7, g8, g9, g10, g11, g12, g13⟩ := ev_cells (unhide HEV)
  clear g1 g2 g3 g4 g5 g6 g7 g8 g9 g10 g13 HEV
  simp only [Nat.zero_add] at g11 g12
  have d0 : X.cell? ⟨w.heap.size, 0, none⟩ = some (.int .i64 tgr) := (unhide HX).1 0 _ rfl
  have p0 : X.frozen? ⟨w.heap.size, 0, none⟩ = false := by have := ((unhide HX).2.1 0 (by omega)).2; rwa [Nat.zero_add] at this
  have d1 : X.cell? ⟨w.heap.size, 1, none⟩ = some (.int .i64 tac) := (unhide HX).1 1 _ rfl
  have p1 : X.frozen? ⟨w.heap.size, 1, none⟩ = false := by have := ((unhide HX).2.1 1 (by omega)).2; rwa [Nat.zero_add] at this
  have d2 : X.cell? ⟨w.heap.size, 2, none⟩ = some (.int .i64 trf) := (unhide HX).1 2 _ rfl
  have p2 : X.frozen? ⟨w.heap.size, 2, none⟩ = false := by have := ((unhide HX).2.1 2 (by omega)).2; rwa [Nat.zero_add] at this
  have d3 : X.cell? ⟨w.heap.size, 3, none⟩ = some (.int .i64 ttr) := (unhide HX).1 3 _ rfl
  have p3 : X.frozen? ⟨w.heap.size, 3, none⟩ = false := by have := ((unhide HX).2.1 3 (by omega)).2; rwa [Nat.zero_add] at this
  have d4 : X.cell? ⟨w.heap.size, 4, none⟩ = some (.int .i64 tvo) := (unhide HX).1 4 _ rfl
  have p4 : X.frozen? ⟨w.heap.size, 4, none⟩ = false := by have := ((unhide HX).2.1 4 (by omega)).2; rwa [Nat.zero_add] at this
  have d5 : X.cell? ⟨w.heap.size, 5, none⟩ = some (.int .i64 tno) := (unhide HX).1 5 _ rfl
  have p5 : X.frozen? ⟨w.heap.size, 5, none⟩ = false := by have := ((unhide HX).2.1 5 (by omega)).2; rwa [Nat.zero_add] at this
  have d6 : X.cell? ⟨w.heap.size, 6, none⟩ = some (.int .i64 tli) := (unhide HX).1 6 _ rfl
  have p6 : X.frozen? ⟨w.heap.size, 6, none⟩ = false := by have := ((unhide HX).2.1 6 (by omega)).2; rwa [Nat.zero_add] at this
  have d7 : X.cell? ⟨w.heap.size, 7, none⟩ = some (.int .i64 tle) := (unhide HX).1 7 _ rfl
  have p7 : X.frozen? ⟨w.heap.size, 7, none⟩ = false := by have := ((unhide HX).2.1 7 (by omega)).2; rwa [Nat.zero_add] at this
  refine wp_seq_k fun K hK => ?_
  have HK1 := hide hK
  clear hK
  have HT : Hid (∀ (V : World) (T : Tot) (u5 u6 u7 u8 u9 u10 u11 u12 u13 u14 u15 u16 u17 u18 u19 u20 u21 u22 u23 u24 u25 u26 u27 u28 u29 u30 u31 u32 u33 u34 u35 u36 u37 u38 u39 u40 u41 u42 u43 u44 u45 u46 u47 u48 u49 u50 u51 u52 u53 u54 u55 u56 u57 : Value), M = T → (V.rangeAt w.heap.size 0 T.vs ∧ V.there w.heap.size 0 8 ∧ V.there (w.heap.size + 1 + 1) 0 8 ∧ Below w.heap.size w V ∧ w.heap.size + 1 + 1 + 1 ≤ V.heap.size) → K { tmps := #[.agg #[.int .i64 tgr, .int .i64 tac, .int .i64 trf, .int .i64 ttr, .int .i64 tvo, .int .i64 tno, .int .i64 tli, .int .i64 tle], .agg #[.int .i64 e.kind, .int .i64 e.cmd.k, .int .i64 e.cmd.s, .int .i64 e.cmd.t, .int .i64 e.cmd.l, .int .i64 e.cmd.q, .int .i64 e.cmd.i, .float .f64 e.cmd.p, .string e.cmd.g, .int .i64 e.id, .int .i64 e.other, .int .i64 e.qty, .int .i64 e.price, .int .i64 e.reason], .pointer (some ⟨w.heap.size, 0, none⟩), .pointer (some ⟨w.heap.size + 1, 0, none⟩), .pointer (some ⟨w.heap.size + 1 + 1, 0, none⟩), u5, u6, u7, u8, u9, u10, u11, u12, u13, u14, u15, u16, u17, u18, u19, u20, u21, u22, u23, u24, u25, u26, u27, u28, u29, u30, u31, u32, u33, u34, u35, u36, u37, u38, u39, u40, u41, u42, u43, u44, u45, u46, u47, u48, u49, u50, u51, u52, u53, u54, u55, u56, u57, undef], defers := [] } V) := by
    intro V T u5 u6 u7 u8 u9 u10 u11 u12 u13 u14 u15 u16 u17 u18 u19 u20 u21 u22 u23 u24 u25 u26 u27 u28 u29 u30 u31 u32 u33 u34 u35 u36 u37 u38 u39 u40 u41 u42 u43 u44 u45 u46 u47 u48 u49 u50 u51 u52 u53 u54 u55 u56 u57 hMT hin
    have HY := hide hin
    have HTT := hide hMT
    clear hin hMT HM HX g0 g11 g12 d0 p0 d1 p1 d2 p2 d3 p3 d4 p4 d5 p5 d6 p6 d7 p7
    obtain ⟨agr, aac, arf, atr, avo, ano, ali, ale⟩ := T
    have c0 : V.cell? ⟨w.heap.size, 0, none⟩ = some (.int .i64 agr) := (unhide HY).1 0 _ rfl
    obtain ⟨y0, z0, q0⟩ := there_any (unhide HY).2.2.1 (j := 0) (by omega)
    have c1 : V.cell? ⟨w.heap.size, 1, none⟩ = some (.int .i64 aac) := (unhide HY).1 1 _ rfl
    obtain ⟨y1, z1, q1⟩ := there_any (unhide HY).2.2.1 (j := 1) (by omega)
    have c2 : V.cell? ⟨w.heap.size, 2, none⟩ = some (.int .i64 arf) := (unhide HY).1 2 _ rfl
    obtain ⟨y2, z2, q2⟩ := there_any (unhide HY).2.2.1 (j := 2) (by omega)
    have c3 : V.cell? ⟨w.heap.size, 3, none⟩ = some (.int .i64 atr) := (unhide HY).1 3 _ rfl
    obtain ⟨y3, z3, q3⟩ := there_any (unhide HY).2.2.1 (j := 3) (by omega)
    have c4 : V.cell? ⟨w.heap.size, 4, none⟩ = some (.int .i64 avo) := (unhide HY).1 4 _ rfl
    obtain ⟨y4, z4, q4⟩ := there_any (unhide HY).2.2.1 (j := 4) (by omega)
    have c5 : V.cell? ⟨w.heap.size, 5, none⟩ = some (.int .i64 ano) := (unhide HY).1 5 _ rfl
    obtain ⟨y5, z5, q5⟩ := there_any (unhide HY).2.2.1 (j := 5) (by omega)
    have c6 : V.cell? ⟨w.heap.size, 6, none⟩ = some (.int .i64 ali) := (unhide HY).1 6 _ rfl
    obtain ⟨y6, z6, q6⟩ := there_any (unhide HY).2.2.1 (j := 6) (by omega)
    have c7 : V.cell? ⟨w.heap.size, 7, none⟩ = some (.int .i64 ale) := (unhide HY).1 7 _ rfl
    obtain ⟨y7, z7, q7⟩ := there_any (unhide HY).2.2.1 (j := 7) (by omega)
    have HR8 := hide (World.rangeAt_setCells_same V (w.heap.size + 1 + 1) 0 [.int .i64 agr, .int .i64 aac, .int .i64 arf, .int .i64 atr, .int .i64 avo, .int .i64 ano, .int .i64 ali, .int .i64 ale] (fun j hj => (unhide HY).2.2.1 j hj))
    have HB8 := hide (below_setCells (w.heap.size + 1 + 1) (by omega) [.int .i64 agr, .int .i64 aac, .int .i64 arf, .int .i64 atr, .int .i64 avo, .int .i64 ano, .int .i64 ali, .int .i64 ale] 0 V (unhide HY).2.2.2.1)
    refine unhide HK1 _ _ ?_
    clear HK1
    go_wp2_with fail
    change bodyPost _ _ _ _ _ (V.setCells (w.heap.size + 1 + 1) 0 [.int .i64 agr, .int .i64 aac, .int .i64 arf, .int .i64 atr, .int .i64 avo, .int .i64 ano, .int .i64 ali, .int .i64 ale])
    generalize V.setCells (w.heap.size + 1 + 1) 0 [.int .i64 agr, .int .i64 aac, .int .i64 arf, .int .i64 atr, .int .i64 avo, .int .i64 ano, .int .i64 ali, .int .i64 ale] = WE at HR8 HB8 ⊢
    have d0 : WE.cell? ⟨w.heap.size + 1 + 1, 0, none⟩ = some (.int .i64 agr) := unhide HR8 0 _ rfl
    have d1 : WE.cell? ⟨w.heap.size + 1 + 1, 1, none⟩ = some (.int .i64 aac) := unhide HR8 1 _ rfl
    have d2 : WE.cell? ⟨w.heap.size + 1 + 1, 2, none⟩ = some (.int .i64 arf) := unhide HR8 2 _ rfl
    have d3 : WE.cell? ⟨w.heap.size + 1 + 1, 3, none⟩ = some (.int .i64 atr) := unhide HR8 3 _ rfl
    have d4 : WE.cell? ⟨w.heap.size + 1 + 1, 4, none⟩ = some (.int .i64 avo) := unhide HR8 4 _ rfl
    have d5 : WE.cell? ⟨w.heap.size + 1 + 1, 5, none⟩ = some (.int .i64 ano) := unhide HR8 5 _ rfl
    have d6 : WE.cell? ⟨w.heap.size + 1 + 1, 6, none⟩ = some (.int .i64 ali) := unhide HR8 6 _ rfl
    have d7 : WE.cell? ⟨w.heap.size + 1 + 1, 7, none⟩ = some (.int .i64 ale) := unhide HR8 7 _ rfl
    refine bodyPost_ret (by simp [results, Try.results52, go_sem, d0, d1, d2, d3, d4, d5, d6, d7]; try rfl) rfl ?_
    exact ⟨by rw [unhide HTT], unhide HB8⟩
  clear HK1
  by_cases h1 : e.kind = 1
  · have b1 : (e.kind == 1) = true := by simpa using h1
    have HE := hide ((unhide HM).trans (if_pos h1))
    clear HM h1
    go_wp2_with fail
    exact unhide HT _ (Tot.mk tgr (wrap64 (tac + 1)) trf ttr tvo tno tli tle) _ _ _ _ _ _ _ _ _ _ _ _ _ _ _ _ _ _ _ _ _ _ _ _ _ _ _ _ _ _ _ _ _ _ _ _ _ _ _ _ _ _ _ _ _ _ _ _ _ _ _ _ _ (unhide HE) (keepB (unhide HX) 1 (by simp) _)
  have b1 : (e.kind == 1) = false := by rw [beq_eq_false_iff_ne]; exact h1
  by_cases h2 : e.kind = 2
  · have b2 : (e.kind == 2) = true := by simpa using h2
    have HE := hide ((unhide HM).trans ((if_neg h1).trans (if_pos h2)))
    clear HM h1 h2
    go_wp2_with fail
    exact unhide HT _ (Tot.mk tgr tac (wrap64 (trf + 1)) ttr tvo tno tli tle) _ _ _ _ _ _ _ _ _ _ _ _ _ _ _ _ _ _ _ _ _ _ _ _ _ _ _ _ _ _ _ _ _ _ _ _ _ _ _ _ _ _ _ _ _ _ _ _ _ _ _ _ _ (unhide HE) (keepB (unhide HX) 2 (by simp) _)
  have b2 : (e.kind == 2) = false := by rw [beq_eq_false_iff_ne]; exact h2
  by_cases h3 : e.kind = 3
  · have b3 : (e.kind == 3) = true := by simpa using h3
    have HE := hide ((unhide HM).trans ((if_neg h1).trans ((if_neg h2).trans (if_pos h3))))
    clear HM h1 h2 h3
    go_wp2_with fail
    exact unhide HT _ (Tot.mk tgr tac trf (wrap64 (ttr + 1)) (wrap64 (tvo + e.qty)) (wrap64 (tno + wrap64 (e.qty * e.price))) tli (wrap64 (tle - e.qty))) _ _ _ _ _ _ _ _ _ _ _ _ _ _ _ _ _ _ _ _ _ _ _ _ _ _ _ _ _ _ _ _ _ _ _ _ _ _ _ _ _ _ _ _ _ _ _ _ _ _ _ _ _ (unhide HE) (keepB (keepB (keepB (keepB (unhide HX) 3 (by simp) _) 4 (by simp) _) 5 (by simp) _) 7 (by simp) _)
  have b3 : (e.kind == 3) = false := by rw [beq_eq_false_iff_ne]; exact h3
  by_cases h4 : e.kind = 4
  · have b4 : (e.kind == 4) = true := by simpa using h4
    have HE := hide ((unhide HM).trans ((if_neg h1).trans ((if_neg h2).trans ((if_neg h3).trans (if_pos h4)))))
    clear HM h1 h2 h3 h4
    go_wp2_with fail
    exact unhide HT _ (Tot.mk tgr tac trf ttr tvo tno (wrap64 (tli + 1)) (wrap64 (tle + e.qty))) _ _ _ _ _ _ _ _ _ _ _ _ _ _ _ _ _ _ _ _ _ _ _ _ _ _ _ _ _ _ _ _ _ _ _ _ _ _ _ _ _ _ _ _ _ _ _ _ _ _ _ _ _ (unhide HE) (keepB (keepB (unhide HX) 6 (by simp) _) 7 (by simp) _)
  have b4 : (e.kind == 4) = false := by rw [beq_eq_false_iff_ne]; exact h4
  have HE := hide ((unhide HM).trans ((if_neg h1).trans ((if_neg h2).trans ((if_neg h3).trans (if_neg h4)))))
  clear HM h1 h2 h3 h4
  go_wp2_with fail
  exact unhide HT _ (Tot.mk tgr tac trf ttr tvo tno tli tle) _ _ _ _ _ _ _ _ _ _ _ _ _ _ _ _ _ _ _ _ _ _ _ _ _ _ _ _ _ _ _ _ _ _ _ _ _ _ _ _ _ _ _ _ _ _ _ _ _ _ _ _ _ (unhide HE) (unhide HX)
end Go.Proofs.Ythmgkabpcjkieaa
