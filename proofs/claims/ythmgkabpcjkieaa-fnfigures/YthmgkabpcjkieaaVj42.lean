/-
  RunScript by the model: proved by walking the function.
-/
import Derived.Test.YthmgkabpcjkieaaVj41
namespace Go.Proofs.Ythmgkabpcjkieaa
open Go.RowKit
set_option linter.unusedVariables false

set_option maxRecDepth 100000 in
set_option maxHeartbeats 1600000 in
theorem specRunScript_any (v : Value) (cs : List Cm) (w : World) (hr : RdR Cm.vs 8 w v cs) (htg : ∀ c ∈ cs, c.g.size ≤ maxLen) :
    Calls Try.prog 4 #[v] w fun e w' => ∃ gv vq, e = .returned (.tuple #[.agg #[gv, .int .i64 (rsF cs).n, vq, .int .i64 (rsF cs).t.gr, .int .i64 (rsF cs).t.ac, .int .i64 (rsF cs).t.rf, .int .i64 (rsF cs).t.tr, .int .i64 (rsF cs).t.vo, .int .i64 (rsF cs).t.no, .int .i64 (rsF cs).t.li, .int .i64 (rsF cs).t.le], .int .i64 (cntF cs.length)]) ∧ GRs w' w.heap.size gv (rsF cs).g ∧ ORow w' w.heap.size vq (rsF cs).l ∧ Below w.heap.size w w' := by
  have HR := hide hr
  have HTG := hide htg
  obtain ⟨a, cap, rfl, hlen, hc⟩ := hr
  clear hc htg
  have hsf := sfl
  have HF : Hid (rsF cs = if cs.length ≤ 200 then { runS cs with t := wbT (runS cs).t (runS cs).l } else ⟨0, [], [], tot0⟩) := rfl
  have HCF := hide (cntF.eq_1 cs.length)
  have HRU := hide (fun (h : cs.length ≤ 200) (W : World) hW => l04Run_any (.slice a cs.length cap) cs W hW (unhide HTG) h)
  generalize rsF cs = F at HF HRU ⊢
  generalize cntF cs.length = CF at HCF ⊢
  have hbX : Below w.heap.size w (w.alloc (Obj.cells #[.slice none 0 0, .int .i64 0, .slice none 0 0, .int .i64 0, .int .i64 0, .int .i64 0, .int .i64 0, .int .i64 0, .int .i64 0, .int .i64 0, .int .i64 0] 30)) := (Below.refl _ _).alloc (Nat.le_refl _) _
  have HX : Hid ((w.alloc (Obj.cells #[.slice none 0 0, .int .i64 0, .slice none 0 0, .int .i64 0, .int .i64 0, .int .i64 0, .int .i64 0, .int .i64 0, .int .i64 0, .int .i64 0, .int .i64 0] 30)).heap.size = w.heap.size + 1 ∧ World.there (w.alloc (Obj.cells #[.slice none 0 0, .int .i64 0, .slice none 0 0, .int .i64 0, .int .i64 0, .int .i64 0, .int .i64 0, .int .i64 0, .int .i64 0, .int .i64 0, .int .i64 0] 30)) w.heap.size 0 11 ∧ Below w.heap.size w (w.alloc (Obj.cells #[.slice none 0 0, .int .i64 0, .slice none 0 0, .int .i64 0, .int .i64 0, .int .i64 0, .int .i64 0, .int .i64 0, .int .i64 0, .int .i64 0, .int .i64 0] 30))) := ⟨size_made _ _, there_made w [.slice none 0 0, .int .i64 0, .slice none 0 0, .int .i64 0, .int .i64 0, .int .i64 0, .int .i64 0, .int .i64 0, .int .i64 0, .int .i64 0, .int .i64 0] 30, hbX⟩
  clear hbX
  go_enter Try.func4, Try.ntmps4
  refine wp_seq_k fun K hK => ?_
  have HK1 := hide hK
  clear hK
  go_wp2_with fail
  refine unhide HK1 _ _ ?_
  clear HK1
  generalize (w.alloc (Obj.cells #[.slice none 0 0, .int .i64 0, .slice none 0 0, .int .i64 0, .int .i64 0, .int .i64 0, .int .i64 0, .int .i64 0, .int .i64 0, .int .i64 0, .int .i64 0] 30)) = X at HX ⊢
  obtain ⟨y0, z0, q0⟩ := there_any (unhide HX).2.1 (j := 0) (by omega)
  obtain ⟨y1, z1, q1⟩ := there_any (unhide HX).2.1 (j := 1) (by omega)
  obtain ⟨y2, z2, q2⟩ := there_any (unhide HX).2.1 (j := 2) (by omega)
  obtain ⟨y3, z3, q3⟩ := there_any (unhide HX).2.1 (j := 3) (by omega)
  obtain ⟨y4, z4, q4⟩ := there_any (unhide HX).2.1 (j := 4) (by omega)
  obtain ⟨y5, z5, q5⟩ := there_any (unhide HX).2.1 (j := 5) (by omega)
  obtain ⟨y6, z6, q6⟩ := there_any (unhide HX).2.1 (j := 6) (by omega)
  obtain ⟨y7, z7, q7⟩ := there_any (unhide HX).2.1 (j := 7) (by omega)
  obtain ⟨y8, z8, q8⟩ := there_any (unhide HX).2.1 (j := 8) (by omega)
  obtain ⟨y9, z9, q9⟩ := there_any (unhide HX).2.1 (j := 9) (by omega)
  obtain ⟨y10, z10, q10⟩ := there_any (unhide HX).2.1 (j := 10) (by omega)
  by_cases h1 : 4096 < cs.length
  · have HF1 : Hid (F = ⟨0, [], [], tot0⟩) := (unhide HF).trans (if_neg (by omega))
    have HCD : Hid (CF = 2) := (unhide HCF).trans (if_pos h1)
    have h1' : (4096 : Int) < cs.length := by omega
    have HR8 := hide (World.rangeAt_setCells_same X w.heap.size 0 [.slice none 0 0, .int .i64 0, .slice none 0 0, .int .i64 0, .int .i64 0, .int .i64 0, .int .i64 0, .int .i64 0, .int .i64 0, .int .i64 0, .int .i64 0] (fun j hj => (unhide HX).2.1 j hj))
    have HB8 := hide (below_setCells w.heap.size (Nat.le_refl _) [.slice none 0 0, .int .i64 0, .slice none 0 0, .int .i64 0, .int .i64 0, .int .i64 0, .int .i64 0, .int .i64 0, .int .i64 0, .int .i64 0, .int .i64 0] 0 X (unhide HX).2.2)
    clear HF HCF HRU
    go_wp2_with fail
    change bodyPost _ _ _ _ _ (X.setCells w.heap.size 0 [.slice none 0 0, .int .i64 0, .slice none 0 0, .int .i64 0, .int .i64 0, .int .i64 0, .int .i64 0, .int .i64 0, .int .i64 0, .int .i64 0, .int .i64 0])
    generalize X.setCells w.heap.size 0 [.slice none 0 0, .int .i64 0, .slice none 0 0, .int .i64 0, .int .i64 0, .int .i64 0, .int .i64 0, .int .i64 0, .int .i64 0, .int .i64 0, .int .i64 0] = WE at HR8 HB8 ⊢
    obtain rfl := unhide HF1
    have d0 : WE.cell? ⟨w.heap.size, 0, none⟩ = some (.slice none 0 0) := unhide HR8 0 _ rfl
    have d1 : WE.cell? ⟨w.heap.size, 1, none⟩ = some (.int .i64 0) := unhide HR8 1 _ rfl
    have d2 : WE.cell? ⟨w.heap.size, 2, none⟩ = some (.slice none 0 0) := unhide HR8 2 _ rfl
    have d3 : WE.cell? ⟨w.heap.size, 3, none⟩ = some (.int .i64 0) := unhide HR8 3 _ rfl
    have d4 : WE.cell? ⟨w.heap.size, 4, none⟩ = some (.int .i64 0) := unhide HR8 4 _ rfl
    have d5 : WE.cell? ⟨w.heap.size, 5, none⟩ = some (.int .i64 0) := unhide HR8 5 _ rfl
    have d6 : WE.cell? ⟨w.heap.size, 6, none⟩ = some (.int .i64 0) := unhide HR8 6 _ rfl
    have d7 : WE.cell? ⟨w.heap.size, 7, none⟩ = some (.int .i64 0) := unhide HR8 7 _ rfl
    have d8 : WE.cell? ⟨w.heap.size, 8, none⟩ = some (.int .i64 0) := unhide HR8 8 _ rfl
    have d9 : WE.cell? ⟨w.heap.size, 9, none⟩ = some (.int .i64 0) := unhide HR8 9 _ rfl
    have d10 : WE.cell? ⟨w.heap.size, 10, none⟩ = some (.int .i64 0) := unhide HR8 10 _ rfl
    refine bodyPost_ret (by simp [results, Try.results4, go_sem, d0, d1, d2, d3, d4, d5, d6, d7, d8, d9, d10]; try rfl) rfl ?_
    rw [unhide HCD]
    exact ⟨_, _, rfl, ⟨[], World.ownsRow_nil _ _ _ _, rfl, fun i g es hg => by simp at hg⟩, World.ownsRow_nil _ _ _ _, unhide HB8⟩
  have h1' : ¬ (4096 : Int) < cs.length := by omega
  by_cases h2 : 200 < cs.length
  · have HF1 : Hid (F = ⟨0, [], [], tot0⟩) := (unhide HF).trans (if_neg (by omega))
    have HCD : Hid (CF = 7) := (unhide HCF).trans ((if_neg h1).trans (if_pos h2))
    have h2' : (200 : Int) < cs.length := by omega
    have HR8 := hide (World.rangeAt_setCells_same X w.heap.size 0 [.slice none 0 0, .int .i64 0, .slice none 0 0, .int .i64 0, .int .i64 0, .int .i64 0, .int .i64 0, .int .i64 0, .int .i64 0, .int .i64 0, .int .i64 0] (fun j hj => (unhide HX).2.1 j hj))
    have HB8 := hide (below_setCells w.heap.size (Nat.le_refl _) [.slice none 0 0, .int .i64 0, .slice none 0 0, .int .i64 0, .int .i64 0, .int .i64 0, .int .i64 0, .int .i64 0, .int .i64 0, .int .i64 0, .int .i64 0] 0 X (unhide HX).2.2)
    clear HF HCF HRU
    go_wp2_with fail
    change bodyPost _ _ _ _ _ (X.setCells w.heap.size 0 [.slice none 0 0, .int .i64 0, .slice none 0 0, .int .i64 0, .int .i64 0, .int .i64 0, .int .i64 0, .int .i64 0, .int .i64 0, .int .i64 0, .int .i64 0])
    generalize X.setCells w.heap.size 0 [.slice none 0 0, .int .i64 0, .slice none 0 0, .int .i64 0, .int .i64 0, .int .i64 0, .int .i64 0, .int .i64 0, .int .i64 0, .int .i64 0, .int .i64 0] = WE at HR8 HB8 ⊢
    obtain rfl := unhide HF1
    have d0 : WE.cell? ⟨w.heap.size, 0, none⟩ = some (.slice none 0 0) := unhide HR8 0 _ rfl
    have d1 : WE.cell? ⟨w.heap.size, 1, none⟩ = some (.int .i64 0) := unhide HR8 1 _ rfl
    have d2 : WE.cell? ⟨w.heap.size, 2, none⟩ = some (.slice none 0 0) := unhide HR8 2 _ rfl
    have d3 : WE.cell? ⟨w.heap.size, 3, none⟩ = some (.int .i64 0) := unhide HR8 3 _ rfl
    have d4 : WE.cell? ⟨w.heap.size, 4, none⟩ = some (.int .i64 0) := unhide HR8 4 _ rfl
    have d5 : WE.cell? ⟨w.heap.size, 5, none⟩ = some (.int .i64 0) := unhide HR8 5 _ rfl
    have d6 : WE.cell? ⟨w.heap.size, 6, none⟩ = some (.int .i64 0) := unhide HR8 6 _ rfl
    have d7 : WE.cell? ⟨w.heap.size, 7, none⟩ = some (.int .i64 0) := unhide HR8 7 _ rfl
    have d8 : WE.cell? ⟨w.heap.size, 8, none⟩ = some (.int .i64 0) := unhide HR8 8 _ rfl
    have d9 : WE.cell? ⟨w.heap.size, 9, none⟩ = some (.int .i64 0) := unhide HR8 9 _ rfl
    have d10 : WE.cell? ⟨w.heap.size, 10, none⟩ = some (.int .i64 0) := unhide HR8 10 _ rfl
    refine bodyPost_ret (by simp [results, Try.results4, go_sem, d0, d1, d2, d3, d4, d5, d6, d7, d8, d9, d10]; try rfl) rfl ?_
    rw [unhide HCD]
    exact ⟨_, _, rfl, ⟨[], World.ownsRow_nil _ _ _ _, rfl, fun i g es hg => by simp at hg⟩, World.ownsRow_nil _ _ _ _, unhide HB8⟩
  have h2' : ¬ (200 : Int) < cs.length := by omega
  have HCD : Hid (CF = 0) := (unhide HCF).trans ((if_neg h1).trans (if_neg h2))
  have HRU1 := hide (unhide HRU (by omega) X (rdR_below (unhide HR) (unhide HX).2.2 (Nat.le_refl _)))
  clear HRU HF HCF z0 q0 z1 q1 z2 q2 z3 q3 z4 q4 z5 q5 z6 q6 z7 q7 z8 q8 z9 q9 z10 q10
  obtain ⟨fn, fl, fg, ⟨tgr, tac, trf, ttr, tvo, tno, tli, tle⟩⟩ := F
  simp only at HRU1 ⊢
  go_wp2_with fail
  refine (unhide HRU1).mono ?_
  rintro e w4 ⟨gv, vq, rfl, ⟨gs, hg, hgl, hge⟩, hq, hb4⟩
  obtain ⟨aq, cq, hv⟩ := row_form hq
  subst hv
  obtain ⟨ga, gc, hgv⟩ := row_form hg
  subst hgv
  have hxs := (unhide HX).1
  have HT4 := hide (there_below (unhide HX).2.1 hb4 (by omega))
  have HB4 := hide ((unhide HX).2.2.trans (hb4.mono (unhide HX).2.2.size))
  obtain ⟨y0, z0, q0⟩ := there_any (unhide HT4) (j := 0) (by omega)
  obtain ⟨y1, z1, q1⟩ := there_any (unhide HT4) (j := 1) (by omega)
  obtain ⟨y2, z2, q2⟩ := there_any (unhide HT4) (j := 2) (by omega)
  obtain ⟨y3, z3, q3⟩ := there_any (unhide HT4) (j := 3) (by omega)
  obtain ⟨y4, z4, q4⟩ := there_any (unhide HT4) (j := 4) (by omega)
  obtain ⟨y5, z5, q5⟩ := there_any (unhide HT4) (j := 5) (by omega)
  obtain ⟨y6, z6, q6⟩ := there_any (unhide HT4) (j := 6) (by omega)
  obtain ⟨y7, z7, q7⟩ := there_any (unhide HT4) (j := 7) (by omega)
  obtain ⟨y8, z8, q8⟩ := there_any (unhide HT4) (j := 8) (by omega)
  obtain ⟨y9, z9, q9⟩ := there_any (unhide HT4) (j := 9) (by omega)
  obtain ⟨y10, z10, q10⟩ := there_any (unhide HT4) (j := 10) (by omega)
  have HR8 := hide (World.rangeAt_setCells_same w4 w.heap.size 0 [.slice ga gs.length gc, .int .i64 fn, .slice aq fl.length cq, .int .i64 tgr, .int .i64 tac, .int .i64 trf, .int .i64 ttr, .int .i64 tvo, .int .i64 tno, .int .i64 tli, .int .i64 tle] (fun j hj => unhide HT4 j hj))
  have HB8 := hide (below_setCells w.heap.size (Nat.le_refl _) [.slice ga gs.length gc, .int .i64 fn, .slice aq fl.length cq, .int .i64 tgr, .int .i64 tac, .int .i64 trf, .int .i64 ttr, .int .i64 tvo, .int .i64 tno, .int .i64 tli, .int .i64 tle] 0 w4 (unhide HB4))
  have HROW : Hid (∀ {e sz m : Nat} {v : Value} {xs : List Value}, w4.ownsRow X.heap.size e sz v m xs → World.ownsRow (w4.setCells w.heap.size 0 [.slice ga gs.length gc, .int .i64 fn, .slice aq fl.length cq, .int .i64 tgr, .int .i64 tac, .int .i64 trf, .int .i64 ttr, .int .i64 tvo, .int .i64 tno, .int .i64 tli, .int .i64 tle]) w.heap.size e sz v m xs) := fun {e sz m v xs} h => by
    have h3 := rowE_setCells (b := w.heap.size) (fun e' => by have := (h.lt _ e'.symm).1; omega) [.slice ga gs.length gc, .int .i64 fn, .slice aq fl.length cq, .int .i64 tgr, .int .i64 tac, .int .i64 trf, .int .i64 ttr, .int .i64 tvo, .int .i64 tno, .int .i64 tli, .int .i64 tle] 0 _ h
    refine ⟨h3.1, ?_⟩
    rcases h3.2 with k1 | ⟨g', c', cur, k1, k2, k3⟩
    · exact .inl k1
    · exact .inr ⟨g', c', cur, k1, by omega, k3⟩
  have HGG : Hid (GRs (w4.setCells w.heap.size 0 [.slice ga gs.length gc, .int .i64 fn, .slice aq fl.length cq, .int .i64 tgr, .int .i64 tac, .int .i64 trf, .int .i64 ttr, .int .i64 tvo, .int .i64 tno, .int .i64 tli, .int .i64 tle]) w.heap.size (.slice ga gs.length gc) fg) := ⟨gs, unhide HROW hg, hgl, fun i g es h1 h2 => unhide HROW (hge i g es h1 h2)⟩
  have HO : Hid (ORow (w4.setCells w.heap.size 0 [.slice ga gs.length gc, .int .i64 fn, .slice aq fl.length cq, .int .i64 tgr, .int .i64 tac, .int .i64 trf, .int .i64 ttr, .int .i64 tvo, .int .i64 tno, .int .i64 tli, .int .i64 tle]) w.heap.size (.slice aq fl.length cq) fl) := unhide HROW hq
  clear HROW hg hgl hge hq hb4 hxs
  go_wp2_with fail
  change bodyPost _ _ _ _ _ (w4.setCells w.heap.size 0 [.slice ga gs.length gc, .int .i64 fn, .slice aq fl.length cq, .int .i64 tgr, .int .i64 tac, .int .i64 trf, .int .i64 ttr, .int .i64 tvo, .int .i64 tno, .int .i64 tli, .int .i64 tle])
  generalize w4.setCells w.heap.size 0 [.slice ga gs.length gc, .int .i64 fn, .slice aq fl.length cq, .int .i64 tgr, .int .i64 tac, .int .i64 trf, .int .i64 ttr, .int .i64 tvo, .int .i64 tno, .int .i64 tli, .int .i64 tle] = WE at HR8 HB8 HGG HO ⊢
  have d0 : WE.cell? ⟨w.heap.size, 0, none⟩ = some (.slice ga gs.length gc) := unhide HR8 0 _ rfl
  have d1 : WE.cell? ⟨w.heap.size, 1, none⟩ = some (.int .i64 fn) := unhide HR8 1 _ rfl
  have d2 : WE.cell? ⟨w.heap.size, 2, none⟩ = some (.slice aq fl.length cq) := unhide HR8 2 _ rfl
  have d3 : WE.cell? ⟨w.heap.size, 3, none⟩ = some (.int .i64 tgr) := unhide HR8 3 _ rfl
  have d4 : WE.cell? ⟨w.heap.size, 4, none⟩ = some (.int .i64 tac) := unhide HR8 4 _ rfl
  have d5 : WE.cell? ⟨w.heap.size, 5, none⟩ = some (.int .i64 trf) := unhide HR8 5 _ rfl
  have d6 : WE.cell? ⟨w.heap.size, 6, none⟩ = some (.int .i64 ttr) := unhide HR8 6 _ rfl
  have d7 : WE.cell? ⟨w.heap.size, 7, none⟩ = some (.int .i64 tvo) := unhide HR8 7 _ rfl
  have d8 : WE.cell? ⟨w.heap.size, 8, none⟩ = some (.int .i64 tno) := unhide HR8 8 _ rfl
  have d9 : WE.cell? ⟨w.heap.size, 9, none⟩ = some (.int .i64 tli) := unhide HR8 9 _ rfl
  have d10 : WE.cell? ⟨w.heap.size, 10, none⟩ = some (.int .i64 tle) := unhide HR8 10 _ rfl
  refine bodyPost_ret (by simp [results, Try.results4, go_sem, d0, d1, d2, d3, d4, d5, d6, d7, d8, d9, d10]; try rfl) rfl ?_
  rw [unhide HCD]
  exact ⟨_, _, rfl, unhide HGG, unhide HO, unhide HB8⟩
end Go.Proofs.Ythmgkabpcjkieaa
namespace Go.Proofs.Ythmgkabpcjkieaa
open Go.RowKit

theorem Try.infoFlt : (Try.prog.info? 35).map (fun i => (i.zero, i.size, i.bytes)) = some (some (.float .f64 0), 1, 8) := by kernel_rfl
/-- The array of M floats in block B, its first floats being 'done'. -/
def ArrF (M B : Nat) (w wr : World) (done : List Nat) : Prop :=
  ∃ cur t, wr.heap[B]? = some (.cells cur t (0, 0)) ∧ cur.size = M ∧ done.length ≤ M ∧ cur.toList.take done.length = done.map (Value.float .f64) ∧ Below B w wr
theorem ArrF.below {M B : Nat} {w wr : World} {done : List Nat} (h : ArrF M B w wr done) : Below B w wr := by
  obtain ⟨_, _, _, _, _, _, h⟩ := h; exact h
theorem ArrF.some {M B : Nat} {w wr : World} {done : List Nat} (h : ArrF M B w wr done) {j : Nat} (hj : j < M) : ∃ v, wr.cell? ⟨B, j, none⟩ = .some v := by
  obtain ⟨cur, t, h1, h2, _⟩ := h
  exact ⟨_, (cell_of_row wr B j cur t (0, 0) h1).trans (Array.getElem?_eq_getElem (by omega))⟩
end Go.Proofs.Ythmgkabpcjkieaa
namespace Go.Proofs.Ythmgkabpcjkieaa
open Go.RowKit

/-- The word v is that of o; of none it is no number. -/
def HasF (o : Option Nat) (v : Nat) : Prop := (∀ r, o = some r → v = r) ∧ (o = none → nanB v = true)
theorem frombitsN (n : Int) (w : World) : (callFunc 37 #[.int .u64 n]).run Try.prog w = .ok (.value (.float .f64 n.toNat)) w := by
  rw [run_callFunc_extern (e := Extern.MathFloatBits.float64frombits) Try.func37 (by kernel_rfl) (by kernel_rfl) (by kernel_rfl) (by kernel_rfl)]
  rfl
theorem oneNaN_any (x : Nat) (w : World) :
    Calls Try.prog 39 #[.float .f64 x] w fun e w' => e = .returned (.float .f64 (fbit x)) ∧ w' = w := by
  have hb := frombitsN
  go_enter Try.func39, Try.ntmps39
  go_wp2_with (go_at_call 69; refine (floatBits_any _ _).mono ?_; rintro e w' ⟨rfl, rfl⟩)
  go_ret
  exact ⟨rfl, rfl⟩
end Go.Proofs.Ythmgkabpcjkieaa
namespace Go.Proofs.Ythmgkabpcjkieaa
open Go.RowKit
set_option linter.unusedVariables false

theorem has_some (x : Nat) : HasF (some x) x := ⟨fun r h => Option.some.inj h, fun h => by simp at h⟩
theorem quot_nanL (n : Nat) (d e : Ieee.Datum) (h : d.isNaN = true) : d.quotient n e = none := by
  cases d <;> simp [Ieee.Datum.isNaN] at h
  cases e <;> rfl
theorem quot_nanR (n : Nat) (d e : Ieee.Datum) (h : e.isNaN = true) : d.quotient n e = none := by
  cases e <;> simp [Ieee.Datum.isNaN] at h
  cases d <;> rfl
theorem opp_nan (d : Ieee.Datum) (h : d.isNaN = true) : d.opposite.isNaN = true := by
  cases d <;> simp [Ieee.Datum.isNaN] at h
  rfl
theorem add_none {x y : Nat} (h : nanB x = true ∨ nanB y = true) : FloatKind.f64.format.add x y = none := by
  show (((Ieee.double.read x).sum (Ieee.double.read y)).map Ieee.double.write) = none
  rcases h with h | h
  · rw [sum_nanL _ _ ((nan_iff x).1 h)]; rfl
  · rw [sum_nanR _ _ ((nan_iff y).1 h)]; rfl
theorem sub_none {x y : Nat} (h : nanB x = true ∨ nanB y = true) : FloatKind.f64.format.sub x y = none := by
  show (((Ieee.double.read x).sum (Ieee.double.read y).opposite).map Ieee.double.write) = none
  rcases h with h | h
  · rw [sum_nanL _ _ ((nan_iff x).1 h)]; rfl
  · rw [sum_nanR _ _ (opp_nan _ ((nan_iff y).1 h))]; rfl
theorem div_none {x y : Nat} (h : nanB x = true ∨ nanB y = true) : FloatKind.f64.format.div x y = none := by
  show (((Ieee.double.read x).quotient _ (Ieee.double.read y)).map Ieee.double.write) = none
  rcases h with h | h
  · rw [quot_nanL _ _ _ ((nan_iff x).1 h)]; rfl
  · rw [quot_nanR _ _ _ ((nan_iff y).1 h)]; rfl
theorem has_key {g : Nat → Nat → Option Nat} (hg : ∀ x y, nanB x = true ∨ nanB y = true → g x y = none) {o1 o2 : Option Nat} {x y : Nat} (h1 : HasF o1 x) (h2 : HasF o2 y) :
    (o1.bind fun a => o2.bind fun b => g a b) = g x y := by
  cases e1 : o1 with
  | none => rw [hg x y (.inl (h1.2 e1))]; rfl
  | some a =>
    cases e2 : o2 with
    | none => rw [hg x y (.inr (h2.2 e2))]; rfl
    | some b => rw [h1.1 a e1, h2.1 b e2]; rfl
theorem addH (o1 o2 : Option Nat) (x y : Nat) (W : World) (h1 : HasF o1 x) (h2 : HasF o2 y) :
    ∃ v n, (binOp .add 35 (.float .f64 x) (.float .f64 y)).run Try.prog W = .ok (.float .f64 v) (W.drewN n) ∧ HasF (o1.bind fun a => o2.bind fun b => FloatKind.f64.format.add a b) v := by
  rw [has_key (fun _ _ h => add_none h) h1 h2]
  cases ha : FloatKind.f64.format.add x y with
  | some r => exact ⟨r, 0, by simp [binOp, Op.floatArith, ha]; rfl, has_some r⟩
  | none =>
    refine ⟨(Question.nanBits .f64 x y).cut (W.tape W.drawn (.nanBits .f64 x y)), 1, ?_, (fun r' hr => by simp at hr), fun _ => nan_drawn _⟩
    simp [binOp, Op.floatArith, ha, choose]
    rfl
theorem subH (o1 o2 : Option Nat) (x y : Nat) (W : World) (h1 : HasF o1 x) (h2 : HasF o2 y) :
    ∃ v n, (binOp .sub 35 (.float .f64 x) (.float .f64 y)).run Try.prog W = .ok (.float .f64 v) (W.drewN n) ∧ HasF (o1.bind fun a => o2.bind fun b => FloatKind.f64.format.sub a b) v := by
  rw [has_key (fun _ _ h => sub_none h) h1 h2]
  cases ha : FloatKind.f64.format.sub x y with
  | some r => exact ⟨r, 0, by simp [binOp, Op.floatArith, ha]; rfl, has_some r⟩
  | none =>
    refine ⟨(Question.nanBits .f64 x y).cut (W.tape W.drawn (.nanBits .f64 x y)), 1, ?_, (fun r' hr => by simp at hr), fun _ => nan_drawn _⟩
    simp [binOp, Op.floatArith, ha, choose]
    rfl
theorem divH (o1 o2 : Option Nat) (x y : Nat) (W : World) (h1 : HasF o1 x) (h2 : HasF o2 y) :
    ∃ v n, (binOp .quo 35 (.float .f64 x) (.float .f64 y)).run Try.prog W = .ok (.float .f64 v) (W.drewN n) ∧ HasF (o1.bind fun a => o2.bind fun b => FloatKind.f64.format.div a b) v := by
  rw [has_key (fun _ _ h => div_none h) h1 h2]
  cases ha : FloatKind.f64.format.div x y with
  | some r => exact ⟨r, 0, by simp [binOp, Op.floatArith, ha]; rfl, has_some r⟩
  | none =>
    refine ⟨(Question.nanBits .f64 x y).cut (W.tape W.drawn (.nanBits .f64 x y)), 1, ?_, (fun r' hr => by simp at hr), fun _ => nan_drawn _⟩
    simp [binOp, Op.floatArith, ha, choose]
    rfl
/-- A whole number by four is a float. -/
theorem quarter_some (n : Int) : ∃ r, FloatKind.f64.format.div (floatOfInt .f64 n) 4616189618054758400 = some r := by
  have hn := ofInt_order n
  have h4 : Ieee.double.read 4616189618054758400 = .number false 4503599627370496 (-50) := by decide
  show ∃ r, ((Ieee.double.read (floatOfInt .f64 n)).quotient _ (Ieee.double.read 4616189618054758400)).map Ieee.double.write = some r
  have hn' : (Ieee.double.read (floatOfInt .f64 n)).order (Ieee.double.read (floatOfInt .f64 n)) = some Ordering.eq := hn
  rw [h4]
  cases hx : Ieee.double.read (floatOfInt .f64 n) with
  | nan s f => rw [hx] at hn'; simp [Ieee.Datum.order] at hn'
  | infinity s => exact ⟨_, rfl⟩
  | number s m i => exact ⟨_, by rw [Ieee.Datum.quotient, if_neg (by decide)]; rfl⟩
def qtr (n : Int) : Nat := (FloatKind.f64.format.div (floatOfInt .f64 n) 4616189618054758400).getD 0
theorem qtr_run (n : Int) (W : World) : (binOp .quo 35 (.float .f64 (floatOfInt .f64 n)) (.float .f64 4616189618054758400)).run Try.prog W = .ok (.float .f64 (qtr n)) W := by
  obtain ⟨r, hr⟩ := quarter_some n
  have e : qtr n = r := by unfold qtr; rw [hr]; rfl
  rw [e]
  simp [binOp, Op.floatArith, hr]
/-- The mean price, the middle, the spread and the tilt, where they are numbers. -/
def vwO (no vo : Int) : Option Nat := FloatKind.f64.format.div (qtr no) (floatOfInt .f64 vo)
def mdO (q1 q2 : List Od) : Option Nat := if hdF q1 = true ∧ hdF q2 = true then (FloatKind.f64.format.add (qtr (hdO q1).ticks) (qtr (hdO q2).ticks)).bind fun a => FloatKind.f64.format.div a 4611686018427387904 else none
def spO (q1 q2 : List Od) : Option Nat := if hdF q1 = true ∧ hdF q2 = true then FloatKind.f64.format.sub (qtr (hdO q2).ticks) (qtr (hdO q1).ticks) else some 9218868437227405312
def tlO (b s : Int) : Option Nat := FloatKind.f64.format.div (floatOfInt .f64 (b - s)) (floatOfInt .f64 (b + s))
/-- What levels have left together. -/
def qtyS : List Lv → Int
  | [] => 0
  | v :: r => v.qty + qtyS r
theorem qtyS_take {L : List Lv} {k : Nat} {v : Lv} (h : L[k]? = some v) : qtyS (L.take (k + 1)) = qtyS (L.take k) + v.qty := by
  have : ∀ (A : List Lv) (v : Lv), qtyS (A ++ [v]) = qtyS A + v.qty := by
    intro A v
    induction A with
    | nil => simp [qtyS]
    | cons a A ih => simp only [List.cons_append, qtyS, ih]; omega
  rw [List.take_add_one, h]
  exact this _ _
theorem qty_levels (s : Bool) (sd : Int) (seq : List Od) : qtyS (lvsOf s sd seq) = sumL seq := by
  have hT := isT_tks s seq
  have hnd : (tks s seq).Nodup := by
    refine hT.sorted.imp ?_
    intro a b h e
    subst e
    cases s <;> simp [bt] at h
  have key : ∀ (T : List Int) (seq : List Od), T.Nodup → (∀ o ∈ seq, o.ticks ∈ T) → qtyS (T.map (lvAt sd seq)) = sumL seq := by
    intro T seq hn
    induction seq with
    | nil =>
      intro h0
      clear hn h0
      induction T with
      | nil => rfl
      | cons a T ih => simp only [List.map_cons, qtyS, ih]; simp [lvAt, atK, sumL]
    | cons o r ih =>
      intro hall
      have hr := ih (fun o' h => hall o' (List.mem_cons_of_mem _ h))
      have ho := hall o List.mem_cons_self
      have step : ∀ (T : List Int), T.Nodup → qtyS (T.map (lvAt sd (o :: r))) = qtyS (T.map (lvAt sd r)) + (if o.ticks ∈ T then o.left else 0) := by
        intro T
        induction T with
        | nil => intro _; simp [qtyS]
        | cons k T ih2 =>
          intro hnd
          obtain ⟨h1, h2⟩ := List.nodup_cons.1 hnd
          simp only [List.map_cons, qtyS, ih2 h2]
          by_cases e : o.ticks = k
          · have : ¬ o.ticks ∈ T := by rw [e]; exact h1
            have hq : (lvAt sd (o :: r) k).qty = o.left + (lvAt sd r k).qty := by simp [lvAt, atK, e, sumL]
            rw [hq, if_neg this, if_pos (by rw [e]; exact List.mem_cons_self)]; omega
          · have hq : (lvAt sd (o :: r) k).qty = (lvAt sd r k).qty := by simp [lvAt, atK, e]
            rw [hq]
            by_cases hm : o.ticks ∈ T
            · rw [if_pos hm, if_pos (List.mem_cons_of_mem _ hm)]; omega
            · rw [if_neg hm, if_neg (by simp [e, hm])]; omega
      rw [step T hn, hr, if_pos ho, sumL]; omega
  exact key _ _ hnd (fun o h => (hT.mem _).2 ⟨o, h, rfl⟩)
theorem qtyS_bound (sd : Int) (seq : List Od) (h : ∀ o ∈ seq, 0 ≤ o.left ∧ o.left ≤ 1000000) (hn : seq.length ≤ 20) : ∀ T : List Int, 0 ≤ qtyS (T.map (lvAt sd seq)) ∧ qtyS (T.map (lvAt sd seq)) ≤ 20000000 * T.length := by
  intro T
  induction T with
  | nil => simp [qtyS]
  | cons k T ih =>
    have hb := sumL_bound (atK seq k) (fun o ho => h o (List.mem_filter.1 ho).1)
    have hl : (atK seq k).length ≤ 20 := Nat.le_trans (List.length_filter_le _ _) hn
    have hq : (lvAt sd seq k).qty = sumL (atK seq k) := rfl
    simp only [List.map_cons, qtyS, List.length_cons, hq]
    omega
end Go.Proofs.Ythmgkabpcjkieaa
