/-
  An event that came in, opened: each number, float and text fits its kind.
-/
import Derived.Test.YthkdbjldlfahdaaGreatDoorTj24
import Derived.Test.YthkdbjldlfahdaaGreatDoorTj46
namespace Go.Proofs.YthkdbjldlfahdaaGreatDoor
open Go.RowKit Go.ChangeShapes Go.WideShapes Go.Deep
set_option linter.unusedVariables false

/-- What is told of an event that came in. -/
structure Ev.ok (e : Ev) : Prop where
  k : (Lit.int .i64 e.kind).wf = true
  c : e.cmd.ok
  a : (Lit.int .i64 e.id).wf = true
  o : (Lit.int .i64 e.other).wf = true
  q : (Lit.int .i64 e.qty).wf = true
  p : (Lit.int .i64 e.price).wf = true
  r : (Lit.int .i64 e.reason).wf = true
theorem flt_lt {p : Nat} (h : (Lit.float .f64 p).wf = true) : p < 18446744073709551616 := by
  simpa [Lit.wf] using h
theorem Ev.ok.fit {e : Ev} (h : e.ok) : e.fit := by
  refine ⟨fun o => ?_, bounds_i64 h.k, flt_lt h.c.p, h.c.g⟩
  unfold Ev.num
  split
  · exact bounds_i64 h.c.k
  · exact bounds_i64 h.c.s
  · exact bounds_i64 h.c.t
  · exact bounds_i64 h.c.l
  · exact bounds_i64 h.c.q
  · exact bounds_i64 h.c.i
  · exact bounds_i64 h.a
  · exact bounds_i64 h.o
  · exact bounds_i64 h.q
  · exact bounds_i64 h.p
  · exact bounds_i64 h.r
  · omega
section
variable {H : Type} {enc : TypeId × Value → H} {w : World} {base : Nat} {spare : Nat → Bool} {held : Bool}
theorem list14 {cs : List Value} (h : cs.length = 14) : ∃ v0 v1 v2 v3 v4 v5 v6 v7 v8 v9 v10 v11 v12 v13, cs = [v0, v1, v2, v3, v4, v5, v6, v7, v8, v9, v10, v11, v12, v13] :=
  match cs, h with
  | [v0, v1, v2, v3, v4, v5, v6, v7, v8, v9, v10, v11, v12, v13], _ => ⟨v0, v1, v2, v3, v4, v5, v6, v7, v8, v9, v10, v11, v12, v13, rfl⟩
theorem ev_opened {fuel : Nat} {cs : List Value} {x : DataW H × List MemPlace} (h : DataW.trod enc Tryz.prog w base spare held fuel 26 cs = some x) : ∃ e : Ev, cs = e.vs ∧ e.ok := by
  obtain ⟨xs, n, _, _, hlen, hxl, hf⟩ := DataW.trod_struct Tryz.underlying26 h
  have hl14 : cs.length = 14 := hlen.trans (by kernel_rfl)
  have k3 : Tryz.prog.cellsOf 3 = 1 := by kernel_rfl
  have k8 : Tryz.prog.cellsOf 24 = 8 := by kernel_rfl
  have hx : ∀ i, i < 7 → ∃ y, xs[i]? = some y := fun i hi => ⟨_, List.getElem?_eq_getElem (by rw [hxl]; exact hi)⟩
  obtain ⟨y0, e0⟩ := hx 0 (by omega)
  obtain ⟨y1, e1⟩ := hx 1 (by omega)
  obtain ⟨y2, e2⟩ := hx 2 (by omega)
  obtain ⟨y3, e3⟩ := hx 3 (by omega)
  obtain ⟨y4, e4⟩ := hx 4 (by omega)
  obtain ⟨y5, e5⟩ := hx 5 (by omega)
  obtain ⟨y6, e6⟩ := hx 6 (by omega)
  have f0 : DataW.trod enc Tryz.prog w base spare held n 3 ((cs.drop 0).take (Tryz.prog.cellsOf 3)) = some y0 := (hf 0 _ rfl).trans e0
  have f1 : DataW.trod enc Tryz.prog w base spare held n 24 ((cs.drop 1).take (Tryz.prog.cellsOf 24)) = some y1 := (hf 1 _ rfl).trans e1
  have f2 : DataW.trod enc Tryz.prog w base spare held n 3 ((cs.drop 9).take (Tryz.prog.cellsOf 3)) = some y2 := (hf 2 _ rfl).trans e2
  have f3 : DataW.trod enc Tryz.prog w base spare held n 3 ((cs.drop 10).take (Tryz.prog.cellsOf 3)) = some y3 := (hf 3 _ rfl).trans e3
  have f4 : DataW.trod enc Tryz.prog w base spare held n 3 ((cs.drop 11).take (Tryz.prog.cellsOf 3)) = some y4 := (hf 4 _ rfl).trans e4
  have f5 : DataW.trod enc Tryz.prog w base spare held n 3 ((cs.drop 12).take (Tryz.prog.cellsOf 3)) = some y5 := (hf 5 _ rfl).trans e5
  have f6 : DataW.trod enc Tryz.prog w base spare held n 3 ((cs.drop 13).take (Tryz.prog.cellsOf 3)) = some y6 := (hf 6 _ rfl).trans e6
  clear hf hx e0 e1 e2 e3 e4 e5 e6 h hlen
  obtain ⟨v0, v1, v2, v3, v4, v5, v6, v7, v8, v9, v10, v11, v12, v13, rfl⟩ := list14 hl14
  clear hl14
  simp only [k3, k8, List.drop_zero, List.drop_succ_cons, List.take_succ_cons, List.take_zero] at f0 f1 f2 f3 f4 f5 f6
  obtain ⟨n0, c0, _, b0⟩ := DataW.trod_int Tryz.underlying3 f0
  obtain ⟨c, c1, b1⟩ := cm_opened f1
  obtain ⟨n2, c2, _, b2⟩ := DataW.trod_int Tryz.underlying3 f2
  obtain ⟨n3, c3, _, b3⟩ := DataW.trod_int Tryz.underlying3 f3
  obtain ⟨n4, c4, _, b4⟩ := DataW.trod_int Tryz.underlying3 f4
  obtain ⟨n5, c5, _, b5⟩ := DataW.trod_int Tryz.underlying3 f5
  obtain ⟨n6, c6, _, b6⟩ := DataW.trod_int Tryz.underlying3 f6
  simp only [Cm.vs, List.cons.injEq, and_true] at c0 c1 c2 c3 c4 c5 c6
  obtain ⟨rfl, rfl, rfl, rfl, rfl, rfl, rfl, rfl⟩ := c1
  subst c0 c2 c3 c4 c5 c6
  exact ⟨⟨n0, c, n2, n3, n4, n5, n6⟩, rfl, ⟨b0, b1, b2, b3, b4, b5, b6⟩⟩
end
end Go.Proofs.YthkdbjldlfahdaaGreatDoor
