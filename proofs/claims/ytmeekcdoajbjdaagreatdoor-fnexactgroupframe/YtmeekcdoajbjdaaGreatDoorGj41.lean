/-
  The size of a command, and a command that came in, opened: each number, float and text fits its kind.
-/
import Derived.Test.YtmeekcdoajbjdaaGreatDoorGj11
import Derived.Deep.Slices
import Derived.ChangeArms
import Derived.OpenShut
namespace Go.Proofs.YtmeekcdoajbjdaaGreatDoor
open Go.RowKit Go.ChangeShapes Go.WideShapes Go.Deep
set_option linter.unusedVariables false

set_option maxHeartbeats 400000 in
theorem szCmd_any (c : Cm) (x : Int) (w : World) (h0 : 0 ≤ x) (h1 : x ≤ 1073741824) (hg : c.g.size ≤ maxLen) :
    Calls Tryz.prog 24 #[.agg #[.int .i64 c.k, .int .i64 c.s, .int .i64 c.t, .int .i64 c.l, .int .i64 c.q, .int .i64 c.i, .float .f64 c.p, .string c.g], .int .i64 x] w fun e w' =>
      ∃ y : Int, e = .returned (.int .i64 y) ∧ -1 ≤ y ∧ y ≤ x ∧ Below w.heap.size w w' := by
  obtain ⟨k, s, t, l, q, i, p, g⟩ := c
  simp only at *
  unfold maxLen at hg
  by_cases h : x < g.size
  · go_enter Tryz.func24, Tryz.ntmps24
    go_wp2_with fail
    go_ret
    exact ⟨_, rfl, by omega, by omega, by go_grown⟩
  · go_enter Tryz.func24, Tryz.ntmps24
    go_wp2_with fail
    go_ret
    exact ⟨_, rfl, by omega, by omega, by go_grown⟩

/-- What is told of a command that came in. -/
structure Cm.ok (c : Cm) : Prop where
  k : (Lit.int .i64 c.k).wf = true
  s : (Lit.int .i64 c.s).wf = true
  t : (Lit.int .i64 c.t).wf = true
  l : (Lit.int .i64 c.l).wf = true
  q : (Lit.int .i64 c.q).wf = true
  i : (Lit.int .i64 c.i).wf = true
  p : (Lit.float .f64 c.p).wf = true
  g : c.g.size ≤ maxLen

section
variable {H : Type} {enc : TypeId × Value → H} {w : World} {base : Nat} {spare : Nat → Bool} {held : Bool}

theorem trod_flt {P : Program} {t : TypeId} {k : FloatKind} {fuel : Nat} {cs : List Value} {x : DataW H × List MemPlace} (ht : P.underlying t = some (.float k)) (h : DataW.trod enc P w base spare held fuel t cs = some x) :
    ∃ n, cs = [.float k n] ∧ (Lit.float k n).wf = true := by
  cases fuel with
  | zero => simp [DataW.trod] at h
  | succ n =>
    unfold DataW.trod at h
    rw [ht] at h
    split at h <;> simp_all

theorem list8 {cs : List Value} (h : cs.length = 8) : ∃ v0 v1 v2 v3 v4 v5 v6 v7, cs = [v0, v1, v2, v3, v4, v5, v6, v7] :=
  match cs, h with
  | [v0, v1, v2, v3, v4, v5, v6, v7], _ => ⟨v0, v1, v2, v3, v4, v5, v6, v7, rfl⟩
theorem cm_opened {fuel : Nat} {cs : List Value} {x : DataW H × List MemPlace} (h : DataW.trod enc Tryz.prog w base spare held fuel 37 cs = some x) : ∃ c : Cm, cs = c.vs ∧ c.ok := by
  obtain ⟨xs, n, _, _, hlen, hxl, hf⟩ := DataW.trod_struct Tryz.underlying37 h
  have hl8 : cs.length = 8 := hlen.trans (by kernel_rfl)
  have k3 : Tryz.prog.cellsOf 3 = 1 := by kernel_rfl
  have k22 : Tryz.prog.cellsOf 35 = 1 := by kernel_rfl
  have k9 : Tryz.prog.cellsOf 9 = 1 := by kernel_rfl
  have hx : ∀ i, i < 8 → ∃ y, xs[i]? = some y := fun i hi => ⟨_, List.getElem?_eq_getElem (by rw [hxl]; exact hi)⟩
  obtain ⟨y0, e0⟩ := hx 0 (by omega)
  obtain ⟨y1, e1⟩ := hx 1 (by omega)
  obtain ⟨y2, e2⟩ := hx 2 (by omega)
  obtain ⟨y3, e3⟩ := hx 3 (by omega)
  obtain ⟨y4, e4⟩ := hx 4 (by omega)
  obtain ⟨y5, e5⟩ := hx 5 (by omega)
  obtain ⟨y6, e6⟩ := hx 6 (by omega)
  obtain ⟨y7, e7⟩ := hx 7 (by omega)
  have f0 : DataW.trod enc Tryz.prog w base spare held n 3 ((cs.drop 0).take (Tryz.prog.cellsOf 3)) = some y0 := (hf 0 _ rfl).trans e0
  have f1 : DataW.trod enc Tryz.prog w base spare held n 3 ((cs.drop 1).take (Tryz.prog.cellsOf 3)) = some y1 := (hf 1 _ rfl).trans e1
  have f2 : DataW.trod enc Tryz.prog w base spare held n 3 ((cs.drop 2).take (Tryz.prog.cellsOf 3)) = some y2 := (hf 2 _ rfl).trans e2
  have f3 : DataW.trod enc Tryz.prog w base spare held n 3 ((cs.drop 3).take (Tryz.prog.cellsOf 3)) = some y3 := (hf 3 _ rfl).trans e3
  have f4 : DataW.trod enc Tryz.prog w base spare held n 3 ((cs.drop 4).take (Tryz.prog.cellsOf 3)) = some y4 := (hf 4 _ rfl).trans e4
  have f5 : DataW.trod enc Tryz.prog w base spare held n 3 ((cs.drop 5).take (Tryz.prog.cellsOf 3)) = some y5 := (hf 5 _ rfl).trans e5
  have f6 : DataW.trod enc Tryz.prog w base spare held n 35 ((cs.drop 6).take (Tryz.prog.cellsOf 35)) = some y6 := (hf 6 _ rfl).trans e6
  have f7 : DataW.trod enc Tryz.prog w base spare held n 9 ((cs.drop 7).take (Tryz.prog.cellsOf 9)) = some y7 := (hf 7 _ rfl).trans e7
  clear hf hx e0 e1 e2 e3 e4 e5 e6 e7 h hlen
  obtain ⟨v0, v1, v2, v3, v4, v5, v6, v7, rfl⟩ := list8 hl8
  · clear hl8
    simp only [k3, k22, k9, List.drop_zero, List.drop_succ_cons, List.take_succ_cons, List.take_zero] at f0 f1 f2 f3 f4 f5 f6 f7
    obtain ⟨n0, c0, _, b0⟩ := DataW.trod_int Tryz.underlying3 f0
    obtain ⟨n1, c1, _, b1⟩ := DataW.trod_int Tryz.underlying3 f1
    obtain ⟨n2, c2, _, b2⟩ := DataW.trod_int Tryz.underlying3 f2
    obtain ⟨n3, c3, _, b3⟩ := DataW.trod_int Tryz.underlying3 f3
    obtain ⟨n4, c4, _, b4⟩ := DataW.trod_int Tryz.underlying3 f4
    obtain ⟨n5, c5, _, b5⟩ := DataW.trod_int Tryz.underlying3 f5
    obtain ⟨n6, c6, b6⟩ := trod_flt Tryz.underlying35 f6
    obtain ⟨n7, c7, _, b7⟩ := DataW.trod_string Tryz.underlying9 f7
    simp only [List.cons.injEq, and_true] at c0 c1 c2 c3 c4 c5 c6 c7
    subst c0 c1 c2 c3 c4 c5 c6 c7
    exact ⟨⟨n0, n1, n2, n3, n4, n5, n6, n7⟩, rfl, ⟨b0, b1, b2, b3, b4, b5, b6, b7⟩⟩
end
end Go.Proofs.YtmeekcdoajbjdaaGreatDoor
