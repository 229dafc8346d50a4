/-
  What stands in memory while the model reads an event; no function walked.
-/
import Derived.Test.YtfhjbhnfapdmmaaDoorNj35
namespace Go.Proofs.YtfhjbhnfapdmmaaDoor
open Go.RowKit
set_option linter.unusedVariables false

theorem bx_lt {W : World} {b : Nat} {vs : List Value} (h : Bx W b vs) (hl : 0 < vs.length) : b < W.heap.size := by
  obtain ⟨y, hy⟩ := Option.isSome_iff_exists.1 (h.t 0 hl).1
  exact World.block_lt_of_cell? W _ hy
theorem bx_gr {W W' : World} {b R : Nat} {vs : List Value} (h : Bx W b vs) (hl : 0 < vs.length) (hg : W.grownBy W' (some R)) (hne : b ≠ R) : Bx W' b vs := bx_blk h (hg.block b (bx_lt h hl) (by simpa using hne))
theorem fldK_len' (k : Int) : fldK k = [] ∨ (fldK k).length = 5 := by
  unfold fldK
  repeat' split
  all_goals simp
theorem fldK_ne (k : Int) (h : 1 ≤ k ∧ k ≤ 9) : fldK k ≠ [] := by
  unfold fldK
  repeat' split
  all_goals simp
  all_goals omega
/-- The result's block, the event's, the kind's fields and the reader. -/
structure DS (w : World) (v : Value) (l : List Int) (kd : Int) (F R : Nat) (p : Ev × Option Nat) (W : World) : Prop where
  s : SS w R v l p.2 W
  e : Bx W (w.heap.size + 1) p.1.vs
  r : Bx W w.heap.size [.int .i64 0, .int .i64 0, .int .i64 0, .int .i64 0, .int .i64 0, .int .i64 0, .int .i64 0, .float .f64 0, .string ⟨#[]⟩, .int .i64 0, .int .i64 0, .int .i64 0, .int .i64 0, .int .i64 0]
  f : Bx W F ((fldK kd).map Value.bool)
  b : Below w.heap.size w W
  k : p.1.kind = kd
  hF : w.heap.size + 1 < F
  hR : F < R
  n : (fldK kd).length = 5
theorem DS.gr {w : World} {v : Value} {l : List Int} {kd : Int} {F R : Nat} {p : Ev × Option Nat} {W W' : World} {st : Option Nat} (h : DS w v l kd F R p W) (hs : SS w R v l st W') (hg : W.grownBy W' (some R)) : DS w v l kd F R (p.1, st) W' := by
  have hF := h.hF
  have hR := h.hR
  exact ⟨hs, bx_gr h.e (by rw [Ev.len]; decide) hg (by omega), bx_gr h.r (by decide) hg (by omega), bx_gr h.f (by rw [List.length_map, h.n]; decide) hg (by omega), h.b.trans (gr_below hg (by omega) h.b.size), h.k, hF, hR, h.n⟩
theorem DS.put {w : World} {v : Value} {l : List Int} {kd : Int} {F R o : Nat} {p : Ev × Option Nat} {W : World} {x : Value} (h : DS w v l kd F R p W) (ho : EvO o) (hx : TyO o x) : DS w v l kd F R (p.1.put o x, p.2) (W.setCell ⟨w.heap.size + 1, o, none⟩ x) := by
  have hF := h.hF
  have hR := h.hR
  have ho14 : o < 14 := by unfold EvO plcO at ho; simp at ho; omega
  refine ⟨h.s.other (by omega) (by omega), ?_, bx_other h.r (by omega), bx_other h.f (by omega), h.b.setCell (p := ⟨w.heap.size + 1, o, none⟩) (by show w.heap.size ≤ w.heap.size + 1; omega) _, by rw [put_kind]; exact h.k, hF, hR, h.n⟩
  have := bx_set (j := o) (u := x) h.e (by rw [Ev.len]; exact ho14)
  rwa [evs_put _ ho hx] at this
theorem ds_step {w : World} {v : Value} {l : List Int} {kd : Int} {F R o : Nat} {p : Ev × Option Nat} {W W' : World} (h : DS w v l kd F R p W) (hs : SS w R v l (stS o p.2 l) W') (hg : W.grownBy W' (some R)) (ho : EvO o) : DS w v l kd F R (stp o p l) (W'.setCell ⟨w.heap.size + 1, o, none⟩ (stV o p.2 l)) :=
  (h.gr hs hg).put ho (stV_ty o p.2 l)
theorem DS.below {w : World} {v : Value} {l : List Int} {kd : Int} {F R : Nat} {p : Ev × Option Nat} {W W' : World} (h : DS w v l kd F R p W) (hb : Below W.heap.size W W') : DS w v l kd F R p W' := by
  have hF := h.hF
  have hR := h.hR
  have hlt := h.s.lt
  exact ⟨h.s.below hb hlt, bx_below h.e hb (by omega), bx_below h.r hb (by omega), bx_below h.f hb (by omega), h.b.trans (hb.mono (by omega)), h.k, hF, hR, h.n⟩
theorem DS.x0 {w : World} {v : Value} {l : List Int} {kd : Int} {F R : Nat} {p : Ev × Option Nat} {W : World} (h : DS w v l kd F R p W) : W.cell? ⟨w.heap.size + 1, 0, none⟩ = some (.int .i64 kd) := by
  have := bx_cell h.e 0 (u := .int .i64 p.1.kind) rfl
  rwa [h.k] at this
theorem DS.c {w : World} {v : Value} {l : List Int} {kd : Int} {F R : Nat} {p : Ev × Option Nat} {W : World} (h : DS w v l kd F R p W) (o : Nat) (ho : o < 14) : (∃ u, W.cell? ⟨w.heap.size + 1, o, none⟩ = some u) ∧ W.frozen? ⟨w.heap.size + 1, o, none⟩ = false :=
  ⟨⟨_, bx_cell h.e o (List.getElem?_eq_getElem (by rw [Ev.len]; exact ho))⟩, bx_free h.e o (by rw [Ev.len]; exact ho)⟩
/-- How the model's decoding ends. -/
def DcEnd (w : World) (r : Option (Ev × Nat)) (e : Ending) (w' : World) : Prop := e = .returned (evT r) ∧ Below w.heap.size w w'
end Go.Proofs.YtfhjbhnfapdmmaaDoor
