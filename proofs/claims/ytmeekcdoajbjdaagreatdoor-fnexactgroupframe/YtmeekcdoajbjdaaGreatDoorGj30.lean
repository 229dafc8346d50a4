/-
  What stands in memory while the model writes an event's bytes; no function walked.
-/
import Derived.Test.YtmeekcdoajbjdaaGreatDoorGj27
import Derived.Test.YtmeekcdoajbjdaaGreatDoorGj29
namespace Go.Proofs.YtmeekcdoajbjdaaGreatDoor
open Go.RowKit
set_option linter.unusedVariables false

/-- The event's box, the command's, and the row of bytes, which is neither. -/
structure ES (w : World) (es cs : List Value) (ov : Value) (L : List Int) (W : World) : Prop where
  r : BRow W w.heap.size ov L
  q : ∀ q, ov.ownBlock = some q → q ≠ w.heap.size ∧ q ≠ w.heap.size + 2
  e : Bx W w.heap.size es
  c : Bx W (w.heap.size + 2) cs
  b : Below w.heap.size w W
  z : w.heap.size + 3 ≤ W.heap.size
theorem ES.below {w W W' : World} {es cs : List Value} {ov : Value} {L : List Int} (h : ES w es cs ov L W) (hb : Below W.heap.size W W') : ES w es cs ov L W' := by
  have hz := h.z
  exact ⟨bRow_below h.r hb, h.q, bx_below h.e hb (by omega), bx_below h.c hb (by omega), h.b.trans (hb.mono (by omega)), Nat.le_trans hz hb.size⟩
theorem ES.app {w W W' : World} {es cs : List Value} {ov ov' : Value} {L M : List Int} (h : ES w es cs ov L W) (hr : BRow W' w.heap.size ov' M) (hg : W.grownBy W' ov.ownBlock) (ha : ov'.ownBlock = ov.ownBlock ∨ ov'.ownBlock = some W.heap.size) : ES w es cs ov' M W' := by
  have hz := h.z
  have h1 : some w.heap.size ≠ ov.ownBlock := fun e => (h.q _ e.symm).1 rfl
  have h2 : some (w.heap.size + 2) ≠ ov.ownBlock := fun e => (h.q _ e.symm).2 rfl
  refine ⟨hr, fun q hq => ?_, bx_blk h.e (hg.block _ (by omega) h1), bx_blk h.c (hg.block _ (by omega) h2), h.b.grown hg h.b.size (fun q hq => (h.r.lt q hq).1), Nat.le_trans hz hg.size⟩
  rcases ha with ha | ha
  · exact h.q q (ha ▸ hq)
  · rw [ha] at hq
    have : W.heap.size = q := by simpa using hq
    omega
/-- The bytes of the five numbers, as far as the kind has them. -/
def lpB (fs : List Bool) (ns : List Int) : Nat → List Int
  | 0 => []
  | i + 1 => if fs.getD i false = true then lpB fs ns i ++ putU (zz (ns.getD i 0)) else lpB fs ns i
theorem lpB_yes {fs : List Bool} {ns : List Int} {i : Nat} (h : fs.getD i false = true) : lpB fs ns (i + 1) = lpB fs ns i ++ putU (zz (ns.getD i 0)) := by rw [lpB, if_pos h]
theorem lpB_no {fs : List Bool} {ns : List Int} {i : Nat} (h : fs.getD i false = false) : lpB fs ns (i + 1) = lpB fs ns i := by rw [lpB, if_neg (by rw [h]; decide)]
theorem lpB_len (fs : List Bool) (ns : List Int) (hn : ∀ i, -9223372036854775808 ≤ ns.getD i 0 ∧ ns.getD i 0 ≤ 9223372036854775807) : ∀ i, (lpB fs ns i).length ≤ 10 * i
  | 0 => by simp [lpB]
  | i + 1 => by
    have h1 := lpB_len fs ns hn i
    have h2 := putU_len10 (zz (ns.getD i 0)) (zz_lt _ (hn i).1 (hn i).2)
    rw [lpB]
    split
    · rw [List.length_append]; omega
    · omega
theorem nums_bd (e : Ev) (he : e.fit) : ∀ i, -9223372036854775808 ≤ (numsE e).getD i 0 ∧ (numsE e).getD i 0 ≤ 9223372036854775807 := by
  intro i
  match i with
  | 0 => exact he.n 9
  | 1 => exact he.n 10
  | 2 => exact he.n 11
  | 3 => exact he.n 12
  | 4 => exact he.n 13
  | i + 5 => simp [numsE]
theorem fldK_len2 (k : Int) : fldK k = [] ∨ (fldK k).length = 5 := by
  unfold fldK
  repeat' split
  all_goals simp
theorem fldK_ne2 (k : Int) (h : 1 ≤ k ∧ k ≤ 9) : fldK k ≠ [] := by
  unfold fldK
  repeat' split
  all_goals simp
  all_goals omega
/-- The bytes of the command's fields. -/
def cmL (e : Ev) : List Int := if e.kind = 1 then [2, 3, 4, 5, 7, 8].flatMap (wrF e) else if e.kind = 2 then [1, 2, 3, 4, 5, 6, 7, 8].flatMap (wrF e) else []
theorem enc_eq (e : Ev) (h : 1 ≤ e.kind ∧ e.kind ≤ 9) : [e.kind] ++ cmL e ++ lpB (fldK e.kind) (numsE e) 5 = evL e := by
  obtain ⟨kind, ⟨ck, cs, ct, cl, cq, ci, cp, cg⟩, id, other, qty, price, reason⟩ := e
  simp only at h
  rcases (show kind = 1 ∨ kind = 2 ∨ kind = 3 ∨ kind = 4 ∨ kind = 5 ∨ kind = 6 ∨ kind = 7 ∨ kind = 8 ∨ kind = 9 by omega) with rfl | rfl | rfl | rfl | rfl | rfl | rfl | rfl | rfl
  all_goals simp [evL, cmL, shF, fldK, lpB, numsE, wrF, Ev.num]
/-- With the kind's fields and the event's numbers, which the row of bytes is none of. -/
structure ES2 (w : World) (es cs : List Value) (F G : Nat) (fs : List Bool) (ns : List Int) (ov : Value) (L : List Int) (W : World) : Prop where
  s : ES w es cs ov L W
  f : Bx W F (fs.map Value.bool)
  g : Bx W G (ns.map (Value.int .i64))
  q : ∀ q, ov.ownBlock = some q → q ≠ F ∧ q ≠ G
  lf : F < W.heap.size
  lg : G < W.heap.size
theorem ES2.below {w W W' : World} {es cs : List Value} {F G : Nat} {fs : List Bool} {ns : List Int} {ov : Value} {L : List Int} (h : ES2 w es cs F G fs ns ov L W) (hb : Below W.heap.size W W') : ES2 w es cs F G fs ns ov L W' :=
  ⟨h.s.below hb, bx_below h.f hb h.lf, bx_below h.g hb h.lg, h.q, Nat.lt_of_lt_of_le h.lf hb.size, Nat.lt_of_lt_of_le h.lg hb.size⟩
theorem ES2.app {w W W' : World} {es cs : List Value} {F G : Nat} {fs : List Bool} {ns : List Int} {ov ov' : Value} {L M : List Int} (h : ES2 w es cs F G fs ns ov L W) (hr : BRow W' w.heap.size ov' M) (hg : W.grownBy W' ov.ownBlock) (ha : ov'.ownBlock = ov.ownBlock ∨ ov'.ownBlock = some W.heap.size) : ES2 w es cs F G fs ns ov' M W' := by
  have h1 : some F ≠ ov.ownBlock := fun e => (h.q _ e.symm).1 rfl
  have h2 : some G ≠ ov.ownBlock := fun e => (h.q _ e.symm).2 rfl
  have lf := h.lf
  have lg := h.lg
  refine ⟨h.s.app hr hg ha, bx_blk h.f (hg.block _ lf h1), bx_blk h.g (hg.block _ lg h2), fun q hq => ?_, Nat.lt_of_lt_of_le lf hg.size, Nat.lt_of_lt_of_le lg hg.size⟩
  rcases ha with ha | ha
  · exact h.q q (ha ▸ hq)
  · rw [ha] at hq
    have : W.heap.size = q := by simpa using hq
    omega
theorem bx_lt2 {W : World} {b : Nat} {vs : List Value} (h : Bx W b vs) (hl : 0 < vs.length) : b < W.heap.size := by
  obtain ⟨y, hy⟩ := Option.isSome_iff_exists.1 (h.t 0 hl).1
  exact World.block_lt_of_cell? W _ hy
theorem es2_mk {w W : World} {es cs : List Value} {F G : Nat} {fs : List Bool} {ns : List Int} {ov : Value} {L : List Int} (s : ES w es cs ov L W) (f : Bx W F (fs.map Value.bool)) (g : Bx W G (ns.map (Value.int .i64))) (q : ∀ q, ov.ownBlock = some q → q ≠ F ∧ q ≠ G) (lf : F < W.heap.size) (lg : G < W.heap.size) : ES2 w es cs F G fs ns ov L W := ⟨s, f, g, q, lf, lg⟩
end Go.Proofs.YtmeekcdoajbjdaaGreatDoor
