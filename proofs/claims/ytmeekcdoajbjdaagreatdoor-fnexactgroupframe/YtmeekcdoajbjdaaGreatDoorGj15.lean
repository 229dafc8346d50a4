/-
  What the program's writer of a float's bytes returns, proved by walking it: a row of its own with the eight bytes of its bits, those of every NaN being one.
-/
import Derived.Test.YtmeekcdoajbjdaaGreatDoorGj12
import Derived.Test.YtmeekcdoajbjdaaGreatDoorGj13
import Derived.Test.YtmeekcdoajbjdaaGreatDoorGj14
import Derived.Laws.Externs
import Derived.WalkLawsBesides
import Derived.WalkSpells
namespace Go.Proofs.YtmeekcdoajbjdaaGreatDoor
open Go.RowKit

/-- The eight bytes of 64 bits, the highest first. -/
def fl8 (u : Nat) : List Int := [(u : Int) / 72057594037927936 % 256, (u : Int) / 281474976710656 % 256, (u : Int) / 1099511627776 % 256, (u : Int) / 4294967296 % 256,
  (u : Int) / 16777216 % 256, (u : Int) / 65536 % 256, (u : Int) / 256 % 256, (u : Int) % 256]
theorem fl8_len (u : Nat) : (fl8 u).length = 8 := rfl

theorem Tryz.arrayLen113 : Tryz.prog.arrayLen 113 = 8 := by kernel_rfl
theorem slice_all8 (B : Nat) (W : World) :
    (Instr.sliceAt 113 (.pointer (some ⟨B, 0, none⟩)) none none none).run Tryz.prog W = .ok (.slice (some ⟨B, 0, none⟩) 8 8) W := by
  rw [run_sliceAt_array_all W 113 _ (by kernel_rfl), Tryz.arrayLen113]
  have hs : (sizeOf (Tryz.prog.elem 113)).run Tryz.prog W = .ok 1 W := by kernel_rfl
  rw [hs]
  simp [slicedAt, Result.andThen, Addr.add]

set_option maxRecDepth 100000 in
set_option maxHeartbeats 800000 in
theorem implFloat_bits (x u : Nat) (w : World) (hu : fbit x = u) :
    Calls Tryz.prog 90 #[.float .f64 x] w fun e w' => ∃ v, e = .returned v ∧ OwnT w.heap.size w' v (fl8 u) ∧ Below w.heap.size w w' := by
  have hsl := slice_all8 w.heap.size
  have HF := hide (fun w => hu ▸ floatBits_any x w)
  clear hu
  go_enter Tryz.func90, Tryz.ntmps90
  go_wp2_with (go_at_call 64; refine (unhide HF _).mono ?_; rintro e w' ⟨rfl, rfl⟩)
  refine wp_loop_rounds 9 ?_
  repeat (rw [rounds_succ]; go_wp2_with fail)
  go_ret
  exact ⟨_, rfl, ⟨_, 8, _, _, rfl, Nat.le_refl _, heap_alloc_new _ _, by rw [fl8_len]; decide, by simp, by unfold maxLen; omega, by rw [fl8_len]; decide, by simp [fl8]⟩, (Below.refl _ _).alloc (Nat.le_refl _) _⟩
theorem implFloat_any (x : Nat) (w : World) :
    Calls Tryz.prog 90 #[.float .f64 x] w fun e w' => ∃ v, e = .returned v ∧ OwnT w.heap.size w' v (fl8 (fbit x)) ∧ Below w.heap.size w w' :=
  implFloat_bits x _ w rfl
end Go.Proofs.YtmeekcdoajbjdaaGreatDoor
namespace Go.Proofs.YtmeekcdoajbjdaaGreatDoor
open Go.RowKit
set_option linter.unusedVariables false

/-- The number in a cell of an event. -/
def Ev.num (e : Ev) : Nat → Int
  | 1 => e.cmd.k
  | 2 => e.cmd.s
  | 3 => e.cmd.t
  | 4 => e.cmd.l
  | 5 => e.cmd.q
  | 6 => e.cmd.i
  | 9 => e.id
  | 10 => e.other
  | 11 => e.qty
  | 12 => e.price
  | 13 => e.reason
  | _ => 0
theorem ev_num (e : Ev) {o : Nat} (h : plcO o = true) : e.vs[o]? = some (.int .i64 (e.num o)) := by
  rcases (show o = 1 ∨ o = 2 ∨ o = 3 ∨ o = 4 ∨ o = 5 ∨ o = 6 ∨ o = 9 ∨ o = 10 ∨ o = 11 ∨ o = 12 ∨ o = 13 by simp [plcO] at h; omega) with rfl | rfl | rfl | rfl | rfl | rfl | rfl | rfl | rfl | rfl | rfl
  all_goals rfl
/-- An event whose numbers and text are such as a machine holds. -/
structure Ev.fit (e : Ev) : Prop where
  n : ∀ o, -9223372036854775808 ≤ e.num o ∧ e.num o ≤ 9223372036854775807
  k : -9223372036854775808 ≤ e.kind ∧ e.kind ≤ 9223372036854775807
  p : e.cmd.p < 18446744073709551616
  g : e.cmd.g.size ≤ maxLen
/-- The bytes of a field. -/
def wrF (e : Ev) (o : Nat) : List Int := if o = 7 then fl8 (fbit e.cmd.p) else if o = 8 then textL e.cmd.g else putU (zz (e.num o))
theorem ownT_base {B C : Nat} {w : World} {v : Value} {l : List Int} (h : OwnT C w v l) (hB : B ≤ C) : OwnT B w v l := by
  obtain ⟨g, cap, cur, t, h1, h2, h3⟩ := h
  exact ⟨g, cap, cur, t, h1, Nat.le_trans hB h2, h3⟩
/-- How the writing of a field ends. -/
def WrEnd (w : World) (l : List Int) (r : Ending) (w' : World) : Prop := ∃ v, r = .returned v ∧ OwnT w.heap.size w' v l ∧ Below w.heap.size w w'
set_option maxRecDepth 100000 in
set_option maxHeartbeats 800000 in
theorem writeNum_any (e : Ev) (b o : Nat) (w : World) (he : e.fit) (ho : plcO o = true) (hc : w.cell? ⟨b, 0, none⟩ = some (.func (.func (plc o)) #[] #[])) :
    Calls Tryz.prog 87 #[evV e, .pointer (some ⟨b, 0, none⟩)] w fun r w' => WrEnd w (putU (zz (e.num o))) r w' := by
  have hb0 : Below w.heap.size w (w.alloc (Obj.cells e.vs.toArray 46)) := (Below.refl _ _).alloc (Nat.le_refl _) _
  have hx := bx_cell (bx_made w e.vs 46) o (ev_num e ho)
  have HP := hide (fun W => plc_any o w.heap.size W ho)
  have hpe := plc_enter o ho
  have hlt := World.block_lt_of_cell? w _ hc
  have hc' := (hb0.cell (p := ⟨b, 0, none⟩) hlt).trans hc
  have HI := hide (fun W => implPut_any (e.num o) W (he.n o).1 (he.n o).2)
  have HB := hide hb0
  have HZ : Hid ((w.alloc (Obj.cells e.vs.toArray 46)).heap.size = w.heap.size + 1) := by show _ = _; simp
  clear hb0 hc he
  generalize plc o = f at *
  generalize e.num o = z at *
  unfold evV
  unfold Ev.vs at hx hc' HB HZ
  obtain ⟨kind, ⟨ck, cs, ct, cl, cq, ci, cp, cg⟩, id, other, qty, price, reason⟩ := e
  simp only at hx hc' HB HZ ⊢
  go_enter Tryz.func87, Tryz.ntmps87
  go_wp2_with fail
  refine (unhide HP _).mono ?_
  rintro r w1 ⟨rfl, hw1⟩
  rw [hw1]
  clear hw1
  go_wp2_with fail
  refine (unhide HI _).mono ?_
  rintro r w2 ⟨v, rfl, ho2, hb2⟩
  have HE : Hid (WrEnd w (putU (zz z)) (.returned v) w2) := ⟨v, rfl, ownT_base ho2 (by rw [unhide HZ]; omega), (unhide HB).trans (hb2.mono (unhide HB).size)⟩
  clear ho2 hb2
  go_wp2_with fail
  go_ret
  exact unhide HE
set_option maxRecDepth 100000 in
set_option maxHeartbeats 800000 in
theorem writePrice_any (e : Ev) (w : World) (he : e.fit) : Calls Tryz.prog 71 #[evV e] w fun r w' => WrEnd w (fl8 (fbit e.cmd.p)) r w' := by
  have hsf := sfl
  have hb0 : Below w.heap.size w (w.alloc (Obj.cells e.vs.toArray 46)) := (Below.refl _ _).alloc (Nat.le_refl _) _
  have hx := bx_cell (bx_made w e.vs 46) 7 rfl
  have HI := hide (fun W => implFloat_any e.cmd.p W)
  have HB := hide hb0
  have HZ : Hid ((w.alloc (Obj.cells e.vs.toArray 46)).heap.size = w.heap.size + 1) := by show _ = _; simp
  clear hb0 he
  unfold evV
  unfold Ev.vs at hx HB HZ
  obtain ⟨kind, ⟨ck, cs, ct, cl, cq, ci, cp, cg⟩, id, other, qty, price, reason⟩ := e
  simp only at hx HB HZ HI ⊢
  go_enter Tryz.func71, Tryz.ntmps71
  go_wp2_with fail
  refine (unhide HI _).mono ?_
  rintro r w2 ⟨v, rfl, ho2, hb2⟩
  have HE : Hid (WrEnd w (fl8 (fbit cp)) (.returned v) w2) := ⟨v, rfl, ownT_base ho2 (by rw [unhide HZ]; omega), (unhide HB).trans (hb2.mono (unhide HB).size)⟩
  clear ho2 hb2
  go_wp2_with fail
  go_ret
  exact unhide HE
set_option maxRecDepth 100000 in
set_option maxHeartbeats 800000 in
theorem writeTag_any (e : Ev) (w : World) (he : e.fit) : Calls Tryz.prog 73 #[evV e] w fun r w' => WrEnd w (textL e.cmd.g) r w' := by
  have hq := he.g
  have hb0 : Below w.heap.size w (w.alloc (Obj.cells e.vs.toArray 46)) := (Below.refl _ _).alloc (Nat.le_refl _) _
  have hx := bx_cell (bx_made w e.vs 46) 8 rfl
  have HI := hide (fun W => implText_any e.cmd.g W he.g)
  have HB := hide hb0
  have HZ : Hid ((w.alloc (Obj.cells e.vs.toArray 46)).heap.size = w.heap.size + 1) := by show _ = _; simp
  clear hb0 he
  unfold evV
  unfold Ev.vs at hx HB HZ
  obtain ⟨kind, ⟨ck, cs, ct, cl, cq, ci, cp, cg⟩, id, other, qty, price, reason⟩ := e
  simp only at hx HB HZ HI ⊢
  go_enter Tryz.func73, Tryz.ntmps73
  go_wp2_with fail
  refine (unhide HI _).mono ?_
  rintro r w2 ⟨v, rfl, ho2, hb2⟩
  have HE : Hid (WrEnd w (textL cg) (.returned v) w2) := ⟨v, rfl, ownT_base ho2 (by rw [unhide HZ]; omega), (unhide HB).trans (hb2.mono (unhide HB).size)⟩
  clear ho2 hb2
  go_wp2_with fail
  go_ret
  exact unhide HE
/-- A field is written by its writer, whichever cell it is of. -/
theorem writeField_any (F o : Nat) (c : Fc) (e : Ev) (W : World) (he : e.fit) (ho : EvO o) (hf : FF W F o c) : Calls Tryz.prog c.n1 (#[evV e] ++ c.l) W fun r w' => WrEnd W (wrF e o) r w' := by
  unfold FF at hf
  unfold wrF
  unfold EvO at ho
  rcases ho with rfl | rfl | ho
  · rw [if_pos rfl] at hf
    subst hf
    exact writePrice_any e W he
  · rw [if_neg (by decide), if_pos rfl] at hf
    subst hf
    exact writeTag_any e W he
  · have h7 : o ≠ 7 := by intro e; subst e; simp [plcO] at ho
    have h8 : o ≠ 8 := by intro e; subst e; simp [plcO] at ho
    rw [if_neg h7, if_neg h8] at hf ⊢
    obtain ⟨b, rfl, h1, h2, h3⟩ := hf
    exact writeNum_any e b o W he ho h3
end Go.Proofs.YtmeekcdoajbjdaaGreatDoor
