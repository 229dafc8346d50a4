/-
  When an event is right: what the program tells by its bytes, and what the model tells, are one; no function walked.
-/
import Derived.Test.YthkdbjldlfahdaaGreatDoorTj35
namespace Go.Proofs.YthkdbjldlfahdaaGreatDoor
open Go.RowKit
set_option linter.unusedVariables false

/-- Two events are one, their floats told by their bits. -/
def sameE (a b : Ev) : Bool := (a.kind == b.kind) && ((a.id == b.id) && ((a.other == b.other) && ((a.qty == b.qty) && ((a.price == b.price) && ((a.reason == b.reason) && ((a.cmd.k == b.cmd.k) && ((a.cmd.s == b.cmd.s) && ((a.cmd.t == b.cmd.t) && ((a.cmd.l == b.cmd.l) && ((a.cmd.q == b.cmd.q) && ((a.cmd.i == b.cmd.i) && ((fbit a.cmd.p == fbit b.cmd.p) && decide (a.cmd.g.toList = b.cmd.g.toList)))))))))))))
/-- No command at all. -/
def plainC (c : Cm) : Bool := (c.k == 0) && ((c.s == 0) && ((c.t == 0) && ((c.l == 0) && ((c.q == 0) && ((c.i == 0) && ((fbit c.p == 0) && decide (c.g.toList = [])))))))
/-- Which of Id, Other, Qty, Price, Reason a kind has. -/
def fldK (k : Int) : List Bool := if k = 1 then [true, false, false, false, false] else if k = 2 then [false, false, false, false, true] else if k = 3 then [true, true, true, true, false] else if k = 4 ∨ k = 5 ∨ k = 6 ∨ k = 7 ∨ k = 9 then [true, false, true, false, false] else if k = 8 then [false, false, true, false, false] else []
def numsE (e : Ev) : List Int := [e.id, e.other, e.qty, e.price, e.reason]
/-- The numbers that the kind has not are none. -/
def restK (fs : List Bool) (ns : List Int) : Bool := (List.range 5).all fun i => fs.getD i false || (ns.getD i 0 == 0)
/-- An event is right. -/
def okE (e : Ev) : Bool := if fldK e.kind = [] then false else if restK (fldK e.kind) (numsE e) = false then false else
  if e.kind = 1 then (e.cmd.k == 1) && ((e.cmd.i == 0) && decide (e.cmd.g.size ≤ 13)) else if e.kind = 2 then decide (e.cmd.g.size ≤ 13) else plainC e.cmd
theorem fbit_two (x : Nat) : fbit (fbit x) = fbit x := by
  unfold fbit
  repeat' split
  all_goals first | rfl | (exfalso; simp_all)
theorem fbit_zero : fbit 0 = 0 := by
  have h : nanB 0 = false := by decide +kernel
  unfold fbit
  rw [h]
  rfl
theorem cutB_same (s : ByteArray) : (cutB s).toList = s.toList ↔ s.size ≤ 13 := by
  by_cases h : s.size ≤ 12
  · rw [show cutB s = s from if_neg (by omega)]
    exact ⟨fun _ => by omega, fun _ => rfl⟩
  · by_cases h1 : s.size = 13
    · rw [cutB_one s h1]
      exact ⟨fun _ => by omega, fun _ => rfl⟩
    · refine ⟨fun e => ?_, fun e => by omega⟩
      rw [Go.ByteArray.toList_eq, Go.ByteArray.toList_eq] at e
      have e2 := congrArg List.length e
      have h3 := cutB_size s
      have h4 : (cutB s).data.toList.length = (cutB s).size := rfl
      have h5 : s.data.toList.length = s.size := rfl
      omega
theorem okE_eq (e : Ev) (hk : 1 ≤ e.kind ∧ e.kind ≤ 9) : sameE (bkE e) e = okE e := by
  obtain ⟨kind, ⟨ck, cs, ct, cl, cq, ci, cp, cg⟩, id, other, qty, price, reason⟩ := e
  simp only at hk
  rcases (show kind = 1 ∨ kind = 2 ∨ kind = 3 ∨ kind = 4 ∨ kind = 5 ∨ kind = 6 ∨ kind = 7 ∨ kind = 8 ∨ kind = 9 by omega) with rfl | rfl | rfl | rfl | rfl | rfl | rfl | rfl | rfl
  all_goals
    rw [Bool.eq_iff_iff]
    simp [sameE, okE, fldK, restK, numsE, fbit_two, cutB_same, List.range_succ, bkE, shF, ev0, shC, bkF, Ev.put, Ev.num, plainC, fbit_zero]
    try grind
end Go.Proofs.YthkdbjldlfahdaaGreatDoor
