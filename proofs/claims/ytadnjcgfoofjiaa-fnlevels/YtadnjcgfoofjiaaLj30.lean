/-
  The front of a book, by the program and by the model: proved by walking both functions.
-/
import Derived.Test.YtadnjcgfoofjiaaLj29
namespace Go.Proofs.Ytadnjcgfoofjiaa
open Go.RowKit
set_option linter.unusedVariables false

/-- What is told of the front of a side. -/
def frRes (next : Int) (l : List Od) (sd : Int) : Value :=
  if okS next l = true then (match (quOf (decide (sd = 1)) (ofSide l sd)).head? with
    | some o => .tuple #[o.val, .int .i64 0]
    | none => .tuple #[zOdv, .int .i64 6])
  else .tuple #[zOdv, .int .i64 1]
theorem set6_range {w : World} {p : Nat} {v0 v1 v2 v3 v4 v5 : Value} (ht : w.there p 0 6) :
    ((((((w.setCell ⟨p, 0, none⟩ v0).setCell ⟨p, 1, none⟩ v1).setCell ⟨p, 2, none⟩ v2).setCell ⟨p, 3, none⟩ v3).setCell ⟨p, 4, none⟩ v4).setCell ⟨p, 5, none⟩ v5).rangeAt p 0 [v0, v1, v2, v3, v4, v5] := World.rangeAt_setCells_same w p 0 [v0, v1, v2, v3, v4, v5] (fun j hj => ht j hj)
theorem set6_below {W w : World} {B p : Nat} {v0 v1 v2 v3 v4 v5 : Value} (h : Below B W w) (hp : B ≤ p) :
    Below B W ((((((w.setCell ⟨p, 0, none⟩ v0).setCell ⟨p, 1, none⟩ v1).setCell ⟨p, 2, none⟩ v2).setCell ⟨p, 3, none⟩ v3).setCell ⟨p, 4, none⟩ v4).setCell ⟨p, 5, none⟩ v5) :=
  below_setCells p hp [v0, v1, v2, v3, v4, v5] 0 w h
theorem field0_b (b : Nat) (W : World) : Sem.run Try.prog (Instr.field 61 (.agg #[.func (.func 60) #[.pointer (some ⟨b, 0, none⟩)] #[], .func (.func 61) #[.pointer (some ⟨b, 0, none⟩)] #[], .func (.func 62) #[.pointer (some ⟨b, 0, none⟩)] #[]]) 0) W = .ok (.func (.func 60) #[.pointer (some ⟨b, 0, none⟩)] #[]) W := by kernel_rfl
theorem field0_s (b : Nat) (W : World) : Sem.run Try.prog (Instr.field 61 (.agg #[.func (.func 64) #[.pointer (some ⟨b, 0, none⟩)] #[], .func (.func 65) #[.pointer (some ⟨b, 0, none⟩)] #[], .func (.func 66) #[.pointer (some ⟨b, 0, none⟩)] #[]]) 0) W = .ok (.func (.func 64) #[.pointer (some ⟨b, 0, none⟩)] #[]) W := by kernel_rfl
theorem okS_left {next : Int} {l : List Od} (h : okS next l = true) : l.length ≤ 20 ∧ Rising l ∧ ∀ o ∈ l, 0 ≤ o.left ∧ o.left ≤ 1000000 := by
  simp only [okS, Bool.and_eq_true, decide_eq_true_eq] at h
  obtain ⟨⟨⟨_, h2⟩, h3⟩, _⟩ := h
  refine ⟨h2, (allR_rising h3).1, fun o ho => ?_⟩
  have := allR_sides h3 o ho
  simp [ordB, betB] at this
  omega
end Go.Proofs.Ytadnjcgfoofjiaa
