/-
  Orders as records of six cells: copied one by one and in rows, held against each other, their size: proved by walking the laws' own helpers.
-/
import Derived.Test.YtadnjcgfoofjiaaLj13
import Derived.Deep.RegionWith
namespace Go.Proofs.Ytadnjcgfoofjiaa
open Go.RowKit
set_option linter.unusedVariables false

theorem there1O {w : World} {b o n : Nat} (h : w.there b o n) (j : Nat) (hj : j < n) : ∃ v, w.cell? ⟨b, o + j, none⟩ = some v ∧ w.frozen? ⟨b, o + j, none⟩ = false := by
  obtain ⟨v, hv⟩ := Option.isSome_iff_exists.1 (h j hj).1
  exact ⟨v, hv, (h j hj).2⟩
theorem there6 {w : World} {b o : Nat} (h : w.there b o 6) :
    (∃ v, w.cell? ⟨b, o, none⟩ = some v ∧ w.frozen? ⟨b, o, none⟩ = false) ∧ (∃ v, w.cell? ⟨b, o + 1, none⟩ = some v ∧ w.frozen? ⟨b, o + 1, none⟩ = false) ∧
    (∃ v, w.cell? ⟨b, o + 2, none⟩ = some v ∧ w.frozen? ⟨b, o + 2, none⟩ = false) ∧ (∃ v, w.cell? ⟨b, o + 3, none⟩ = some v ∧ w.frozen? ⟨b, o + 3, none⟩ = false) ∧
    (∃ v, w.cell? ⟨b, o + 4, none⟩ = some v ∧ w.frozen? ⟨b, o + 4, none⟩ = false) ∧ (∃ v, w.cell? ⟨b, o + 5, none⟩ = some v ∧ w.frozen? ⟨b, o + 5, none⟩ = false) :=
  ⟨there1O h 0 (by omega), there1O h 1 (by omega), there1O h 2 (by omega), there1O h 3 (by omega), there1O h 4 (by omega), there1O h 5 (by omega)⟩
theorem takeR {α : Type} (l : List α) (k : Nat) (c : α) (h : l[k]? = some c) : l.take (k + 1) = l.take k ++ [c] := by
  obtain ⟨hk, rfl⟩ := List.getElem?_eq_some_iff.1 h
  rw [List.take_succ_eq_append_getElem hk]

theorem ownR_base {α : Type} {f : α → List Value} {sz B B' : Nat} {w : World} {v : Value} {l : List α} (h : OwnR f sz B w v l) (hB : B' ≤ B) : OwnR f sz B' w v l := by
  obtain ⟨a, cap, rfl, hl, h⟩ := h
  refine ⟨a, cap, rfl, hl, fun hne => ?_⟩
  obtain ⟨g, e1, e2, e3⟩ := h hne
  exact ⟨g, e1, Nat.le_trans hB e2, e3⟩
theorem ownR_set {α : Type} {f : α → List Value} {sz B : Nat} {w : World} {v : Value} {l : List α} (h : OwnR f sz B w v l) {b : Nat} (hb : b < B) (o : Nat) (u : Value) : OwnR f sz B (w.setCell ⟨b, o, none⟩ u) v l := by
  obtain ⟨a, cap, rfl, hl, h⟩ := h
  refine ⟨a, cap, rfl, hl, fun hne => ?_⟩
  obtain ⟨g, e1, e2, e3, e4, e5⟩ := h hne
  have hne' : g ≠ b := by omega
  have hbl := Below.heap_setCell w ⟨b, o, none⟩ u g hne'
  refine ⟨g, e1, e2, by rw [World.setCell]; simpa using e3, fun i c hc j x hx => (World.cell?_of_block (a := ⟨g, 0 + i * sz + j, none⟩) hbl).trans (e4 i c hc j x hx), fun j hj => ?_⟩
  exact ⟨by rw [World.cell?_of_block (a := ⟨g, 0 + j, none⟩) hbl]; exact (e5 j hj).1, by rw [World.frozen?_of_block (a := ⟨g, 0 + j, none⟩) hbl]; exact (e5 j hj).2⟩

theorem Try.infoOrder : (Try.prog.info? 33).map (fun i => (i.zero, i.size, i.bytes)) = some (some (.agg #[.int .i64 0, .int .i64 0, .int .i64 0, .int .i64 0, .int .i64 0, .string ⟨#[]⟩]), 6, 56) := by kernel_rfl

/-- A book: its next number, and the slice of its orders. -/
def BookV (n : Int) (v : Value) : Value := .agg #[.int .i64 n, v]
end Go.Proofs.Ytadnjcgfoofjiaa
