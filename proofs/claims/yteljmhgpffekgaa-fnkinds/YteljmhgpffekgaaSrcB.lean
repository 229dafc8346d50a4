/-
  The source of drawn things, made: proved by walking the function.
-/
import Derived.Test.YteljmhgpffekgaaSrcW
namespace Go.Proofs.Yteljmhgpffekgaa
open Go.RowKit
set_option linter.unusedVariables false

theorem gr_alloc (w : World) (o : Obj) (row : Option Nat) : w.grownBy (w.alloc o) row :=
  ⟨rfl, rfl, rfl, by simp, fun k hk _ => ((Below.refl _ w).alloc (Nat.le_refl _) o).block k hk⟩
theorem src_lt {B : Nat} {w : World} {v : Value} {l : List Int} {m : Int} (h : Src B w v l m) : B < w.heap.size := World.block_lt_of_cell? w _ h.code
theorem src_alloc {B : Nat} {w0 w : World} {v : Value} {l : List Int} {m : Int} (h : SrcEnd B w0 v l m w) (o : Obj) : SrcEnd B w0 v l m (w.alloc o) := by
  have hB := src_lt h.1
  obtain ⟨a, s, k1, k2, k3, k4, k5, k6⟩ := h.1.cells
  have e : ∀ i, (w.alloc o).cell? ⟨B, i, none⟩ = w.cell? ⟨B, i, none⟩ := fun i => World.cell?_alloc_lt _ _ ⟨B, i, none⟩ hB
  have f : ∀ i, (w.alloc o).frozen? ⟨B, i, none⟩ = w.frozen? ⟨B, i, none⟩ := fun i => World.frozen?_of_block (a := ⟨B, i, none⟩) ((gr_alloc w o none).block B hB (by simp))
  exact ⟨⟨rd_grown h.1.rd (gr_alloc w o _) h.1.ne, h.1.ne, h.1.bts, (e 0).trans h.1.code, ⟨a, s, k1, k2, k3, k4, (e 1).trans k5, (e 2).trans k6⟩, (f 1).trans h.1.free1, (f 2).trans h.1.free2⟩, gr_trans h.2 (gr_alloc w o _)⟩

theorem rd_new {w : World} {v : Value} {l : List Int} (h : Rd w v l) (hne : l ≠ []) : v.ownBlock ≠ some w.heap.size := by
  obtain ⟨a, cap, rfl, _, hc⟩ := h
  obtain ⟨b, off, rfl, hcell⟩ := hc hne
  have := World.block_lt_of_cell? w _ (hcell 0 (List.length_pos_iff.2 hne))
  simp only [Value.ownBlock, ne_eq, Option.some.injEq]
  intro e
  simp only at this
  omega
theorem source_any (v : Value) (l : List Int) (w : World) (h : Rd w v l) (hb : Bts l) :
    Calls Try.prog 30 #[v] w fun e w' => e = .returned (.pointer (some ⟨w.heap.size, 0, none⟩)) ∧ Src w.heap.size w' v l 0 ∧ Below w.heap.size w w' := by
  have HR := hide h
  have HB := hide hb
  have HV := hide (fun hne => rd_new h hne)
  obtain ⟨a, cap, rfl, hl, _⟩ := h
  clear hb
  go_enter Try.func30, Try.ntmps30
  go_wp2_with fail
  go_ret
  refine ⟨rfl, ⟨rd_grown (unhide HR) (gr_alloc w _ _) (unhide HV), unhide HV, unhide HB, cell_of_row _ _ _ _ _ (0, 0) (heap_alloc_new w _), ⟨0, (l.length : Int) % 1000, by omega, by omega, by omega, by omega, cell_of_row _ _ _ _ _ (0, 0) (heap_alloc_new w _), cell_of_row _ _ _ _ _ (0, 0) (heap_alloc_new w _)⟩, ?_, ?_⟩, (Below.refl _ w).alloc (Nat.le_refl _) _⟩
  all_goals
    unfold World.frozen?
    rw [heap_alloc_new]
    simp

theorem own_below_grown {w w1 w' : World} {B : Nat} (h1 : Below w.heap.size w w1) (hB : w.heap.size ≤ B) (h2 : w1.grownBy w' (some B)) : Below w.heap.size w w' :=
  h1.trans (gr_below h2 hB h1.size)
end Go.Proofs.Yteljmhgpffekgaa
