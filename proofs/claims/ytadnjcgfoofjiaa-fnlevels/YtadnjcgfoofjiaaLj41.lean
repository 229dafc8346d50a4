/-
  The source of drawn things, made: proved by walking the function.
-/
import Derived.Test.YtadnjcgfoofjiaaLj36
import Derived.Test.YtadnjcgfoofjiaaLj40
namespace Go.Proofs.Ytadnjcgfoofjiaa
open Go.RowKit
set_option linter.unusedVariables false

theorem gr_alloc (w : World) (o : Obj) (row : Option Nat) : w.grownBy (w.alloc o) row :=
  ⟨rfl, rfl, rfl, by simp, fun k hk _ => ((Below.refl _ w).alloc (Nat.le_refl _) o).block k hk⟩
theorem src_lt {B : Nat} {w : World} {v : Value} {l : List Int} {m : Int} (h : Src B w v l m) : B < w.heap.size := World.block_lt_of_cell? w _ h.code
theorem src_alloc {B : Nat} {w0 w : World} {v : Value} {l : List Int} {m : Int} (h : SrcEnd B w0 v l m w) (o : Obj) : SrcEnd B w0 v l m (w.alloc o) := by
  have hB := src_lt h.1
  obtain ⟨a, s, k1, k2, k3, k4, k5, k6⟩ := h.1.cells
  have e : ∀ i, (w.alloc o).cell? ⟨B, i, none⟩ = w.cell? ⟨B, i, none⟩ := fun i => World.cell?_alloc_lt _ _ ⟨B, i, none⟩ hB
  have f : ∀ i, (w.alloc o).frozen? ⟨B, i, none⟩ = w.frozen? ⟨B, i, none⟩ := fun i => World.frozen?_of_block (a := ⟨B, i, none⟩) ((gr_alloc w o none).block B hB (by simp))
  exact ⟨⟨rd_grown h.1.rd (gr_alloc w o _) h.1.ne, h.1.ne, h.1.bts, (e 0).trans h.1.code, ⟨a, s, k1, k2, k3, k4, (e 1).trans k5, (e 2).trans k6⟩, (f 1).trans h.1.free1, (f 2).trans h.1.free2⟩, gr_trans h.2 (gr_alloc w o _)⟩

theorem rd_new {w : World} {v : Value} {l : List Int} (h : Rd w v l) (hne : l ≠ []) : v.ownBlock ≠ some w.heap.size := by
  obtain ⟨a, cap, rfl, _, hc⟩ := h
  obtain ⟨b, off, rfl, hcell⟩ := hc hne
  have := World.block_lt_of_cell? w _ (hcell 0 (List.length_pos_iff.2 hne))
  simp only [Value.ownBlock, ne_eq, Option.some.injEq]
  intro e
  simp only at this
  omega
theorem source_any (v : Value) (l : List Int) (w : World) (h : Rd w v l) (hb : Bts l) :
    Calls Try.prog 28 #[v] w fun e w' => e = .returned (.pointer (some ⟨w.heap.size, 0, none⟩)) ∧ Src w.heap.size w' v l 0 ∧ Below w.heap.size w w' := by
  have HR := hide h
  have HB := hide hb
  have HV := hide (fun hne => rd_new h hne)
  obtain ⟨a, cap, rfl, hl, _⟩ := h
  clear hb
  go_enter Try.func28, Try.ntmps28
  go_wp2_with fail
  go_ret
  refine ⟨rfl, ⟨rd_grown (unhide HR) (gr_alloc w _ _) (unhide HV), unhide HV, unhide HB, cell_of_row _ _ _ _ _ (0, 0) (heap_alloc_new w _), ⟨0, (l.length : Int) % 1000, by omega, by omega, by omega, by omega, cell_of_row _ _ _ _ _ (0, 0) (heap_alloc_new w _), cell_of_row _ _ _ _ _ (0, 0) (heap_alloc_new w _)⟩, ?_, ?_⟩, (Below.refl _ w).alloc (Nat.le_refl _) _⟩
  all_goals
    unfold World.frozen?
    rw [heap_alloc_new]
    simp

theorem own_below_grown {w w1 w' : World} {B : Nat} (h1 : Below w.heap.size w w1) (hB : w.heap.size ≤ B) (h2 : w1.grownBy w' (some B)) : Below w.heap.size w w' :=
  h1.trans (gr_below h2 hB h1.size)
end Go.Proofs.Ytadnjcgfoofjiaa
namespace Go.Proofs.Ytadnjcgfoofjiaa
open Go.RowKit
set_option linter.unusedVariables false

set_option maxHeartbeats 800000 in
theorem bookOf_any (v : Value) (l : List Int) (w : World) (hr : Rd w v l) (hb : Bts l) (hl : l.length ≤ 1048576) :
    Calls Try.prog 8 #[v] w fun e w' => ∃ n v' q, e = .returned (.agg #[.int .i64 n, v']) ∧ OwnR Od.vs 6 w.heap.size w' v' q ∧ okS n q = true ∧ (∀ c ∈ q, c.tag.size ≤ maxLen) ∧ Below w.heap.size w w' ∧ (v' = .slice none 0 0 ∨ ∃ ad k c, v' = .slice (some ad) k c) := by
  have HR := hide hr
  have HB := hide hb
  obtain ⟨a, cap, rfl, _, _⟩ := hr
  clear hb
  have H0 : Hid (Below w.heap.size w (w.alloc (Obj.cells #[.int .i64 0, .slice none 0 0] 25))) := (Below.refl _ _).alloc (Nat.le_refl _) _
  have T0 := hide (there_made w [.int .i64 0, .slice none 0 0] 25)
  have S0 : Hid ((w.alloc (Obj.cells #[.int .i64 0, .slice none 0 0] 25)).heap.size = w.heap.size + 1) := size_made _ _
  go_enter Try.func8, Try.ntmps8
  go_wp2_with fail
  have T0 : Hid (World.there (w.alloc (Obj.cells #[.int .i64 0, .slice none 0 0] 25)) w.heap.size 0 2) := unhide T0
  generalize (w.alloc (Obj.cells #[.int .i64 0, .slice none 0 0] 25)) = W1 at H0 T0 S0 ⊢
  refine (source_any _ l W1 (rd_below (unhide HR) (unhide H0) (Nat.le_refl _)) (unhide HB)).mono ?_
  rintro e w1 ⟨rfl, hS, hb1⟩
  have HS := hide hS
  have HB1 := hide hb1
  clear hS hb1
  go_wp2_with fail
  refine (book_any _ _ l _ w1 (unhide HS) (by omega)).mono ?_
  rintro e w2 ⟨n, v', q, rfl, ho, hok, htg, hg2, hsl⟩
  have HSL := hide hsl
  have HO := hide ho
  have HOK := hide hok
  have HTG := hide htg
  have HB2 := hide (own_below_grown (unhide HB1) (Nat.le_refl _) hg2)
  have hs0 := unhide S0
  have ht2 := there_below (unhide T0) (unhide HB2) (by omega)
  obtain ⟨aq, cq, rfl, hql, hqr⟩ := ho
  have hs2 : w.heap.size + 1 ≤ w2.heap.size := by have := (unhide HB2).size; omega
  have HRX := hide (World.rangeAt_setCells_same w2 w.heap.size 0 [.int .i64 n, .slice aq q.length cq] (fun j hj => ht2 j hj))
  obtain ⟨⟨x0, y0, q0⟩, x1, y1, q1⟩ : (∃ v, w2.cell? ⟨w.heap.size, 0, none⟩ = some v ∧ w2.frozen? ⟨w.heap.size, 0, none⟩ = false) ∧ (∃ v, w2.cell? ⟨w.heap.size, 1, none⟩ = some v ∧ w2.frozen? ⟨w.heap.size, 1, none⟩ = false) := ⟨by simpa using there1O ht2 0 (by omega), by simpa using there1O ht2 1 (by omega)⟩
  have HBE : Hid (Below w.heap.size w ((w2.setCell ⟨w.heap.size, 0, none⟩ (.int .i64 n)).setCell ⟨w.heap.size, 1, none⟩ (.slice aq q.length cq))) :=
    (((unhide H0).trans ((unhide HB2).mono (by omega))).setCell (p := ⟨w.heap.size, 0, none⟩) (Nat.le_refl _) _).setCell (p := ⟨w.heap.size, 1, none⟩) (Nat.le_refl _) _
  have hw1 : w.heap.size < w1.heap.size := by have := (unhide HB1).size; omega
  have HOE : Hid (OwnR Od.vs 6 w.heap.size ((w2.setCell ⟨w.heap.size, 0, none⟩ (.int .i64 n)).setCell ⟨w.heap.size, 1, none⟩ (.slice aq q.length cq)) (.slice aq q.length cq) q) :=
    ownR_base (ownR_set (b := w.heap.size) (ownR_set (b := w.heap.size) (unhide HO) hw1 0 (.int .i64 n)) hw1 1 (.slice aq q.length cq)) (by omega)
  clear hok htg hg2 hsl ht2 hqr hs0
  go_wp2_with fail
  have HRX : Hid (World.rangeAt ((w2.setCell ⟨w.heap.size, 0, none⟩ (.int .i64 n)).setCell ⟨w.heap.size, 1, none⟩ (.slice aq q.length cq)) w.heap.size 0 [.int .i64 n, .slice aq q.length cq]) := unhide HRX
  generalize ((w2.setCell ⟨w.heap.size, 0, none⟩ (.int .i64 n)).setCell ⟨w.heap.size, 1, none⟩ (.slice aq q.length cq)) = WE at HRX HOE HBE ⊢
  have d0 : WE.cell? ⟨w.heap.size, 0, none⟩ = some (.int .i64 n) := unhide HRX 0 _ rfl
  have d1 : WE.cell? ⟨w.heap.size, 1, none⟩ = some (.slice aq q.length cq) := unhide HRX 1 _ rfl
  try simp only [Exit.inBlock, Exit.then]
  refine bodyPost_ret (by simp [results, Try.results8, go_sem, d0, d1]; try rfl) rfl ?_
  exact ⟨n, _, q, rfl, unhide HOE, unhide HOK, unhide HTG, unhide HBE, unhide HSL⟩

end Go.Proofs.Ytadnjcgfoofjiaa
