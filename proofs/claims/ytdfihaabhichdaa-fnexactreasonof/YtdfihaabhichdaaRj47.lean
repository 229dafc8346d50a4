/-
  A book copied has its orders in a block, also where it has none: proved by walking the functions.
-/
import Derived.Test.YtdfihaabhichdaaRj07
import Derived.LoopN
namespace Go.Proofs.Ytdfihaabhichdaa
open Go.RowKit
set_option linter.unusedVariables false

set_option maxHeartbeats 400000 in
theorem toOrderS_nil (a : Option Addr) (cap : Nat) (w : World) :
    Calls Try.prog 14 #[.slice a 0 cap] w fun e w' => ∃ ad cp, e = .returned (.slice (some ad) 0 cp) ∧ Below w.heap.size w w' := by
  obtain ⟨i0, hi, hz0, hz1, hz2⟩ := info_parts Try.infoOrder
  go_enter Try.func14, Try.ntmps14
  go_wp2_with (at_make; go_must (refine wpList_make_full _ rfl _ _ 32 rfl w.heap.size 49 i0 _ 6 Try.underlying32 hi hz0 hz1 _ _ _ _ 0 rfl rfl rfl rfl (by rw [hz2]; omega) (by unfold maxLen; omega) (Nat.le_refl _) ?_); intro w1 hown hgrow)
  have HB := hide ((Below.refl w.heap.size w).grown hgrow (Nat.le_refl _) (fun k hk => by cases hk))
  clear hown hgrow
  refine wp_loop_rounds 1 ?_
  rw [rounds_succ]
  go_wp2_with fail
  go_ret
  exact ⟨_, _, rfl, unhide HB⟩
set_option maxHeartbeats 400000 in
theorem toBook_nil (n : Int) (a : Option Addr) (cap : Nat) (w : World) :
    Calls Try.prog 7 #[.agg #[.int .i64 n, .slice a 0 cap]] w fun e w' => ∃ ad cp, e = .returned (.agg #[.int .i64 n, .slice (some ad) 0 cp]) ∧ Below w.heap.size w w' := by
  have hs1 : (w.alloc (Obj.cells #[.int .i64 n, .slice a 0 cap] 24)).heap.size = w.heap.size + 1 := size_made _ _
  have hs2 : ((w.alloc (Obj.cells #[.int .i64 n, .slice a 0 cap] 24)).alloc (Obj.cells #[.int .i64 0, .slice none 0 0] 34)).heap.size = w.heap.size + 1 + 1 := by rw [size_made, hs1]
  have r1 := cells_made (w.alloc (Obj.cells #[.int .i64 n, .slice a 0 cap] 24)) [.int .i64 0, .slice none 0 0] 34
  have r2 := cells_made ((w.alloc (Obj.cells #[.int .i64 n, .slice a 0 cap] 24)).alloc (Obj.cells #[.int .i64 0, .slice none 0 0] 34)) [.int .i64 n, .slice none 0 0] 34
  have t1 := there_block (n := 2) (heap_alloc_new (w.alloc (Obj.cells #[.int .i64 n, .slice a 0 cap] 24)) (Obj.cells #[.int .i64 0, .slice none 0 0] 34)) (by simp)
  have t2 := there_block (n := 2) (heap_alloc_new ((w.alloc (Obj.cells #[.int .i64 n, .slice a 0 cap] 24)).alloc (Obj.cells #[.int .i64 0, .slice none 0 0] 34)) (Obj.cells #[.int .i64 n, .slice none 0 0] 34)) (by simp)
  rw [hs1] at r1 t1
  rw [hs2] at r2 t2
  have HB0 : Hid (Below w.heap.size w (((w.alloc (Obj.cells #[.int .i64 n, .slice a 0 cap] 24)).alloc (Obj.cells #[.int .i64 0, .slice none 0 0] 34)).alloc (Obj.cells #[.int .i64 n, .slice none 0 0] 34))) :=
    (((Below.refl _ _).alloc (Nat.le_refl _) _).alloc (by rw [hs1]; omega) _).alloc (by rw [hs2]; omega) _
  have hs3 : (((w.alloc (Obj.cells #[.int .i64 n, .slice a 0 cap] 24)).alloc (Obj.cells #[.int .i64 0, .slice none 0 0] 34)).alloc (Obj.cells #[.int .i64 n, .slice none 0 0] 34)).heap.size = w.heap.size + 1 + 1 + 1 := by rw [size_made, hs2]
  have r1' := range_below r1 (C := w.heap.size + 1 + 1) (((Below.refl _ _).alloc (by rw [hs2]; omega) (Obj.cells #[.int .i64 n, .slice none 0 0] 34))) (by omega)
  have t1' := there_below t1 (C := w.heap.size + 1 + 1) (((Below.refl _ _).alloc (by rw [hs2]; omega) (Obj.cells #[.int .i64 n, .slice none 0 0] 34))) (by omega)
  have HX : Hid (_ ∧ _ ∧ _ ∧ _) := ⟨r1', t1', r2, t2⟩
  have HS3 := hide hs3
  clear r1 t1 r1' t1' r2 t2 hs1 hs2 hs3
  go_enter Try.func7, Try.ntmps7
  go_wp2_with fail
  generalize hW3 : (((w.alloc (Obj.cells #[.int .i64 n, .slice a 0 cap] 24)).alloc (Obj.cells #[.int .i64 0, .slice none 0 0] 34)).alloc (Obj.cells #[.int .i64 n, .slice none 0 0] 34)) = W3 at HB0 HX HS3 ⊢
  clear hW3
  refine (toOrderS_nil a cap _).mono ?_
  rintro e w1 ⟨ad', cap', rfl, hb1⟩
  have HB := hide hb1
  obtain ⟨x1, x2, x3, x4⟩ := unhide HX
  have y1 := range_below x1 hb1 (by rw [unhide HS3]; omega)
  have y2 := there_below x2 hb1 (by rw [unhide HS3]; omega)
  have y3 := range_below x3 hb1 (by rw [unhide HS3]; omega)
  have y4 := there_below x4 hb1 (by rw [unhide HS3]; omega)
  have c0 : w1.cell? ⟨w.heap.size + 1, 0, none⟩ = some (.int .i64 0) := y1 0 _ rfl
  have c1 : w1.cell? ⟨w.heap.size + 1, 1, none⟩ = some (.slice none 0 0) := y1 1 _ rfl
  have c2 : w1.cell? ⟨w.heap.size + 1 + 1, 0, none⟩ = some (.int .i64 n) := y3 0 _ rfl
  have c3 : w1.cell? ⟨w.heap.size + 1 + 1, 1, none⟩ = some (.slice none 0 0) := y3 1 _ rfl
  have f0 : w1.frozen? ⟨w.heap.size + 1, 0, none⟩ = false := (y2 0 (by omega)).2
  have f1 : w1.frozen? ⟨w.heap.size + 1, 1, none⟩ = false := (y2 1 (by omega)).2
  have f2 : w1.frozen? ⟨w.heap.size + 1 + 1, 0, none⟩ = false := (y4 0 (by omega)).2
  have f3 : w1.frozen? ⟨w.heap.size + 1 + 1, 1, none⟩ = false := (y4 1 (by omega)).2
  clear hb1 x1 x2 x3 x4 y1 y2 y3 y4
  go_wp2_with fail
  have hne : (⟨w.heap.size + 1, 0, none⟩ : Addr) ≠ ⟨w.heap.size + 1, 1, none⟩ := fun e => by simp at e
  have hnb : ∀ i j, (⟨w.heap.size + 1 + 1, i, none⟩ : Addr) ≠ ⟨w.heap.size + 1, j, none⟩ := fun i j e => by have := congrArg Addr.block e; simp at this
  have d1 : (((w1.setCell ⟨w.heap.size + 1 + 1, 1, none⟩ (.slice (some ad') 0 cap')).setCell ⟨w.heap.size + 1, 0, none⟩ (.int .i64 n)).setCell ⟨w.heap.size + 1, 1, none⟩ (.slice (some ad') 0 cap')).cell? ⟨w.heap.size + 1, 1, none⟩ = some (.slice (some ad') 0 cap') :=
    World.cell?_setCell_same _ _ _ ((World.cell?_setCell_other _ _ _ _ hne).trans ((World.cell?_setCell_other _ _ _ _ (hnb 1 1)).trans c1))
  have d0 : (((w1.setCell ⟨w.heap.size + 1 + 1, 1, none⟩ (.slice (some ad') 0 cap')).setCell ⟨w.heap.size + 1, 0, none⟩ (.int .i64 n)).setCell ⟨w.heap.size + 1, 1, none⟩ (.slice (some ad') 0 cap')).cell? ⟨w.heap.size + 1, 0, none⟩ = some (.int .i64 n) :=
    (World.cell?_setCell_other _ _ _ _ hne.symm).trans (World.cell?_setCell_same _ _ _ ((World.cell?_setCell_other _ _ _ _ (hnb 1 0)).trans c0))
  have HB5 := hide (((((unhide HB0).trans ((unhide HB).mono (unhide HB0).size)).setCell (p := ⟨w.heap.size + 1 + 1, 1, none⟩) (by simp; omega) (.slice (some ad') 0 cap')).setCell (p := ⟨w.heap.size + 1, 0, none⟩) (by simp) (.int .i64 n)).setCell (p := ⟨w.heap.size + 1, 1, none⟩) (by simp) (.slice (some ad') 0 cap'))
  generalize (((w1.setCell ⟨w.heap.size + 1 + 1, 1, none⟩ (.slice (some ad') 0 cap')).setCell ⟨w.heap.size + 1, 0, none⟩ (.int .i64 n)).setCell ⟨w.heap.size + 1, 1, none⟩ (.slice (some ad') 0 cap')) = W5 at *
  try simp only [Exit.inBlock, Exit.then]
  refine bodyPost_ret (by simp [results, Try.results7, go_sem, d0, d1]; try rfl) rfl ?_
  exact ⟨ad', cap', rfl, unhide HB5⟩
theorem toBook_some (n : Int) (v : Value) (l : List Od) (w : World) (hr : RdR Od.vs 6 w v l) :
    Calls Try.prog 7 #[.agg #[.int .i64 n, v]] w fun e w' => ∃ ad cp, e = .returned (.agg #[.int .i64 n, .slice (some ad) l.length cp]) ∧ OwnR Od.vs 6 w.heap.size w' (.slice (some ad) l.length cp) l ∧ Below w.heap.size w w' := by
  by_cases hl : l = []
  · subst hl
    obtain ⟨a, cap, rfl, _, _⟩ := hr
    refine (toBook_nil n a cap w).mono ?_
    rintro e w' ⟨ad, cp, rfl, hb⟩
    exact ⟨ad, cp, rfl, ⟨some ad, cp, rfl, by simp, fun h => absurd rfl h⟩, hb⟩
  · refine (toBook_any n v l w hr).mono ?_
    rintro e w' ⟨v', rfl, ho, hb⟩
    have HO := ho
    obtain ⟨a, cap, rfl, _, h⟩ := ho
    obtain ⟨g, rfl, _⟩ := h hl
    exact ⟨_, _, rfl, HO, hb⟩
end Go.Proofs.Ytdfihaabhichdaa
