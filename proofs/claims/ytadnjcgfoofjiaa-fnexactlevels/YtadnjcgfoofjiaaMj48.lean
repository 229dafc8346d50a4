/-
  The queue of a side by the model, and a book marked: proved by walking the functions.
-/
import Derived.Test.YtadnjcgfoofjiaaMj08
import Derived.Test.YtadnjcgfoofjiaaMj09
import Derived.Test.YtadnjcgfoofjiaaMj16
import Derived.Test.YtadnjcgfoofjiaaMj38
import Derived.Test.YtadnjcgfoofjiaaMj45
import Derived.Test.YtadnjcgfoofjiaaMj46
import Derived.Test.YtadnjcgfoofjiaaMj47
import Derived.LoopN
namespace Go.Proofs.Ytadnjcgfoofjiaa
open Go.RowKit
set_option linter.unusedVariables false

set_option maxRecDepth 100000 in
set_option maxHeartbeats 800000 in
theorem specQueue_any (next : Int) (ad : Addr) (cap : Nat) (l : List Od) (sd : Int) (w : World) (hr : RdR Od.vs 6 w (.slice (some ad) l.length cap) l) (hg : ∀ c ∈ l, c.tag.size ≤ maxLen) :
    Calls Try.prog 24 #[.agg #[.int .i64 next, .slice (some ad) l.length cap], .int .i64 sd] w fun e w' => ∃ v', e = .returned (.tuple #[v', .int .i64 (quC next l)]) ∧ OwnR Od.vs 6 w.heap.size w' v' (quR next l sd) ∧ Below w.heap.size w w' := by
  have HR := hide hr
  have HG := hide hg
  have HB0 : Hid (Below w.heap.size w (w.alloc (Obj.cells #[.int .i64 next, .slice (some ad) l.length cap] 25))) := (Below.refl _ _).alloc (Nat.le_refl _) _
  have HX : Hid (World.rangeAt (w.alloc (Obj.cells #[.int .i64 next, .slice (some ad) l.length cap] 25)) w.heap.size 0 [.int .i64 next, .slice (some ad) l.length cap] ∧ w.heap.size < (w.alloc (Obj.cells #[.int .i64 next, .slice (some ad) l.length cap] 25)).heap.size) := ⟨cells_made w [.int .i64 next, .slice (some ad) l.length cap] _, by rw [size_made]; omega⟩
  clear hr hg
  go_enter Try.func24, Try.ntmps24
  go_wp2_with fail
  generalize (w.alloc (Obj.cells #[.int .i64 next, .slice (some ad) l.length cap] 25)) = W2 at HB0 HX ⊢
  refine (specBookOK_any next _ l W2 (rdR_below (unhide HR) (unhide HB0) (Nat.le_refl _)) (unhide HG)).mono ?_
  rintro e w3 ⟨rfl, hb3⟩
  have HB3 := hide ((unhide HB0).trans (hb3.mono (unhide HB0).size))
  have c1 : w3.cell? ⟨w.heap.size, 1, none⟩ = some (.slice (some ad) l.length cap) := range_below (unhide HX).1 hb3 (unhide HX).2 1 _ rfl
  clear hb3
  cases hok : okS next l
  · have HF : Hid (quR next l sd = [] ∧ quC next l = 1) := ⟨by rw [quR, hok]; rfl, by rw [quC, hok]; rfl⟩
    have HB4 : Hid (Below w.heap.size w (w3.alloc (Obj.cells #[] 33))) := (unhide HB3).alloc (unhide HB3).size _
    clear hok
    go_wp2_with fail
    go_ret2
    exact ⟨_, by rw [(unhide HF).2]; rfl, by rw [(unhide HF).1]; exact ⟨_, 0, rfl, by simp, fun h => absurd rfl h⟩, unhide HB4⟩
  obtain ⟨hn, hri, -⟩ := okS_left hok
  have HF : Hid (quR next l sd = quOf (decide (sd = 1)) (ofSide l sd) ∧ quC next l = 0) := ⟨by rw [quR, if_pos hok], by rw [quC, if_pos hok]⟩
  have HRI := hide hri
  have HR3 := hide (rdR_below (unhide HR) (unhide HB3) (Nat.le_refl _))
  clear hok hri
  go_wp2_with fail
  refine (l03Queue_any ad cap l sd w3 (unhide HR3) (unhide HRI) (by omega)).mono ?_
  rintro e w4 ⟨v4, rfl, ho4, hb4⟩
  have HO4 := hide (ownR_base ho4 (unhide HB3).size)
  have HB4 := hide ((unhide HB3).trans (hb4.mono (unhide HB3).size))
  clear ho4 hb4
  go_wp2_with fail
  go_ret2
  exact ⟨v4, by rw [(unhide HF).2]; rfl, by rw [(unhide HF).1]; exact unhide HO4, unhide HB4⟩

/-- A book that the call made is marked. -/
theorem markBook_own {B : Nat} (n : Int) (v : Value) (l : List Od) (w : World) (h : OwnR Od.vs 6 B w v l) (hl : l.length ≤ 2097152) :
    Calls Try.prog 21 #[.agg #[.int .i64 n, v], .int .i64 1] w fun e w' => e = .returned (.int .i64 ((1 + 6 * l.length : Nat) : Int)) ∧
      ∃ G, w.grownBy w' G ∧ ∀ g, G = some g → v.ownBlock = some g ∧ B ≤ g ∧ l ≠ [] := by
  have H := hide h
  obtain ⟨a, cap, rfl, _, _⟩ := h
  have HO : Hid (OwnR Od.vs 6 B (w.alloc (Obj.cells #[.int .i64 n, .slice a l.length cap] 25)) (.slice a l.length cap) l) := ownR_below (unhide H) ((Below.refl _ _).alloc (Nat.le_refl _) _) (Nat.le_refl _)
  go_enter Try.func21, Try.ntmps21
  go_wp2_with fail
  refine (markO_own _ l _ (unhide HO) hl).mono ?_
  rintro e w1 ⟨rfl, -, G, hgr, hG⟩
  have HG : Hid (w.grownBy w1 G ∧ ∀ g, G = some g → (Value.slice a l.length cap).ownBlock = some g ∧ B ≤ g ∧ l ≠ []) := ⟨(World.grownBy_alloc w _ G).trans hgr, hG⟩
  clear hgr hG
  go_wp2_with fail
  go_ret
  exact ⟨rfl, G, (unhide HG).1, (unhide HG).2⟩
end Go.Proofs.Ytadnjcgfoofjiaa
namespace Go.Proofs.Ytadnjcgfoofjiaa
open Go.RowKit
set_option linter.unusedVariables false

set_option maxHeartbeats 400000 in
theorem toOrderS_nil (a : Option Addr) (cap : Nat) (w : World) :
    Calls Try.prog 36 #[.slice a 0 cap] w fun e w' => ∃ ad cp, e = .returned (.slice (some ad) 0 cp) ∧ Below w.heap.size w w' := by
  obtain ⟨i0, hi, hz0, hz1, hz2⟩ := info_parts Try.infoOrder
  go_enter Try.func36, Try.ntmps36
  go_wp2_with (at_make; go_must (refine wpList_make_full _ rfl _ _ 23 rfl w.heap.size 33 i0 _ 6 Try.underlying23 hi hz0 hz1 _ _ _ _ 0 rfl rfl rfl rfl (by rw [hz2]; omega) (by unfold maxLen; omega) (Nat.le_refl _) ?_); intro w1 hown hgrow)
  have HB := hide ((Below.refl w.heap.size w).grown hgrow (Nat.le_refl _) (fun k hk => by cases hk))
  clear hown hgrow
  refine wp_loop_rounds 1 ?_
  rw [rounds_succ]
  go_wp2_with fail
  go_ret
  exact ⟨_, _, rfl, unhide HB⟩
set_option maxHeartbeats 400000 in
theorem toBook_nil (n : Int) (a : Option Addr) (cap : Nat) (w : World) :
    Calls Try.prog 14 #[.agg #[.int .i64 n, .slice a 0 cap]] w fun e w' => ∃ ad cp, e = .returned (.agg #[.int .i64 n, .slice (some ad) 0 cp]) ∧ Below w.heap.size w w' := by
  have hs1 : (w.alloc (Obj.cells #[.int .i64 n, .slice a 0 cap] 41)).heap.size = w.heap.size + 1 := size_made _ _
  have hs2 : ((w.alloc (Obj.cells #[.int .i64 n, .slice a 0 cap] 41)).alloc (Obj.cells #[.int .i64 0, .slice none 0 0] 25)).heap.size = w.heap.size + 1 + 1 := by rw [size_made, hs1]
  have r1 := cells_made (w.alloc (Obj.cells #[.int .i64 n, .slice a 0 cap] 41)) [.int .i64 0, .slice none 0 0] 25
  have r2 := cells_made ((w.alloc (Obj.cells #[.int .i64 n, .slice a 0 cap] 41)).alloc (Obj.cells #[.int .i64 0, .slice none 0 0] 25)) [.int .i64 n, .slice none 0 0] 25
  have t1 := there_block (n := 2) (heap_alloc_new (w.alloc (Obj.cells #[.int .i64 n, .slice a 0 cap] 41)) (Obj.cells #[.int .i64 0, .slice none 0 0] 25)) (by simp)
  have t2 := there_block (n := 2) (heap_alloc_new ((w.alloc (Obj.cells #[.int .i64 n, .slice a 0 cap] 41)).alloc (Obj.cells #[.int .i64 0, .slice none 0 0] 25)) (Obj.cells #[.int .i64 n, .slice none 0 0] 25)) (by simp)
  rw [hs1] at r1 t1
  rw [hs2] at r2 t2
  have HB0 : Hid (Below w.heap.size w (((w.alloc (Obj.cells #[.int .i64 n, .slice a 0 cap] 41)).alloc (Obj.cells #[.int .i64 0, .slice none 0 0] 25)).alloc (Obj.cells #[.int .i64 n, .slice none 0 0] 25))) :=
    (((Below.refl _ _).alloc (Nat.le_refl _) _).alloc (by rw [hs1]; omega) _).alloc (by rw [hs2]; omega) _
  have hs3 : (((w.alloc (Obj.cells #[.int .i64 n, .slice a 0 cap] 41)).alloc (Obj.cells #[.int .i64 0, .slice none 0 0] 25)).alloc (Obj.cells #[.int .i64 n, .slice none 0 0] 25)).heap.size = w.heap.size + 1 + 1 + 1 := by rw [size_made, hs2]
  have r1' := range_below r1 (C := w.heap.size + 1 + 1) (((Below.refl _ _).alloc (by rw [hs2]; omega) (Obj.cells #[.int .i64 n, .slice none 0 0] 25))) (by omega)
  have t1' := there_below t1 (C := w.heap.size + 1 + 1) (((Below.refl _ _).alloc (by rw [hs2]; omega) (Obj.cells #[.int .i64 n, .slice none 0 0] 25))) (by omega)
  have HX : Hid (_ ∧ _ ∧ _ ∧ _) := ⟨r1', t1', r2, t2⟩
  have HS3 := hide hs3
  clear r1 t1 r1' t1' r2 t2 hs1 hs2 hs3
  go_enter Try.func14, Try.ntmps14
  go_wp2_with fail
  generalize hW3 : (((w.alloc (Obj.cells #[.int .i64 n, .slice a 0 cap] 41)).alloc (Obj.cells #[.int .i64 0, .slice none 0 0] 25)).alloc (Obj.cells #[.int .i64 n, .slice none 0 0] 25)) = W3 at HB0 HX HS3 ⊢
  clear hW3
  refine (toOrderS_nil a cap _).mono ?_
  rintro e w1 ⟨ad', cap', rfl, hb1⟩
  have HB := hide hb1
  obtain ⟨x1, x2, x3, x4⟩ := unhide HX
  have y1 := range_below x1 hb1 (by rw [unhide HS3]; omega)
  have y2 := there_below x2 hb1 (by rw [unhide HS3]; omega)
  have y3 := range_below x3 hb1 (by rw [unhide HS3]; omega)
  have y4 := there_below x4 hb1 (by rw [unhide HS3]; omega)
  have c0 : w1.cell? ⟨w.heap.size + 1, 0, none⟩ = some (.int .i64 0) := y1 0 _ rfl
  have c1 : w1.cell? ⟨w.heap.size + 1, 1, none⟩ = some (.slice none 0 0) := y1 1 _ rfl
  have c2 : w1.cell? ⟨w.heap.size + 1 + 1, 0, none⟩ = some (.int .i64 n) := y3 0 _ rfl
  have c3 : w1.cell? ⟨w.heap.size + 1 + 1, 1, none⟩ = some (.slice none 0 0) := y3 1 _ rfl
  have f0 : w1.frozen? ⟨w.heap.size + 1, 0, none⟩ = false := (y2 0 (by omega)).2
  have f1 : w1.frozen? ⟨w.heap.size + 1, 1, none⟩ = false := (y2 1 (by omega)).2
  have f2 : w1.frozen? ⟨w.heap.size + 1 + 1, 0, none⟩ = false := (y4 0 (by omega)).2
  have f3 : w1.frozen? ⟨w.heap.size + 1 + 1, 1, none⟩ = false := (y4 1 (by omega)).2
  clear hb1 x1 x2 x3 x4 y1 y2 y3 y4
  go_wp2_with fail
  have hne : (⟨w.heap.size + 1, 0, none⟩ : Addr) ≠ ⟨w.heap.size + 1, 1, none⟩ := fun e => by simp at e
  have hnb : ∀ i j, (⟨w.heap.size + 1 + 1, i, none⟩ : Addr) ≠ ⟨w.heap.size + 1, j, none⟩ := fun i j e => by have := congrArg Addr.block e; simp at this
  have d1 : (((w1.setCell ⟨w.heap.size + 1 + 1, 1, none⟩ (.slice (some ad') 0 cap')).setCell ⟨w.heap.size + 1, 0, none⟩ (.int .i64 n)).setCell ⟨w.heap.size + 1, 1, none⟩ (.slice (some ad') 0 cap')).cell? ⟨w.heap.size + 1, 1, none⟩ = some (.slice (some ad') 0 cap') :=
    World.cell?_setCell_same _ _ _ ((World.cell?_setCell_other _ _ _ _ hne).trans ((World.cell?_setCell_other _ _ _ _ (hnb 1 1)).trans c1))
  have d0 : (((w1.setCell ⟨w.heap.size + 1 + 1, 1, none⟩ (.slice (some ad') 0 cap')).setCell ⟨w.heap.size + 1, 0, none⟩ (.int .i64 n)).setCell ⟨w.heap.size + 1, 1, none⟩ (.slice (some ad') 0 cap')).cell? ⟨w.heap.size + 1, 0, none⟩ = some (.int .i64 n) :=
    (World.cell?_setCell_other _ _ _ _ hne.symm).trans (World.cell?_setCell_same _ _ _ ((World.cell?_setCell_other _ _ _ _ (hnb 1 0)).trans c0))
  have HB5 := hide (((((unhide HB0).trans ((unhide HB).mono (unhide HB0).size)).setCell (p := ⟨w.heap.size + 1 + 1, 1, none⟩) (by simp; omega) (.slice (some ad') 0 cap')).setCell (p := ⟨w.heap.size + 1, 0, none⟩) (by simp) (.int .i64 n)).setCell (p := ⟨w.heap.size + 1, 1, none⟩) (by simp) (.slice (some ad') 0 cap'))
  generalize (((w1.setCell ⟨w.heap.size + 1 + 1, 1, none⟩ (.slice (some ad') 0 cap')).setCell ⟨w.heap.size + 1, 0, none⟩ (.int .i64 n)).setCell ⟨w.heap.size + 1, 1, none⟩ (.slice (some ad') 0 cap')) = W5 at *
  try simp only [Exit.inBlock, Exit.then]
  refine bodyPost_ret (by simp [results, Try.results14, go_sem, d0, d1]; try rfl) rfl ?_
  exact ⟨ad', cap', rfl, unhide HB5⟩
theorem toBook_some (n : Int) (v : Value) (l : List Od) (w : World) (hr : RdR Od.vs 6 w v l) :
    Calls Try.prog 14 #[.agg #[.int .i64 n, v]] w fun e w' => ∃ ad cp, e = .returned (.agg #[.int .i64 n, .slice (some ad) l.length cp]) ∧ OwnR Od.vs 6 w.heap.size w' (.slice (some ad) l.length cp) l ∧ Below w.heap.size w w' := by
  by_cases hl : l = []
  · subst hl
    obtain ⟨a, cap, rfl, _, _⟩ := hr
    refine (toBook_nil n a cap w).mono ?_
    rintro e w' ⟨ad, cp, rfl, hb⟩
    exact ⟨ad, cp, rfl, ⟨some ad, cp, rfl, by simp, fun h => absurd rfl h⟩, hb⟩
  · refine (toBook_any n v l w hr).mono ?_
    rintro e w' ⟨v', rfl, ho, hb⟩
    have HO := ho
    obtain ⟨a, cap, rfl, _, h⟩ := ho
    obtain ⟨g, rfl, _⟩ := h hl
    exact ⟨_, _, rfl, HO, hb⟩
end Go.Proofs.Ytadnjcgfoofjiaa
