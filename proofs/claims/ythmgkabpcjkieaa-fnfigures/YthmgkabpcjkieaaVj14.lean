/-
  Whether the numbers of orders rise, proved by walking the function; a side's tree planted and asked; whether the sides meet.
-/
import Derived.Test.YthmgkabpcjkieaaVj11
import Derived.Test.YthmgkabpcjkieaaVj13
namespace Go.Proofs.Ythmgkabpcjkieaa
open Go.RowKit
set_option linter.unusedVariables false

def idsR (next : Int) : Int → List Od → Bool
  | _, [] => true
  | last, o :: r => decide (last < o.id) && decide (o.id < next) && idsR next o.id r
set_option maxRecDepth 100000 in
set_option maxHeartbeats 400000 in
theorem idsRise_any (next : Int) (v : Value) (l : List Od) (w : World) (hr : RdR Od.vs 6 w v l) :
    Calls Try.prog 29 #[.agg #[.int .i64 next, v]] w fun e w' => e = .returned (.bool (idsR next 0 l)) ∧ Below w.heap.size w w' := by
  obtain ⟨a, cap, rfl, hlen, hc⟩ := hr
  have hcell : ∀ (k : Nat) (c : Od), l[k]? = some c → ∃ b off, a = some ⟨b, off, none⟩ ∧ b < w.heap.size ∧ w.rangeAt b (off + k * 6) c.vs := by
    intro k c hk
    obtain ⟨b, off, h1, h2, h3⟩ := hc (by intro h; rw [h] at hk; simp at hk)
    exact ⟨b, off, h1, h2, h3 k c hk⟩
  have HC := hide hcell
  clear hcell hc
  have HB0 : Hid (Below w.heap.size w (w.alloc (Obj.cells #[.int .i64 next, .slice a l.length cap] 26))) := (Below.refl _ _).alloc (Nat.le_refl _) _
  have HR0 : Hid ((w.alloc (Obj.cells #[.int .i64 next, .slice a l.length cap] 26)).cell? ⟨w.heap.size, 0, none⟩ = some (.int .i64 next) ∧ w.heap.size < (w.alloc (Obj.cells #[.int .i64 next, .slice a l.length cap] 26)).heap.size) := ⟨cells_made w [.int .i64 next, .slice a l.length cap] 26 0 _ rfl, by rw [size_made]; omega⟩
  go_enter Try.func29, Try.ntmps29
  go_wp2_with fail
  generalize (w.alloc (Obj.cells #[.int .i64 next, .slice a l.length cap] 26)) = W1 at HB0 HR0 ⊢
  have hs1 := (unhide HR0).2
  go_loopw [3, 9] (fun lv iv wr => ∃ (k : Nat) (last : Int), lv = .int .i64 last ∧ k ≤ l.length ∧ iv = .int .i64 k ∧ Hid (idsR next 0 l = idsR next last (l.drop k)) ∧ Below W1.heap.size W1 wr) (fun _ iv _ => l.length - (intOf iv).toNat)
  case atStart => exact ⟨0, 0, rfl, Nat.zero_le _, rfl, by simp [Hid], Below.refl _ _⟩
  case round =>
    obtain ⟨k, last, rfl, hk, rfl, hids, hbel⟩ := hrel
    have HB := hide hbel
    clear hbel
    by_cases hlt : k < l.length
    · obtain ⟨c, hkc⟩ : ∃ c, l[k]? = some c := ⟨_, List.getElem?_eq_getElem hlt⟩
      have hdr : l.drop k = c :: l.drop (k + 1) := by
        obtain ⟨h1, rfl⟩ := List.getElem?_eq_some_iff.1 hkc
        exact List.drop_eq_getElem_cons h1
      have HI : Hid (idsR next 0 l = (decide (last < c.id) && decide (c.id < next) && idsR next c.id (l.drop (k + 1)))) := by
        have := unhide hids
        rw [hdr] at this
        exact this
      obtain ⟨b, off, rfl, hb, hcl⟩ := unhide HC k c hkc
      obtain ⟨g0, g1, g2, g3, g4, g5⟩ := od_cells (range_below hcl ((unhide HB0).trans ((unhide HB).mono (unhide HB0).size)) hb)
      have hbox := ((unhide HB).cell (p := ⟨w.heap.size, 0, none⟩) hs1).trans (unhide HR0).1
      have hlt' : (k : Int) < l.length := by omega
      have hszr := (unhide HB).size
      have hboxW : (wr.alloc (Obj.cells #[.int .i64 c.id, .int .i64 c.side, .int .i64 c.ticks, .int .i64 c.left, .int .i64 c.life, .string c.tag] 61)).cell? ⟨w.heap.size, 0, none⟩ = some (.int .i64 next) := (Below.cell ((Below.refl wr.heap.size wr).alloc (Nat.le_refl _) _) (p := ⟨w.heap.size, 0, none⟩) (show w.heap.size < wr.heap.size by omega)).trans hbox
      clear hkc hcl hb hdr hids
      by_cases h1 : last < c.id
      · have h1' : decide (c.id ≤ last) = false := by simpa using h1
        by_cases h2 : c.id < next
        · have h2' : ¬ (next ≤ c.id) := by omega
          have HN : Hid (idsR next 0 l = idsR next c.id (l.drop (k + 1))) := by
            have := unhide HI
            rw [decide_eq_true h1, decide_eq_true h2, Bool.true_and, Bool.true_and] at this
            exact this
          go_wp2_with fail
          go_roundw
          case rel => exact ⟨k + 1, c.id, rfl, by omega, by go_num, unhide HN, (unhide HB).alloc hszr _⟩
          case measure => simp [intOf]; omega
        · have h2' : next ≤ c.id := by omega
          have HN : Hid (idsR next 0 l = false) := by
            have := unhide HI
            rw [decide_eq_false h2, Bool.and_false, Bool.false_and] at this
            exact this
          go_wp2_with fail
          go_ret
          exact ⟨ret_bool (unhide HN).symm, (unhide HB0).trans (((unhide HB).alloc hszr _).mono (unhide HB0).size)⟩
      · have h1' : decide (c.id ≤ last) = true := by simp; omega
        have HN : Hid (idsR next 0 l = false) := by
          have := unhide HI
          rw [decide_eq_false h1, Bool.false_and, Bool.false_and] at this
          exact this
        go_wp2_with fail
        go_ret
        exact ⟨ret_bool (unhide HN).symm, (unhide HB0).trans (((unhide HB).alloc hszr _).mono (unhide HB0).size)⟩
    · go_wp2_with fail
      go_ret
      have h := unhide hids
      rw [List.drop_of_length_le (by omega)] at h
      exact ⟨ret_bool (by rw [h]; rfl), (unhide HB0).trans ((unhide HB).mono (unhide HB0).size)⟩
set_option maxHeartbeats 400000 in
theorem sideOf_buy (next : Int) (v : Value) (l : List Od) (w : World) (hr : RdR Od.vs 6 w v l) (hn : l.length ≤ 20) (hl : ∀ o' ∈ l, 0 ≤ o'.left ∧ o'.left ≤ 1000000) :
    Calls Try.prog 13 #[.agg #[.int .i64 next, v], .int .i64 1] w fun e w' =>
      ∃ b, e = .returned (side_b b) ∧ TreeAt 121 true w' b 1 (ofSide l 1) ∧ w.heap.size ≤ b ∧ Below w.heap.size w w' := by
  have HR := hide hr
  have HL := hide hl
  obtain ⟨a, cap, rfl, hlen, hc⟩ := hr
  have hs1 : (w.alloc (Obj.cells #[.int .i64 next, .slice a l.length cap] 26)).heap.size = w.heap.size + 1 := size_made _ _
  have r1 := cells_made (w.alloc (Obj.cells #[.int .i64 next, .slice a l.length cap] 26)) [.nilFunc, .nilFunc, .nilFunc] 51
  have t1 := there_block (n := 3) (heap_alloc_new (w.alloc (Obj.cells #[.int .i64 next, .slice a l.length cap] 26)) (Obj.cells #[.nilFunc, .nilFunc, .nilFunc] 51)) (by simp)
  rw [hs1] at r1 t1
  have hs2 : ((w.alloc (Obj.cells #[.int .i64 next, .slice a l.length cap] 26)).alloc (Obj.cells #[.nilFunc, .nilFunc, .nilFunc] 51)).heap.size = w.heap.size + 1 + 1 := by rw [size_made, hs1]
  have HB0 : Hid (Below w.heap.size w ((w.alloc (Obj.cells #[.int .i64 next, .slice a l.length cap] 26)).alloc (Obj.cells #[.nilFunc, .nilFunc, .nilFunc] 51))) :=
    ((Below.refl _ _).alloc (Nat.le_refl _) _).alloc (by rw [hs1]; omega) _
  have HX : Hid (_ ∧ _) := ⟨r1, t1⟩
  have HS2 := hide hs2
  clear r1 t1 hs1 hs2 hc hl
  go_enter Try.func13, Try.ntmps13
  go_wp2_with fail
  generalize ((w.alloc (Obj.cells #[.int .i64 next, .slice a l.length cap] 26)).alloc (Obj.cells #[.nilFunc, .nilFunc, .nilFunc] 51)) = W2 at HB0 HX HS2 ⊢
  refine (plant_b _ l 1 W2 (rdR_below (unhide HR) (unhide HB0) (Nat.le_refl _)) hn (unhide HL)).mono ?_
  rintro e w1 ⟨rfl, htr, hb1⟩
  have HTR := hide htr
  have HB1 := hide hb1
  clear htr hb1
  go_wp2_with fail
  refine (ask_b W2.heap.size w1).mono ?_
  rintro e w2 ⟨rfl, hb2⟩
  have HTR2 := hide (treeAt_block (unhide HTR) (hb2.block _ (treeAt_lt (unhide HTR))))
  have hb12 := (unhide HB1).trans (hb2.mono (unhide HB1).size)
  obtain ⟨x1, x2⟩ := unhide HX
  have y1 := range_below x1 hb12 (by rw [unhide HS2]; omega)
  have y2 := there_below x2 hb12 (by rw [unhide HS2]; omega)
  have HB2 := hide ((unhide HB0).trans (hb12.mono (unhide HB0).size))
  have c0 : w2.cell? ⟨w.heap.size + 1, 0, none⟩ = some .nilFunc := y1 0 _ rfl
  have c1 : w2.cell? ⟨w.heap.size + 1, 1, none⟩ = some .nilFunc := y1 1 _ rfl
  have c2 : w2.cell? ⟨w.heap.size + 1, 2, none⟩ = some .nilFunc := y1 2 _ rfl
  have f0 : w2.frozen? ⟨w.heap.size + 1, 0, none⟩ = false := (y2 0 (by omega)).2
  have f1 : w2.frozen? ⟨w.heap.size + 1, 1, none⟩ = false := (y2 1 (by omega)).2
  have f2 : w2.frozen? ⟨w.heap.size + 1, 2, none⟩ = false := (y2 2 (by omega)).2
  clear hb2 hb12 x1 x2 y1 y2
  unfold side_b
  generalize hF0 : Value.func (.func 61) #[.pointer (some ⟨W2.heap.size, 0, none⟩)] #[] = F0
  generalize hF1 : Value.func (.func 62) #[.pointer (some ⟨W2.heap.size, 0, none⟩)] #[] = F1
  generalize hF2 : Value.func (.func 63) #[.pointer (some ⟨W2.heap.size, 0, none⟩)] #[] = F2
  have hst : ∀ (W : World) (o : Nat) (m : Mode), ((store ⟨w.heap.size + 1, o, none⟩ F0 m).run Try.prog W = stored Try.prog W ⟨w.heap.size + 1, o, none⟩ F0 m) ∧ ((store ⟨w.heap.size + 1, o, none⟩ F1 m).run Try.prog W = stored Try.prog W ⟨w.heap.size + 1, o, none⟩ F1 m) ∧ ((store ⟨w.heap.size + 1, o, none⟩ F2 m).run Try.prog W = stored Try.prog W ⟨w.heap.size + 1, o, none⟩ F2 m) := fun W o m => by
    subst hF0 hF1 hF2
    exact ⟨run_store _ W _ _ m rfl, run_store _ W _ _ m rfl, run_store _ W _ _ m rfl⟩
  have hst0 := fun W o m => (hst W o m).1
  have hst1 := fun W o m => (hst W o m).2.1
  have hst2 := fun W o m => (hst W o m).2.2
  clear hst
  go_wp2_with fail
  have hn01 : (⟨w.heap.size + 1, 0, none⟩ : Addr) ≠ ⟨w.heap.size + 1, 1, none⟩ := fun e => by simp at e
  have hn02 : (⟨w.heap.size + 1, 0, none⟩ : Addr) ≠ ⟨w.heap.size + 1, 2, none⟩ := fun e => by simp at e
  have hn12 : (⟨w.heap.size + 1, 1, none⟩ : Addr) ≠ ⟨w.heap.size + 1, 2, none⟩ := fun e => by simp at e
  have d2 : (((w2.setCell ⟨w.heap.size + 1, 0, none⟩ F0).setCell ⟨w.heap.size + 1, 1, none⟩ F1).setCell ⟨w.heap.size + 1, 2, none⟩ F2).cell? ⟨w.heap.size + 1, 2, none⟩ = some F2 :=
    World.cell?_setCell_same _ _ _ ((World.cell?_setCell_other _ _ _ _ hn12).trans ((World.cell?_setCell_other _ _ _ _ hn02).trans c2))
  have d1 : (((w2.setCell ⟨w.heap.size + 1, 0, none⟩ F0).setCell ⟨w.heap.size + 1, 1, none⟩ F1).setCell ⟨w.heap.size + 1, 2, none⟩ F2).cell? ⟨w.heap.size + 1, 1, none⟩ = some F1 :=
    (World.cell?_setCell_other _ _ _ _ hn12.symm).trans (World.cell?_setCell_same _ _ _ ((World.cell?_setCell_other _ _ _ _ hn01).trans c1))
  have d0 : (((w2.setCell ⟨w.heap.size + 1, 0, none⟩ F0).setCell ⟨w.heap.size + 1, 1, none⟩ F1).setCell ⟨w.heap.size + 1, 2, none⟩ F2).cell? ⟨w.heap.size + 1, 0, none⟩ = some F0 :=
    (World.cell?_setCell_other _ _ _ _ hn02.symm).trans ((World.cell?_setCell_other _ _ _ _ hn01.symm).trans (World.cell?_setCell_same _ _ _ c0))
  have hne : W2.heap.size ≠ w.heap.size + 1 := by rw [unhide HS2]; omega
  have HT5 := hide (treeAt_block (unhide HTR2) (w' := ((w2.setCell ⟨w.heap.size + 1, 0, none⟩ F0).setCell ⟨w.heap.size + 1, 1, none⟩ F1).setCell ⟨w.heap.size + 1, 2, none⟩ F2) ((Below.heap_setCell _ _ _ _ hne).trans ((Below.heap_setCell _ _ _ _ hne).trans (Below.heap_setCell _ _ _ _ hne))))
  have HB5 := hide ((((unhide HB2).setCell (p := ⟨w.heap.size + 1, 0, none⟩) (by simp) F0).setCell (p := ⟨w.heap.size + 1, 1, none⟩) (by simp) F1).setCell (p := ⟨w.heap.size + 1, 2, none⟩) (by simp) F2)
  generalize ((w2.setCell ⟨w.heap.size + 1, 0, none⟩ F0).setCell ⟨w.heap.size + 1, 1, none⟩ F1).setCell ⟨w.heap.size + 1, 2, none⟩ F2 = W5 at *
  try simp only [Exit.inBlock, Exit.then]
  refine bodyPost_ret (by simp [results, Try.results13, go_sem, d0, d1, d2]; try rfl) rfl ?_
  refine ⟨W2.heap.size, ?_, unhide HT5, by rw [unhide HS2]; omega, unhide HB5⟩
  subst hF0 hF1 hF2
  rfl
set_option maxHeartbeats 400000 in
theorem sideOf_sell (next : Int) (sd : Int) (hsd : ¬ sd = 1) (v : Value) (l : List Od) (w : World) (hr : RdR Od.vs 6 w v l) (hn : l.length ≤ 20) (hl : ∀ o' ∈ l, 0 ≤ o'.left ∧ o'.left ≤ 1000000) :
    Calls Try.prog 13 #[.agg #[.int .i64 next, v], .int .i64 sd] w fun e w' =>
      ∃ b, e = .returned (side_s b) ∧ TreeAt 124 false w' b sd (ofSide l sd) ∧ w.heap.size ≤ b ∧ Below w.heap.size w w' := by
  have HR := hide hr
  have HL := hide hl
  obtain ⟨a, cap, rfl, hlen, hc⟩ := hr
  have hs1 : (w.alloc (Obj.cells #[.int .i64 next, .slice a l.length cap] 26)).heap.size = w.heap.size + 1 := size_made _ _
  have r1 := cells_made (w.alloc (Obj.cells #[.int .i64 next, .slice a l.length cap] 26)) [.nilFunc, .nilFunc, .nilFunc] 51
  have t1 := there_block (n := 3) (heap_alloc_new (w.alloc (Obj.cells #[.int .i64 next, .slice a l.length cap] 26)) (Obj.cells #[.nilFunc, .nilFunc, .nilFunc] 51)) (by simp)
  rw [hs1] at r1 t1
  have hs2 : ((w.alloc (Obj.cells #[.int .i64 next, .slice a l.length cap] 26)).alloc (Obj.cells #[.nilFunc, .nilFunc, .nilFunc] 51)).heap.size = w.heap.size + 1 + 1 := by rw [size_made, hs1]
  have HB0 : Hid (Below w.heap.size w ((w.alloc (Obj.cells #[.int .i64 next, .slice a l.length cap] 26)).alloc (Obj.cells #[.nilFunc, .nilFunc, .nilFunc] 51))) :=
    ((Below.refl _ _).alloc (Nat.le_refl _) _).alloc (by rw [hs1]; omega) _
  have HX : Hid (_ ∧ _) := ⟨r1, t1⟩
  have HS2 := hide hs2
  clear r1 t1 hs1 hs2 hc hl
  go_enter Try.func13, Try.ntmps13
  go_wp2_with fail
  generalize ((w.alloc (Obj.cells #[.int .i64 next, .slice a l.length cap] 26)).alloc (Obj.cells #[.nilFunc, .nilFunc, .nilFunc] 51)) = W2 at HB0 HX HS2 ⊢
  refine (plant_s _ l sd W2 (rdR_below (unhide HR) (unhide HB0) (Nat.le_refl _)) hn (unhide HL)).mono ?_
  rintro e w1 ⟨rfl, htr, hb1⟩
  have HTR := hide htr
  have HB1 := hide hb1
  clear htr hb1
  go_wp2_with fail
  refine (ask_s W2.heap.size w1).mono ?_
  rintro e w2 ⟨rfl, hb2⟩
  have HTR2 := hide (treeAt_block (unhide HTR) (hb2.block _ (treeAt_lt (unhide HTR))))
  have hb12 := (unhide HB1).trans (hb2.mono (unhide HB1).size)
  obtain ⟨x1, x2⟩ := unhide HX
  have y1 := range_below x1 hb12 (by rw [unhide HS2]; omega)
  have y2 := there_below x2 hb12 (by rw [unhide HS2]; omega)
  have HB2 := hide ((unhide HB0).trans (hb12.mono (unhide HB0).size))
  have c0 : w2.cell? ⟨w.heap.size + 1, 0, none⟩ = some .nilFunc := y1 0 _ rfl
  have c1 : w2.cell? ⟨w.heap.size + 1, 1, none⟩ = some .nilFunc := y1 1 _ rfl
  have c2 : w2.cell? ⟨w.heap.size + 1, 2, none⟩ = some .nilFunc := y1 2 _ rfl
  have f0 : w2.frozen? ⟨w.heap.size + 1, 0, none⟩ = false := (y2 0 (by omega)).2
  have f1 : w2.frozen? ⟨w.heap.size + 1, 1, none⟩ = false := (y2 1 (by omega)).2
  have f2 : w2.frozen? ⟨w.heap.size + 1, 2, none⟩ = false := (y2 2 (by omega)).2
  clear hb2 hb12 x1 x2 y1 y2
  unfold side_s
  generalize hF0 : Value.func (.func 65) #[.pointer (some ⟨W2.heap.size, 0, none⟩)] #[] = F0
  generalize hF1 : Value.func (.func 66) #[.pointer (some ⟨W2.heap.size, 0, none⟩)] #[] = F1
  generalize hF2 : Value.func (.func 67) #[.pointer (some ⟨W2.heap.size, 0, none⟩)] #[] = F2
  have hst : ∀ (W : World) (o : Nat) (m : Mode), ((store ⟨w.heap.size + 1, o, none⟩ F0 m).run Try.prog W = stored Try.prog W ⟨w.heap.size + 1, o, none⟩ F0 m) ∧ ((store ⟨w.heap.size + 1, o, none⟩ F1 m).run Try.prog W = stored Try.prog W ⟨w.heap.size + 1, o, none⟩ F1 m) ∧ ((store ⟨w.heap.size + 1, o, none⟩ F2 m).run Try.prog W = stored Try.prog W ⟨w.heap.size + 1, o, none⟩ F2 m) := fun W o m => by
    subst hF0 hF1 hF2
    exact ⟨run_store _ W _ _ m rfl, run_store _ W _ _ m rfl, run_store _ W _ _ m rfl⟩
  have hst0 := fun W o m => (hst W o m).1
  have hst1 := fun W o m => (hst W o m).2.1
  have hst2 := fun W o m => (hst W o m).2.2
  clear hst
  go_wp2_with fail
  have hn01 : (⟨w.heap.size + 1, 0, none⟩ : Addr) ≠ ⟨w.heap.size + 1, 1, none⟩ := fun e => by simp at e
  have hn02 : (⟨w.heap.size + 1, 0, none⟩ : Addr) ≠ ⟨w.heap.size + 1, 2, none⟩ := fun e => by simp at e
  have hn12 : (⟨w.heap.size + 1, 1, none⟩ : Addr) ≠ ⟨w.heap.size + 1, 2, none⟩ := fun e => by simp at e
  have d2 : (((w2.setCell ⟨w.heap.size + 1, 0, none⟩ F0).setCell ⟨w.heap.size + 1, 1, none⟩ F1).setCell ⟨w.heap.size + 1, 2, none⟩ F2).cell? ⟨w.heap.size + 1, 2, none⟩ = some F2 :=
    World.cell?_setCell_same _ _ _ ((World.cell?_setCell_other _ _ _ _ hn12).trans ((World.cell?_setCell_other _ _ _ _ hn02).trans c2))
  have d1 : (((w2.setCell ⟨w.heap.size + 1, 0, none⟩ F0).setCell ⟨w.heap.size + 1, 1, none⟩ F1).setCell ⟨w.heap.size + 1, 2, none⟩ F2).cell? ⟨w.heap.size + 1, 1, none⟩ = some F1 :=
    (World.cell?_setCell_other _ _ _ _ hn12.symm).trans (World.cell?_setCell_same _ _ _ ((World.cell?_setCell_other _ _ _ _ hn01).trans c1))
  have d0 : (((w2.setCell ⟨w.heap.size + 1, 0, none⟩ F0).setCell ⟨w.heap.size + 1, 1, none⟩ F1).setCell ⟨w.heap.size + 1, 2, none⟩ F2).cell? ⟨w.heap.size + 1, 0, none⟩ = some F0 :=
    (World.cell?_setCell_other _ _ _ _ hn02.symm).trans ((World.cell?_setCell_other _ _ _ _ hn01.symm).trans (World.cell?_setCell_same _ _ _ c0))
  have hne : W2.heap.size ≠ w.heap.size + 1 := by rw [unhide HS2]; omega
  have HT5 := hide (treeAt_block (unhide HTR2) (w' := ((w2.setCell ⟨w.heap.size + 1, 0, none⟩ F0).setCell ⟨w.heap.size + 1, 1, none⟩ F1).setCell ⟨w.heap.size + 1, 2, none⟩ F2) ((Below.heap_setCell _ _ _ _ hne).trans ((Below.heap_setCell _ _ _ _ hne).trans (Below.heap_setCell _ _ _ _ hne))))
  have HB5 := hide ((((unhide HB2).setCell (p := ⟨w.heap.size + 1, 0, none⟩) (by simp) F0).setCell (p := ⟨w.heap.size + 1, 1, none⟩) (by simp) F1).setCell (p := ⟨w.heap.size + 1, 2, none⟩) (by simp) F2)
  generalize ((w2.setCell ⟨w.heap.size + 1, 0, none⟩ F0).setCell ⟨w.heap.size + 1, 1, none⟩ F1).setCell ⟨w.heap.size + 1, 2, none⟩ F2 = W5 at *
  try simp only [Exit.inBlock, Exit.then]
  refine bodyPost_ret (by simp [results, Try.results13, go_sem, d0, d1, d2]; try rfl) rfl ?_
  refine ⟨W2.heap.size, ?_, unhide HT5, by rw [unhide HS2]; omega, unhide HB5⟩
  subst hF0 hF1 hF2
  rfl
/-- The front of a queue, or nothing. -/
def hdO (q : List Od) : Od := (q.head?).getD zOd
def hdF (q : List Od) : Bool := (q.head?).isSome
theorem frOf_eq (q : List Od) : frOf q = .tuple #[.agg #[.int .i64 (hdO q).id, .int .i64 (hdO q).side, .int .i64 (hdO q).ticks, .int .i64 (hdO q).left, .int .i64 (hdO q).life, .string (hdO q).tag], .bool (hdF q)] := by
  unfold frOf hdO hdF
  cases q.head? <;> rfl
/-- The fronts of two queues meet. -/
def meetB (q1 q2 : List Od) : Bool := hdF q1 && hdF q2 && decide ((hdO q2).ticks ≤ (hdO q1).ticks)
set_option maxRecDepth 100000 in
set_option maxHeartbeats 400000 in
theorem sidesMeet_any (b1 b2 : Nat) (sd1 sd2 : Int) (s1 s2 : List Od) (w : World) (h1 : TreeAt 121 true w b1 sd1 s1) (h2 : TreeAt 124 false w b2 sd2 s2) (n1 : s1.length ≤ 20) (n2 : s2.length ≤ 20) :
    Calls Try.prog 32 #[side_b b1, side_s b2] w fun e w' => e = .returned (.bool (meetB (quOf true s1) (quOf false s2))) ∧ Below w.heap.size w w' := by
  have H1 := hide h1
  have H2 := hide h2
  have hb1 := treeAt_lt h1
  have hb2 := treeAt_lt h2
  clear h1 h2
  unfold side_b side_s
  have hs1 : (w.alloc (Obj.cells #[.func (.func 61) #[.pointer (some ⟨b1, 0, none⟩)] #[], .func (.func 62) #[.pointer (some ⟨b1, 0, none⟩)] #[], .func (.func 63) #[.pointer (some ⟨b1, 0, none⟩)] #[]] 51)).heap.size = w.heap.size + 1 := size_made _ _
  have r1 := cells_made (w.alloc (Obj.cells #[.func (.func 61) #[.pointer (some ⟨b1, 0, none⟩)] #[], .func (.func 62) #[.pointer (some ⟨b1, 0, none⟩)] #[], .func (.func 63) #[.pointer (some ⟨b1, 0, none⟩)] #[]] 51)) [.func (.func 65) #[.pointer (some ⟨b2, 0, none⟩)] #[], .func (.func 66) #[.pointer (some ⟨b2, 0, none⟩)] #[], .func (.func 67) #[.pointer (some ⟨b2, 0, none⟩)] #[]] 51
  have hs2 : ((w.alloc (Obj.cells #[.func (.func 61) #[.pointer (some ⟨b1, 0, none⟩)] #[], .func (.func 62) #[.pointer (some ⟨b1, 0, none⟩)] #[], .func (.func 63) #[.pointer (some ⟨b1, 0, none⟩)] #[]] 51)).alloc (Obj.cells #[.func (.func 65) #[.pointer (some ⟨b2, 0, none⟩)] #[], .func (.func 66) #[.pointer (some ⟨b2, 0, none⟩)] #[], .func (.func 67) #[.pointer (some ⟨b2, 0, none⟩)] #[]] 51)).heap.size = w.heap.size + 1 + 1 := by rw [size_made, hs1]
  have HB0 : Hid (Below w.heap.size w ((w.alloc (Obj.cells #[.func (.func 61) #[.pointer (some ⟨b1, 0, none⟩)] #[], .func (.func 62) #[.pointer (some ⟨b1, 0, none⟩)] #[], .func (.func 63) #[.pointer (some ⟨b1, 0, none⟩)] #[]] 51)).alloc (Obj.cells #[.func (.func 65) #[.pointer (some ⟨b2, 0, none⟩)] #[], .func (.func 66) #[.pointer (some ⟨b2, 0, none⟩)] #[], .func (.func 67) #[.pointer (some ⟨b2, 0, none⟩)] #[]] 51))) := ((Below.refl _ _).alloc (Nat.le_refl _) _).alloc (by rw [hs1]; omega) _
  rw [hs1] at r1
  have HX := hide (r1 0 _ rfl)
  have HS2 := hide hs2
  clear r1 hs1 hs2
  go_enter Try.func32, Try.ntmps32
  go_wp2_with fail
  generalize ((w.alloc (Obj.cells #[.func (.func 61) #[.pointer (some ⟨b1, 0, none⟩)] #[], .func (.func 62) #[.pointer (some ⟨b1, 0, none⟩)] #[], .func (.func 63) #[.pointer (some ⟨b1, 0, none⟩)] #[]] 51)).alloc (Obj.cells #[.func (.func 65) #[.pointer (some ⟨b2, 0, none⟩)] #[], .func (.func 66) #[.pointer (some ⟨b2, 0, none⟩)] #[], .func (.func 67) #[.pointer (some ⟨b2, 0, none⟩)] #[]] 51)) = W2 at HB0 HX HS2 ⊢
  refine (front_b b1 sd1 s1 W2 (treeAt_block (unhide H1) ((unhide HB0).block _ hb1)) n1).mono ?_
  rintro e w1 ⟨rfl, hb3⟩
  rw [frOf_eq]
  have HB3 := hide hb3
  have c0 := (hb3.cell (p := ⟨w.heap.size + 1, 0, none⟩) (by rw [unhide HS2]; simp)).trans (unhide HX)
  have hsz1 : w.heap.size + 2 ≤ w1.heap.size := by have := hb3.size; rw [unhide HS2] at this; omega
  generalize hq1 : hdO (quOf true s1) = x
  generalize hf1 : hdF (quOf true s1) = f1
  have HQ1 : Hid (hdO (quOf true s1) = x ∧ hdF (quOf true s1) = f1) := ⟨hq1, hf1⟩
  clear hb3 hq1 hf1
  have c0' : (w1.alloc (Obj.cells #[.int .i64 x.id, .int .i64 x.side, .int .i64 x.ticks, .int .i64 x.left, .int .i64 x.life, .string x.tag] 61)).cell? ⟨w.heap.size + 1, 0, none⟩ = _ := (Below.cell ((Below.refl w1.heap.size w1).alloc (Nat.le_refl _) _) (p := ⟨w.heap.size + 1, 0, none⟩) (show w.heap.size + 1 < w1.heap.size by omega)).trans c0
  have HX1 : Hid (World.rangeAt (w1.alloc (Obj.cells #[.int .i64 x.id, .int .i64 x.side, .int .i64 x.ticks, .int .i64 x.left, .int .i64 x.life, .string x.tag] 61)) w1.heap.size 0 x.vs) := cells_made w1 x.vs 61
  have HB4 : Hid (Below W2.heap.size W2 (w1.alloc (Obj.cells #[.int .i64 x.id, .int .i64 x.side, .int .i64 x.ticks, .int .i64 x.left, .int .i64 x.life, .string x.tag] 61))) := (unhide HB3).alloc (unhide HB3).size _
  have HS4 : Hid ((w1.alloc (Obj.cells #[.int .i64 x.id, .int .i64 x.side, .int .i64 x.ticks, .int .i64 x.left, .int .i64 x.life, .string x.tag] 61)).heap.size = w1.heap.size + 1) := size_made _ _
  go_wp2_with fail
  generalize (w1.alloc (Obj.cells #[.int .i64 x.id, .int .i64 x.side, .int .i64 x.ticks, .int .i64 x.left, .int .i64 x.life, .string x.tag] 61)) = W4 at c0' HX1 HB4 HS4 ⊢
  have HB04 := hide ((unhide HB0).trans ((unhide HB4).mono (unhide HB0).size))
  refine (front_s b2 sd2 s2 W4 (treeAt_block (unhide H2) ((unhide HB04).block _ hb2)) n2).mono ?_
  rintro e w5 ⟨rfl, hb5⟩
  rw [frOf_eq]
  have HB5 := hide ((unhide HB04).trans (hb5.mono (unhide HB04).size))
  obtain ⟨-, -, t2, -⟩ := od_cells (range_below (unhide HX1) hb5 (by rw [unhide HS4]; omega))
  have hsz5 : w1.heap.size < w5.heap.size := by have := hb5.size; rw [unhide HS4] at this; omega
  generalize hq2 : hdO (quOf false s2) = y
  generalize hf2 : hdF (quOf false s2) = f2
  have HQ2 : Hid (hdO (quOf false s2) = y ∧ hdF (quOf false s2) = f2) := ⟨hq2, hf2⟩
  clear hb5 hq2 hf2
  have t2' : (w5.alloc (Obj.cells #[.int .i64 y.id, .int .i64 y.side, .int .i64 y.ticks, .int .i64 y.left, .int .i64 y.life, .string y.tag] 61)).cell? ⟨w1.heap.size, 0 + 2, none⟩ = _ := (Below.cell ((Below.refl w5.heap.size w5).alloc (Nat.le_refl _) _) (p := ⟨w1.heap.size, 0 + 2, none⟩) hsz5).trans t2
  have HB6 : Hid (Below w.heap.size w (w5.alloc (Obj.cells #[.int .i64 y.id, .int .i64 y.side, .int .i64 y.ticks, .int .i64 y.left, .int .i64 y.life, .string y.tag] 61))) := (unhide HB5).alloc (unhide HB5).size _
  have HM : Hid (meetB (quOf true s1) (quOf false s2) = (f1 && f2 && decide (y.ticks ≤ x.ticks))) := by
    show _ = _
    rw [meetB, (unhide HQ1).1, (unhide HQ1).2, (unhide HQ2).1, (unhide HQ2).2]
  cases f1 <;> cases f2
  · go_wp2_with fail
    go_ret
    exact ⟨ret_bool (unhide HM).symm, unhide HB6⟩
  · go_wp2_with fail
    go_ret
    exact ⟨ret_bool (unhide HM).symm, unhide HB6⟩
  · go_wp2_with fail
    go_ret
    exact ⟨ret_bool (unhide HM).symm, unhide HB6⟩
  · go_wp2_with fail
    go_ret
    exact ⟨ret_bool (unhide HM).symm, unhide HB6⟩
end Go.Proofs.Ythmgkabpcjkieaa
namespace Go.Proofs.Ythmgkabpcjkieaa
open Go.RowKit
set_option linter.unusedVariables false

def restB (t : Int) : Bool := decide (t = 1) || decide (t = 5)
def prcB (c : Cm) : Bool := if c.t = 2 then decide (fbit c.p = 0) else tkOk c.p
def meetO (c : Cm) (o : Od) : Bool := if c.t = 2 then true else if c.s = 1 then decide (o.ticks ≤ tk c.p) else decide (tk c.p ≤ o.ticks)
def ordO (c : Cm) (id : Int) : Od := ⟨id, c.s, tk c.p, c.q, c.l, c.g⟩
def othS (s : Int) : Int := if s = 1 then 2 else 1
end Go.Proofs.Ythmgkabpcjkieaa
namespace Go.Proofs.Ythmgkabpcjkieaa
open Go.RowKit
set_option linter.unusedVariables false

/-- An event. -/
structure Ev where
  kind : Int
  cmd : Cm
  id : Int
  other : Int
  qty : Int
  price : Int
  reason : Int
def cmV (c : Cm) : Value := .agg #[.int .i64 c.k, .int .i64 c.s, .int .i64 c.t, .int .i64 c.l, .int .i64 c.q, .int .i64 c.i, .float .f64 c.p, .string c.g]
def Ev.vs (e : Ev) : List Value := [.int .i64 e.kind, .int .i64 e.cmd.k, .int .i64 e.cmd.s, .int .i64 e.cmd.t, .int .i64 e.cmd.l, .int .i64 e.cmd.q, .int .i64 e.cmd.i, .float .f64 e.cmd.p, .string e.cmd.g, .int .i64 e.id, .int .i64 e.other, .int .i64 e.qty, .int .i64 e.price, .int .i64 e.reason]
theorem Ev.len (e : Ev) : e.vs.length = 14 := rfl
def zCm : Cm := ⟨0, 0, 0, 0, 0, 0, 0, ⟨#[]⟩⟩
end Go.Proofs.Ythmgkabpcjkieaa
namespace Go.Proofs.Ythmgkabpcjkieaa
open Go.RowKit
set_option linter.unusedVariables false

end Go.Proofs.Ythmgkabpcjkieaa
