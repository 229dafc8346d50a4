/-
  The shapes of events, as the program makes them: proved by walking the function.
-/
import Derived.Test.YtmeekcdoajbjdaaGreatDoorGj03
namespace Go.Proofs.YtmeekcdoajbjdaaGreatDoor
open Go.RowKit
set_option linter.unusedVariables false

/-- The cells of an event that a kind tells, in the order of its bytes. -/
def shF (k : Int) : List Nat := if k = 1 then [2, 3, 4, 5, 7, 8, 9] else if k = 2 then [1, 2, 3, 4, 5, 6, 7, 8, 13] else if k = 3 then [9, 10, 11, 12] else if k = 4 ∨ k = 5 ∨ k = 6 ∨ k = 7 ∨ k = 9 then [9, 11] else if k = 8 then [11] else []
def shC (k : Int) : Int := if k = 1 then 1 else 0
/-- Fields of those cells. -/
def FFs (W : World) (B : Nat) : List Nat → List Fc → Prop
  | [], [] => True
  | o :: os, c :: cs => FF W B o c ∧ FFs W B os cs
  | _, _ => False
/-- What shapeOf answers. -/
def ShEnd (k : Int) (w : World) (e : Ending) (w' : World) : Prop := ∃ v fs, e = .returned (.agg #[.int .i64 (shC k), v]) ∧ OwnR Fc.vs 2 w.heap.size w' v fs ∧ FFs w' w.heap.size (shF k) fs ∧ Below w.heap.size w w'
theorem ff_set {B o b j : Nat} {W : World} {c : Fc} {u : Value} (h : FF W B o c) (hb : b < B) : FF (W.setCell ⟨b, j, none⟩ u) B o c := by
  unfold FF at h ⊢
  split
  · rwa [if_pos ‹_›] at h
  · rw [if_neg ‹_›] at h
    split
    · rwa [if_pos ‹_›] at h
    · rw [if_neg ‹_›] at h
      obtain ⟨d, h1, h2, h3, h4⟩ := h
      refine ⟨d, h1, h2, by simpa using h3, ?_⟩
      rw [← h4]
      unfold World.cell?
      rw [Below.heap_setCell _ _ _ _ (by show d ≠ b; omega)]
theorem fcs_made {B : Nat} (W : World) (fs : List Fc) (t : TypeId) (hB : B ≤ W.heap.size) (hl : fs.length ≤ 1073741824) : OwnR Fc.vs 2 B (W.alloc (Obj.cells (fs.flatMap Fc.vs).toArray t)) (.slice (some ⟨W.heap.size, 0, none⟩) fs.length fs.length) fs := by
  refine ⟨_, _, rfl, hl, fun _ => ⟨W.heap.size, rfl, hB, by simp, fun i c hi => ?_, there_block (heap_alloc_new W _) (by rw [List.size_toArray, flat_len Fc.len]; omega)⟩⟩
  intro j u hu
  have hj : j < 2 := (List.getElem?_eq_some_iff.1 hu).1
  rw [Nat.zero_add]
  exact bx_cell (bx_made W (fs.flatMap Fc.vs) t) (i * 2 + j) ((flat_get Fc.len fs i j c hi hj).trans hu)
set_option maxRecDepth 100000 in
set_option maxHeartbeats 1600000 in
theorem shape1_any (w : World) : Calls Tryz.prog 41 #[.int .i64 1] w fun e w' => ShEnd 1 w e w' := by
  have HX0 := hide (bx_made w [.int .i64 0, .slice none 0 0] 70)
  have HB0 : Hid (Below w.heap.size w (w.alloc (Obj.cells #[.int .i64 0, .slice none 0 0] 70))) := (Below.refl _ _).alloc (Nat.le_refl _) _
  have hs0 : w.heap.size < (w.alloc (Obj.cells #[.int .i64 0, .slice none 0 0] 70)).heap.size := by simp
  go_enter Tryz.func41, Tryz.ntmps41
  go_wp2_with fail
  rw [show [Value.int .i64 0, Value.slice none 0 0].toArray = #[.int .i64 0, .slice none 0 0] from rfl] at HX0
  generalize (w.alloc (Obj.cells #[.int .i64 0, .slice none 0 0] 70)) = W0 at HX0 HB0 hs0 ⊢
  refine (mk2_fld W0).mono ?_
  rintro e W1 ⟨n11, n21, l1, rfl, hf, hb⟩
  have HB1 : Hid (Below w.heap.size w W1) := (unhide HB0).trans (hb.mono (unhide HB0).size)
  have HX1 := hide (bx_below (unhide HX0) hb hs0)
  have hs1 : w.heap.size < W1.heap.size := Nat.lt_of_lt_of_le hs0 hb.size
  have HF1 := hide (ff_base (B' := w.heap.size + 1) hf hs0)
  clear hf hb HX0 hs0
  go_wp2_with fail
  refine (mk3_fld W1).mono ?_
  rintro e W2 ⟨n12, n22, l2, rfl, hf, hb⟩
  have HB2 : Hid (Below w.heap.size w W2) := (unhide HB1).trans (hb.mono (unhide HB1).size)
  have HX2 := hide (bx_below (unhide HX1) hb hs1)
  have hs2 : w.heap.size < W2.heap.size := Nat.lt_of_lt_of_le hs1 hb.size
  have HF2 := hide (ff_base (B' := w.heap.size + 1) hf hs1)
  have HF1 := hide (ff_below (unhide HF1) hb (Nat.le_refl _))
  clear hf hb HX1 hs1
  go_wp2_with fail
  refine (mk4_fld W2).mono ?_
  rintro e W3 ⟨n13, n23, l3, rfl, hf, hb⟩
  have HB3 : Hid (Below w.heap.size w W3) := (unhide HB2).trans (hb.mono (unhide HB2).size)
  have HX3 := hide (bx_below (unhide HX2) hb hs2)
  have hs3 : w.heap.size < W3.heap.size := Nat.lt_of_lt_of_le hs2 hb.size
  have HF3 := hide (ff_base (B' := w.heap.size + 1) hf hs2)
  have HF1 := hide (ff_below (unhide HF1) hb (Nat.le_refl _))
  have HF2 := hide (ff_below (unhide HF2) hb (Nat.le_refl _))
  clear hf hb HX2 hs2
  go_wp2_with fail
  refine (mk5_fld W3).mono ?_
  rintro e W4 ⟨n14, n24, l4, rfl, hf, hb⟩
  have HB4 : Hid (Below w.heap.size w W4) := (unhide HB3).trans (hb.mono (unhide HB3).size)
  have HX4 := hide (bx_below (unhide HX3) hb hs3)
  have hs4 : w.heap.size < W4.heap.size := Nat.lt_of_lt_of_le hs3 hb.size
  have HF4 := hide (ff_base (B' := w.heap.size + 1) hf hs3)
  have HF1 := hide (ff_below (unhide HF1) hb (Nat.le_refl _))
  have HF2 := hide (ff_below (unhide HF2) hb (Nat.le_refl _))
  have HF3 := hide (ff_below (unhide HF3) hb (Nat.le_refl _))
  clear hf hb HX3 hs3
  go_wp2_with fail
  refine (mk7_fld W4).mono ?_
  rintro e W5 ⟨n15, n25, l5, rfl, hf, hb⟩
  have HB5 : Hid (Below w.heap.size w W5) := (unhide HB4).trans (hb.mono (unhide HB4).size)
  have HX5 := hide (bx_below (unhide HX4) hb hs4)
  have hs5 : w.heap.size < W5.heap.size := Nat.lt_of_lt_of_le hs4 hb.size
  have HF5 := hide (ff_base (B' := w.heap.size + 1) hf hs4)
  have HF1 := hide (ff_below (unhide HF1) hb (Nat.le_refl _))
  have HF2 := hide (ff_below (unhide HF2) hb (Nat.le_refl _))
  have HF3 := hide (ff_below (unhide HF3) hb (Nat.le_refl _))
  have HF4 := hide (ff_below (unhide HF4) hb (Nat.le_refl _))
  clear hf hb HX4 hs4
  go_wp2_with fail
  refine (mk8_fld W5).mono ?_
  rintro e W6 ⟨n16, n26, l6, rfl, hf, hb⟩
  have HB6 : Hid (Below w.heap.size w W6) := (unhide HB5).trans (hb.mono (unhide HB5).size)
  have HX6 := hide (bx_below (unhide HX5) hb hs5)
  have hs6 : w.heap.size < W6.heap.size := Nat.lt_of_lt_of_le hs5 hb.size
  have HF6 := hide (ff_base (B' := w.heap.size + 1) hf hs5)
  have HF1 := hide (ff_below (unhide HF1) hb (Nat.le_refl _))
  have HF2 := hide (ff_below (unhide HF2) hb (Nat.le_refl _))
  have HF3 := hide (ff_below (unhide HF3) hb (Nat.le_refl _))
  have HF4 := hide (ff_below (unhide HF4) hb (Nat.le_refl _))
  have HF5 := hide (ff_below (unhide HF5) hb (Nat.le_refl _))
  clear hf hb HX5 hs5
  go_wp2_with fail
  refine (mk9_fld W6).mono ?_
  rintro e W7 ⟨n17, n27, l7, rfl, hf, hb⟩
  have HB7 : Hid (Below w.heap.size w W7) := (unhide HB6).trans (hb.mono (unhide HB6).size)
  have HX7 := hide (bx_below (unhide HX6) hb hs6)
  have hs7 : w.heap.size < W7.heap.size := Nat.lt_of_lt_of_le hs6 hb.size
  have HF7 := hide (ff_base (B' := w.heap.size + 1) hf hs6)
  have HF1 := hide (ff_below (unhide HF1) hb (Nat.le_refl _))
  have HF2 := hide (ff_below (unhide HF2) hb (Nat.le_refl _))
  have HF3 := hide (ff_below (unhide HF3) hb (Nat.le_refl _))
  have HF4 := hide (ff_below (unhide HF4) hb (Nat.le_refl _))
  have HF5 := hide (ff_below (unhide HF5) hb (Nat.le_refl _))
  have HF6 := hide (ff_below (unhide HF6) hb (Nat.le_refl _))
  clear hf hb HX6 hs6
  have c0 := bx_cell (unhide HX7) 0 rfl
  have c1 := bx_cell (unhide HX7) 1 rfl
  have f0 := bx_free (unhide HX7) 0 (by decide)
  have f1 := bx_free (unhide HX7) 1 (by decide)
  go_wp2_with fail
  clear c0 c1 f0 f1
  have hx2 := bx_set (j := 1) (u := (.slice (some ⟨W7.heap.size, 0, none⟩) 7 7)) (bx_set (j := 0) (u := .int .i64 1) (unhide HX7) (by simp)) (by simp)
  have hv : ((W7.setCell ⟨w.heap.size, 0, none⟩ (.int .i64 1)).setCell ⟨w.heap.size, 1, none⟩ (.slice (some ⟨W7.heap.size, 0, none⟩) 7 7)).heap.size = W7.heap.size := by simp
  have hbV : Below w.heap.size w ((W7.setCell ⟨w.heap.size, 0, none⟩ (.int .i64 1)).setCell ⟨w.heap.size, 1, none⟩ (.slice (some ⟨W7.heap.size, 0, none⟩) 7 7)) := ((unhide HB7).setCell (p := ⟨w.heap.size, 0, none⟩) (Nat.le_refl _) _).setCell (p := ⟨w.heap.size, 1, none⟩) (Nat.le_refl _) _
  have hf1 := ff_set (b := w.heap.size) (j := 1) (u := (.slice (some ⟨W7.heap.size, 0, none⟩) 7 7)) (ff_set (b := w.heap.size) (j := 0) (u := .int .i64 1) (unhide HF1) (by omega)) (by omega)
  have hf2 := ff_set (b := w.heap.size) (j := 1) (u := (.slice (some ⟨W7.heap.size, 0, none⟩) 7 7)) (ff_set (b := w.heap.size) (j := 0) (u := .int .i64 1) (unhide HF2) (by omega)) (by omega)
  have hf3 := ff_set (b := w.heap.size) (j := 1) (u := (.slice (some ⟨W7.heap.size, 0, none⟩) 7 7)) (ff_set (b := w.heap.size) (j := 0) (u := .int .i64 1) (unhide HF3) (by omega)) (by omega)
  have hf4 := ff_set (b := w.heap.size) (j := 1) (u := (.slice (some ⟨W7.heap.size, 0, none⟩) 7 7)) (ff_set (b := w.heap.size) (j := 0) (u := .int .i64 1) (unhide HF4) (by omega)) (by omega)
  have hf5 := ff_set (b := w.heap.size) (j := 1) (u := (.slice (some ⟨W7.heap.size, 0, none⟩) 7 7)) (ff_set (b := w.heap.size) (j := 0) (u := .int .i64 1) (unhide HF5) (by omega)) (by omega)
  have hf6 := ff_set (b := w.heap.size) (j := 1) (u := (.slice (some ⟨W7.heap.size, 0, none⟩) 7 7)) (ff_set (b := w.heap.size) (j := 0) (u := .int .i64 1) (unhide HF6) (by omega)) (by omega)
  have hf7 := ff_set (b := w.heap.size) (j := 1) (u := (.slice (some ⟨W7.heap.size, 0, none⟩) 7 7)) (ff_set (b := w.heap.size) (j := 0) (u := .int .i64 1) (unhide HF7) (by omega)) (by omega)
  generalize ((W7.setCell ⟨w.heap.size, 0, none⟩ (.int .i64 1)).setCell ⟨w.heap.size, 1, none⟩ (.slice (some ⟨W7.heap.size, 0, none⟩) 7 7)) = V at hx2 hv hbV hf1 hf2 hf3 hf4 hf5 hf6 hf7 ⊢
  have ho := fcs_made (B := w.heap.size) V [(⟨n11, n21, l1⟩ : Fc), (⟨n12, n22, l2⟩ : Fc), (⟨n13, n23, l3⟩ : Fc), (⟨n14, n24, l4⟩ : Fc), (⟨n15, n25, l5⟩ : Fc), (⟨n16, n26, l6⟩ : Fc), (⟨n17, n27, l7⟩ : Fc)] 80 hbV.size (by simp)
  rw [hv] at ho
  have hbA : Below V.heap.size V (V.alloc (Obj.cells #[.func (.func n11) #[] l1, .func (.func n21) #[] l1, .func (.func n12) #[] l2, .func (.func n22) #[] l2, .func (.func n13) #[] l3, .func (.func n23) #[] l3, .func (.func n14) #[] l4, .func (.func n24) #[] l4, .func (.func n15) #[] l5, .func (.func n25) #[] l5, .func (.func n16) #[] l6, .func (.func n26) #[] l6, .func (.func n17) #[] l7, .func (.func n27) #[] l7] 80)) := (Below.refl _ _).alloc (Nat.le_refl _) _
  have hx3 := bx_below hx2 hbA (by omega)
  have d0 := bx_cell hx3 0 rfl
  have d1 := bx_cell hx3 1 rfl
  have HF : Hid (ShEnd 1 w (.returned (.agg #[.int .i64 1, (.slice (some ⟨W7.heap.size, 0, none⟩) 7 7)])) (V.alloc (Obj.cells #[.func (.func n11) #[] l1, .func (.func n21) #[] l1, .func (.func n12) #[] l2, .func (.func n22) #[] l2, .func (.func n13) #[] l3, .func (.func n23) #[] l3, .func (.func n14) #[] l4, .func (.func n24) #[] l4, .func (.func n15) #[] l5, .func (.func n25) #[] l5, .func (.func n16) #[] l6, .func (.func n26) #[] l6, .func (.func n17) #[] l7, .func (.func n27) #[] l7] 80))) :=
    ⟨_, _, rfl, ho, ⟨ff_base (ff_below hf1 hbA (Nat.le_refl _)) (by omega), ff_base (ff_below hf2 hbA (Nat.le_refl _)) (by omega), ff_base (ff_below hf3 hbA (Nat.le_refl _)) (by omega), ff_base (ff_below hf4 hbA (Nat.le_refl _)) (by omega), ff_base (ff_below hf5 hbA (Nat.le_refl _)) (by omega), ff_base (ff_below hf6 hbA (Nat.le_refl _)) (by omega), ff_base (ff_below hf7 hbA (Nat.le_refl _)) (by omega), trivial⟩, hbV.alloc hbV.size _⟩
  clear ho hbA hx3 hx2
  generalize (V.alloc (Obj.cells #[.func (.func n11) #[] l1, .func (.func n21) #[] l1, .func (.func n12) #[] l2, .func (.func n22) #[] l2, .func (.func n13) #[] l3, .func (.func n23) #[] l3, .func (.func n14) #[] l4, .func (.func n24) #[] l4, .func (.func n15) #[] l5, .func (.func n25) #[] l5, .func (.func n16) #[] l6, .func (.func n26) #[] l6, .func (.func n17) #[] l7, .func (.func n27) #[] l7] 80)) = V9 at d0 d1 HF ⊢
  refine bodyPost_ret (v := .agg #[.int .i64 1, (.slice (some ⟨W7.heap.size, 0, none⟩) 7 7)]) ?_ rfl (unhide HF)
  simp [results, Tryz.f41, go_sem, d0, d1]
set_option maxRecDepth 100000 in
set_option maxHeartbeats 1600000 in
theorem shape2_any (w : World) : Calls Tryz.prog 41 #[.int .i64 2] w fun e w' => ShEnd 2 w e w' := by
  have HX0 := hide (bx_made w [.int .i64 0, .slice none 0 0] 70)
  have HB0 : Hid (Below w.heap.size w (w.alloc (Obj.cells #[.int .i64 0, .slice none 0 0] 70))) := (Below.refl _ _).alloc (Nat.le_refl _) _
  have hs0 : w.heap.size < (w.alloc (Obj.cells #[.int .i64 0, .slice none 0 0] 70)).heap.size := by simp
  go_enter Tryz.func41, Tryz.ntmps41
  go_wp2_with fail
  rw [show [Value.int .i64 0, Value.slice none 0 0].toArray = #[.int .i64 0, .slice none 0 0] from rfl] at HX0
  generalize (w.alloc (Obj.cells #[.int .i64 0, .slice none 0 0] 70)) = W0 at HX0 HB0 hs0 ⊢
  refine (mk1_fld W0).mono ?_
  rintro e W1 ⟨n11, n21, l1, rfl, hf, hb⟩
  have HB1 : Hid (Below w.heap.size w W1) := (unhide HB0).trans (hb.mono (unhide HB0).size)
  have HX1 := hide (bx_below (unhide HX0) hb hs0)
  have hs1 : w.heap.size < W1.heap.size := Nat.lt_of_lt_of_le hs0 hb.size
  have HF1 := hide (ff_base (B' := w.heap.size + 1) hf hs0)
  clear hf hb HX0 hs0
  go_wp2_with fail
  refine (mk2_fld W1).mono ?_
  rintro e W2 ⟨n12, n22, l2, rfl, hf, hb⟩
  have HB2 : Hid (Below w.heap.size w W2) := (unhide HB1).trans (hb.mono (unhide HB1).size)
  have HX2 := hide (bx_below (unhide HX1) hb hs1)
  have hs2 : w.heap.size < W2.heap.size := Nat.lt_of_lt_of_le hs1 hb.size
  have HF2 := hide (ff_base (B' := w.heap.size + 1) hf hs1)
  have HF1 := hide (ff_below (unhide HF1) hb (Nat.le_refl _))
  clear hf hb HX1 hs1
  go_wp2_with fail
  refine (mk3_fld W2).mono ?_
  rintro e W3 ⟨n13, n23, l3, rfl, hf, hb⟩
  have HB3 : Hid (Below w.heap.size w W3) := (unhide HB2).trans (hb.mono (unhide HB2).size)
  have HX3 := hide (bx_below (unhide HX2) hb hs2)
  have hs3 : w.heap.size < W3.heap.size := Nat.lt_of_lt_of_le hs2 hb.size
  have HF3 := hide (ff_base (B' := w.heap.size + 1) hf hs2)
  have HF1 := hide (ff_below (unhide HF1) hb (Nat.le_refl _))
  have HF2 := hide (ff_below (unhide HF2) hb (Nat.le_refl _))
  clear hf hb HX2 hs2
  go_wp2_with fail
  refine (mk4_fld W3).mono ?_
  rintro e W4 ⟨n14, n24, l4, rfl, hf, hb⟩
  have HB4 : Hid (Below w.heap.size w W4) := (unhide HB3).trans (hb.mono (unhide HB3).size)
  have HX4 := hide (bx_below (unhide HX3) hb hs3)
  have hs4 : w.heap.size < W4.heap.size := Nat.lt_of_lt_of_le hs3 hb.size
  have HF4 := hide (ff_base (B' := w.heap.size + 1) hf hs3)
  have HF1 := hide (ff_below (unhide HF1) hb (Nat.le_refl _))
  have HF2 := hide (ff_below (unhide HF2) hb (Nat.le_refl _))
  have HF3 := hide (ff_below (unhide HF3) hb (Nat.le_refl _))
  clear hf hb HX3 hs3
  go_wp2_with fail
  refine (mk5_fld W4).mono ?_
  rintro e W5 ⟨n15, n25, l5, rfl, hf, hb⟩
  have HB5 : Hid (Below w.heap.size w W5) := (unhide HB4).trans (hb.mono (unhide HB4).size)
  have HX5 := hide (bx_below (unhide HX4) hb hs4)
  have hs5 : w.heap.size < W5.heap.size := Nat.lt_of_lt_of_le hs4 hb.size
  have HF5 := hide (ff_base (B' := w.heap.size + 1) hf hs4)
  have HF1 := hide (ff_below (unhide HF1) hb (Nat.le_refl _))
  have HF2 := hide (ff_below (unhide HF2) hb (Nat.le_refl _))
  have HF3 := hide (ff_below (unhide HF3) hb (Nat.le_refl _))
  have HF4 := hide (ff_below (unhide HF4) hb (Nat.le_refl _))
  clear hf hb HX4 hs4
  go_wp2_with fail
  refine (mk6_fld W5).mono ?_
  rintro e W6 ⟨n16, n26, l6, rfl, hf, hb⟩
  have HB6 : Hid (Below w.heap.size w W6) := (unhide HB5).trans (hb.mono (unhide HB5).size)
  have HX6 := hide (bx_below (unhide HX5) hb hs5)
  have hs6 : w.heap.size < W6.heap.size := Nat.lt_of_lt_of_le hs5 hb.size
  have HF6 := hide (ff_base (B' := w.heap.size + 1) hf hs5)
  have HF1 := hide (ff_below (unhide HF1) hb (Nat.le_refl _))
  have HF2 := hide (ff_below (unhide HF2) hb (Nat.le_refl _))
  have HF3 := hide (ff_below (unhide HF3) hb (Nat.le_refl _))
  have HF4 := hide (ff_below (unhide HF4) hb (Nat.le_refl _))
  have HF5 := hide (ff_below (unhide HF5) hb (Nat.le_refl _))
  clear hf hb HX5 hs5
  go_wp2_with fail
  refine (mk7_fld W6).mono ?_
  rintro e W7 ⟨n17, n27, l7, rfl, hf, hb⟩
  have HB7 : Hid (Below w.heap.size w W7) := (unhide HB6).trans (hb.mono (unhide HB6).size)
  have HX7 := hide (bx_below (unhide HX6) hb hs6)
  have hs7 : w.heap.size < W7.heap.size := Nat.lt_of_lt_of_le hs6 hb.size
  have HF7 := hide (ff_base (B' := w.heap.size + 1) hf hs6)
  have HF1 := hide (ff_below (unhide HF1) hb (Nat.le_refl _))
  have HF2 := hide (ff_below (unhide HF2) hb (Nat.le_refl _))
  have HF3 := hide (ff_below (unhide HF3) hb (Nat.le_refl _))
  have HF4 := hide (ff_below (unhide HF4) hb (Nat.le_refl _))
  have HF5 := hide (ff_below (unhide HF5) hb (Nat.le_refl _))
  have HF6 := hide (ff_below (unhide HF6) hb (Nat.le_refl _))
  clear hf hb HX6 hs6
  go_wp2_with fail
  refine (mk8_fld W7).mono ?_
  rintro e W8 ⟨n18, n28, l8, rfl, hf, hb⟩
  have HB8 : Hid (Below w.heap.size w W8) := (unhide HB7).trans (hb.mono (unhide HB7).size)
  have HX8 := hide (bx_below (unhide HX7) hb hs7)
  have hs8 : w.heap.size < W8.heap.size := Nat.lt_of_lt_of_le hs7 hb.size
  have HF8 := hide (ff_base (B' := w.heap.size + 1) hf hs7)
  have HF1 := hide (ff_below (unhide HF1) hb (Nat.le_refl _))
  have HF2 := hide (ff_below (unhide HF2) hb (Nat.le_refl _))
  have HF3 := hide (ff_below (unhide HF3) hb (Nat.le_refl _))
  have HF4 := hide (ff_below (unhide HF4) hb (Nat.le_refl _))
  have HF5 := hide (ff_below (unhide HF5) hb (Nat.le_refl _))
  have HF6 := hide (ff_below (unhide HF6) hb (Nat.le_refl _))
  have HF7 := hide (ff_below (unhide HF7) hb (Nat.le_refl _))
  clear hf hb HX7 hs7
  go_wp2_with fail
  refine (mk13_fld W8).mono ?_
  rintro e W9 ⟨n19, n29, l9, rfl, hf, hb⟩
  have HB9 : Hid (Below w.heap.size w W9) := (unhide HB8).trans (hb.mono (unhide HB8).size)
  have HX9 := hide (bx_below (unhide HX8) hb hs8)
  have hs9 : w.heap.size < W9.heap.size := Nat.lt_of_lt_of_le hs8 hb.size
  have HF9 := hide (ff_base (B' := w.heap.size + 1) hf hs8)
  have HF1 := hide (ff_below (unhide HF1) hb (Nat.le_refl _))
  have HF2 := hide (ff_below (unhide HF2) hb (Nat.le_refl _))
  have HF3 := hide (ff_below (unhide HF3) hb (Nat.le_refl _))
  have HF4 := hide (ff_below (unhide HF4) hb (Nat.le_refl _))
  have HF5 := hide (ff_below (unhide HF5) hb (Nat.le_refl _))
  have HF6 := hide (ff_below (unhide HF6) hb (Nat.le_refl _))
  have HF7 := hide (ff_below (unhide HF7) hb (Nat.le_refl _))
  have HF8 := hide (ff_below (unhide HF8) hb (Nat.le_refl _))
  clear hf hb HX8 hs8
  have c0 := bx_cell (unhide HX9) 0 rfl
  have c1 := bx_cell (unhide HX9) 1 rfl
  have f0 := bx_free (unhide HX9) 0 (by decide)
  have f1 := bx_free (unhide HX9) 1 (by decide)
  go_wp2_with fail
  clear c0 c1 f0 f1
  have hx2 := bx_set (j := 1) (u := (.slice (some ⟨W9.heap.size, 0, none⟩) 9 9)) (bx_set (j := 0) (u := .int .i64 0) (unhide HX9) (by simp)) (by simp)
  have hv : ((W9.setCell ⟨w.heap.size, 0, none⟩ (.int .i64 0)).setCell ⟨w.heap.size, 1, none⟩ (.slice (some ⟨W9.heap.size, 0, none⟩) 9 9)).heap.size = W9.heap.size := by simp
  have hbV : Below w.heap.size w ((W9.setCell ⟨w.heap.size, 0, none⟩ (.int .i64 0)).setCell ⟨w.heap.size, 1, none⟩ (.slice (some ⟨W9.heap.size, 0, none⟩) 9 9)) := ((unhide HB9).setCell (p := ⟨w.heap.size, 0, none⟩) (Nat.le_refl _) _).setCell (p := ⟨w.heap.size, 1, none⟩) (Nat.le_refl _) _
  have hf1 := ff_set (b := w.heap.size) (j := 1) (u := (.slice (some ⟨W9.heap.size, 0, none⟩) 9 9)) (ff_set (b := w.heap.size) (j := 0) (u := .int .i64 0) (unhide HF1) (by omega)) (by omega)
  have hf2 := ff_set (b := w.heap.size) (j := 1) (u := (.slice (some ⟨W9.heap.size, 0, none⟩) 9 9)) (ff_set (b := w.heap.size) (j := 0) (u := .int .i64 0) (unhide HF2) (by omega)) (by omega)
  have hf3 := ff_set (b := w.heap.size) (j := 1) (u := (.slice (some ⟨W9.heap.size, 0, none⟩) 9 9)) (ff_set (b := w.heap.size) (j := 0) (u := .int .i64 0) (unhide HF3) (by omega)) (by omega)
  have hf4 := ff_set (b := w.heap.size) (j := 1) (u := (.slice (some ⟨W9.heap.size, 0, none⟩) 9 9)) (ff_set (b := w.heap.size) (j := 0) (u := .int .i64 0) (unhide HF4) (by omega)) (by omega)
  have hf5 := ff_set (b := w.heap.size) (j := 1) (u := (.slice (some ⟨W9.heap.size, 0, none⟩) 9 9)) (ff_set (b := w.heap.size) (j := 0) (u := .int .i64 0) (unhide HF5) (by omega)) (by omega)
  have hf6 := ff_set (b := w.heap.size) (j := 1) (u := (.slice (some ⟨W9.heap.size, 0, none⟩) 9 9)) (ff_set (b := w.heap.size) (j := 0) (u := .int .i64 0) (unhide HF6) (by omega)) (by omega)
  have hf7 := ff_set (b := w.heap.size) (j := 1) (u := (.slice (some ⟨W9.heap.size, 0, none⟩) 9 9)) (ff_set (b := w.heap.size) (j := 0) (u := .int .i64 0) (unhide HF7) (by omega)) (by omega)
  have hf8 := ff_set (b := w.heap.size) (j := 1) (u := (.slice (some ⟨W9.heap.size, 0, none⟩) 9 9)) (ff_set (b := w.heap.size) (j := 0) (u := .int .i64 0) (unhide HF8) (by omega)) (by omega)
  have hf9 := ff_set (b := w.heap.size) (j := 1) (u := (.slice (some ⟨W9.heap.size, 0, none⟩) 9 9)) (ff_set (b := w.heap.size) (j := 0) (u := .int .i64 0) (unhide HF9) (by omega)) (by omega)
  generalize ((W9.setCell ⟨w.heap.size, 0, none⟩ (.int .i64 0)).setCell ⟨w.heap.size, 1, none⟩ (.slice (some ⟨W9.heap.size, 0, none⟩) 9 9)) = V at hx2 hv hbV hf1 hf2 hf3 hf4 hf5 hf6 hf7 hf8 hf9 ⊢
  have ho := fcs_made (B := w.heap.size) V [(⟨n11, n21, l1⟩ : Fc), (⟨n12, n22, l2⟩ : Fc), (⟨n13, n23, l3⟩ : Fc), (⟨n14, n24, l4⟩ : Fc), (⟨n15, n25, l5⟩ : Fc), (⟨n16, n26, l6⟩ : Fc), (⟨n17, n27, l7⟩ : Fc), (⟨n18, n28, l8⟩ : Fc), (⟨n19, n29, l9⟩ : Fc)] 80 hbV.size (by simp)
  rw [hv] at ho
  have hbA : Below V.heap.size V (V.alloc (Obj.cells #[.func (.func n11) #[] l1, .func (.func n21) #[] l1, .func (.func n12) #[] l2, .func (.func n22) #[] l2, .func (.func n13) #[] l3, .func (.func n23) #[] l3, .func (.func n14) #[] l4, .func (.func n24) #[] l4, .func (.func n15) #[] l5, .func (.func n25) #[] l5, .func (.func n16) #[] l6, .func (.func n26) #[] l6, .func (.func n17) #[] l7, .func (.func n27) #[] l7, .func (.func n18) #[] l8, .func (.func n28) #[] l8, .func (.func n19) #[] l9, .func (.func n29) #[] l9] 80)) := (Below.refl _ _).alloc (Nat.le_refl _) _
  have hx3 := bx_below hx2 hbA (by omega)
  have d0 := bx_cell hx3 0 rfl
  have d1 := bx_cell hx3 1 rfl
  have HF : Hid (ShEnd 2 w (.returned (.agg #[.int .i64 0, (.slice (some ⟨W9.heap.size, 0, none⟩) 9 9)])) (V.alloc (Obj.cells #[.func (.func n11) #[] l1, .func (.func n21) #[] l1, .func (.func n12) #[] l2, .func (.func n22) #[] l2, .func (.func n13) #[] l3, .func (.func n23) #[] l3, .func (.func n14) #[] l4, .func (.func n24) #[] l4, .func (.func n15) #[] l5, .func (.func n25) #[] l5, .func (.func n16) #[] l6, .func (.func n26) #[] l6, .func (.func n17) #[] l7, .func (.func n27) #[] l7, .func (.func n18) #[] l8, .func (.func n28) #[] l8, .func (.func n19) #[] l9, .func (.func n29) #[] l9] 80))) :=
    ⟨_, _, rfl, ho, ⟨ff_base (ff_below hf1 hbA (Nat.le_refl _)) (by omega), ff_base (ff_below hf2 hbA (Nat.le_refl _)) (by omega), ff_base (ff_below hf3 hbA (Nat.le_refl _)) (by omega), ff_base (ff_below hf4 hbA (Nat.le_refl _)) (by omega), ff_base (ff_below hf5 hbA (Nat.le_refl _)) (by omega), ff_base (ff_below hf6 hbA (Nat.le_refl _)) (by omega), ff_base (ff_below hf7 hbA (Nat.le_refl _)) (by omega), ff_base (ff_below hf8 hbA (Nat.le_refl _)) (by omega), ff_base (ff_below hf9 hbA (Nat.le_refl _)) (by omega), trivial⟩, hbV.alloc hbV.size _⟩
  clear ho hbA hx3 hx2
  generalize (V.alloc (Obj.cells #[.func (.func n11) #[] l1, .func (.func n21) #[] l1, .func (.func n12) #[] l2, .func (.func n22) #[] l2, .func (.func n13) #[] l3, .func (.func n23) #[] l3, .func (.func n14) #[] l4, .func (.func n24) #[] l4, .func (.func n15) #[] l5, .func (.func n25) #[] l5, .func (.func n16) #[] l6, .func (.func n26) #[] l6, .func (.func n17) #[] l7, .func (.func n27) #[] l7, .func (.func n18) #[] l8, .func (.func n28) #[] l8, .func (.func n19) #[] l9, .func (.func n29) #[] l9] 80)) = V9 at d0 d1 HF ⊢
  refine bodyPost_ret (v := .agg #[.int .i64 0, (.slice (some ⟨W9.heap.size, 0, none⟩) 9 9)]) ?_ rfl (unhide HF)
  simp [results, Tryz.f41, go_sem, d0, d1]
set_option maxRecDepth 100000 in
set_option maxHeartbeats 1600000 in
theorem shape3_any (w : World) : Calls Tryz.prog 41 #[.int .i64 3] w fun e w' => ShEnd 3 w e w' := by
  have HX0 := hide (bx_made w [.int .i64 0, .slice none 0 0] 70)
  have HB0 : Hid (Below w.heap.size w (w.alloc (Obj.cells #[.int .i64 0, .slice none 0 0] 70))) := (Below.refl _ _).alloc (Nat.le_refl _) _
  have hs0 : w.heap.size < (w.alloc (Obj.cells #[.int .i64 0, .slice none 0 0] 70)).heap.size := by simp
  go_enter Tryz.func41, Tryz.ntmps41
  go_wp2_with fail
  rw [show [Value.int .i64 0, Value.slice none 0 0].toArray = #[.int .i64 0, .slice none 0 0] from rfl] at HX0
  generalize (w.alloc (Obj.cells #[.int .i64 0, .slice none 0 0] 70)) = W0 at HX0 HB0 hs0 ⊢
  refine (mk9_fld W0).mono ?_
  rintro e W1 ⟨n11, n21, l1, rfl, hf, hb⟩
  have HB1 : Hid (Below w.heap.size w W1) := (unhide HB0).trans (hb.mono (unhide HB0).size)
  have HX1 := hide (bx_below (unhide HX0) hb hs0)
  have hs1 : w.heap.size < W1.heap.size := Nat.lt_of_lt_of_le hs0 hb.size
  have HF1 := hide (ff_base (B' := w.heap.size + 1) hf hs0)
  clear hf hb HX0 hs0
  go_wp2_with fail
  refine (mk10_fld W1).mono ?_
  rintro e W2 ⟨n12, n22, l2, rfl, hf, hb⟩
  have HB2 : Hid (Below w.heap.size w W2) := (unhide HB1).trans (hb.mono (unhide HB1).size)
  have HX2 := hide (bx_below (unhide HX1) hb hs1)
  have hs2 : w.heap.size < W2.heap.size := Nat.lt_of_lt_of_le hs1 hb.size
  have HF2 := hide (ff_base (B' := w.heap.size + 1) hf hs1)
  have HF1 := hide (ff_below (unhide HF1) hb (Nat.le_refl _))
  clear hf hb HX1 hs1
  go_wp2_with fail
  refine (mk11_fld W2).mono ?_
  rintro e W3 ⟨n13, n23, l3, rfl, hf, hb⟩
  have HB3 : Hid (Below w.heap.size w W3) := (unhide HB2).trans (hb.mono (unhide HB2).size)
  have HX3 := hide (bx_below (unhide HX2) hb hs2)
  have hs3 : w.heap.size < W3.heap.size := Nat.lt_of_lt_of_le hs2 hb.size
  have HF3 := hide (ff_base (B' := w.heap.size + 1) hf hs2)
  have HF1 := hide (ff_below (unhide HF1) hb (Nat.le_refl _))
  have HF2 := hide (ff_below (unhide HF2) hb (Nat.le_refl _))
  clear hf hb HX2 hs2
  go_wp2_with fail
  refine (mk12_fld W3).mono ?_
  rintro e W4 ⟨n14, n24, l4, rfl, hf, hb⟩
  have HB4 : Hid (Below w.heap.size w W4) := (unhide HB3).trans (hb.mono (unhide HB3).size)
  have HX4 := hide (bx_below (unhide HX3) hb hs3)
  have hs4 : w.heap.size < W4.heap.size := Nat.lt_of_lt_of_le hs3 hb.size
  have HF4 := hide (ff_base (B' := w.heap.size + 1) hf hs3)
  have HF1 := hide (ff_below (unhide HF1) hb (Nat.le_refl _))
  have HF2 := hide (ff_below (unhide HF2) hb (Nat.le_refl _))
  have HF3 := hide (ff_below (unhide HF3) hb (Nat.le_refl _))
  clear hf hb HX3 hs3
  have c0 := bx_cell (unhide HX4) 0 rfl
  have c1 := bx_cell (unhide HX4) 1 rfl
  have f0 := bx_free (unhide HX4) 0 (by decide)
  have f1 := bx_free (unhide HX4) 1 (by decide)
  go_wp2_with fail
  clear c0 c1 f0 f1
  have hx2 := bx_set (j := 1) (u := (.slice (some ⟨W4.heap.size, 0, none⟩) 4 4)) (bx_set (j := 0) (u := .int .i64 0) (unhide HX4) (by simp)) (by simp)
  have hv : ((W4.setCell ⟨w.heap.size, 0, none⟩ (.int .i64 0)).setCell ⟨w.heap.size, 1, none⟩ (.slice (some ⟨W4.heap.size, 0, none⟩) 4 4)).heap.size = W4.heap.size := by simp
  have hbV : Below w.heap.size w ((W4.setCell ⟨w.heap.size, 0, none⟩ (.int .i64 0)).setCell ⟨w.heap.size, 1, none⟩ (.slice (some ⟨W4.heap.size, 0, none⟩) 4 4)) := ((unhide HB4).setCell (p := ⟨w.heap.size, 0, none⟩) (Nat.le_refl _) _).setCell (p := ⟨w.heap.size, 1, none⟩) (Nat.le_refl _) _
  have hf1 := ff_set (b := w.heap.size) (j := 1) (u := (.slice (some ⟨W4.heap.size, 0, none⟩) 4 4)) (ff_set (b := w.heap.size) (j := 0) (u := .int .i64 0) (unhide HF1) (by omega)) (by omega)
  have hf2 := ff_set (b := w.heap.size) (j := 1) (u := (.slice (some ⟨W4.heap.size, 0, none⟩) 4 4)) (ff_set (b := w.heap.size) (j := 0) (u := .int .i64 0) (unhide HF2) (by omega)) (by omega)
  have hf3 := ff_set (b := w.heap.size) (j := 1) (u := (.slice (some ⟨W4.heap.size, 0, none⟩) 4 4)) (ff_set (b := w.heap.size) (j := 0) (u := .int .i64 0) (unhide HF3) (by omega)) (by omega)
  have hf4 := ff_set (b := w.heap.size) (j := 1) (u := (.slice (some ⟨W4.heap.size, 0, none⟩) 4 4)) (ff_set (b := w.heap.size) (j := 0) (u := .int .i64 0) (unhide HF4) (by omega)) (by omega)
  generalize ((W4.setCell ⟨w.heap.size, 0, none⟩ (.int .i64 0)).setCell ⟨w.heap.size, 1, none⟩ (.slice (some ⟨W4.heap.size, 0, none⟩) 4 4)) = V at hx2 hv hbV hf1 hf2 hf3 hf4 ⊢
  have ho := fcs_made (B := w.heap.size) V [(⟨n11, n21, l1⟩ : Fc), (⟨n12, n22, l2⟩ : Fc), (⟨n13, n23, l3⟩ : Fc), (⟨n14, n24, l4⟩ : Fc)] 80 hbV.size (by simp)
  rw [hv] at ho
  have hbA : Below V.heap.size V (V.alloc (Obj.cells #[.func (.func n11) #[] l1, .func (.func n21) #[] l1, .func (.func n12) #[] l2, .func (.func n22) #[] l2, .func (.func n13) #[] l3, .func (.func n23) #[] l3, .func (.func n14) #[] l4, .func (.func n24) #[] l4] 80)) := (Below.refl _ _).alloc (Nat.le_refl _) _
  have hx3 := bx_below hx2 hbA (by omega)
  have d0 := bx_cell hx3 0 rfl
  have d1 := bx_cell hx3 1 rfl
  have HF : Hid (ShEnd 3 w (.returned (.agg #[.int .i64 0, (.slice (some ⟨W4.heap.size, 0, none⟩) 4 4)])) (V.alloc (Obj.cells #[.func (.func n11) #[] l1, .func (.func n21) #[] l1, .func (.func n12) #[] l2, .func (.func n22) #[] l2, .func (.func n13) #[] l3, .func (.func n23) #[] l3, .func (.func n14) #[] l4, .func (.func n24) #[] l4] 80))) :=
    ⟨_, _, rfl, ho, ⟨ff_base (ff_below hf1 hbA (Nat.le_refl _)) (by omega), ff_base (ff_below hf2 hbA (Nat.le_refl _)) (by omega), ff_base (ff_below hf3 hbA (Nat.le_refl _)) (by omega), ff_base (ff_below hf4 hbA (Nat.le_refl _)) (by omega), trivial⟩, hbV.alloc hbV.size _⟩
  clear ho hbA hx3 hx2
  generalize (V.alloc (Obj.cells #[.func (.func n11) #[] l1, .func (.func n21) #[] l1, .func (.func n12) #[] l2, .func (.func n22) #[] l2, .func (.func n13) #[] l3, .func (.func n23) #[] l3, .func (.func n14) #[] l4, .func (.func n24) #[] l4] 80)) = V9 at d0 d1 HF ⊢
  refine bodyPost_ret (v := .agg #[.int .i64 0, (.slice (some ⟨W4.heap.size, 0, none⟩) 4 4)]) ?_ rfl (unhide HF)
  simp [results, Tryz.f41, go_sem, d0, d1]
set_option maxRecDepth 100000 in
set_option maxHeartbeats 1600000 in
theorem shape4_any (w : World) : Calls Tryz.prog 41 #[.int .i64 4] w fun e w' => ShEnd 4 w e w' := by
  have HX0 := hide (bx_made w [.int .i64 0, .slice none 0 0] 70)
  have HB0 : Hid (Below w.heap.size w (w.alloc (Obj.cells #[.int .i64 0, .slice none 0 0] 70))) := (Below.refl _ _).alloc (Nat.le_refl _) _
  have hs0 : w.heap.size < (w.alloc (Obj.cells #[.int .i64 0, .slice none 0 0] 70)).heap.size := by simp
  go_enter Tryz.func41, Tryz.ntmps41
  go_wp2_with fail
  rw [show [Value.int .i64 0, Value.slice none 0 0].toArray = #[.int .i64 0, .slice none 0 0] from rfl] at HX0
  generalize (w.alloc (Obj.cells #[.int .i64 0, .slice none 0 0] 70)) = W0 at HX0 HB0 hs0 ⊢
  refine (mk9_fld W0).mono ?_
  rintro e W1 ⟨n11, n21, l1, rfl, hf, hb⟩
  have HB1 : Hid (Below w.heap.size w W1) := (unhide HB0).trans (hb.mono (unhide HB0).size)
  have HX1 := hide (bx_below (unhide HX0) hb hs0)
  have hs1 : w.heap.size < W1.heap.size := Nat.lt_of_lt_of_le hs0 hb.size
  have HF1 := hide (ff_base (B' := w.heap.size + 1) hf hs0)
  clear hf hb HX0 hs0
  go_wp2_with fail
  refine (mk11_fld W1).mono ?_
  rintro e W2 ⟨n12, n22, l2, rfl, hf, hb⟩
  have HB2 : Hid (Below w.heap.size w W2) := (unhide HB1).trans (hb.mono (unhide HB1).size)
  have HX2 := hide (bx_below (unhide HX1) hb hs1)
  have hs2 : w.heap.size < W2.heap.size := Nat.lt_of_lt_of_le hs1 hb.size
  have HF2 := hide (ff_base (B' := w.heap.size + 1) hf hs1)
  have HF1 := hide (ff_below (unhide HF1) hb (Nat.le_refl _))
  clear hf hb HX1 hs1
  have c0 := bx_cell (unhide HX2) 0 rfl
  have c1 := bx_cell (unhide HX2) 1 rfl
  have f0 := bx_free (unhide HX2) 0 (by decide)
  have f1 := bx_free (unhide HX2) 1 (by decide)
  go_wp2_with fail
  clear c0 c1 f0 f1
  have hx2 := bx_set (j := 1) (u := (.slice (some ⟨W2.heap.size, 0, none⟩) 2 2)) (bx_set (j := 0) (u := .int .i64 0) (unhide HX2) (by simp)) (by simp)
  have hv : ((W2.setCell ⟨w.heap.size, 0, none⟩ (.int .i64 0)).setCell ⟨w.heap.size, 1, none⟩ (.slice (some ⟨W2.heap.size, 0, none⟩) 2 2)).heap.size = W2.heap.size := by simp
  have hbV : Below w.heap.size w ((W2.setCell ⟨w.heap.size, 0, none⟩ (.int .i64 0)).setCell ⟨w.heap.size, 1, none⟩ (.slice (some ⟨W2.heap.size, 0, none⟩) 2 2)) := ((unhide HB2).setCell (p := ⟨w.heap.size, 0, none⟩) (Nat.le_refl _) _).setCell (p := ⟨w.heap.size, 1, none⟩) (Nat.le_refl _) _
  have hf1 := ff_set (b := w.heap.size) (j := 1) (u := (.slice (some ⟨W2.heap.size, 0, none⟩) 2 2)) (ff_set (b := w.heap.size) (j := 0) (u := .int .i64 0) (unhide HF1) (by omega)) (by omega)
  have hf2 := ff_set (b := w.heap.size) (j := 1) (u := (.slice (some ⟨W2.heap.size, 0, none⟩) 2 2)) (ff_set (b := w.heap.size) (j := 0) (u := .int .i64 0) (unhide HF2) (by omega)) (by omega)
  generalize ((W2.setCell ⟨w.heap.size, 0, none⟩ (.int .i64 0)).setCell ⟨w.heap.size, 1, none⟩ (.slice (some ⟨W2.heap.size, 0, none⟩) 2 2)) = V at hx2 hv hbV hf1 hf2 ⊢
  have ho := fcs_made (B := w.heap.size) V [(⟨n11, n21, l1⟩ : Fc), (⟨n12, n22, l2⟩ : Fc)] 80 hbV.size (by simp)
  rw [hv] at ho
  have hbA : Below V.heap.size V (V.alloc (Obj.cells #[.func (.func n11) #[] l1, .func (.func n21) #[] l1, .func (.func n12) #[] l2, .func (.func n22) #[] l2] 80)) := (Below.refl _ _).alloc (Nat.le_refl _) _
  have hx3 := bx_below hx2 hbA (by omega)
  have d0 := bx_cell hx3 0 rfl
  have d1 := bx_cell hx3 1 rfl
  have HF : Hid (ShEnd 4 w (.returned (.agg #[.int .i64 0, (.slice (some ⟨W2.heap.size, 0, none⟩) 2 2)])) (V.alloc (Obj.cells #[.func (.func n11) #[] l1, .func (.func n21) #[] l1, .func (.func n12) #[] l2, .func (.func n22) #[] l2] 80))) :=
    ⟨_, _, rfl, ho, ⟨ff_base (ff_below hf1 hbA (Nat.le_refl _)) (by omega), ff_base (ff_below hf2 hbA (Nat.le_refl _)) (by omega), trivial⟩, hbV.alloc hbV.size _⟩
  clear ho hbA hx3 hx2
  generalize (V.alloc (Obj.cells #[.func (.func n11) #[] l1, .func (.func n21) #[] l1, .func (.func n12) #[] l2, .func (.func n22) #[] l2] 80)) = V9 at d0 d1 HF ⊢
  refine bodyPost_ret (v := .agg #[.int .i64 0, (.slice (some ⟨W2.heap.size, 0, none⟩) 2 2)]) ?_ rfl (unhide HF)
  simp [results, Tryz.f41, go_sem, d0, d1]
set_option maxRecDepth 100000 in
set_option maxHeartbeats 1600000 in
theorem shape5_any (w : World) : Calls Tryz.prog 41 #[.int .i64 5] w fun e w' => ShEnd 5 w e w' := by
  have HX0 := hide (bx_made w [.int .i64 0, .slice none 0 0] 70)
  have HB0 : Hid (Below w.heap.size w (w.alloc (Obj.cells #[.int .i64 0, .slice none 0 0] 70))) := (Below.refl _ _).alloc (Nat.le_refl _) _
  have hs0 : w.heap.size < (w.alloc (Obj.cells #[.int .i64 0, .slice none 0 0] 70)).heap.size := by simp
  go_enter Tryz.func41, Tryz.ntmps41
  go_wp2_with fail
  rw [show [Value.int .i64 0, Value.slice none 0 0].toArray = #[.int .i64 0, .slice none 0 0] from rfl] at HX0
  generalize (w.alloc (Obj.cells #[.int .i64 0, .slice none 0 0] 70)) = W0 at HX0 HB0 hs0 ⊢
  refine (mk9_fld W0).mono ?_
  rintro e W1 ⟨n11, n21, l1, rfl, hf, hb⟩
  have HB1 : Hid (Below w.heap.size w W1) := (unhide HB0).trans (hb.mono (unhide HB0).size)
  have HX1 := hide (bx_below (unhide HX0) hb hs0)
  have hs1 : w.heap.size < W1.heap.size := Nat.lt_of_lt_of_le hs0 hb.size
  have HF1 := hide (ff_base (B' := w.heap.size + 1) hf hs0)
  clear hf hb HX0 hs0
  go_wp2_with fail
  refine (mk11_fld W1).mono ?_
  rintro e W2 ⟨n12, n22, l2, rfl, hf, hb⟩
  have HB2 : Hid (Below w.heap.size w W2) := (unhide HB1).trans (hb.mono (unhide HB1).size)
  have HX2 := hide (bx_below (unhide HX1) hb hs1)
  have hs2 : w.heap.size < W2.heap.size := Nat.lt_of_lt_of_le hs1 hb.size
  have HF2 := hide (ff_base (B' := w.heap.size + 1) hf hs1)
  have HF1 := hide (ff_below (unhide HF1) hb (Nat.le_refl _))
  clear hf hb HX1 hs1
  have c0 := bx_cell (unhide HX2) 0 rfl
  have c1 := bx_cell (unhide HX2) 1 rfl
  have f0 := bx_free (unhide HX2) 0 (by decide)
  have f1 := bx_free (unhide HX2) 1 (by decide)
  go_wp2_with fail
  clear c0 c1 f0 f1
  have hx2 := bx_set (j := 1) (u := (.slice (some ⟨W2.heap.size, 0, none⟩) 2 2)) (bx_set (j := 0) (u := .int .i64 0) (unhide HX2) (by simp)) (by simp)
  have hv : ((W2.setCell ⟨w.heap.size, 0, none⟩ (.int .i64 0)).setCell ⟨w.heap.size, 1, none⟩ (.slice (some ⟨W2.heap.size, 0, none⟩) 2 2)).heap.size = W2.heap.size := by simp
  have hbV : Below w.heap.size w ((W2.setCell ⟨w.heap.size, 0, none⟩ (.int .i64 0)).setCell ⟨w.heap.size, 1, none⟩ (.slice (some ⟨W2.heap.size, 0, none⟩) 2 2)) := ((unhide HB2).setCell (p := ⟨w.heap.size, 0, none⟩) (Nat.le_refl _) _).setCell (p := ⟨w.heap.size, 1, none⟩) (Nat.le_refl _) _
  have hf1 := ff_set (b := w.heap.size) (j := 1) (u := (.slice (some ⟨W2.heap.size, 0, none⟩) 2 2)) (ff_set (b := w.heap.size) (j := 0) (u := .int .i64 0) (unhide HF1) (by omega)) (by omega)
  have hf2 := ff_set (b := w.heap.size) (j := 1) (u := (.slice (some ⟨W2.heap.size, 0, none⟩) 2 2)) (ff_set (b := w.heap.size) (j := 0) (u := .int .i64 0) (unhide HF2) (by omega)) (by omega)
  generalize ((W2.setCell ⟨w.heap.size, 0, none⟩ (.int .i64 0)).setCell ⟨w.heap.size, 1, none⟩ (.slice (some ⟨W2.heap.size, 0, none⟩) 2 2)) = V at hx2 hv hbV hf1 hf2 ⊢
  have ho := fcs_made (B := w.heap.size) V [(⟨n11, n21, l1⟩ : Fc), (⟨n12, n22, l2⟩ : Fc)] 80 hbV.size (by simp)
  rw [hv] at ho
  have hbA : Below V.heap.size V (V.alloc (Obj.cells #[.func (.func n11) #[] l1, .func (.func n21) #[] l1, .func (.func n12) #[] l2, .func (.func n22) #[] l2] 80)) := (Below.refl _ _).alloc (Nat.le_refl _) _
  have hx3 := bx_below hx2 hbA (by omega)
  have d0 := bx_cell hx3 0 rfl
  have d1 := bx_cell hx3 1 rfl
  have HF : Hid (ShEnd 5 w (.returned (.agg #[.int .i64 0, (.slice (some ⟨W2.heap.size, 0, none⟩) 2 2)])) (V.alloc (Obj.cells #[.func (.func n11) #[] l1, .func (.func n21) #[] l1, .func (.func n12) #[] l2, .func (.func n22) #[] l2] 80))) :=
    ⟨_, _, rfl, ho, ⟨ff_base (ff_below hf1 hbA (Nat.le_refl _)) (by omega), ff_base (ff_below hf2 hbA (Nat.le_refl _)) (by omega), trivial⟩, hbV.alloc hbV.size _⟩
  clear ho hbA hx3 hx2
  generalize (V.alloc (Obj.cells #[.func (.func n11) #[] l1, .func (.func n21) #[] l1, .func (.func n12) #[] l2, .func (.func n22) #[] l2] 80)) = V9 at d0 d1 HF ⊢
  refine bodyPost_ret (v := .agg #[.int .i64 0, (.slice (some ⟨W2.heap.size, 0, none⟩) 2 2)]) ?_ rfl (unhide HF)
  simp [results, Tryz.f41, go_sem, d0, d1]
set_option maxRecDepth 100000 in
set_option maxHeartbeats 1600000 in
theorem shape6_any (w : World) : Calls Tryz.prog 41 #[.int .i64 6] w fun e w' => ShEnd 6 w e w' := by
  have HX0 := hide (bx_made w [.int .i64 0, .slice none 0 0] 70)
  have HB0 : Hid (Below w.heap.size w (w.alloc (Obj.cells #[.int .i64 0, .slice none 0 0] 70))) := (Below.refl _ _).alloc (Nat.le_refl _) _
  have hs0 : w.heap.size < (w.alloc (Obj.cells #[.int .i64 0, .slice none 0 0] 70)).heap.size := by simp
  go_enter Tryz.func41, Tryz.ntmps41
  go_wp2_with fail
  rw [show [Value.int .i64 0, Value.slice none 0 0].toArray = #[.int .i64 0, .slice none 0 0] from rfl] at HX0
  generalize (w.alloc (Obj.cells #[.int .i64 0, .slice none 0 0] 70)) = W0 at HX0 HB0 hs0 ⊢
  refine (mk9_fld W0).mono ?_
  rintro e W1 ⟨n11, n21, l1, rfl, hf, hb⟩
  have HB1 : Hid (Below w.heap.size w W1) := (unhide HB0).trans (hb.mono (unhide HB0).size)
  have HX1 := hide (bx_below (unhide HX0) hb hs0)
  have hs1 : w.heap.size < W1.heap.size := Nat.lt_of_lt_of_le hs0 hb.size
  have HF1 := hide (ff_base (B' := w.heap.size + 1) hf hs0)
  clear hf hb HX0 hs0
  go_wp2_with fail
  refine (mk11_fld W1).mono ?_
  rintro e W2 ⟨n12, n22, l2, rfl, hf, hb⟩
  have HB2 : Hid (Below w.heap.size w W2) := (unhide HB1).trans (hb.mono (unhide HB1).size)
  have HX2 := hide (bx_below (unhide HX1) hb hs1)
  have hs2 : w.heap.size < W2.heap.size := Nat.lt_of_lt_of_le hs1 hb.size
  have HF2 := hide (ff_base (B' := w.heap.size + 1) hf hs1)
  have HF1 := hide (ff_below (unhide HF1) hb (Nat.le_refl _))
  clear hf hb HX1 hs1
  have c0 := bx_cell (unhide HX2) 0 rfl
  have c1 := bx_cell (unhide HX2) 1 rfl
  have f0 := bx_free (unhide HX2) 0 (by decide)
  have f1 := bx_free (unhide HX2) 1 (by decide)
  go_wp2_with fail
  clear c0 c1 f0 f1
  have hx2 := bx_set (j := 1) (u := (.slice (some ⟨W2.heap.size, 0, none⟩) 2 2)) (bx_set (j := 0) (u := .int .i64 0) (unhide HX2) (by simp)) (by simp)
  have hv : ((W2.setCell ⟨w.heap.size, 0, none⟩ (.int .i64 0)).setCell ⟨w.heap.size, 1, none⟩ (.slice (some ⟨W2.heap.size, 0, none⟩) 2 2)).heap.size = W2.heap.size := by simp
  have hbV : Below w.heap.size w ((W2.setCell ⟨w.heap.size, 0, none⟩ (.int .i64 0)).setCell ⟨w.heap.size, 1, none⟩ (.slice (some ⟨W2.heap.size, 0, none⟩) 2 2)) := ((unhide HB2).setCell (p := ⟨w.heap.size, 0, none⟩) (Nat.le_refl _) _).setCell (p := ⟨w.heap.size, 1, none⟩) (Nat.le_refl _) _
  have hf1 := ff_set (b := w.heap.size) (j := 1) (u := (.slice (some ⟨W2.heap.size, 0, none⟩) 2 2)) (ff_set (b := w.heap.size) (j := 0) (u := .int .i64 0) (unhide HF1) (by omega)) (by omega)
  have hf2 := ff_set (b := w.heap.size) (j := 1) (u := (.slice (some ⟨W2.heap.size, 0, none⟩) 2 2)) (ff_set (b := w.heap.size) (j := 0) (u := .int .i64 0) (unhide HF2) (by omega)) (by omega)
  generalize ((W2.setCell ⟨w.heap.size, 0, none⟩ (.int .i64 0)).setCell ⟨w.heap.size, 1, none⟩ (.slice (some ⟨W2.heap.size, 0, none⟩) 2 2)) = V at hx2 hv hbV hf1 hf2 ⊢
  have ho := fcs_made (B := w.heap.size) V [(⟨n11, n21, l1⟩ : Fc), (⟨n12, n22, l2⟩ : Fc)] 80 hbV.size (by simp)
  rw [hv] at ho
  have hbA : Below V.heap.size V (V.alloc (Obj.cells #[.func (.func n11) #[] l1, .func (.func n21) #[] l1, .func (.func n12) #[] l2, .func (.func n22) #[] l2] 80)) := (Below.refl _ _).alloc (Nat.le_refl _) _
  have hx3 := bx_below hx2 hbA (by omega)
  have d0 := bx_cell hx3 0 rfl
  have d1 := bx_cell hx3 1 rfl
  have HF : Hid (ShEnd 6 w (.returned (.agg #[.int .i64 0, (.slice (some ⟨W2.heap.size, 0, none⟩) 2 2)])) (V.alloc (Obj.cells #[.func (.func n11) #[] l1, .func (.func n21) #[] l1, .func (.func n12) #[] l2, .func (.func n22) #[] l2] 80))) :=
    ⟨_, _, rfl, ho, ⟨ff_base (ff_below hf1 hbA (Nat.le_refl _)) (by omega), ff_base (ff_below hf2 hbA (Nat.le_refl _)) (by omega), trivial⟩, hbV.alloc hbV.size _⟩
  clear ho hbA hx3 hx2
  generalize (V.alloc (Obj.cells #[.func (.func n11) #[] l1, .func (.func n21) #[] l1, .func (.func n12) #[] l2, .func (.func n22) #[] l2] 80)) = V9 at d0 d1 HF ⊢
  refine bodyPost_ret (v := .agg #[.int .i64 0, (.slice (some ⟨W2.heap.size, 0, none⟩) 2 2)]) ?_ rfl (unhide HF)
  simp [results, Tryz.f41, go_sem, d0, d1]
set_option maxRecDepth 100000 in
set_option maxHeartbeats 1600000 in
theorem shape7_any (w : World) : Calls Tryz.prog 41 #[.int .i64 7] w fun e w' => ShEnd 7 w e w' := by
  have HX0 := hide (bx_made w [.int .i64 0, .slice none 0 0] 70)
  have HB0 : Hid (Below w.heap.size w (w.alloc (Obj.cells #[.int .i64 0, .slice none 0 0] 70))) := (Below.refl _ _).alloc (Nat.le_refl _) _
  have hs0 : w.heap.size < (w.alloc (Obj.cells #[.int .i64 0, .slice none 0 0] 70)).heap.size := by simp
  go_enter Tryz.func41, Tryz.ntmps41
  go_wp2_with fail
  rw [show [Value.int .i64 0, Value.slice none 0 0].toArray = #[.int .i64 0, .slice none 0 0] from rfl] at HX0
  generalize (w.alloc (Obj.cells #[.int .i64 0, .slice none 0 0] 70)) = W0 at HX0 HB0 hs0 ⊢
  refine (mk9_fld W0).mono ?_
  rintro e W1 ⟨n11, n21, l1, rfl, hf, hb⟩
  have HB1 : Hid (Below w.heap.size w W1) := (unhide HB0).trans (hb.mono (unhide HB0).size)
  have HX1 := hide (bx_below (unhide HX0) hb hs0)
  have hs1 : w.heap.size < W1.heap.size := Nat.lt_of_lt_of_le hs0 hb.size
  have HF1 := hide (ff_base (B' := w.heap.size + 1) hf hs0)
  clear hf hb HX0 hs0
  go_wp2_with fail
  refine (mk11_fld W1).mono ?_
  rintro e W2 ⟨n12, n22, l2, rfl, hf, hb⟩
  have HB2 : Hid (Below w.heap.size w W2) := (unhide HB1).trans (hb.mono (unhide HB1).size)
  have HX2 := hide (bx_below (unhide HX1) hb hs1)
  have hs2 : w.heap.size < W2.heap.size := Nat.lt_of_lt_of_le hs1 hb.size
  have HF2 := hide (ff_base (B' := w.heap.size + 1) hf hs1)
  have HF1 := hide (ff_below (unhide HF1) hb (Nat.le_refl _))
  clear hf hb HX1 hs1
  have c0 := bx_cell (unhide HX2) 0 rfl
  have c1 := bx_cell (unhide HX2) 1 rfl
  have f0 := bx_free (unhide HX2) 0 (by decide)
  have f1 := bx_free (unhide HX2) 1 (by decide)
  go_wp2_with fail
  clear c0 c1 f0 f1
  have hx2 := bx_set (j := 1) (u := (.slice (some ⟨W2.heap.size, 0, none⟩) 2 2)) (bx_set (j := 0) (u := .int .i64 0) (unhide HX2) (by simp)) (by simp)
  have hv : ((W2.setCell ⟨w.heap.size, 0, none⟩ (.int .i64 0)).setCell ⟨w.heap.size, 1, none⟩ (.slice (some ⟨W2.heap.size, 0, none⟩) 2 2)).heap.size = W2.heap.size := by simp
  have hbV : Below w.heap.size w ((W2.setCell ⟨w.heap.size, 0, none⟩ (.int .i64 0)).setCell ⟨w.heap.size, 1, none⟩ (.slice (some ⟨W2.heap.size, 0, none⟩) 2 2)) := ((unhide HB2).setCell (p := ⟨w.heap.size, 0, none⟩) (Nat.le_refl _) _).setCell (p := ⟨w.heap.size, 1, none⟩) (Nat.le_refl _) _
  have hf1 := ff_set (b := w.heap.size) (j := 1) (u := (.slice (some ⟨W2.heap.size, 0, none⟩) 2 2)) (ff_set (b := w.heap.size) (j := 0) (u := .int .i64 0) (unhide HF1) (by omega)) (by omega)
  have hf2 := ff_set (b := w.heap.size) (j := 1) (u := (.slice (some ⟨W2.heap.size, 0, none⟩) 2 2)) (ff_set (b := w.heap.size) (j := 0) (u := .int .i64 0) (unhide HF2) (by omega)) (by omega)
  generalize ((W2.setCell ⟨w.heap.size, 0, none⟩ (.int .i64 0)).setCell ⟨w.heap.size, 1, none⟩ (.slice (some ⟨W2.heap.size, 0, none⟩) 2 2)) = V at hx2 hv hbV hf1 hf2 ⊢
  have ho := fcs_made (B := w.heap.size) V [(⟨n11, n21, l1⟩ : Fc), (⟨n12, n22, l2⟩ : Fc)] 80 hbV.size (by simp)
  rw [hv] at ho
  have hbA : Below V.heap.size V (V.alloc (Obj.cells #[.func (.func n11) #[] l1, .func (.func n21) #[] l1, .func (.func n12) #[] l2, .func (.func n22) #[] l2] 80)) := (Below.refl _ _).alloc (Nat.le_refl _) _
  have hx3 := bx_below hx2 hbA (by omega)
  have d0 := bx_cell hx3 0 rfl
  have d1 := bx_cell hx3 1 rfl
  have HF : Hid (ShEnd 7 w (.returned (.agg #[.int .i64 0, (.slice (some ⟨W2.heap.size, 0, none⟩) 2 2)])) (V.alloc (Obj.cells #[.func (.func n11) #[] l1, .func (.func n21) #[] l1, .func (.func n12) #[] l2, .func (.func n22) #[] l2] 80))) :=
    ⟨_, _, rfl, ho, ⟨ff_base (ff_below hf1 hbA (Nat.le_refl _)) (by omega), ff_base (ff_below hf2 hbA (Nat.le_refl _)) (by omega), trivial⟩, hbV.alloc hbV.size _⟩
  clear ho hbA hx3 hx2
  generalize (V.alloc (Obj.cells #[.func (.func n11) #[] l1, .func (.func n21) #[] l1, .func (.func n12) #[] l2, .func (.func n22) #[] l2] 80)) = V9 at d0 d1 HF ⊢
  refine bodyPost_ret (v := .agg #[.int .i64 0, (.slice (some ⟨W2.heap.size, 0, none⟩) 2 2)]) ?_ rfl (unhide HF)
  simp [results, Tryz.f41, go_sem, d0, d1]
set_option maxRecDepth 100000 in
set_option maxHeartbeats 1600000 in
theorem shape8_any (w : World) : Calls Tryz.prog 41 #[.int .i64 8] w fun e w' => ShEnd 8 w e w' := by
  have HX0 := hide (bx_made w [.int .i64 0, .slice none 0 0] 70)
  have HB0 : Hid (Below w.heap.size w (w.alloc (Obj.cells #[.int .i64 0, .slice none 0 0] 70))) := (Below.refl _ _).alloc (Nat.le_refl _) _
  have hs0 : w.heap.size < (w.alloc (Obj.cells #[.int .i64 0, .slice none 0 0] 70)).heap.size := by simp
  go_enter Tryz.func41, Tryz.ntmps41
  go_wp2_with fail
  rw [show [Value.int .i64 0, Value.slice none 0 0].toArray = #[.int .i64 0, .slice none 0 0] from rfl] at HX0
  generalize (w.alloc (Obj.cells #[.int .i64 0, .slice none 0 0] 70)) = W0 at HX0 HB0 hs0 ⊢
  refine (mk11_fld W0).mono ?_
  rintro e W1 ⟨n11, n21, l1, rfl, hf, hb⟩
  have HB1 : Hid (Below w.heap.size w W1) := (unhide HB0).trans (hb.mono (unhide HB0).size)
  have HX1 := hide (bx_below (unhide HX0) hb hs0)
  have hs1 : w.heap.size < W1.heap.size := Nat.lt_of_lt_of_le hs0 hb.size
  have HF1 := hide (ff_base (B' := w.heap.size + 1) hf hs0)
  clear hf hb HX0 hs0
  have c0 := bx_cell (unhide HX1) 0 rfl
  have c1 := bx_cell (unhide HX1) 1 rfl
  have f0 := bx_free (unhide HX1) 0 (by decide)
  have f1 := bx_free (unhide HX1) 1 (by decide)
  go_wp2_with fail
  clear c0 c1 f0 f1
  have hx2 := bx_set (j := 1) (u := (.slice (some ⟨W1.heap.size, 0, none⟩) 1 1)) (bx_set (j := 0) (u := .int .i64 0) (unhide HX1) (by simp)) (by simp)
  have hv : ((W1.setCell ⟨w.heap.size, 0, none⟩ (.int .i64 0)).setCell ⟨w.heap.size, 1, none⟩ (.slice (some ⟨W1.heap.size, 0, none⟩) 1 1)).heap.size = W1.heap.size := by simp
  have hbV : Below w.heap.size w ((W1.setCell ⟨w.heap.size, 0, none⟩ (.int .i64 0)).setCell ⟨w.heap.size, 1, none⟩ (.slice (some ⟨W1.heap.size, 0, none⟩) 1 1)) := ((unhide HB1).setCell (p := ⟨w.heap.size, 0, none⟩) (Nat.le_refl _) _).setCell (p := ⟨w.heap.size, 1, none⟩) (Nat.le_refl _) _
  have hf1 := ff_set (b := w.heap.size) (j := 1) (u := (.slice (some ⟨W1.heap.size, 0, none⟩) 1 1)) (ff_set (b := w.heap.size) (j := 0) (u := .int .i64 0) (unhide HF1) (by omega)) (by omega)
  generalize ((W1.setCell ⟨w.heap.size, 0, none⟩ (.int .i64 0)).setCell ⟨w.heap.size, 1, none⟩ (.slice (some ⟨W1.heap.size, 0, none⟩) 1 1)) = V at hx2 hv hbV hf1 ⊢
  have ho := fcs_made (B := w.heap.size) V [(⟨n11, n21, l1⟩ : Fc)] 80 hbV.size (by simp)
  rw [hv] at ho
  have hbA : Below V.heap.size V (V.alloc (Obj.cells #[.func (.func n11) #[] l1, .func (.func n21) #[] l1] 80)) := (Below.refl _ _).alloc (Nat.le_refl _) _
  have hx3 := bx_below hx2 hbA (by omega)
  have d0 := bx_cell hx3 0 rfl
  have d1 := bx_cell hx3 1 rfl
  have HF : Hid (ShEnd 8 w (.returned (.agg #[.int .i64 0, (.slice (some ⟨W1.heap.size, 0, none⟩) 1 1)])) (V.alloc (Obj.cells #[.func (.func n11) #[] l1, .func (.func n21) #[] l1] 80))) :=
    ⟨_, _, rfl, ho, ⟨ff_base (ff_below hf1 hbA (Nat.le_refl _)) (by omega), trivial⟩, hbV.alloc hbV.size _⟩
  clear ho hbA hx3 hx2
  generalize (V.alloc (Obj.cells #[.func (.func n11) #[] l1, .func (.func n21) #[] l1] 80)) = V9 at d0 d1 HF ⊢
  refine bodyPost_ret (v := .agg #[.int .i64 0, (.slice (some ⟨W1.heap.size, 0, none⟩) 1 1)]) ?_ rfl (unhide HF)
  simp [results, Tryz.f41, go_sem, d0, d1]
set_option maxRecDepth 100000 in
set_option maxHeartbeats 1600000 in
theorem shape9_any (w : World) : Calls Tryz.prog 41 #[.int .i64 9] w fun e w' => ShEnd 9 w e w' := by
  have HX0 := hide (bx_made w [.int .i64 0, .slice none 0 0] 70)
  have HB0 : Hid (Below w.heap.size w (w.alloc (Obj.cells #[.int .i64 0, .slice none 0 0] 70))) := (Below.refl _ _).alloc (Nat.le_refl _) _
  have hs0 : w.heap.size < (w.alloc (Obj.cells #[.int .i64 0, .slice none 0 0] 70)).heap.size := by simp
  go_enter Tryz.func41, Tryz.ntmps41
  go_wp2_with fail
  rw [show [Value.int .i64 0, Value.slice none 0 0].toArray = #[.int .i64 0, .slice none 0 0] from rfl] at HX0
  generalize (w.alloc (Obj.cells #[.int .i64 0, .slice none 0 0] 70)) = W0 at HX0 HB0 hs0 ⊢
  refine (mk9_fld W0).mono ?_
  rintro e W1 ⟨n11, n21, l1, rfl, hf, hb⟩
  have HB1 : Hid (Below w.heap.size w W1) := (unhide HB0).trans (hb.mono (unhide HB0).size)
  have HX1 := hide (bx_below (unhide HX0) hb hs0)
  have hs1 : w.heap.size < W1.heap.size := Nat.lt_of_lt_of_le hs0 hb.size
  have HF1 := hide (ff_base (B' := w.heap.size + 1) hf hs0)
  clear hf hb HX0 hs0
  go_wp2_with fail
  refine (mk11_fld W1).mono ?_
  rintro e W2 ⟨n12, n22, l2, rfl, hf, hb⟩
  have HB2 : Hid (Below w.heap.size w W2) := (unhide HB1).trans (hb.mono (unhide HB1).size)
  have HX2 := hide (bx_below (unhide HX1) hb hs1)
  have hs2 : w.heap.size < W2.heap.size := Nat.lt_of_lt_of_le hs1 hb.size
  have HF2 := hide (ff_base (B' := w.heap.size + 1) hf hs1)
  have HF1 := hide (ff_below (unhide HF1) hb (Nat.le_refl _))
  clear hf hb HX1 hs1
  have c0 := bx_cell (unhide HX2) 0 rfl
  have c1 := bx_cell (unhide HX2) 1 rfl
  have f0 := bx_free (unhide HX2) 0 (by decide)
  have f1 := bx_free (unhide HX2) 1 (by decide)
  go_wp2_with fail
  clear c0 c1 f0 f1
  have hx2 := bx_set (j := 1) (u := (.slice (some ⟨W2.heap.size, 0, none⟩) 2 2)) (bx_set (j := 0) (u := .int .i64 0) (unhide HX2) (by simp)) (by simp)
  have hv : ((W2.setCell ⟨w.heap.size, 0, none⟩ (.int .i64 0)).setCell ⟨w.heap.size, 1, none⟩ (.slice (some ⟨W2.heap.size, 0, none⟩) 2 2)).heap.size = W2.heap.size := by simp
  have hbV : Below w.heap.size w ((W2.setCell ⟨w.heap.size, 0, none⟩ (.int .i64 0)).setCell ⟨w.heap.size, 1, none⟩ (.slice (some ⟨W2.heap.size, 0, none⟩) 2 2)) := ((unhide HB2).setCell (p := ⟨w.heap.size, 0, none⟩) (Nat.le_refl _) _).setCell (p := ⟨w.heap.size, 1, none⟩) (Nat.le_refl _) _
  have hf1 := ff_set (b := w.heap.size) (j := 1) (u := (.slice (some ⟨W2.heap.size, 0, none⟩) 2 2)) (ff_set (b := w.heap.size) (j := 0) (u := .int .i64 0) (unhide HF1) (by omega)) (by omega)
  have hf2 := ff_set (b := w.heap.size) (j := 1) (u := (.slice (some ⟨W2.heap.size, 0, none⟩) 2 2)) (ff_set (b := w.heap.size) (j := 0) (u := .int .i64 0) (unhide HF2) (by omega)) (by omega)
  generalize ((W2.setCell ⟨w.heap.size, 0, none⟩ (.int .i64 0)).setCell ⟨w.heap.size, 1, none⟩ (.slice (some ⟨W2.heap.size, 0, none⟩) 2 2)) = V at hx2 hv hbV hf1 hf2 ⊢
  have ho := fcs_made (B := w.heap.size) V [(⟨n11, n21, l1⟩ : Fc), (⟨n12, n22, l2⟩ : Fc)] 80 hbV.size (by simp)
  rw [hv] at ho
  have hbA : Below V.heap.size V (V.alloc (Obj.cells #[.func (.func n11) #[] l1, .func (.func n21) #[] l1, .func (.func n12) #[] l2, .func (.func n22) #[] l2] 80)) := (Below.refl _ _).alloc (Nat.le_refl _) _
  have hx3 := bx_below hx2 hbA (by omega)
  have d0 := bx_cell hx3 0 rfl
  have d1 := bx_cell hx3 1 rfl
  have HF : Hid (ShEnd 9 w (.returned (.agg #[.int .i64 0, (.slice (some ⟨W2.heap.size, 0, none⟩) 2 2)])) (V.alloc (Obj.cells #[.func (.func n11) #[] l1, .func (.func n21) #[] l1, .func (.func n12) #[] l2, .func (.func n22) #[] l2] 80))) :=
    ⟨_, _, rfl, ho, ⟨ff_base (ff_below hf1 hbA (Nat.le_refl _)) (by omega), ff_base (ff_below hf2 hbA (Nat.le_refl _)) (by omega), trivial⟩, hbV.alloc hbV.size _⟩
  clear ho hbA hx3 hx2
  generalize (V.alloc (Obj.cells #[.func (.func n11) #[] l1, .func (.func n21) #[] l1, .func (.func n12) #[] l2, .func (.func n22) #[] l2] 80)) = V9 at d0 d1 HF ⊢
  refine bodyPost_ret (v := .agg #[.int .i64 0, (.slice (some ⟨W2.heap.size, 0, none⟩) 2 2)]) ?_ rfl (unhide HF)
  simp [results, Tryz.f41, go_sem, d0, d1]
end Go.Proofs.YtmeekcdoajbjdaaGreatDoor
