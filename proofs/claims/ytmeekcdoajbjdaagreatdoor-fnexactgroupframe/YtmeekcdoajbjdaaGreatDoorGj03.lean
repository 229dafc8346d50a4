/-
  The fields of events, as the program makes them: proved by walking the functions.
-/
import Derived.Test.YtmeekcdoajbjdaaGreatDoorGj02
namespace Go.Proofs.YtmeekcdoajbjdaaGreatDoor
open Go.RowKit
set_option linter.unusedVariables false

/-- A field: its writer, its reader, and what both hold. -/
structure Fc where
  n1 : Nat
  n2 : Nat
  l : Array Value
def Fc.vs (c : Fc) : List Value := [.func (.func c.n1) #[] c.l, .func (.func c.n2) #[] c.l]
theorem Fc.len (c : Fc) : c.vs.length = 2 := rfl
/-- The function that tells a number's place in an event, by its cell. -/
def plc (o : Nat) : Nat := match o with
  | 1 => 76
  | 2 => 67
  | 3 => 68
  | 4 => 69
  | 5 => 70
  | 6 => 77
  | 9 => 75
  | 10 => 79
  | 11 => 80
  | 12 => 81
  | 13 => 78
  | _ => 0
/-- A field of a cell of an event. -/
def FF (W : World) (B o : Nat) (c : Fc) : Prop :=
  if o = 7 then c = ⟨71, 72, #[]⟩ else if o = 8 then c = ⟨73, 74, #[]⟩ else
    ∃ b, c = ⟨87, 88, #[.pointer (some ⟨b, 0, none⟩)]⟩ ∧ B ≤ b ∧ b < W.heap.size ∧ W.cell? ⟨b, 0, none⟩ = some (.func (.func (plc o)) #[] #[])
theorem ff_below {B C o : Nat} {W W' : World} {c : Fc} (h : FF W B o c) (hb : Below C W W') (hC : W.heap.size ≤ C) : FF W' B o c := by
  unfold FF at h ⊢
  split
  · rwa [if_pos ‹_›] at h
  · rw [if_neg ‹_›] at h
    split
    · rwa [if_pos ‹_›] at h
    · rw [if_neg ‹_›] at h
      obtain ⟨b, h1, h2, h3, h4⟩ := h
      exact ⟨b, h1, h2, Nat.lt_of_lt_of_le h3 hb.size, (hb.cell (p := ⟨b, 0, none⟩) (Nat.lt_of_lt_of_le h3 hC)).trans h4⟩
theorem ff_base {B B' o : Nat} {W : World} {c : Fc} (h : FF W B o c) (hB : B' ≤ B) : FF W B' o c := by
  unfold FF at h ⊢
  split
  · rwa [if_pos ‹_›] at h
  · rw [if_neg ‹_›] at h
    split
    · rwa [if_pos ‹_›] at h
    · rw [if_neg ‹_›] at h
      obtain ⟨b, h1, h2, h3, h4⟩ := h
      exact ⟨b, h1, Nat.le_trans hB h2, h3, h4⟩
/-- What a maker of a field answers. -/
def FEnd (o : Nat) (w : World) (e : Ending) (w' : World) : Prop := ∃ n1 n2 l, e = .returned (.agg #[.func (.func n1) #[] l, .func (.func n2) #[] l]) ∧ FF w' w.heap.size o ⟨n1, n2, l⟩ ∧ Below w.heap.size w w'
theorem sfn (a : Addr) (f : Nat) (l : Array Value) (m : Mode) (w : World) : (store a (.func (.func f) #[] l) m).run Tryz.prog w = stored Tryz.prog w a (.func (.func f) #[] l) m := run_store _ w a _ m rfl
theorem cell_other2 {W : World} {b c i j : Nat} {u v : Value} (h : c ≠ b) : ((W.setCell ⟨b, i, none⟩ u).setCell ⟨b, j, none⟩ v).cell? ⟨c, 0, none⟩ = W.cell? ⟨c, 0, none⟩ := by
  unfold World.cell?
  rw [Below.heap_setCell _ _ _ _ h, Below.heap_setCell _ _ _ _ h]
set_option maxRecDepth 100000 in
theorem numberField_any (p : Nat) (w : World) :
    Calls Tryz.prog 66 #[.func (.func p) #[] #[]] w fun e w' => e = .returned (.agg #[.func (.func 87) #[] #[.pointer (some ⟨w.heap.size, 0, none⟩)], .func (.func 88) #[] #[.pointer (some ⟨w.heap.size, 0, none⟩)]]) ∧ w.heap.size < w'.heap.size ∧ w'.cell? ⟨w.heap.size, 0, none⟩ = some (.func (.func p) #[] #[]) ∧ Below w.heap.size w w' := by
  have hsfn := sfn
  go_enter Tryz.func66, Tryz.ntmps66
  go_wp2
  go_returns
  refine ⟨rfl, by simp; omega, ?_, by go_grown⟩
  rw [World.cell?_alloc_old _ _ _ (by show w.heap.size ≠ _; simp)]
  exact bx_cell (bx_made w [.func (.func p) #[] #[]] _) 0 rfl
set_option maxRecDepth 100000 in
theorem mk1_fld (w : World) : Calls Tryz.prog 56 #[] w fun e w' => FEnd 1 w e w' := by
  have hsfn := sfn
  have HN := hide (fun W => numberField_any 76 W)
  have HX := hide (bx_made w [.nilFunc, .nilFunc] 80)
  have HB : Hid (Below w.heap.size w (w.alloc (Obj.cells #[.nilFunc, .nilFunc] 80))) := (Below.refl _ _).alloc (Nat.le_refl _) _
  have hz : (w.alloc (Obj.cells #[.nilFunc, .nilFunc] 80)).heap.size = w.heap.size + 1 := by simp
  go_enter Tryz.func56, Tryz.ntmps56
  go_wp2_with fail
  refine (unhide HN _).mono ?_
  rintro e W1 ⟨rfl, h1, h2, h3⟩
  have hx := bx_below (unhide HX) h3 (by rw [show (w.alloc (Obj.cells [Value.nilFunc, Value.nilFunc].toArray 80)).heap.size = _ from hz]; omega)
  have HB1 : Hid (Below w.heap.size w W1) := (unhide HB).trans (h3.mono (unhide HB).size)
  rw [hz] at h1 h2 h3 ⊢
  have c0 := bx_cell hx 0 rfl
  have c1 := bx_cell hx 1 rfl
  have f0 := bx_free hx 0 (by decide)
  have f1 := bx_free hx 1 (by decide)
  have HXX := hide hx
  have HF : Hid (FEnd 1 w (.returned (.agg #[.func (.func 87) #[] #[.pointer (some ⟨w.heap.size + 1, 0, none⟩)], .func (.func 88) #[] #[.pointer (some ⟨w.heap.size + 1, 0, none⟩)]])) ((W1.setCell ⟨w.heap.size, 0, none⟩ (.func (.func 87) #[] #[.pointer (some ⟨w.heap.size + 1, 0, none⟩)])).setCell ⟨w.heap.size, 1, none⟩ (.func (.func 88) #[] #[.pointer (some ⟨w.heap.size + 1, 0, none⟩)]))) := by
    refine ⟨_, _, _, rfl, ?_, ((unhide HB1).setCell (p := ⟨w.heap.size, 0, none⟩) (Nat.le_refl _) _).setCell (p := ⟨w.heap.size, 1, none⟩) (Nat.le_refl _) _⟩
    unfold FF
    rw [if_neg (by decide), if_neg (by decide)]
    refine ⟨w.heap.size + 1, rfl, by omega, by simpa using h1, ?_⟩
    rw [cell_other2 (by omega)]
    exact h2
  clear h1 h2 h3 hx hz HX HB
  go_wp2_with fail
  have hx2 := bx_set (j := 1) (u := .func (.func 88) #[] #[.pointer (some ⟨w.heap.size + 1, 0, none⟩)]) (bx_set (j := 0) (u := .func (.func 87) #[] #[.pointer (some ⟨w.heap.size + 1, 0, none⟩)]) (unhide HXX) (by simp)) (by simp)
  have d0 := bx_cell hx2 0 rfl
  have d1 := bx_cell hx2 1 rfl
  clear c0 c1 f0 f1 HXX hx2
  generalize ((W1.setCell ⟨w.heap.size, 0, none⟩ (.func (.func 87) #[] #[.pointer (some ⟨w.heap.size + 1, 0, none⟩)])).setCell ⟨w.heap.size, 1, none⟩ (.func (.func 88) #[] #[.pointer (some ⟨w.heap.size + 1, 0, none⟩)])) = W2 at HF d0 d1 ⊢
  refine bodyPost_ret (v := .agg #[.func (.func 87) #[] #[.pointer (some ⟨w.heap.size + 1, 0, none⟩)], .func (.func 88) #[] #[.pointer (some ⟨w.heap.size + 1, 0, none⟩)]]) ?_ rfl (unhide HF)
  simp [results, Tryz.f56, go_sem, d0, d1]
set_option maxRecDepth 100000 in
theorem mk2_fld (w : World) : Calls Tryz.prog 49 #[] w fun e w' => FEnd 2 w e w' := by
  have hsfn := sfn
  have HN := hide (fun W => numberField_any 67 W)
  have HX := hide (bx_made w [.nilFunc, .nilFunc] 80)
  have HB : Hid (Below w.heap.size w (w.alloc (Obj.cells #[.nilFunc, .nilFunc] 80))) := (Below.refl _ _).alloc (Nat.le_refl _) _
  have hz : (w.alloc (Obj.cells #[.nilFunc, .nilFunc] 80)).heap.size = w.heap.size + 1 := by simp
  go_enter Tryz.func49, Tryz.ntmps49
  go_wp2_with fail
  refine (unhide HN _).mono ?_
  rintro e W1 ⟨rfl, h1, h2, h3⟩
  have hx := bx_below (unhide HX) h3 (by rw [show (w.alloc (Obj.cells [Value.nilFunc, Value.nilFunc].toArray 80)).heap.size = _ from hz]; omega)
  have HB1 : Hid (Below w.heap.size w W1) := (unhide HB).trans (h3.mono (unhide HB).size)
  rw [hz] at h1 h2 h3 ⊢
  have c0 := bx_cell hx 0 rfl
  have c1 := bx_cell hx 1 rfl
  have f0 := bx_free hx 0 (by decide)
  have f1 := bx_free hx 1 (by decide)
  have HXX := hide hx
  have HF : Hid (FEnd 2 w (.returned (.agg #[.func (.func 87) #[] #[.pointer (some ⟨w.heap.size + 1, 0, none⟩)], .func (.func 88) #[] #[.pointer (some ⟨w.heap.size + 1, 0, none⟩)]])) ((W1.setCell ⟨w.heap.size, 0, none⟩ (.func (.func 87) #[] #[.pointer (some ⟨w.heap.size + 1, 0, none⟩)])).setCell ⟨w.heap.size, 1, none⟩ (.func (.func 88) #[] #[.pointer (some ⟨w.heap.size + 1, 0, none⟩)]))) := by
    refine ⟨_, _, _, rfl, ?_, ((unhide HB1).setCell (p := ⟨w.heap.size, 0, none⟩) (Nat.le_refl _) _).setCell (p := ⟨w.heap.size, 1, none⟩) (Nat.le_refl _) _⟩
    unfold FF
    rw [if_neg (by decide), if_neg (by decide)]
    refine ⟨w.heap.size + 1, rfl, by omega, by simpa using h1, ?_⟩
    rw [cell_other2 (by omega)]
    exact h2
  clear h1 h2 h3 hx hz HX HB
  go_wp2_with fail
  have hx2 := bx_set (j := 1) (u := .func (.func 88) #[] #[.pointer (some ⟨w.heap.size + 1, 0, none⟩)]) (bx_set (j := 0) (u := .func (.func 87) #[] #[.pointer (some ⟨w.heap.size + 1, 0, none⟩)]) (unhide HXX) (by simp)) (by simp)
  have d0 := bx_cell hx2 0 rfl
  have d1 := bx_cell hx2 1 rfl
  clear c0 c1 f0 f1 HXX hx2
  generalize ((W1.setCell ⟨w.heap.size, 0, none⟩ (.func (.func 87) #[] #[.pointer (some ⟨w.heap.size + 1, 0, none⟩)])).setCell ⟨w.heap.size, 1, none⟩ (.func (.func 88) #[] #[.pointer (some ⟨w.heap.size + 1, 0, none⟩)])) = W2 at HF d0 d1 ⊢
  refine bodyPost_ret (v := .agg #[.func (.func 87) #[] #[.pointer (some ⟨w.heap.size + 1, 0, none⟩)], .func (.func 88) #[] #[.pointer (some ⟨w.heap.size + 1, 0, none⟩)]]) ?_ rfl (unhide HF)
  simp [results, Tryz.f49, go_sem, d0, d1]
set_option maxRecDepth 100000 in
theorem mk3_fld (w : World) : Calls Tryz.prog 50 #[] w fun e w' => FEnd 3 w e w' := by
  have hsfn := sfn
  have HN := hide (fun W => numberField_any 68 W)
  have HX := hide (bx_made w [.nilFunc, .nilFunc] 80)
  have HB : Hid (Below w.heap.size w (w.alloc (Obj.cells #[.nilFunc, .nilFunc] 80))) := (Below.refl _ _).alloc (Nat.le_refl _) _
  have hz : (w.alloc (Obj.cells #[.nilFunc, .nilFunc] 80)).heap.size = w.heap.size + 1 := by simp
  go_enter Tryz.func50, Tryz.ntmps50
  go_wp2_with fail
  refine (unhide HN _).mono ?_
  rintro e W1 ⟨rfl, h1, h2, h3⟩
  have hx := bx_below (unhide HX) h3 (by rw [show (w.alloc (Obj.cells [Value.nilFunc, Value.nilFunc].toArray 80)).heap.size = _ from hz]; omega)
  have HB1 : Hid (Below w.heap.size w W1) := (unhide HB).trans (h3.mono (unhide HB).size)
  rw [hz] at h1 h2 h3 ⊢
  have c0 := bx_cell hx 0 rfl
  have c1 := bx_cell hx 1 rfl
  have f0 := bx_free hx 0 (by decide)
  have f1 := bx_free hx 1 (by decide)
  have HXX := hide hx
  have HF : Hid (FEnd 3 w (.returned (.agg #[.func (.func 87) #[] #[.pointer (some ⟨w.heap.size + 1, 0, none⟩)], .func (.func 88) #[] #[.pointer (some ⟨w.heap.size + 1, 0, none⟩)]])) ((W1.setCell ⟨w.heap.size, 0, none⟩ (.func (.func 87) #[] #[.pointer (some ⟨w.heap.size + 1, 0, none⟩)])).setCell ⟨w.heap.size, 1, none⟩ (.func (.func 88) #[] #[.pointer (some ⟨w.heap.size + 1, 0, none⟩)]))) := by
    refine ⟨_, _, _, rfl, ?_, ((unhide HB1).setCell (p := ⟨w.heap.size, 0, none⟩) (Nat.le_refl _) _).setCell (p := ⟨w.heap.size, 1, none⟩) (Nat.le_refl _) _⟩
    unfold FF
    rw [if_neg (by decide), if_neg (by decide)]
    refine ⟨w.heap.size + 1, rfl, by omega, by simpa using h1, ?_⟩
    rw [cell_other2 (by omega)]
    exact h2
  clear h1 h2 h3 hx hz HX HB
  go_wp2_with fail
  have hx2 := bx_set (j := 1) (u := .func (.func 88) #[] #[.pointer (some ⟨w.heap.size + 1, 0, none⟩)]) (bx_set (j := 0) (u := .func (.func 87) #[] #[.pointer (some ⟨w.heap.size + 1, 0, none⟩)]) (unhide HXX) (by simp)) (by simp)
  have d0 := bx_cell hx2 0 rfl
  have d1 := bx_cell hx2 1 rfl
  clear c0 c1 f0 f1 HXX hx2
  generalize ((W1.setCell ⟨w.heap.size, 0, none⟩ (.func (.func 87) #[] #[.pointer (some ⟨w.heap.size + 1, 0, none⟩)])).setCell ⟨w.heap.size, 1, none⟩ (.func (.func 88) #[] #[.pointer (some ⟨w.heap.size + 1, 0, none⟩)])) = W2 at HF d0 d1 ⊢
  refine bodyPost_ret (v := .agg #[.func (.func 87) #[] #[.pointer (some ⟨w.heap.size + 1, 0, none⟩)], .func (.func 88) #[] #[.pointer (some ⟨w.heap.size + 1, 0, none⟩)]]) ?_ rfl (unhide HF)
  simp [results, Tryz.f50, go_sem, d0, d1]
set_option maxRecDepth 100000 in
theorem mk4_fld (w : World) : Calls Tryz.prog 51 #[] w fun e w' => FEnd 4 w e w' := by
  have hsfn := sfn
  have HN := hide (fun W => numberField_any 69 W)
  have HX := hide (bx_made w [.nilFunc, .nilFunc] 80)
  have HB : Hid (Below w.heap.size w (w.alloc (Obj.cells #[.nilFunc, .nilFunc] 80))) := (Below.refl _ _).alloc (Nat.le_refl _) _
  have hz : (w.alloc (Obj.cells #[.nilFunc, .nilFunc] 80)).heap.size = w.heap.size + 1 := by simp
  go_enter Tryz.func51, Tryz.ntmps51
  go_wp2_with fail
  refine (unhide HN _).mono ?_
  rintro e W1 ⟨rfl, h1, h2, h3⟩
  have hx := bx_below (unhide HX) h3 (by rw [show (w.alloc (Obj.cells [Value.nilFunc, Value.nilFunc].toArray 80)).heap.size = _ from hz]; omega)
  have HB1 : Hid (Below w.heap.size w W1) := (unhide HB).trans (h3.mono (unhide HB).size)
  rw [hz] at h1 h2 h3 ⊢
  have c0 := bx_cell hx 0 rfl
  have c1 := bx_cell hx 1 rfl
  have f0 := bx_free hx 0 (by decide)
  have f1 := bx_free hx 1 (by decide)
  have HXX := hide hx
  have HF : Hid (FEnd 4 w (.returned (.agg #[.func (.func 87) #[] #[.pointer (some ⟨w.heap.size + 1, 0, none⟩)], .func (.func 88) #[] #[.pointer (some ⟨w.heap.size + 1, 0, none⟩)]])) ((W1.setCell ⟨w.heap.size, 0, none⟩ (.func (.func 87) #[] #[.pointer (some ⟨w.heap.size + 1, 0, none⟩)])).setCell ⟨w.heap.size, 1, none⟩ (.func (.func 88) #[] #[.pointer (some ⟨w.heap.size + 1, 0, none⟩)]))) := by
    refine ⟨_, _, _, rfl, ?_, ((unhide HB1).setCell (p := ⟨w.heap.size, 0, none⟩) (Nat.le_refl _) _).setCell (p := ⟨w.heap.size, 1, none⟩) (Nat.le_refl _) _⟩
    unfold FF
    rw [if_neg (by decide), if_neg (by decide)]
    refine ⟨w.heap.size + 1, rfl, by omega, by simpa using h1, ?_⟩
    rw [cell_other2 (by omega)]
    exact h2
  clear h1 h2 h3 hx hz HX HB
  go_wp2_with fail
  have hx2 := bx_set (j := 1) (u := .func (.func 88) #[] #[.pointer (some ⟨w.heap.size + 1, 0, none⟩)]) (bx_set (j := 0) (u := .func (.func 87) #[] #[.pointer (some ⟨w.heap.size + 1, 0, none⟩)]) (unhide HXX) (by simp)) (by simp)
  have d0 := bx_cell hx2 0 rfl
  have d1 := bx_cell hx2 1 rfl
  clear c0 c1 f0 f1 HXX hx2
  generalize ((W1.setCell ⟨w.heap.size, 0, none⟩ (.func (.func 87) #[] #[.pointer (some ⟨w.heap.size + 1, 0, none⟩)])).setCell ⟨w.heap.size, 1, none⟩ (.func (.func 88) #[] #[.pointer (some ⟨w.heap.size + 1, 0, none⟩)])) = W2 at HF d0 d1 ⊢
  refine bodyPost_ret (v := .agg #[.func (.func 87) #[] #[.pointer (some ⟨w.heap.size + 1, 0, none⟩)], .func (.func 88) #[] #[.pointer (some ⟨w.heap.size + 1, 0, none⟩)]]) ?_ rfl (unhide HF)
  simp [results, Tryz.f51, go_sem, d0, d1]
set_option maxRecDepth 100000 in
theorem mk5_fld (w : World) : Calls Tryz.prog 52 #[] w fun e w' => FEnd 5 w e w' := by
  have hsfn := sfn
  have HN := hide (fun W => numberField_any 70 W)
  have HX := hide (bx_made w [.nilFunc, .nilFunc] 80)
  have HB : Hid (Below w.heap.size w (w.alloc (Obj.cells #[.nilFunc, .nilFunc] 80))) := (Below.refl _ _).alloc (Nat.le_refl _) _
  have hz : (w.alloc (Obj.cells #[.nilFunc, .nilFunc] 80)).heap.size = w.heap.size + 1 := by simp
  go_enter Tryz.func52, Tryz.ntmps52
  go_wp2_with fail
  refine (unhide HN _).mono ?_
  rintro e W1 ⟨rfl, h1, h2, h3⟩
  have hx := bx_below (unhide HX) h3 (by rw [show (w.alloc (Obj.cells [Value.nilFunc, Value.nilFunc].toArray 80)).heap.size = _ from hz]; omega)
  have HB1 : Hid (Below w.heap.size w W1) := (unhide HB).trans (h3.mono (unhide HB).size)
  rw [hz] at h1 h2 h3 ⊢
  have c0 := bx_cell hx 0 rfl
  have c1 := bx_cell hx 1 rfl
  have f0 := bx_free hx 0 (by decide)
  have f1 := bx_free hx 1 (by decide)
  have HXX := hide hx
  have HF : Hid (FEnd 5 w (.returned (.agg #[.func (.func 87) #[] #[.pointer (some ⟨w.heap.size + 1, 0, none⟩)], .func (.func 88) #[] #[.pointer (some ⟨w.heap.size + 1, 0, none⟩)]])) ((W1.setCell ⟨w.heap.size, 0, none⟩ (.func (.func 87) #[] #[.pointer (some ⟨w.heap.size + 1, 0, none⟩)])).setCell ⟨w.heap.size, 1, none⟩ (.func (.func 88) #[] #[.pointer (some ⟨w.heap.size + 1, 0, none⟩)]))) := by
    refine ⟨_, _, _, rfl, ?_, ((unhide HB1).setCell (p := ⟨w.heap.size, 0, none⟩) (Nat.le_refl _) _).setCell (p := ⟨w.heap.size, 1, none⟩) (Nat.le_refl _) _⟩
    unfold FF
    rw [if_neg (by decide), if_neg (by decide)]
    refine ⟨w.heap.size + 1, rfl, by omega, by simpa using h1, ?_⟩
    rw [cell_other2 (by omega)]
    exact h2
  clear h1 h2 h3 hx hz HX HB
  go_wp2_with fail
  have hx2 := bx_set (j := 1) (u := .func (.func 88) #[] #[.pointer (some ⟨w.heap.size + 1, 0, none⟩)]) (bx_set (j := 0) (u := .func (.func 87) #[] #[.pointer (some ⟨w.heap.size + 1, 0, none⟩)]) (unhide HXX) (by simp)) (by simp)
  have d0 := bx_cell hx2 0 rfl
  have d1 := bx_cell hx2 1 rfl
  clear c0 c1 f0 f1 HXX hx2
  generalize ((W1.setCell ⟨w.heap.size, 0, none⟩ (.func (.func 87) #[] #[.pointer (some ⟨w.heap.size + 1, 0, none⟩)])).setCell ⟨w.heap.size, 1, none⟩ (.func (.func 88) #[] #[.pointer (some ⟨w.heap.size + 1, 0, none⟩)])) = W2 at HF d0 d1 ⊢
  refine bodyPost_ret (v := .agg #[.func (.func 87) #[] #[.pointer (some ⟨w.heap.size + 1, 0, none⟩)], .func (.func 88) #[] #[.pointer (some ⟨w.heap.size + 1, 0, none⟩)]]) ?_ rfl (unhide HF)
  simp [results, Tryz.f52, go_sem, d0, d1]
set_option maxRecDepth 100000 in
theorem mk6_fld (w : World) : Calls Tryz.prog 57 #[] w fun e w' => FEnd 6 w e w' := by
  have hsfn := sfn
  have HN := hide (fun W => numberField_any 77 W)
  have HX := hide (bx_made w [.nilFunc, .nilFunc] 80)
  have HB : Hid (Below w.heap.size w (w.alloc (Obj.cells #[.nilFunc, .nilFunc] 80))) := (Below.refl _ _).alloc (Nat.le_refl _) _
  have hz : (w.alloc (Obj.cells #[.nilFunc, .nilFunc] 80)).heap.size = w.heap.size + 1 := by simp
  go_enter Tryz.func57, Tryz.ntmps57
  go_wp2_with fail
  refine (unhide HN _).mono ?_
  rintro e W1 ⟨rfl, h1, h2, h3⟩
  have hx := bx_below (unhide HX) h3 (by rw [show (w.alloc (Obj.cells [Value.nilFunc, Value.nilFunc].toArray 80)).heap.size = _ from hz]; omega)
  have HB1 : Hid (Below w.heap.size w W1) := (unhide HB).trans (h3.mono (unhide HB).size)
  rw [hz] at h1 h2 h3 ⊢
  have c0 := bx_cell hx 0 rfl
  have c1 := bx_cell hx 1 rfl
  have f0 := bx_free hx 0 (by decide)
  have f1 := bx_free hx 1 (by decide)
  have HXX := hide hx
  have HF : Hid (FEnd 6 w (.returned (.agg #[.func (.func 87) #[] #[.pointer (some ⟨w.heap.size + 1, 0, none⟩)], .func (.func 88) #[] #[.pointer (some ⟨w.heap.size + 1, 0, none⟩)]])) ((W1.setCell ⟨w.heap.size, 0, none⟩ (.func (.func 87) #[] #[.pointer (some ⟨w.heap.size + 1, 0, none⟩)])).setCell ⟨w.heap.size, 1, none⟩ (.func (.func 88) #[] #[.pointer (some ⟨w.heap.size + 1, 0, none⟩)]))) := by
    refine ⟨_, _, _, rfl, ?_, ((unhide HB1).setCell (p := ⟨w.heap.size, 0, none⟩) (Nat.le_refl _) _).setCell (p := ⟨w.heap.size, 1, none⟩) (Nat.le_refl _) _⟩
    unfold FF
    rw [if_neg (by decide), if_neg (by decide)]
    refine ⟨w.heap.size + 1, rfl, by omega, by simpa using h1, ?_⟩
    rw [cell_other2 (by omega)]
    exact h2
  clear h1 h2 h3 hx hz HX HB
  go_wp2_with fail
  have hx2 := bx_set (j := 1) (u := .func (.func 88) #[] #[.pointer (some ⟨w.heap.size + 1, 0, none⟩)]) (bx_set (j := 0) (u := .func (.func 87) #[] #[.pointer (some ⟨w.heap.size + 1, 0, none⟩)]) (unhide HXX) (by simp)) (by simp)
  have d0 := bx_cell hx2 0 rfl
  have d1 := bx_cell hx2 1 rfl
  clear c0 c1 f0 f1 HXX hx2
  generalize ((W1.setCell ⟨w.heap.size, 0, none⟩ (.func (.func 87) #[] #[.pointer (some ⟨w.heap.size + 1, 0, none⟩)])).setCell ⟨w.heap.size, 1, none⟩ (.func (.func 88) #[] #[.pointer (some ⟨w.heap.size + 1, 0, none⟩)])) = W2 at HF d0 d1 ⊢
  refine bodyPost_ret (v := .agg #[.func (.func 87) #[] #[.pointer (some ⟨w.heap.size + 1, 0, none⟩)], .func (.func 88) #[] #[.pointer (some ⟨w.heap.size + 1, 0, none⟩)]]) ?_ rfl (unhide HF)
  simp [results, Tryz.f57, go_sem, d0, d1]
set_option maxRecDepth 100000 in
theorem mk9_fld (w : World) : Calls Tryz.prog 55 #[] w fun e w' => FEnd 9 w e w' := by
  have hsfn := sfn
  have HN := hide (fun W => numberField_any 75 W)
  have HX := hide (bx_made w [.nilFunc, .nilFunc] 80)
  have HB : Hid (Below w.heap.size w (w.alloc (Obj.cells #[.nilFunc, .nilFunc] 80))) := (Below.refl _ _).alloc (Nat.le_refl _) _
  have hz : (w.alloc (Obj.cells #[.nilFunc, .nilFunc] 80)).heap.size = w.heap.size + 1 := by simp
  go_enter Tryz.func55, Tryz.ntmps55
  go_wp2_with fail
  refine (unhide HN _).mono ?_
  rintro e W1 ⟨rfl, h1, h2, h3⟩
  have hx := bx_below (unhide HX) h3 (by rw [show (w.alloc (Obj.cells [Value.nilFunc, Value.nilFunc].toArray 80)).heap.size = _ from hz]; omega)
  have HB1 : Hid (Below w.heap.size w W1) := (unhide HB).trans (h3.mono (unhide HB).size)
  rw [hz] at h1 h2 h3 ⊢
  have c0 := bx_cell hx 0 rfl
  have c1 := bx_cell hx 1 rfl
  have f0 := bx_free hx 0 (by decide)
  have f1 := bx_free hx 1 (by decide)
  have HXX := hide hx
  have HF : Hid (FEnd 9 w (.returned (.agg #[.func (.func 87) #[] #[.pointer (some ⟨w.heap.size + 1, 0, none⟩)], .func (.func 88) #[] #[.pointer (some ⟨w.heap.size + 1, 0, none⟩)]])) ((W1.setCell ⟨w.heap.size, 0, none⟩ (.func (.func 87) #[] #[.pointer (some ⟨w.heap.size + 1, 0, none⟩)])).setCell ⟨w.heap.size, 1, none⟩ (.func (.func 88) #[] #[.pointer (some ⟨w.heap.size + 1, 0, none⟩)]))) := by
    refine ⟨_, _, _, rfl, ?_, ((unhide HB1).setCell (p := ⟨w.heap.size, 0, none⟩) (Nat.le_refl _) _).setCell (p := ⟨w.heap.size, 1, none⟩) (Nat.le_refl _) _⟩
    unfold FF
    rw [if_neg (by decide), if_neg (by decide)]
    refine ⟨w.heap.size + 1, rfl, by omega, by simpa using h1, ?_⟩
    rw [cell_other2 (by omega)]
    exact h2
  clear h1 h2 h3 hx hz HX HB
  go_wp2_with fail
  have hx2 := bx_set (j := 1) (u := .func (.func 88) #[] #[.pointer (some ⟨w.heap.size + 1, 0, none⟩)]) (bx_set (j := 0) (u := .func (.func 87) #[] #[.pointer (some ⟨w.heap.size + 1, 0, none⟩)]) (unhide HXX) (by simp)) (by simp)
  have d0 := bx_cell hx2 0 rfl
  have d1 := bx_cell hx2 1 rfl
  clear c0 c1 f0 f1 HXX hx2
  generalize ((W1.setCell ⟨w.heap.size, 0, none⟩ (.func (.func 87) #[] #[.pointer (some ⟨w.heap.size + 1, 0, none⟩)])).setCell ⟨w.heap.size, 1, none⟩ (.func (.func 88) #[] #[.pointer (some ⟨w.heap.size + 1, 0, none⟩)])) = W2 at HF d0 d1 ⊢
  refine bodyPost_ret (v := .agg #[.func (.func 87) #[] #[.pointer (some ⟨w.heap.size + 1, 0, none⟩)], .func (.func 88) #[] #[.pointer (some ⟨w.heap.size + 1, 0, none⟩)]]) ?_ rfl (unhide HF)
  simp [results, Tryz.f55, go_sem, d0, d1]
set_option maxRecDepth 100000 in
theorem mk10_fld (w : World) : Calls Tryz.prog 59 #[] w fun e w' => FEnd 10 w e w' := by
  have hsfn := sfn
  have HN := hide (fun W => numberField_any 79 W)
  have HX := hide (bx_made w [.nilFunc, .nilFunc] 80)
  have HB : Hid (Below w.heap.size w (w.alloc (Obj.cells #[.nilFunc, .nilFunc] 80))) := (Below.refl _ _).alloc (Nat.le_refl _) _
  have hz : (w.alloc (Obj.cells #[.nilFunc, .nilFunc] 80)).heap.size = w.heap.size + 1 := by simp
  go_enter Tryz.func59, Tryz.ntmps59
  go_wp2_with fail
  refine (unhide HN _).mono ?_
  rintro e W1 ⟨rfl, h1, h2, h3⟩
  have hx := bx_below (unhide HX) h3 (by rw [show (w.alloc (Obj.cells [Value.nilFunc, Value.nilFunc].toArray 80)).heap.size = _ from hz]; omega)
  have HB1 : Hid (Below w.heap.size w W1) := (unhide HB).trans (h3.mono (unhide HB).size)
  rw [hz] at h1 h2 h3 ⊢
  have c0 := bx_cell hx 0 rfl
  have c1 := bx_cell hx 1 rfl
  have f0 := bx_free hx 0 (by decide)
  have f1 := bx_free hx 1 (by decide)
  have HXX := hide hx
  have HF : Hid (FEnd 10 w (.returned (.agg #[.func (.func 87) #[] #[.pointer (some ⟨w.heap.size + 1, 0, none⟩)], .func (.func 88) #[] #[.pointer (some ⟨w.heap.size + 1, 0, none⟩)]])) ((W1.setCell ⟨w.heap.size, 0, none⟩ (.func (.func 87) #[] #[.pointer (some ⟨w.heap.size + 1, 0, none⟩)])).setCell ⟨w.heap.size, 1, none⟩ (.func (.func 88) #[] #[.pointer (some ⟨w.heap.size + 1, 0, none⟩)]))) := by
    refine ⟨_, _, _, rfl, ?_, ((unhide HB1).setCell (p := ⟨w.heap.size, 0, none⟩) (Nat.le_refl _) _).setCell (p := ⟨w.heap.size, 1, none⟩) (Nat.le_refl _) _⟩
    unfold FF
    rw [if_neg (by decide), if_neg (by decide)]
    refine ⟨w.heap.size + 1, rfl, by omega, by simpa using h1, ?_⟩
    rw [cell_other2 (by omega)]
    exact h2
  clear h1 h2 h3 hx hz HX HB
  go_wp2_with fail
  have hx2 := bx_set (j := 1) (u := .func (.func 88) #[] #[.pointer (some ⟨w.heap.size + 1, 0, none⟩)]) (bx_set (j := 0) (u := .func (.func 87) #[] #[.pointer (some ⟨w.heap.size + 1, 0, none⟩)]) (unhide HXX) (by simp)) (by simp)
  have d0 := bx_cell hx2 0 rfl
  have d1 := bx_cell hx2 1 rfl
  clear c0 c1 f0 f1 HXX hx2
  generalize ((W1.setCell ⟨w.heap.size, 0, none⟩ (.func (.func 87) #[] #[.pointer (some ⟨w.heap.size + 1, 0, none⟩)])).setCell ⟨w.heap.size, 1, none⟩ (.func (.func 88) #[] #[.pointer (some ⟨w.heap.size + 1, 0, none⟩)])) = W2 at HF d0 d1 ⊢
  refine bodyPost_ret (v := .agg #[.func (.func 87) #[] #[.pointer (some ⟨w.heap.size + 1, 0, none⟩)], .func (.func 88) #[] #[.pointer (some ⟨w.heap.size + 1, 0, none⟩)]]) ?_ rfl (unhide HF)
  simp [results, Tryz.f59, go_sem, d0, d1]
set_option maxRecDepth 100000 in
theorem mk11_fld (w : World) : Calls Tryz.prog 60 #[] w fun e w' => FEnd 11 w e w' := by
  have hsfn := sfn
  have HN := hide (fun W => numberField_any 80 W)
  have HX := hide (bx_made w [.nilFunc, .nilFunc] 80)
  have HB : Hid (Below w.heap.size w (w.alloc (Obj.cells #[.nilFunc, .nilFunc] 80))) := (Below.refl _ _).alloc (Nat.le_refl _) _
  have hz : (w.alloc (Obj.cells #[.nilFunc, .nilFunc] 80)).heap.size = w.heap.size + 1 := by simp
  go_enter Tryz.func60, Tryz.ntmps60
  go_wp2_with fail
  refine (unhide HN _).mono ?_
  rintro e W1 ⟨rfl, h1, h2, h3⟩
  have hx := bx_below (unhide HX) h3 (by rw [show (w.alloc (Obj.cells [Value.nilFunc, Value.nilFunc].toArray 80)).heap.size = _ from hz]; omega)
  have HB1 : Hid (Below w.heap.size w W1) := (unhide HB).trans (h3.mono (unhide HB).size)
  rw [hz] at h1 h2 h3 ⊢
  have c0 := bx_cell hx 0 rfl
  have c1 := bx_cell hx 1 rfl
  have f0 := bx_free hx 0 (by decide)
  have f1 := bx_free hx 1 (by decide)
  have HXX := hide hx
  have HF : Hid (FEnd 11 w (.returned (.agg #[.func (.func 87) #[] #[.pointer (some ⟨w.heap.size + 1, 0, none⟩)], .func (.func 88) #[] #[.pointer (some ⟨w.heap.size + 1, 0, none⟩)]])) ((W1.setCell ⟨w.heap.size, 0, none⟩ (.func (.func 87) #[] #[.pointer (some ⟨w.heap.size + 1, 0, none⟩)])).setCell ⟨w.heap.size, 1, none⟩ (.func (.func 88) #[] #[.pointer (some ⟨w.heap.size + 1, 0, none⟩)]))) := by
    refine ⟨_, _, _, rfl, ?_, ((unhide HB1).setCell (p := ⟨w.heap.size, 0, none⟩) (Nat.le_refl _) _).setCell (p := ⟨w.heap.size, 1, none⟩) (Nat.le_refl _) _⟩
    unfold FF
    rw [if_neg (by decide), if_neg (by decide)]
    refine ⟨w.heap.size + 1, rfl, by omega, by simpa using h1, ?_⟩
    rw [cell_other2 (by omega)]
    exact h2
  clear h1 h2 h3 hx hz HX HB
  go_wp2_with fail
  have hx2 := bx_set (j := 1) (u := .func (.func 88) #[] #[.pointer (some ⟨w.heap.size + 1, 0, none⟩)]) (bx_set (j := 0) (u := .func (.func 87) #[] #[.pointer (some ⟨w.heap.size + 1, 0, none⟩)]) (unhide HXX) (by simp)) (by simp)
  have d0 := bx_cell hx2 0 rfl
  have d1 := bx_cell hx2 1 rfl
  clear c0 c1 f0 f1 HXX hx2
  generalize ((W1.setCell ⟨w.heap.size, 0, none⟩ (.func (.func 87) #[] #[.pointer (some ⟨w.heap.size + 1, 0, none⟩)])).setCell ⟨w.heap.size, 1, none⟩ (.func (.func 88) #[] #[.pointer (some ⟨w.heap.size + 1, 0, none⟩)])) = W2 at HF d0 d1 ⊢
  refine bodyPost_ret (v := .agg #[.func (.func 87) #[] #[.pointer (some ⟨w.heap.size + 1, 0, none⟩)], .func (.func 88) #[] #[.pointer (some ⟨w.heap.size + 1, 0, none⟩)]]) ?_ rfl (unhide HF)
  simp [results, Tryz.f60, go_sem, d0, d1]
set_option maxRecDepth 100000 in
theorem mk12_fld (w : World) : Calls Tryz.prog 61 #[] w fun e w' => FEnd 12 w e w' := by
  have hsfn := sfn
  have HN := hide (fun W => numberField_any 81 W)
  have HX := hide (bx_made w [.nilFunc, .nilFunc] 80)
  have HB : Hid (Below w.heap.size w (w.alloc (Obj.cells #[.nilFunc, .nilFunc] 80))) := (Below.refl _ _).alloc (Nat.le_refl _) _
  have hz : (w.alloc (Obj.cells #[.nilFunc, .nilFunc] 80)).heap.size = w.heap.size + 1 := by simp
  go_enter Tryz.func61, Tryz.ntmps61
  go_wp2_with fail
  refine (unhide HN _).mono ?_
  rintro e W1 ⟨rfl, h1, h2, h3⟩
  have hx := bx_below (unhide HX) h3 (by rw [show (w.alloc (Obj.cells [Value.nilFunc, Value.nilFunc].toArray 80)).heap.size = _ from hz]; omega)
  have HB1 : Hid (Below w.heap.size w W1) := (unhide HB).trans (h3.mono (unhide HB).size)
  rw [hz] at h1 h2 h3 ⊢
  have c0 := bx_cell hx 0 rfl
  have c1 := bx_cell hx 1 rfl
  have f0 := bx_free hx 0 (by decide)
  have f1 := bx_free hx 1 (by decide)
  have HXX := hide hx
  have HF : Hid (FEnd 12 w (.returned (.agg #[.func (.func 87) #[] #[.pointer (some ⟨w.heap.size + 1, 0, none⟩)], .func (.func 88) #[] #[.pointer (some ⟨w.heap.size + 1, 0, none⟩)]])) ((W1.setCell ⟨w.heap.size, 0, none⟩ (.func (.func 87) #[] #[.pointer (some ⟨w.heap.size + 1, 0, none⟩)])).setCell ⟨w.heap.size, 1, none⟩ (.func (.func 88) #[] #[.pointer (some ⟨w.heap.size + 1, 0, none⟩)]))) := by
    refine ⟨_, _, _, rfl, ?_, ((unhide HB1).setCell (p := ⟨w.heap.size, 0, none⟩) (Nat.le_refl _) _).setCell (p := ⟨w.heap.size, 1, none⟩) (Nat.le_refl _) _⟩
    unfold FF
    rw [if_neg (by decide), if_neg (by decide)]
    refine ⟨w.heap.size + 1, rfl, by omega, by simpa using h1, ?_⟩
    rw [cell_other2 (by omega)]
    exact h2
  clear h1 h2 h3 hx hz HX HB
  go_wp2_with fail
  have hx2 := bx_set (j := 1) (u := .func (.func 88) #[] #[.pointer (some ⟨w.heap.size + 1, 0, none⟩)]) (bx_set (j := 0) (u := .func (.func 87) #[] #[.pointer (some ⟨w.heap.size + 1, 0, none⟩)]) (unhide HXX) (by simp)) (by simp)
  have d0 := bx_cell hx2 0 rfl
  have d1 := bx_cell hx2 1 rfl
  clear c0 c1 f0 f1 HXX hx2
  generalize ((W1.setCell ⟨w.heap.size, 0, none⟩ (.func (.func 87) #[] #[.pointer (some ⟨w.heap.size + 1, 0, none⟩)])).setCell ⟨w.heap.size, 1, none⟩ (.func (.func 88) #[] #[.pointer (some ⟨w.heap.size + 1, 0, none⟩)])) = W2 at HF d0 d1 ⊢
  refine bodyPost_ret (v := .agg #[.func (.func 87) #[] #[.pointer (some ⟨w.heap.size + 1, 0, none⟩)], .func (.func 88) #[] #[.pointer (some ⟨w.heap.size + 1, 0, none⟩)]]) ?_ rfl (unhide HF)
  simp [results, Tryz.f61, go_sem, d0, d1]
set_option maxRecDepth 100000 in
theorem mk13_fld (w : World) : Calls Tryz.prog 58 #[] w fun e w' => FEnd 13 w e w' := by
  have hsfn := sfn
  have HN := hide (fun W => numberField_any 78 W)
  have HX := hide (bx_made w [.nilFunc, .nilFunc] 80)
  have HB : Hid (Below w.heap.size w (w.alloc (Obj.cells #[.nilFunc, .nilFunc] 80))) := (Below.refl _ _).alloc (Nat.le_refl _) _
  have hz : (w.alloc (Obj.cells #[.nilFunc, .nilFunc] 80)).heap.size = w.heap.size + 1 := by simp
  go_enter Tryz.func58, Tryz.ntmps58
  go_wp2_with fail
  refine (unhide HN _).mono ?_
  rintro e W1 ⟨rfl, h1, h2, h3⟩
  have hx := bx_below (unhide HX) h3 (by rw [show (w.alloc (Obj.cells [Value.nilFunc, Value.nilFunc].toArray 80)).heap.size = _ from hz]; omega)
  have HB1 : Hid (Below w.heap.size w W1) := (unhide HB).trans (h3.mono (unhide HB).size)
  rw [hz] at h1 h2 h3 ⊢
  have c0 := bx_cell hx 0 rfl
  have c1 := bx_cell hx 1 rfl
  have f0 := bx_free hx 0 (by decide)
  have f1 := bx_free hx 1 (by decide)
  have HXX := hide hx
  have HF : Hid (FEnd 13 w (.returned (.agg #[.func (.func 87) #[] #[.pointer (some ⟨w.heap.size + 1, 0, none⟩)], .func (.func 88) #[] #[.pointer (some ⟨w.heap.size + 1, 0, none⟩)]])) ((W1.setCell ⟨w.heap.size, 0, none⟩ (.func (.func 87) #[] #[.pointer (some ⟨w.heap.size + 1, 0, none⟩)])).setCell ⟨w.heap.size, 1, none⟩ (.func (.func 88) #[] #[.pointer (some ⟨w.heap.size + 1, 0, none⟩)]))) := by
    refine ⟨_, _, _, rfl, ?_, ((unhide HB1).setCell (p := ⟨w.heap.size, 0, none⟩) (Nat.le_refl _) _).setCell (p := ⟨w.heap.size, 1, none⟩) (Nat.le_refl _) _⟩
    unfold FF
    rw [if_neg (by decide), if_neg (by decide)]
    refine ⟨w.heap.size + 1, rfl, by omega, by simpa using h1, ?_⟩
    rw [cell_other2 (by omega)]
    exact h2
  clear h1 h2 h3 hx hz HX HB
  go_wp2_with fail
  have hx2 := bx_set (j := 1) (u := .func (.func 88) #[] #[.pointer (some ⟨w.heap.size + 1, 0, none⟩)]) (bx_set (j := 0) (u := .func (.func 87) #[] #[.pointer (some ⟨w.heap.size + 1, 0, none⟩)]) (unhide HXX) (by simp)) (by simp)
  have d0 := bx_cell hx2 0 rfl
  have d1 := bx_cell hx2 1 rfl
  clear c0 c1 f0 f1 HXX hx2
  generalize ((W1.setCell ⟨w.heap.size, 0, none⟩ (.func (.func 87) #[] #[.pointer (some ⟨w.heap.size + 1, 0, none⟩)])).setCell ⟨w.heap.size, 1, none⟩ (.func (.func 88) #[] #[.pointer (some ⟨w.heap.size + 1, 0, none⟩)])) = W2 at HF d0 d1 ⊢
  refine bodyPost_ret (v := .agg #[.func (.func 87) #[] #[.pointer (some ⟨w.heap.size + 1, 0, none⟩)], .func (.func 88) #[] #[.pointer (some ⟨w.heap.size + 1, 0, none⟩)]]) ?_ rfl (unhide HF)
  simp [results, Tryz.f58, go_sem, d0, d1]
set_option maxRecDepth 100000 in
theorem mk7_fld (w : World) : Calls Tryz.prog 53 #[] w fun e w' => FEnd 7 w e w' := by
  have hsfn := sfn
  go_enter Tryz.func53, Tryz.ntmps53
  go_wp2
  go_returns
  exact ⟨_, _, _, rfl, by unfold FF; simp, by go_grown⟩
set_option maxRecDepth 100000 in
theorem mk8_fld (w : World) : Calls Tryz.prog 54 #[] w fun e w' => FEnd 8 w e w' := by
  have hsfn := sfn
  go_enter Tryz.func54, Tryz.ntmps54
  go_wp2
  go_returns
  exact ⟨_, _, _, rfl, by unfold FF; simp, by go_grown⟩
end Go.Proofs.YtmeekcdoajbjdaaGreatDoor
