/-
  When an event is right, by the model: its helpers walked.
-/
import Derived.Test.YtmeekcdoajbjdaaGreatDoorGj20
import Derived.Test.YtmeekcdoajbjdaaGreatDoorGj26
namespace Go.Proofs.YtmeekcdoajbjdaaGreatDoor
open Go.RowKit
set_option linter.unusedVariables false

set_option maxRecDepth 100000 in
theorem plain0 (ck cs ct cl cq ci : Int) (cp : Nat) (cg : ByteArray) (w : World) (h0 : (ck == 0) = false) : Calls Tryz.prog 38 #[.agg #[.int .i64 ck, .int .i64 cs, .int .i64 ct, .int .i64 cl, .int .i64 cq, .int .i64 ci, .float .f64 cp, .string cg]] w fun e w' => e = .returned (.bool false) ∧ Below w.heap.size w w' := by
  go_enter Tryz.func38, Tryz.ntmps38
  go_wp2_with fail
  go_ret
  exact ⟨rfl, by go_grown⟩
set_option maxRecDepth 100000 in
theorem plain1 (ck cs ct cl cq ci : Int) (cp : Nat) (cg : ByteArray) (w : World) (h0 : (ck == 0) = true) (h1 : (cs == 0) = false) : Calls Tryz.prog 38 #[.agg #[.int .i64 ck, .int .i64 cs, .int .i64 ct, .int .i64 cl, .int .i64 cq, .int .i64 ci, .float .f64 cp, .string cg]] w fun e w' => e = .returned (.bool false) ∧ Below w.heap.size w w' := by
  go_enter Tryz.func38, Tryz.ntmps38
  go_wp2_with fail
  go_ret
  exact ⟨rfl, by go_grown⟩
set_option maxRecDepth 100000 in
theorem plain2 (ck cs ct cl cq ci : Int) (cp : Nat) (cg : ByteArray) (w : World) (h0 : (ck == 0) = true) (h1 : (cs == 0) = true) (h2 : (ct == 0) = false) : Calls Tryz.prog 38 #[.agg #[.int .i64 ck, .int .i64 cs, .int .i64 ct, .int .i64 cl, .int .i64 cq, .int .i64 ci, .float .f64 cp, .string cg]] w fun e w' => e = .returned (.bool false) ∧ Below w.heap.size w w' := by
  go_enter Tryz.func38, Tryz.ntmps38
  go_wp2_with fail
  go_ret
  exact ⟨rfl, by go_grown⟩
set_option maxRecDepth 100000 in
theorem plain3 (ck cs ct cl cq ci : Int) (cp : Nat) (cg : ByteArray) (w : World) (h0 : (ck == 0) = true) (h1 : (cs == 0) = true) (h2 : (ct == 0) = true) (h3 : (cl == 0) = false) : Calls Tryz.prog 38 #[.agg #[.int .i64 ck, .int .i64 cs, .int .i64 ct, .int .i64 cl, .int .i64 cq, .int .i64 ci, .float .f64 cp, .string cg]] w fun e w' => e = .returned (.bool false) ∧ Below w.heap.size w w' := by
  go_enter Tryz.func38, Tryz.ntmps38
  go_wp2_with fail
  go_ret
  exact ⟨rfl, by go_grown⟩
set_option maxRecDepth 100000 in
theorem plain4 (ck cs ct cl cq ci : Int) (cp : Nat) (cg : ByteArray) (w : World) (h0 : (ck == 0) = true) (h1 : (cs == 0) = true) (h2 : (ct == 0) = true) (h3 : (cl == 0) = true) (h4 : (cq == 0) = false) : Calls Tryz.prog 38 #[.agg #[.int .i64 ck, .int .i64 cs, .int .i64 ct, .int .i64 cl, .int .i64 cq, .int .i64 ci, .float .f64 cp, .string cg]] w fun e w' => e = .returned (.bool false) ∧ Below w.heap.size w w' := by
  go_enter Tryz.func38, Tryz.ntmps38
  go_wp2_with fail
  go_ret
  exact ⟨rfl, by go_grown⟩
set_option maxRecDepth 100000 in
theorem plain5 (ck cs ct cl cq ci : Int) (cp : Nat) (cg : ByteArray) (w : World) (h0 : (ck == 0) = true) (h1 : (cs == 0) = true) (h2 : (ct == 0) = true) (h3 : (cl == 0) = true) (h4 : (cq == 0) = true) (h5 : (ci == 0) = false) : Calls Tryz.prog 38 #[.agg #[.int .i64 ck, .int .i64 cs, .int .i64 ct, .int .i64 cl, .int .i64 cq, .int .i64 ci, .float .f64 cp, .string cg]] w fun e w' => e = .returned (.bool false) ∧ Below w.heap.size w w' := by
  go_enter Tryz.func38, Tryz.ntmps38
  go_wp2_with fail
  go_ret
  exact ⟨rfl, by go_grown⟩
set_option maxRecDepth 100000 in
theorem plain6 (ck cs ct cl cq ci : Int) (cp : Nat) (cg : ByteArray) (w : World) (h0 : (ck == 0) = true) (h1 : (cs == 0) = true) (h2 : (ct == 0) = true) (h3 : (cl == 0) = true) (h4 : (cq == 0) = true) (h5 : (ci == 0) = true) (h6 : (((fbit cp : Nat) : Int) == 0) = false) : Calls Tryz.prog 38 #[.agg #[.int .i64 ck, .int .i64 cs, .int .i64 ct, .int .i64 cl, .int .i64 cq, .int .i64 ci, .float .f64 cp, .string cg]] w fun e w' => e = .returned (.bool false) ∧ Below w.heap.size w w' := by
  go_enter Tryz.func38, Tryz.ntmps38
  go_wp2_with (go_at_call 47; refine (bitsS_any cp _).mono ?_; rintro e w' ⟨rfl, rfl⟩)
  go_ret
  exact ⟨rfl, by go_grown⟩
set_option maxRecDepth 100000 in
theorem plain7 (ck cs ct cl cq ci : Int) (cp : Nat) (cg : ByteArray) (w : World) (h0 : (ck == 0) = true) (h1 : (cs == 0) = true) (h2 : (ct == 0) = true) (h3 : (cl == 0) = true) (h4 : (cq == 0) = true) (h5 : (ci == 0) = true) (h6 : (((fbit cp : Nat) : Int) == 0) = true) (h7 : (cg.toList == []) = false) : Calls Tryz.prog 38 #[.agg #[.int .i64 ck, .int .i64 cs, .int .i64 ct, .int .i64 cl, .int .i64 cq, .int .i64 ci, .float .f64 cp, .string cg]] w fun e w' => e = .returned (.bool false) ∧ Below w.heap.size w w' := by
  go_enter Tryz.func38, Tryz.ntmps38
  go_wp2_with (go_at_call 47; refine (bitsS_any cp _).mono ?_; rintro e w' ⟨rfl, rfl⟩)
  go_ret
  exact ⟨rfl, by go_grown⟩
set_option maxRecDepth 100000 in
theorem plain8 (ck cs ct cl cq ci : Int) (cp : Nat) (cg : ByteArray) (w : World) (h0 : (ck == 0) = true) (h1 : (cs == 0) = true) (h2 : (ct == 0) = true) (h3 : (cl == 0) = true) (h4 : (cq == 0) = true) (h5 : (ci == 0) = true) (h6 : (((fbit cp : Nat) : Int) == 0) = true) (h7 : (cg.toList == []) = true) : Calls Tryz.prog 38 #[.agg #[.int .i64 ck, .int .i64 cs, .int .i64 ct, .int .i64 cl, .int .i64 cq, .int .i64 ci, .float .f64 cp, .string cg]] w fun e w' => e = .returned (.bool true) ∧ Below w.heap.size w w' := by
  go_enter Tryz.func38, Tryz.ntmps38
  go_wp2_with (go_at_call 47; refine (bitsS_any cp _).mono ?_; rintro e w' ⟨rfl, rfl⟩)
  go_ret
  exact ⟨rfl, by go_grown⟩
theorem plain_any (c : Cm) (w : World) : Calls Tryz.prog 38 #[cmV c] w fun e w' => e = .returned (.bool (plainC c)) ∧ Below w.heap.size w w' := by
  obtain ⟨ck, cs, ct, cl, cq, ci, cp, cg⟩ := c
  unfold cmV plainC
  simp only
  cases h0 : (ck == 0) with
  | false => exact plain0 ck cs ct cl cq ci cp cg w h0
  | true =>
    cases h1 : (cs == 0) with
    | false => exact plain1 ck cs ct cl cq ci cp cg w h0 h1
    | true =>
      cases h2 : (ct == 0) with
      | false => exact plain2 ck cs ct cl cq ci cp cg w h0 h1 h2
      | true =>
        cases h3 : (cl == 0) with
        | false => exact plain3 ck cs ct cl cq ci cp cg w h0 h1 h2 h3
        | true =>
          cases h4 : (cq == 0) with
          | false => exact plain4 ck cs ct cl cq ci cp cg w h0 h1 h2 h3 h4
          | true =>
            cases h5 : (ci == 0) with
            | false => exact plain5 ck cs ct cl cq ci cp cg w h0 h1 h2 h3 h4 h5
            | true =>
              have efb : (fbit cp == 0) = (((fbit cp : Nat) : Int) == 0) := by rw [Bool.eq_iff_iff]; simp
              rw [efb]
              cases h6 : (((fbit cp : Nat) : Int) == 0) with
              | false => exact plain6 ck cs ct cl cq ci cp cg w h0 h1 h2 h3 h4 h5 h6
              | true =>
                have eg : decide (cg.toList = []) = (cg.toList == []) := by rw [Bool.eq_iff_iff]; simp
                rw [eg]
                cases h7 : (cg.toList == []) with
                | false => exact plain7 ck cs ct cl cq ci cp cg w h0 h1 h2 h3 h4 h5 h6 h7
                | true =>
                  exact plain8 ck cs ct cl cq ci cp cg w h0 h1 h2 h3 h4 h5 h6 h7
/-- How the model's fields of a kind come out. -/
def FlEnd (k : Int) (w : World) (e : Ending) (w' : World) : Prop := ∃ g, e = .returned (.slice (some ⟨g, 0, none⟩) (fldK k).length (fldK k).length) ∧ w.heap.size ≤ g ∧ Bx w' g ((fldK k).map Value.bool) ∧ Below w.heap.size w w'
theorem flEnd_made (k : Int) (l : List Bool) (w : World) (t : TypeId) (h : fldK k = l) : FlEnd k w (.returned (.slice (some ⟨w.heap.size, 0, none⟩) l.length l.length)) (w.alloc (Obj.cells (l.map Value.bool).toArray t)) := by
  subst h
  exact ⟨w.heap.size, rfl, Nat.le_refl _, bx_made w _ t, (Below.refl _ _).alloc (Nat.le_refl _) _⟩
theorem fields1 (w : World) : Calls Tryz.prog 36 #[.int .i64 1] w fun e w' => FlEnd 1 w e w' := by
  have HE := hide (flEnd_made 1 (fldK 1) w 4 rfl)
  go_enter Tryz.func36, Tryz.ntmps36
  go_wp2_with fail
  go_ret
  exact unhide HE
theorem fields2 (w : World) : Calls Tryz.prog 36 #[.int .i64 2] w fun e w' => FlEnd 2 w e w' := by
  have HE := hide (flEnd_made 2 (fldK 2) w 4 rfl)
  go_enter Tryz.func36, Tryz.ntmps36
  go_wp2_with fail
  go_ret
  exact unhide HE
theorem fields3 (w : World) : Calls Tryz.prog 36 #[.int .i64 3] w fun e w' => FlEnd 3 w e w' := by
  have HE := hide (flEnd_made 3 (fldK 3) w 4 rfl)
  go_enter Tryz.func36, Tryz.ntmps36
  go_wp2_with fail
  go_ret
  exact unhide HE
theorem fields4 (w : World) : Calls Tryz.prog 36 #[.int .i64 4] w fun e w' => FlEnd 4 w e w' := by
  have HE := hide (flEnd_made 4 (fldK 4) w 4 rfl)
  go_enter Tryz.func36, Tryz.ntmps36
  go_wp2_with fail
  go_ret
  exact unhide HE
theorem fields5 (w : World) : Calls Tryz.prog 36 #[.int .i64 5] w fun e w' => FlEnd 5 w e w' := by
  have HE := hide (flEnd_made 5 (fldK 5) w 4 rfl)
  go_enter Tryz.func36, Tryz.ntmps36
  go_wp2_with fail
  go_ret
  exact unhide HE
theorem fields6 (w : World) : Calls Tryz.prog 36 #[.int .i64 6] w fun e w' => FlEnd 6 w e w' := by
  have HE := hide (flEnd_made 6 (fldK 6) w 4 rfl)
  go_enter Tryz.func36, Tryz.ntmps36
  go_wp2_with fail
  go_ret
  exact unhide HE
theorem fields7 (w : World) : Calls Tryz.prog 36 #[.int .i64 7] w fun e w' => FlEnd 7 w e w' := by
  have HE := hide (flEnd_made 7 (fldK 7) w 4 rfl)
  go_enter Tryz.func36, Tryz.ntmps36
  go_wp2_with fail
  go_ret
  exact unhide HE
theorem fields8 (w : World) : Calls Tryz.prog 36 #[.int .i64 8] w fun e w' => FlEnd 8 w e w' := by
  have HE := hide (flEnd_made 8 (fldK 8) w 4 rfl)
  go_enter Tryz.func36, Tryz.ntmps36
  go_wp2_with fail
  go_ret
  exact unhide HE
theorem fields9 (w : World) : Calls Tryz.prog 36 #[.int .i64 9] w fun e w' => FlEnd 9 w e w' := by
  have HE := hide (flEnd_made 9 (fldK 9) w 4 rfl)
  go_enter Tryz.func36, Tryz.ntmps36
  go_wp2_with fail
  go_ret
  exact unhide HE
theorem fieldsN (k : Int) (w : World) (h : ¬ (1 ≤ k ∧ k ≤ 9)) : Calls Tryz.prog 36 #[.int .i64 k] w fun e w' => FlEnd k w e w' := by
  have HE := hide (flEnd_made k [] w 4 (by unfold fldK; rw [if_neg (by omega), if_neg (by omega), if_neg (by omega), if_neg (by omega), if_neg (by omega)]))
  have e1 : (k == 1) = false := beq_eq_false_iff_ne.2 (by omega)
  have e2 : (k == 2) = false := beq_eq_false_iff_ne.2 (by omega)
  have e3 : (k == 3) = false := beq_eq_false_iff_ne.2 (by omega)
  have e4 : (k == 4) = false := beq_eq_false_iff_ne.2 (by omega)
  have e5 : (k == 5) = false := beq_eq_false_iff_ne.2 (by omega)
  have e6 : (k == 6) = false := beq_eq_false_iff_ne.2 (by omega)
  have e7 : (k == 7) = false := beq_eq_false_iff_ne.2 (by omega)
  have e8 : (k == 8) = false := beq_eq_false_iff_ne.2 (by omega)
  have e9 : (k == 9) = false := beq_eq_false_iff_ne.2 (by omega)
  clear h
  go_enter Tryz.func36, Tryz.ntmps36
  go_wp2_with fail
  go_ret
  exact unhide HE
theorem fields_any (k : Int) (w : World) : Calls Tryz.prog 36 #[.int .i64 k] w fun e w' => FlEnd k w e w' := by
  by_cases h : 1 ≤ k ∧ k ≤ 9
  · rcases (show k = 1 ∨ k = 2 ∨ k = 3 ∨ k = 4 ∨ k = 5 ∨ k = 6 ∨ k = 7 ∨ k = 8 ∨ k = 9 by omega) with rfl | rfl | rfl | rfl | rfl | rfl | rfl | rfl | rfl
    · exact fields1 w
    · exact fields2 w
    · exact fields3 w
    · exact fields4 w
    · exact fields5 w
    · exact fields6 w
    · exact fields7 w
    · exact fields8 w
    · exact fields9 w
  · exact fieldsN k w h
theorem size_mk (w : World) (o : Obj) : (w.alloc o).heap.size = w.heap.size + 1 := by simp
set_option maxRecDepth 100000 in
theorem numbers_any (e : Ev) (w : World) : Calls Tryz.prog 37 #[evV e] w fun r w' => ∃ g, r = .returned (.slice (some ⟨g, 0, none⟩) 5 5) ∧ w.heap.size ≤ g ∧ Bx w' g ((numsE e).map (Value.int .i64)) ∧ Below w.heap.size w w' := by
  have HE : Hid (∀ w' : World, Below w.heap.size w w' → ∃ g, Ending.returned (.slice (some ⟨w'.heap.size, 0, none⟩) 5 5) = .returned (.slice (some ⟨g, 0, none⟩) 5 5) ∧ w.heap.size ≤ g ∧ Bx (w'.alloc (Obj.cells ((numsE e).map (Value.int .i64)).toArray 3)) g ((numsE e).map (Value.int .i64)) ∧ Below w.heap.size w (w'.alloc (Obj.cells ((numsE e).map (Value.int .i64)).toArray 3))) := fun w' hb =>
    ⟨w'.heap.size, rfl, hb.size, bx_made w' _ _, hb.alloc hb.size _⟩
  have hb : Below w.heap.size w (w.alloc (Obj.cells e.vs.toArray 46)) := (Below.refl _ _).alloc (Nat.le_refl _) _
  have HB := hide hb
  obtain ⟨kind, ⟨ck, cs, ct, cl, cq, ci, cp, cg⟩, id, other, qty, price, reason⟩ := e
  unfold evV
  unfold numsE at HE ⊢
  unfold Ev.vs at HB
  simp only [List.map_cons, List.map_nil] at HE HB ⊢
  clear hb
  go_enter Tryz.func37, Tryz.ntmps37
  go_wp2_with fail
  go_ret
  have hf := unhide HE _ (unhide HB)
  rw [size_mk] at hf
  exact hf
end Go.Proofs.YtmeekcdoajbjdaaGreatDoor
