/-
  The command of a line's words, as the model reads it: proved by walking the function.
-/
import Derived.Test.YtjjopdkbdebfoaaDoorCmdR
import Derived.Test.YtjjopdkbdebfoaaDoorPriS
import Derived.Handy
namespace Go.Proofs.YtjjopdkbdebfoaaDoor
open Go.RowKit
set_option linter.unusedVariables false

/-- What reading a command tells. -/
def CmEnd (ws : List ByteArray) (w : World) (e : Ending) (w' : World) : Prop := ∃ c, e = .returned (.tuple #[cmA c, .bool (cmK ws)]) ∧ (cmK ws = true → c = cmC ws) ∧ Below w.heap.size w w'
def sdWs : List ByteArray := [⟨#[]⟩, ⟨#[98, 117, 121]⟩, ⟨#[115, 101, 108, 108]⟩]
theorem rd_lit {W : World} {b : Nat} {l : List ByteArray} (hb : b < W.heap.size) (hl : l.length ≤ 100) (h : W.rangeAt b 0 (l.map Value.string)) : RdR tx1 1 W (.slice (some ⟨b, 0, none⟩) l.length l.length) l :=
  ⟨_, _, rfl, by omega, fun _ => ⟨b, 0, rfl, hb, fun i c hc j u hu => by
    match j, hu with
    | 0, hu =>
      simp only [tx1, List.getElem?_cons_zero, Option.some.injEq] at hu
      subst hu
      have := h i (.string c) (by rw [List.getElem?_map, hc]; rfl)
      rw [Nat.zero_add] at this ⊢
      rw [Nat.mul_one]
      exact this
    | j + 1, hu => simp [tx1] at hu⟩⟩
theorem str_yes {s : ByteArray} {l : List UInt8} (h : s.data.toList = l) : (s.toList == l) = true := by rw [Lib.toList_data, h]; simp
theorem str_no {s : ByteArray} {l : List UInt8} (h : ¬ s.data.toList = l) : (s.toList == l) = false := by rw [Lib.toList_data]; simpa using h

/-- A row of words that the call made: where it lies. -/
theorem trow_words {W : World} {B : Nat} {v : Value} {ws : List ByteArray} (h : TRow W B v ws) (hne : ws ≠ []) : ∃ g cap, v = .slice (some ⟨g, 0, none⟩) ws.length cap ∧ ws.length ≤ cap ∧ cap ≤ maxLen ∧ g < W.heap.size ∧ ∀ i, i < ws.length → W.cell? ⟨g, i, none⟩ = some (.string (wB ws i)) := by
  rcases h.2 with ⟨_, h0⟩ | ⟨g, cap, cur, rfl, _, hg, hcap, hm, hcur, htake⟩
  · exact absurd (List.length_eq_zero_iff.1 h0) hne
  · refine ⟨g, cap, rfl, hcap, hm, (Array.getElem?_eq_some_iff.1 hg).1, fun i hi => ?_⟩
    rw [cell_of_row W g i cur _ (0, 0) hg]
    have h2 : (ws.map Value.string)[i]? = some (.string (wB ws i)) := by rw [List.getElem?_map, wB_get hi]; rfl
    rw [← htake, List.getElem?_take, if_pos (by omega)] at h2
    simpa using h2
set_option maxRecDepth 100000 in
set_option maxHeartbeats 1600000 in
/-- Words whose first is no side's, or is one of a command that has other words: none's. -/
theorem l08Cmd_none (ws : List ByteArray) (g cap : Nat) (w : World) (hcap : ws.length ≤ cap) (hcm : cap ≤ maxLen) (hg : g < w.heap.size) (hcell : ∀ i, i < ws.length → w.cell? ⟨g, i, none⟩ = some (.string (wB ws i))) (hpos : 0 < ws.length) (h1 : ¬ (wL ws 0 = kEnd ∧ ws.length = 1)) (h2 : ¬ (wL ws 0 = kCan ∧ ws.length = 2)) (h3 : ¬ (wL ws 0 = kRed ∧ ws.length = 3)) (h4 : sdW (wL ws 0) = 0) :
    Calls Tryd.prog 14 #[.slice (some ⟨g, 0, none⟩) ws.length cap] w fun e w' => CmEnd ws w e w' := by
  have hK : cmK ws = false := by
    unfold cmK
    split
    · rename_i h; exact decide_eq_false (fun e => h1 ⟨h, e⟩)
    · split
      · rename_i h; rw [decide_eq_false (fun e => h2 ⟨h, e⟩)]; rfl
      · split
        · rename_i h; rw [decide_eq_false (fun e => h3 ⟨h, e⟩)]; rfl
        · rw [if_neg (by simp [h4])]
  have HE : Hid (∀ w', Below w.heap.size w w' → CmEnd ws w (.returned (.tuple #[cmA zC, .bool false])) w') := fun w' hb => by unfold CmEnd; exact ⟨zC, by rw [hK], (fun h => by rw [hK] at h; cases h), hb⟩
  have hix : idxW (wL ws 0) sdWs 0 < 1 := by
    unfold sdW at h4
    by_cases hb : wL ws 0 = kBuy
    · rw [if_pos hb] at h4; cases h4
    · rw [if_neg hb] at h4
      by_cases hs : wL ws 0 = kSel
      · rw [if_pos hs] at h4; cases h4
      · unfold sdWs idxW idxW idxW idxW
        split
        · decide
        · rw [if_neg (fun e => hb e.symm), if_neg (fun e => hs e.symm)]; decide
  have hpos' : (0 : Int) < ws.length := by omega
  have x0 : (w.alloc (Obj.cells #[.int .i64 0, .int .i64 0, .int .i64 0, .int .i64 0, .int .i64 0, .int .i64 0, .float .f64 0, .string ⟨#[]⟩] 24)).cell? ⟨g, 0, none⟩ = some (.string (wB ws 0)) := by
    rw [World.cell?_alloc_old _ _ _ (Nat.ne_of_lt hg)]
    exact hcell 0 (by omega)
  have hcs : ∃ b1 b2 b3 : Bool, ((wB ws 0).toList == [101, 110, 100]) = b1 ∧ ((wB ws 0).toList == [99, 97, 110, 99, 101, 108]) = b2 ∧ ((wB ws 0).toList == [114, 101, 100, 117, 99, 101]) = b3 ∧ (b1 && decide (ws.length = 1)) = false ∧ (b2 && decide (ws.length = 2)) = false ∧ (b3 && decide (ws.length = 3)) = false := by
    refine ⟨_, _, _, rfl, rfl, rfl, ?_, ?_, ?_⟩
    · rw [Bool.and_eq_false_iff, decide_eq_false_iff_not, Lib.toList_data]
      by_cases h : wL ws 0 = kEnd
      · exact .inr (fun e => h1 ⟨h, e⟩)
      · left; unfold wL kEnd at h; simpa using h
    · rw [Bool.and_eq_false_iff, decide_eq_false_iff_not, Lib.toList_data]
      by_cases h : wL ws 0 = kCan
      · exact .inr (fun e => h2 ⟨h, e⟩)
      · left; unfold wL kCan at h; simpa using h
    · rw [Bool.and_eq_false_iff, decide_eq_false_iff_not, Lib.toList_data]
      by_cases h : wL ws 0 = kRed
      · exact .inr (fun e => h3 ⟨h, e⟩)
      · left; unfold wL kRed at h; simpa using h
  obtain ⟨b1, b2, b3, e1, e2, e3, g1, g2, g3⟩ := hcs
  have HW := hide (fun W v (h : RdR tx1 1 W v sdWs) => l08Word_any v sdWs (wB ws 0) W h)
  have HIX : Hid (idxW (wB ws 0).data.toList sdWs 0 < 1) := hix
  have HR1 : Hid (RdR tx1 1 ((w.alloc (Obj.cells #[.int .i64 0, .int .i64 0, .int .i64 0, .int .i64 0, .int .i64 0, .int .i64 0, .float .f64 0, .string ⟨#[]⟩] 24)).alloc (Obj.cells #[.string ⟨#[]⟩, .string ⟨#[98, 117, 121]⟩, .string ⟨#[115, 101, 108, 108]⟩] 9)) (.slice (some ⟨w.heap.size + 1, 0, none⟩) 3 3) sdWs) := by
    have h := cells_madeT (w.alloc (Obj.cells #[.int .i64 0, .int .i64 0, .int .i64 0, .int .i64 0, .int .i64 0, .int .i64 0, .float .f64 0, .string ⟨#[]⟩] 24)) [.string ⟨#[]⟩, .string ⟨#[98, 117, 121]⟩, .string ⟨#[115, 101, 108, 108]⟩] 9
    rw [size_madeT] at h
    exact rd_lit (l := sdWs) (by rw [size_madeT, size_madeT]; omega) (by decide) h
  have f1 : b1 = false ∨ (b1 = true ∧ ((ws.length : Int) == 1) = false) := by
    cases b1 with
    | false => exact .inl rfl
    | true => exact .inr ⟨rfl, beq_eq_false_iff_ne.2 (fun e => (by simpa using g1 : ¬ ws.length = 1) (by omega))⟩
  have f2 : b2 = false ∨ (b2 = true ∧ ((ws.length : Int) == 2) = false) := by
    cases b2 with
    | false => exact .inl rfl
    | true => exact .inr ⟨rfl, beq_eq_false_iff_ne.2 (fun e => (by simpa using g2 : ¬ ws.length = 2) (by omega))⟩
  have f3 : b3 = false ∨ (b3 = true ∧ ((ws.length : Int) == 3) = false) := by
    cases b3 with
    | false => exact .inl rfl
    | true => exact .inr ⟨rfl, beq_eq_false_iff_ne.2 (fun e => (by simpa using g3 : ¬ ws.length = 3) (by omega))⟩
  clear hK h1 h2 h3 h4 hix hcell g1 g2 g3 hcap hcm
  generalize wB ws 0 = s0 at *
  generalize hiv : idxW s0.data.toList sdWs 0 = ix at *
  clear hiv
  have hixl : ix < 1 := unhide HIX
  generalize ws.length = n at *
  have hsf := sfl
  rcases f1 with rfl | ⟨rfl, f1⟩
  all_goals rcases f2 with rfl | ⟨rfl, f2⟩
  all_goals rcases f3 with rfl | ⟨rfl, f3⟩
  all_goals go_enter Tryd.func14, Tryd.ntmps14
  all_goals go_wp2_with fail
  all_goals refine (unhide HW _ _ (unhide HR1)).mono ?_
  all_goals rintro e w1 ⟨rfl, rfl⟩
  all_goals go_wp2_with fail
  all_goals go_returns
  all_goals exact unhide HE _ (by go_grown)
set_option maxRecDepth 100000 in
set_option maxHeartbeats 1600000 in
/-- The end of a day. -/
theorem l08Cmd_end (ws : List ByteArray) (g cap : Nat) (w : World) (hcap : ws.length ≤ cap) (hcm : cap ≤ maxLen) (hg : g < w.heap.size) (hcell : ∀ i, i < ws.length → w.cell? ⟨g, i, none⟩ = some (.string (wB ws i))) (h0 : wL ws 0 = kEnd) (hn : ws.length = 1) (hsz : ∀ i, (wB ws i).size ≤ 1048576) :
    Calls Tryd.prog 14 #[.slice (some ⟨g, 0, none⟩) ws.length cap] w fun e w' => CmEnd ws w e w' := by
  have x0 : (w.alloc (Obj.cells #[.int .i64 0, .int .i64 0, .int .i64 0, .int .i64 0, .int .i64 0, .int .i64 0, .float .f64 0, .string ⟨#[]⟩] 24)).cell? ⟨g, 0, none⟩ = some (.string (wB ws 0)) := by
    rw [World.cell?_alloc_old _ _ _ (Nat.ne_of_lt hg)]
    exact hcell 0 (by omega)
  have e0 := str_yes (s := wB ws 0) (l := [101, 110, 100]) h0
  have HE : Hid (∀ w', Below w.heap.size w w' → CmEnd ws w (.returned (.tuple #[cmA ⟨4, 0, 0, 0, 0, 0, 0, ⟨#[]⟩⟩, .bool true])) w') := fun w' hb => by
    have hK : cmK ws = true := by unfold cmK; rw [if_pos h0, decide_eq_true hn]
    unfold CmEnd; exact ⟨_, by rw [hK], fun _ => by unfold cmC; rw [if_pos h0], hb⟩
  rw [hn]
  clear h0 hn hcell hcap hcm hsz
  generalize wB ws 0 = s0 at *
  have hsf := sfl
  go_enter Tryd.func14, Tryd.ntmps14
  go_wp2_with fail
  go_returns
  exact unhide HE _ (by go_grown)
set_option maxRecDepth 100000 in
set_option maxHeartbeats 1600000 in
/-- An order that is cancelled. -/
theorem l08Cmd_can (ws : List ByteArray) (g cap : Nat) (w : World) (hcap : ws.length ≤ cap) (hcm : cap ≤ maxLen) (hg : g < w.heap.size) (hcell : ∀ i, i < ws.length → w.cell? ⟨g, i, none⟩ = some (.string (wB ws i))) (h0 : wL ws 0 = kCan) (hn : ws.length = 2) (hsz : ∀ i, (wB ws i).size ≤ 1048576) :
    Calls Tryd.prog 14 #[.slice (some ⟨g, 0, none⟩) ws.length cap] w fun e w' => CmEnd ws w e w' := by
  have x0 : (w.alloc (Obj.cells #[.int .i64 0, .int .i64 0, .int .i64 0, .int .i64 0, .int .i64 0, .int .i64 0, .float .f64 0, .string ⟨#[]⟩] 24)).cell? ⟨g, 0, none⟩ = some (.string (wB ws 0)) := by
    rw [World.cell?_alloc_old _ _ _ (Nat.ne_of_lt hg)]
    exact hcell 0 (by omega)
  have x1 : (w.alloc (Obj.cells #[.int .i64 0, .int .i64 0, .int .i64 0, .int .i64 0, .int .i64 0, .int .i64 0, .float .f64 0, .string ⟨#[]⟩] 24)).cell? ⟨g, 1, none⟩ = some (.string (wB ws 1)) := by
    rw [World.cell?_alloc_old _ _ _ (Nat.ne_of_lt hg)]
    exact hcell 1 (by omega)
  have e0 := str_yes (s := wB ws 0) (l := [99, 97, 110, 99, 101, 108]) h0
  have e1 := str_no (s := wB ws 0) (l := [101, 110, 100]) (by rw [show (wB ws 0).data.toList = [99, 97, 110, 99, 101, 108] from h0]; decide)
  have hne : ¬ wL ws 0 = kEnd := by rw [h0]; decide
  have HN := hide (fun W => l00Number_any (wB ws 1) W (hsz 1))
  have HE : Hid (∀ w', Below w.heap.size w w' → CmEnd ws w (.returned (.tuple #[cmA ⟨2, 0, 0, 0, 0, nmV (wL ws 1), 0, ⟨#[]⟩⟩, .bool (nmOk (wL ws 1))])) w') := fun w' hb => by
    have hK : cmK ws = nmOk (wL ws 1) := by unfold cmK; rw [if_neg hne, if_pos h0, decide_eq_true hn]; rfl
    unfold CmEnd; exact ⟨_, by rw [hK], fun _ => by unfold cmC; rw [if_neg hne, if_pos h0], hb⟩
  unfold nmE wL at *
  generalize nmV (wB ws 1).data.toList = v1 at *
  generalize nmOk (wB ws 1).data.toList = o1 at *
  rw [hn]
  clear h0 hn hcell hcap hcm hsz hne
  generalize wB ws 0 = s0 at *
  generalize wB ws 1 = s1 at *
  have hsf := sfl
  go_enter Tryd.func14, Tryd.ntmps14
  go_wp2_with fail
  refine (unhide HN _).mono ?_
  rintro e w1 ⟨rfl, rfl⟩
  go_wp2_with fail
  go_returns
  exact unhide HE _ (by go_grown)
set_option maxRecDepth 100000 in
set_option maxHeartbeats 1600000 in
/-- An order that is reduced. -/
theorem l08Cmd_red (ws : List ByteArray) (g cap : Nat) (w : World) (hcap : ws.length ≤ cap) (hcm : cap ≤ maxLen) (hg : g < w.heap.size) (hcell : ∀ i, i < ws.length → w.cell? ⟨g, i, none⟩ = some (.string (wB ws i))) (h0 : wL ws 0 = kRed) (hn : ws.length = 3) (hsz : ∀ i, (wB ws i).size ≤ 1048576) :
    Calls Tryd.prog 14 #[.slice (some ⟨g, 0, none⟩) ws.length cap] w fun e w' => CmEnd ws w e w' := by
  have x0 : (w.alloc (Obj.cells #[.int .i64 0, .int .i64 0, .int .i64 0, .int .i64 0, .int .i64 0, .int .i64 0, .float .f64 0, .string ⟨#[]⟩] 24)).cell? ⟨g, 0, none⟩ = some (.string (wB ws 0)) := by
    rw [World.cell?_alloc_old _ _ _ (Nat.ne_of_lt hg)]
    exact hcell 0 (by omega)
  have x1 : (w.alloc (Obj.cells #[.int .i64 0, .int .i64 0, .int .i64 0, .int .i64 0, .int .i64 0, .int .i64 0, .float .f64 0, .string ⟨#[]⟩] 24)).cell? ⟨g, 1, none⟩ = some (.string (wB ws 1)) := by
    rw [World.cell?_alloc_old _ _ _ (Nat.ne_of_lt hg)]
    exact hcell 1 (by omega)
  have x2 : (w.alloc (Obj.cells #[.int .i64 0, .int .i64 0, .int .i64 0, .int .i64 0, .int .i64 0, .int .i64 0, .float .f64 0, .string ⟨#[]⟩] 24)).cell? ⟨g, 2, none⟩ = some (.string (wB ws 2)) := by
    rw [World.cell?_alloc_old _ _ _ (Nat.ne_of_lt hg)]
    exact hcell 2 (by omega)
  have e0 := str_yes (s := wB ws 0) (l := [114, 101, 100, 117, 99, 101]) h0
  have e1 := str_no (s := wB ws 0) (l := [101, 110, 100]) (by rw [show (wB ws 0).data.toList = [114, 101, 100, 117, 99, 101] from h0]; decide)
  have e2 := str_no (s := wB ws 0) (l := [99, 97, 110, 99, 101, 108]) (by rw [show (wB ws 0).data.toList = [114, 101, 100, 117, 99, 101] from h0]; decide)
  have hne : ¬ wL ws 0 = kEnd := by rw [h0]; decide
  have hne2 : ¬ wL ws 0 = kCan := by rw [h0]; decide
  have HN := hide (fun W => l00Number_any (wB ws 1) W (hsz 1))
  have HM := hide (fun W => l00Number_any (wB ws 2) W (hsz 2))
  have HE : Hid (∀ w', Below w.heap.size w w' → CmEnd ws w (.returned (.tuple #[cmA ⟨3, 0, 0, 0, nmV (wL ws 2), nmV (wL ws 1), 0, ⟨#[]⟩⟩, .bool (nmOk (wL ws 1) && nmOk (wL ws 2))])) w') := fun w' hb => by
    have hK : cmK ws = (nmOk (wL ws 1) && nmOk (wL ws 2)) := by unfold cmK; rw [if_neg hne, if_neg hne2, if_pos h0, decide_eq_true hn]; rfl
    unfold CmEnd; exact ⟨_, by rw [hK], fun _ => by unfold cmC; rw [if_neg hne, if_neg hne2, if_pos h0], hb⟩
  unfold nmE wL at *
  generalize nmV (wB ws 1).data.toList = v1 at *
  generalize nmOk (wB ws 1).data.toList = o1 at *
  generalize nmV (wB ws 2).data.toList = v2 at *
  generalize nmOk (wB ws 2).data.toList = o2 at *
  rw [hn]
  clear h0 hn hcell hcap hcm hsz hne hne2
  generalize wB ws 0 = s0 at *
  generalize wB ws 1 = s1 at *
  generalize wB ws 2 = s2 at *
  have hsf := sfl
  cases o1
  all_goals cases o2
  all_goals go_enter Tryd.func14, Tryd.ntmps14
  all_goals go_wp2_with fail
  all_goals refine (unhide HN _).mono ?_
  all_goals rintro e w1 ⟨rfl, rfl⟩
  all_goals go_wp2_with fail
  all_goals refine (unhide HM _).mono ?_
  all_goals rintro e w1 ⟨rfl, rfl⟩
  all_goals go_wp2_with fail
  all_goals go_returns
  all_goals exact unhide HE _ (by go_grown)
end Go.Proofs.YtjjopdkbdebfoaaDoor
