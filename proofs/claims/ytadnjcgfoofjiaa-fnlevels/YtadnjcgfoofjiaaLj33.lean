/-
  The queue of a side in its groups, and the levels beside it, as pure data; no function walked.
-/
import Derived.Test.YtadnjcgfoofjiaaLj32
namespace Go.Proofs.Ytadnjcgfoofjiaa
open Go.RowKit
set_option linter.unusedVariables false

/-- Where the group of the j-th price begins. -/
def posG (s : Bool) (seq : List Od) (j : Nat) : Nat := (((tks s seq).take j).flatMap (atK seq)).length
theorem posG_zero (s : Bool) (seq : List Od) : posG s seq 0 = 0 := by simp [posG]
theorem posG_succ {s : Bool} {seq : List Od} {j : Nat} {tk : Int} (h : (tks s seq)[j]? = some tk) : posG s seq (j + 1) = posG s seq j + (atK seq tk).length := by
  obtain ⟨hj, rfl⟩ := List.getElem?_eq_some_iff.1 h
  unfold posG
  rw [List.take_succ_eq_append_getElem hj, List.flatMap_append, List.length_append]
  simp
theorem posG_end (s : Bool) (seq : List Od) : posG s seq (tks s seq).length = (quOf s seq).length := by
  unfold posG quOf; rw [List.take_of_length_le (Nat.le_refl _)]
theorem atK_ne {s : Bool} {seq : List Od} {j : Nat} {tk : Int} (h : (tks s seq)[j]? = some tk) : atK seq tk ≠ [] := by
  obtain ⟨o, h1, h2⟩ := ((isT_tks s seq).mem tk).1 (List.mem_of_getElem? h)
  intro e
  have : o ∈ atK seq tk := by simp [atK]; exact ⟨h1, h2⟩
  rw [e] at this; simp at this
theorem quOf_split {s : Bool} {seq : List Od} {j : Nat} {tk : Int} (h : (tks s seq)[j]? = some tk) : quOf s seq = ((tks s seq).take j).flatMap (atK seq) ++ (atK seq tk ++ ((tks s seq).drop (j + 1)).flatMap (atK seq)) := by
  obtain ⟨hj, rfl⟩ := List.getElem?_eq_some_iff.1 h
  unfold quOf
  conv => lhs; rw [← List.take_append_drop j (tks s seq), List.drop_eq_getElem_cons hj, List.flatMap_append, List.flatMap_cons]
theorem quOf_get {s : Bool} {seq : List Od} {j i : Nat} {tk : Int} (h : (tks s seq)[j]? = some tk) (hi : i < (atK seq tk).length) : (quOf s seq)[posG s seq j + i]? = (atK seq tk)[i]? := by
  rw [quOf_split h, List.getElem?_append_right (by unfold posG; omega)]
  rw [show posG s seq j + i - (((tks s seq).take j).flatMap (atK seq)).length = i by unfold posG; omega, List.getElem?_append_left hi]
theorem posG_le {s : Bool} {seq : List Od} {j : Nat} {tk : Int} (h : (tks s seq)[j]? = some tk) : posG s seq j + (atK seq tk).length ≤ (quOf s seq).length := by
  rw [quOf_split h, List.length_append, List.length_append]; unfold posG; omega
theorem posG_lt {s : Bool} {seq : List Od} {j : Nat} (hj : j < (tks s seq).length) : posG s seq j < (quOf s seq).length := by
  have h : (tks s seq)[j]? = some (tks s seq)[j] := List.getElem?_eq_getElem hj
  have := posG_le h
  have := List.length_pos_iff.2 (atK_ne h)
  omega
theorem lvs_get {s : Bool} {sd : Int} {seq : List Od} {j : Nat} {tk : Int} (h : (tks s seq)[j]? = some tk) : (lvsOf s sd seq)[j]? = some (lvAt sd seq tk) := by
  unfold lvsOf; rw [List.getElem?_map, h]; rfl
theorem tks_next {s : Bool} {seq : List Od} {j : Nat} {tk tk' : Int} (h : (tks s seq)[j]? = some tk) (h' : (tks s seq)[j + 1]? = some tk') : bt s tk tk' := by
  obtain ⟨h1, rfl⟩ := List.getElem?_eq_some_iff.1 h
  obtain ⟨h2, rfl⟩ := List.getElem?_eq_some_iff.1 h'
  exact List.pairwise_iff_getElem.1 (isT_tks s seq).sorted j (j + 1) h1 h2 (by omega)
theorem atK_mem {seq : List Od} {tk : Int} {o : Od} (h : o ∈ atK seq tk) : o ∈ seq ∧ o.ticks = tk := by
  simp [atK] at h; exact h
theorem atK_rise {seq : List Od} {tk : Int} {i : Nat} {a b : Od} (hr : Rising seq) (ha : (atK seq tk)[i]? = some a) (hb : (atK seq tk)[i + 1]? = some b) : a.id < b.id := by
  have h : (atK seq tk).Pairwise (fun a b => a.id < b.id) := List.Pairwise.sublist List.filter_sublist hr
  obtain ⟨h1, rfl⟩ := List.getElem?_eq_some_iff.1 ha
  obtain ⟨h2, rfl⟩ := List.getElem?_eq_some_iff.1 hb
  exact List.pairwise_iff_getElem.1 h i (i + 1) h1 h2 (by omega)
theorem sumL_take {G : List Od} {i : Nat} {o : Od} (h : G[i]? = some o) : sumL (G.take (i + 1)) = sumL (G.take i) + o.left := by
  obtain ⟨hi, rfl⟩ := List.getElem?_eq_some_iff.1 h
  rw [List.take_succ_eq_append_getElem hi, sumL_snoc]
/-- The levels of both sides, one side behind the other. -/
def lvsB (l : List Od) : List Lv := lvsOf true 1 (ofSide l 1) ++ lvsOf false 2 (ofSide l 2)
def nG (l : List Od) : Nat → Nat
  | 0 => 0
  | 1 => (tks true (ofSide l 1)).length
  | _ => (tks true (ofSide l 1)).length + (tks false (ofSide l 2)).length
theorem lvsB_len (l : List Od) : (lvsB l).length = nG l 2 := by
  unfold lvsB lvsOf; rw [List.length_append, List.length_map, List.length_map]; rfl
theorem nG_succ (l : List Od) (m : Nat) (hm : m < 2) : nG l (m + 1) = nG l m + (tks (decide ((m : Int) + 1 = 1)) (ofSide l ((m : Int) + 1))).length := by
  rcases (by omega : m = 0 ∨ m = 1) with rfl | rfl
  · simp [nG]
  · simp [nG]
theorem lvsB_get (l : List Od) (m j : Nat) (tk : Int) (hm : m < 2) (h : (tks (decide ((m : Int) + 1 = 1)) (ofSide l ((m : Int) + 1)))[j]? = some tk) : (lvsB l)[nG l m + j]? = some (lvAt ((m : Int) + 1) (ofSide l ((m : Int) + 1)) tk) := by
  rcases (by omega : m = 0 ∨ m = 1) with rfl | rfl
  · have hj := (List.getElem?_eq_some_iff.1 h).1
    simp at h hj
    have := lvs_get (sd := 1) h
    have hl : j < (lvsOf true 1 (ofSide l 1)).length := by rw [lvsOf, List.length_map]; exact hj
    unfold lvsB
    rw [List.getElem?_append_left (by simpa [nG] using hl)]
    simpa [nG] using this
  · simp at h
    have := lvs_get (sd := 2) h
    unfold lvsB
    rw [List.getElem?_append_right (by simp [nG, lvsOf])]
    simpa [nG, lvsOf] using this
end Go.Proofs.Ytadnjcgfoofjiaa
