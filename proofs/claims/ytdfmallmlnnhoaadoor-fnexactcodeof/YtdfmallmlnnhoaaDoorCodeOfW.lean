/-
  What the two functions that find the code of a word return, proved by walking them, and the exact law over them: it returns true, and nothing that was there is turned.
-/
import Derived.Test.YtdfmallmlnnhoaaDoorCodeW
namespace Go.Proofs.YtdfmallmlnnhoaaDoor
open Go.RowKit

/-- The code of a word. -/
def codeB (s : ByteArray) : Int := match (List.range 9).find? (fun i => decide (wordAt i = s)) with | some i => (i : Int) | none => -1
theorem code_at (s : ByteArray) (k : Nat) (hk : k < 9) (hne : ∀ j, j < k → wordAt j ≠ s) (he : wordAt k = s) : codeB s = k := by
  have h : (List.range 9).find? (fun i => decide (wordAt i = s)) = some k := by
    rw [List.find?_range_eq_some]
    exact ⟨by simpa using he, by simpa using hk, fun j hj => by simpa using hne j hj⟩
  unfold codeB; rw [h]
theorem code_none (s : ByteArray) (hne : ∀ j, j < 9 → wordAt j ≠ s) : codeB s = -1 := by
  have h : (List.range 9).find? (fun i => decide (wordAt i = s)) = none := by
    rw [List.find?_eq_none]
    intro j hj
    simpa using hne j (by simpa using hj)
  unfold codeB; rw [h]

theorem text_ne {a b : ByteArray} (h : a ≠ b) : (a.toList == b.toList) = false := by
  rw [beq_eq_false_iff_ne, Go.ByteArray.toList_eq, Go.ByteArray.toList_eq]
  intro e
  exact h (WideShapes.bytes_inj e)

set_option maxRecDepth 100000 in
set_option maxHeartbeats 1000000 in
theorem implCode_any (s : ByteArray) (w : World) (ht : TabW w) :
    Calls Tryd.prog 8 #[.string s] w fun e w' => e = .returned (.int .i64 (codeB s)) ∧ w' = w := by
  have HT := hide ht
  clear ht
  go_enter Tryd.func8, Tryd.ntmps8
  go_wp2_with fail
  go_loop [4] (fun i => ∃ k : Nat, k ≤ 9 ∧ i = .int .i64 k ∧ ∀ j, j < k → wordAt j ≠ s) (fun i => 9 - (intOf i).toNat)
  case atStart => exact ⟨0, by omega, rfl, fun j hj => by omega⟩
  case round =>
    obtain ⟨k, hk, rfl, hne⟩ := hrel
    have HN := hide hne
    clear hne
    by_cases hlt : k < 9
    · have hc := unhide HT k hlt
      by_cases he : wordAt k = s
      · have HF := hide (code_at s k hlt (unhide HN) he)
        rw [he] at hc
        clear he
        go_wp2_with fail
        go_ret
        exact ⟨ret_int (unhide HF).symm, rfl⟩
      · have HE : Hid (∀ j, j < k + 1 → wordAt j ≠ s) := fun j hj => by
          rcases Nat.lt_or_ge j k with h | h
          · exact unhide HN j h
          · obtain rfl : j = k := by omega
            exact he
        have hn := text_ne he
        clear he
        generalize wordAt k = u at *
        go_wp2_with fail
        go_round
        case rel => exact ⟨k + 1, by omega, by go_num, unhide HE⟩
        case measure => simp [intOf]; omega
    · have HF := hide (code_none s (fun j hj => unhide HN j (by omega)))
      go_wp2_with fail
      go_ret
      exact ⟨ret_int (unhide HF).symm, rfl⟩

set_option maxRecDepth 100000 in
set_option maxHeartbeats 1000000 in
theorem specCode_any (s : ByteArray) (w : World) :
    Calls Tryd.prog 7 #[.string s] w fun e w' => e = .returned (.int .i64 (codeB s)) ∧ Below w.heap.size w w' := by
  go_enter Tryd.func7, Tryd.ntmps7
  go_wp2_with fail
  go_loopw [3] (fun i wr => ∃ k : Nat, k ≤ 9 ∧ i = .int .i64 k ∧ (∀ j, j < k → wordAt j ≠ s) ∧ Below w.heap.size w wr) (fun i _ => 9 - (intOf i).toNat)
  case atStart => exact ⟨0, by omega, rfl, fun j hj => by omega, Below.refl _ _⟩
  case round =>
    obtain ⟨k, hk, rfl, hne, hb⟩ := hrel
    have HN := hide hne
    have HB := hide hb
    clear hne hb
    by_cases hlt : k < 9
    · have hlt' : (k : Int) ≤ 8 := by omega
      have HW := hide (show wordB (k : Int) = wordAt k from if_pos ⟨by omega, by omega⟩)
      by_cases he : wordAt k = s
      · have HF := hide (code_at s k hlt (unhide HN) he)
        rw [he] at HW
        clear he
        go_wp2_with fail
        refine (specWord_any k _ (by omega) (by omega)).mono ?_
        rw [unhide HW]
        rintro e w1 ⟨rfl, hb1⟩
        have HB1 := hide hb1
        clear hb1
        go_wp2_with fail
        go_ret
        exact ⟨ret_int (unhide HF).symm, (unhide HB).trans ((unhide HB1).mono (unhide HB).size)⟩
      · have HE : Hid (∀ j, j < k + 1 → wordAt j ≠ s) := fun j hj => by
          rcases Nat.lt_or_ge j k with h | h
          · exact unhide HN j h
          · obtain rfl : j = k := by omega
            exact he
        have hn := text_ne he
        clear he
        go_wp2_with fail
        refine (specWord_any k _ (by omega) (by omega)).mono ?_
        rw [unhide HW]
        rintro e w1 ⟨rfl, hb1⟩
        have HB1 := hide hb1
        clear hb1 HW
        generalize wordAt k = u at *
        go_wp2_with fail
        go_roundw
        case rel => exact ⟨k + 1, by omega, by go_num, unhide HE, (unhide HB).trans ((unhide HB1).mono (unhide HB).size)⟩
        case measure => simp [intOf]; omega
    · have HF := hide (code_none s (fun j hj => unhide HN j (by omega)))
      go_wp2_with fail
      go_ret
      exact ⟨ret_int (unhide HF).symm, unhide HB⟩

set_option maxRecDepth 100000 in
theorem lawCode (s : ByteArray) (w : World) (hs : s.size ≤ maxLen) (ht : TabW w) :
    Calls Tryd.prog 4 #[.string s] w fun e w' => e = .returned (.bool true) ∧ Below w.heap.size w w' := by
  unfold maxLen at hs
  by_cases h : 1048576 < s.size
  · have h' : (1048576 : Int) < s.size := by omega
    clear ht
    go_enter Tryd.func4, Tryd.ntmps4
    go_wp2_with fail
    go_ret
    exact ⟨rfl, Below.refl _ _⟩
  have h' : (s.size : Int) ≤ 1048576 := by omega
  have HS := hide (fun w => specCode_any s w)
  have HI := hide (fun w ht => implCode_any s w ht)
  have HT := hide ht
  clear ht
  generalize codeB s = c at *
  go_enter Tryd.func4, Tryd.ntmps4
  go_wp2_with fail
  refine (unhide HS _).mono ?_
  rintro e w1 ⟨rfl, hb⟩
  have HB := hide hb
  clear hb
  go_wp2_with fail
  refine (unhide HI _ (tab_below (unhide HT) (unhide HB) (Nat.le_refl _))).mono ?_
  rintro e w2 ⟨rfl, rfl⟩
  go_wp2_with fail
  go_ret
  exact ⟨rfl, unhide HB⟩
end Go.Proofs.YtdfmallmlnnhoaaDoor
