/-
  What the two functions that ask whether a text is a name return, proved by walking them: the same Bool of the text's bytes.
-/
import Derived.Test.YtglcppjfbkbbpaaBase
namespace Go.Proofs.Ytglcppjfbkbbpaa
open Go.RowKit

def letB (c : Int) : Bool := decide ((97 ≤ c ∧ c ≤ 122) ∨ (65 ≤ c ∧ c ≤ 90) ∨ c = 95)
def digB (c : Int) : Bool := decide (48 ≤ c ∧ c ≤ 57)

theorem implDigit_any (c : Int) (w : World) :
    Calls Try.prog 21 #[.int .u8 c] w fun e w' => e = .returned (.bool (digB c)) ∧ w' = w := by
  go_enter Try.func21, Try.ntmps21
  go_wp2
  all_goals go_ret
  all_goals exact ⟨ret_bool (by simp [digB]; omega), rfl⟩
theorem specDigit_any (c : Int) (w : World) :
    Calls Try.prog 28 #[.int .u8 c] w fun e w' => e = .returned (.bool (digB c)) ∧ w' = w := by
  go_enter Try.func28, Try.ntmps28
  go_wp2
  all_goals go_ret
  all_goals exact ⟨ret_bool (by simp [digB]; omega), rfl⟩
theorem implLetter_any (c : Int) (w : World) :
    Calls Try.prog 22 #[.int .u8 c] w fun e w' => e = .returned (.bool (letB c)) ∧ w' = w := by
  go_enter Try.func22, Try.ntmps22
  go_wp2
  all_goals go_ret
  all_goals exact ⟨ret_bool (by rw [Bool.eq_iff_iff]; simp [letB]; omega), rfl⟩
theorem specLetter_any (c : Int) (w : World) :
    Calls Try.prog 27 #[.int .u8 c] w fun e w' => e = .returned (.bool (letB c)) ∧ w' = w := by
  go_enter Try.func27, Try.ntmps27
  go_wp2
  all_goals go_ret
  all_goals exact ⟨ret_bool (by rw [Bool.eq_iff_iff]; simp [letB]; omega), rfl⟩

def okC (c : UInt8) : Bool := letB c.toNat || digB c.toNat
/-- The text is a name: of its list of bytes. -/
def nameB : List UInt8 → Bool
  | [] => false
  | c :: r => decide (r.length < 40) && letB c.toNat && r.all okC

theorem let_of_dig (c : Int) (h : digB c = true) : letB c = false := by
  simp [letB, digB] at *; omega
theorem name_empty (s : ByteArray) (h : s.size = 0) : nameB s.data.toList = false := by
  have : s.data.toList = [] := List.length_eq_zero_iff.1 (by rw [data_len]; exact h)
  rw [this]; rfl
theorem name_long (s : ByteArray) (h : 40 < s.size) : nameB s.data.toList = false := by
  have hc := data_cons s (by omega)
  have hl := data_len s
  rw [hc] at hl ⊢
  simp only [List.length_cons] at hl
  have : ¬ s.data.toList.tail.length < 40 := by omega
  simp only [nameB, decide_eq_false this, Bool.false_and]
theorem name_first (s : ByteArray) (h : 0 < s.size) (h1 : letB s[0].toNat = false) : nameB s.data.toList = false := by
  rw [data_cons s h]
  simp only [nameB, h1, Bool.and_false, Bool.false_and]
theorem name_at (s : ByteArray) (k : Nat) (h : k < s.size) (h1 : letB s[k].toNat = false) (h2 : digB s[k].toNat = false) : nameB s.data.toList = false := by
  cases k with
  | zero => exact name_first s h h1
  | succ k =>
    have hm : s[k + 1] ∈ s.data.toList.tail := by
      rw [get_nat s (k + 1) h]
      have hlt : k < s.data.toList.tail.length := by rw [List.length_tail, data_len]; omega
      have : s.data.toList.tail[k] = s.data.toList[k + 1]'(by rw [data_len]; exact h) := by simp
      rw [← this]; exact List.getElem_mem hlt
    rw [data_cons s (by omega)]
    have ho : okC s[k + 1] = false := by simp [okC, h1, h2]
    have : s.data.toList.tail.all okC = false := by
      rw [List.all_eq_false]; exact ⟨_, hm, by simp [ho]⟩
    simp only [nameB, this, Bool.and_false]
theorem name_yes (s : ByteArray) (h : 0 < s.size) (h0 : s.size ≤ 40) (h1 : letB s[0].toNat = true) (h2 : s.data.toList.tail.all okC = true) : nameB s.data.toList = true := by
  have hc := data_cons s h
  have hl := data_len s
  rw [hc] at hl ⊢
  simp only [List.length_cons] at hl
  have : s.data.toList.tail.length < 40 := by omega
  simp only [nameB, decide_eq_true this, h1, h2, Bool.and_true]
theorem name_yes' (s : ByteArray) (h : 0 < s.size) (h0 : s.size ≤ 40) (h1 : digB s[0].toNat = false) (h2 : s.data.toList.all okC = true) : nameB s.data.toList = true := by
  have hc := data_cons s h
  rw [hc] at h2
  simp only [List.all_cons, Bool.and_eq_true] at h2
  exact name_yes s h h0 (by simpa [okC, h1] using h2.1) h2.2

set_option maxHeartbeats 400000 in
theorem implName_any (s : ByteArray) (w : World) (hs : s.size ≤ maxLen) :
    Calls Try.prog 11 #[.string s] w fun e w' => e = .returned (.bool (nameB s.data.toList)) ∧ w' = w := by
  unfold maxLen at hs
  by_cases h0 : s.size = 0
  · have hlt : (s.size : Int) < 1 := by omega
    have HF := hide (name_empty s h0)
    clear h0
    go_enter Try.func11, Try.ntmps11
    go_wp2_with fail
    go_ret
    exact ⟨ret_bool (unhide HF).symm, rfl⟩
  · by_cases h1 : 40 < s.size
    · have h1' : (40 : Int) < s.size := by omega
      have HF := hide (name_long s h1)
      go_enter Try.func11, Try.ntmps11
      go_wp2_with fail
      go_ret
      exact ⟨ret_bool (unhide HF).symm, rfl⟩
    · have h1' : s.size ≤ 40 := by omega
      have hp : 0 < s.size := by omega
      cases hd : digB (s[0].toNat : Int) with
      | true =>
        have HF := hide (name_first s hp (let_of_dig _ hd))
        go_enter Try.func11, Try.ntmps11
        go_wp2_with (go_at_call 21; refine (implDigit_any _ _).mono ?_; rintro e w' ⟨rfl, rfl⟩)
        go_ret
        exact ⟨ret_bool (unhide HF).symm, rfl⟩
      | false =>
        have HF := hide (name_yes' s hp h1' hd)
        go_enter Try.func11, Try.ntmps11
        go_wp2_with (go_at_call 21; refine (implDigit_any _ _).mono ?_; rintro e w' ⟨rfl, rfl⟩)
        go_loop [19] (fun i => ∃ k : Nat, k ≤ s.size ∧ i = .int .i64 k ∧ (s.data.toList.take k).all okC = true) (fun i => s.size - (intOf i).toNat)
        case atStart => exact ⟨0, Nat.zero_le _, rfl, rfl⟩
        case round =>
          obtain ⟨k, hk, rfl, hall⟩ := hrel
          have HA := hide hall
          clear hall
          by_cases hlt : k < s.size
          · have HS := hide (take_snoc s k hlt)
            cases hl : letB (s[k].toNat : Int) with
            | true =>
              have HO : okC s[k] = true := by simp [okC, hl]
              go_wp2_with (first | (go_at_call 21; refine (implDigit_any _ _).mono ?_; rintro e w' ⟨rfl, rfl⟩) | (go_at_call 22; refine (implLetter_any _ _).mono ?_; rintro e w' ⟨rfl, rfl⟩))
              go_round
              case rel => exact ⟨k + 1, by omega, by go_num, by rw [unhide HS, List.all_append, unhide HA]; simp [HO]⟩
              case measure => simp [intOf]; omega
            | false =>
              cases hdk : digB (s[k].toNat : Int) with
              | true =>
                have HO : okC s[k] = true := by simp [okC, hdk]
                go_wp2_with (first | (go_at_call 21; refine (implDigit_any _ _).mono ?_; rintro e w' ⟨rfl, rfl⟩) | (go_at_call 22; refine (implLetter_any _ _).mono ?_; rintro e w' ⟨rfl, rfl⟩))
                go_round
                case rel => exact ⟨k + 1, by omega, by go_num, by rw [unhide HS, List.all_append, unhide HA]; simp [HO]⟩
                case measure => simp [intOf]; omega
              | false =>
                have HN := hide (name_at s k hlt hl hdk)
                go_wp2_with (first | (go_at_call 21; refine (implDigit_any _ _).mono ?_; rintro e w' ⟨rfl, rfl⟩) | (go_at_call 22; refine (implLetter_any _ _).mono ?_; rintro e w' ⟨rfl, rfl⟩))
                go_ret
                exact ⟨ret_bool (unhide HN).symm, rfl⟩
          · go_wp2_with fail
            go_ret
            exact ⟨ret_bool ((unhide HF) (by rw [← unhide HA, List.take_of_length_le (by rw [data_len]; omega)])).symm, rfl⟩

set_option maxHeartbeats 400000 in
theorem specWord_any (s : ByteArray) (w : World) (hs : s.size ≤ maxLen) :
    Calls Try.prog 20 #[.string s] w fun e w' => e = .returned (.bool (nameB s.data.toList)) ∧ w' = w := by
  unfold maxLen at hs
  by_cases h0 : s.size = 0
  · have hlt : (s.size : Int) < 1 := by omega
    have HF := hide (name_empty s h0)
    clear h0
    go_enter Try.func20, Try.ntmps20
    go_wp2_with fail
    go_ret
    exact ⟨ret_bool (unhide HF).symm, rfl⟩
  · by_cases h1 : 40 < s.size
    · have h1' : (40 : Int) < s.size := by omega
      have HF := hide (name_long s h1)
      go_enter Try.func20, Try.ntmps20
      go_wp2_with fail
      go_ret
      exact ⟨ret_bool (unhide HF).symm, rfl⟩
    · have h1' : s.size ≤ 40 := by omega
      have hp : 0 < s.size := by omega
      cases hd : letB (s[0].toNat : Int) with
      | false =>
        have HF := hide (name_first s hp hd)
        go_enter Try.func20, Try.ntmps20
        go_wp2_with (go_at_call 27; refine (specLetter_any _ _).mono ?_; rintro e w' ⟨rfl, rfl⟩)
        go_ret
        exact ⟨ret_bool (unhide HF).symm, rfl⟩
      | true =>
        have HF := hide (name_yes s hp h1' hd)
        go_enter Try.func20, Try.ntmps20
        go_wp2_with (go_at_call 27; refine (specLetter_any _ _).mono ?_; rintro e w' ⟨rfl, rfl⟩)
        go_loop [3] (fun i => ∃ k : Nat, k + 1 ≤ s.size ∧ i = .int .i64 (k + 1 : Nat) ∧ (s.data.toList.tail.take k).all okC = true) (fun i => s.size - (intOf i).toNat)
        case atStart => exact ⟨0, by omega, rfl, rfl⟩
        case round =>
          obtain ⟨k, hk, rfl, hall⟩ := hrel
          have HA := hide hall
          clear hall
          by_cases hlt : k + 1 < s.size
          · have hlt' : ((k + 1 : Nat) : Int) < s.size := by omega
            have HS := hide (tail_snoc s k hlt)
            cases hl : letB (s[k + 1].toNat : Int) with
            | true =>
              have HO : okC s[k + 1] = true := by simp [okC, hl]
              go_wp2_with (first | (go_at_call 28; refine (specDigit_any _ _).mono ?_; rintro e w' ⟨rfl, rfl⟩) | (go_at_call 27; refine (specLetter_any _ _).mono ?_; rintro e w' ⟨rfl, rfl⟩))
              go_round
              case rel => exact ⟨k + 1, by omega, by go_num, by rw [unhide HS, List.all_append, unhide HA]; simp [HO]⟩
              case measure => simp [intOf]; omega
            | false =>
              cases hdk : digB (s[k + 1].toNat : Int) with
              | true =>
                have HO : okC s[k + 1] = true := by simp [okC, hdk]
                go_wp2_with (first | (go_at_call 28; refine (specDigit_any _ _).mono ?_; rintro e w' ⟨rfl, rfl⟩) | (go_at_call 27; refine (specLetter_any _ _).mono ?_; rintro e w' ⟨rfl, rfl⟩))
                go_round
                case rel => exact ⟨k + 1, by omega, by go_num, by rw [unhide HS, List.all_append, unhide HA]; simp [HO]⟩
                case measure => simp [intOf]; omega
              | false =>
                have HN := hide (name_at s (k + 1) hlt hl hdk)
                go_wp2_with (first | (go_at_call 28; refine (specDigit_any _ _).mono ?_; rintro e w' ⟨rfl, rfl⟩) | (go_at_call 27; refine (specLetter_any _ _).mono ?_; rintro e w' ⟨rfl, rfl⟩))
                go_ret
                exact ⟨ret_bool (unhide HN).symm, rfl⟩
          · go_wp2_with fail
            go_ret
            exact ⟨ret_bool ((unhide HF) (by rw [← unhide HA, List.take_of_length_le (by rw [List.length_tail, data_len]; omega)])).symm, rfl⟩

theorem specName_any (s : ByteArray) (w : World) (hs : s.size ≤ maxLen) :
    Calls Try.prog 10 #[.string s] w fun e w' => e = .returned (.bool (nameB s.data.toList)) ∧ w' = w := by
  go_enter Try.func10, Try.ntmps10
  go_wp2_with (go_at_call 20; refine (specWord_any _ _ hs).mono ?_; rintro e w' ⟨rfl, rfl⟩)
  go_ret
  exact ⟨rfl, rfl⟩

theorem lawName_any (s : ByteArray) (w : World) (hs : s.size ≤ maxLen) :
    Calls Try.prog 4 #[.string s] w fun e w' => e = .returned (.bool true) ∧ w' = w := by
  have hs' := hs
  unfold maxLen at hs'
  by_cases h : 1048576 < s.size
  · have h' : (1048576 : Int) < s.size := by omega
    go_enter Try.func4, Try.ntmps4
    go_wp2_with fail
    go_ret
    exact ⟨rfl, rfl⟩
  · have h' : (s.size : Int) ≤ 1048576 := by omega
    generalize hb : nameB s.data.toList = b
    have HB := hide hb
    clear hb
    go_enter Try.func4, Try.ntmps4
    go_wp2_with (first | (go_at_call 10; refine (specName_any _ _ hs).mono ?_; rw [unhide HB]; rintro e w' ⟨rfl, rfl⟩) | (go_at_call 11; refine (implName_any _ _ hs).mono ?_; rw [unhide HB]; rintro e w' ⟨rfl, rfl⟩))
    go_ret
    exact ⟨rfl, rfl⟩
end Go.Proofs.Ytglcppjfbkbbpaa
