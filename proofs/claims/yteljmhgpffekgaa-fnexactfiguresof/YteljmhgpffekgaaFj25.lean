/-
  What the small functions that ask whether an order is right return, of the program and of the model: proved by walking them.
-/
import Derived.Test.YteljmhgpffekgaaFj08
namespace Go.Proofs.Yteljmhgpffekgaa
open Go.RowKit
set_option linter.unusedVariables false

def betB (n a b : Int) : Bool := decide (a ≤ n) && decide (n ≤ b)
theorem implBetween_any (n a b : Int) (w : World) :
    Calls Try.prog 66 #[.int .i64 n, .int .i64 a, .int .i64 b] w fun e w' => e = .returned (.bool (betB n a b)) ∧ w' = w := by
  go_enter Try.func66, Try.ntmps66
  go_wp2
  all_goals go_ret
  all_goals exact ⟨ret_bool (by rw [Bool.eq_iff_iff]; simp [betB]; omega), rfl⟩
theorem isSide_any (n : Int) (w : World) :
    Calls Try.prog 97 #[.int .i64 n] w fun e w' => e = .returned (.bool (betB n 1 2)) ∧ w' = w := by
  go_enter Try.func97, Try.ntmps97
  go_wp2
  all_goals go_ret
  all_goals exact ⟨ret_bool (by rw [Bool.eq_iff_iff]; simp [betB]; omega), rfl⟩
theorem isLife_any (n : Int) (w : World) :
    Calls Try.prog 98 #[.int .i64 n] w fun e w' => e = .returned (.bool (betB n 0 1)) ∧ w' = w := by
  go_enter Try.func98, Try.ntmps98
  go_wp2
  all_goals go_ret
  all_goals exact ⟨ret_bool (by rw [Bool.eq_iff_iff]; simp [betB]; omega), rfl⟩

def tagC (c : UInt8) : Bool := betB c.toNat 32 126
/-- The text may be a tag. -/
def tagB (s : ByteArray) : Bool := decide (s.size ≤ 12) && s.data.toList.all tagC
theorem drop_cons (s : ByteArray) (k : Nat) (h : k < s.size) : s.data.toList.drop k = s[k] :: s.data.toList.drop (k + 1) := by
  rw [get_nat s k h]
  exact List.drop_eq_getElem_cons (by rw [data_len]; exact h)
theorem tag_yes (s : ByteArray) (h : s.size ≤ 12) (hk : s.data.toList.all tagC = true) : tagB s = true := by simp only [tagB, hk, decide_eq_true h, Bool.and_true]
theorem tag_long (s : ByteArray) (h : ¬ s.size ≤ 12) : tagB s = false := by simp only [tagB, decide_eq_false h, Bool.false_and]
theorem tag_no (s : ByteArray) (hk : s.data.toList.all tagC = false) : tagB s = false := by simp only [tagB, hk, Bool.and_false]

set_option maxHeartbeats 400000 in
theorem isTag_any (s : ByteArray) (w : World) (hs : s.size ≤ maxLen) :
    Calls Try.prog 99 #[.string s] w fun e w' => e = .returned (.bool (tagB s)) ∧ w' = w := by
  unfold maxLen at hs
  by_cases hl : s.size ≤ 12
  · have hl' : ¬ ((12 : Int) < s.size) := by omega
    go_enter Try.func99, Try.ntmps99
    go_wp2_with fail
    go_loop [9] (fun i => ∃ k : Nat, k ≤ s.size ∧ i = .int .i64 k ∧ Hid (s.data.toList.all tagC = (s.data.toList.drop k).all tagC)) (fun i => s.size - (intOf i).toNat)
    case atStart => exact ⟨0, Nat.zero_le _, rfl, by simp [Hid]⟩
    case round =>
      obtain ⟨k, hk, rfl, hall⟩ := hrel
      by_cases hlt : k < s.size
      · have hlt' : (k : Int) < s.size := by omega
        have hdr := drop_cons s k hlt
        have hgen : ∃ c, c = s[k] := ⟨_, rfl⟩
        obtain ⟨c, hc⟩ := hgen
        have hw : betB (wrap64 (s[k].toNat : Int)) 32 126 = tagC c := by
          have hlt256 := UInt8.toNat_lt s[k]
          rw [hc, show wrap64 (s[k].toNat : Int) = (s[k].toNat : Int) by unfold wrap64; omega]; rfl
        cases ht : tagC c
        · rw [ht] at hw
          have HT : Hid (s.data.toList.all tagC = false) := by
            have := unhide hall
            rw [hdr, List.all_cons, ← hc, ht, Bool.false_and] at this
            exact this
          clear hdr hc ht
          go_wp2_with fail
          refine (implBetween_any (wrap64 (s[k].toNat : Int)) 32 126 w).mono ?_
          rintro e w1 ⟨rfl, rfl⟩
          go_wp2_with fail
          go_ret
          exact ⟨ret_bool (tag_no s (unhide HT)).symm, rfl⟩
        · rw [ht] at hw
          have HN : Hid (s.data.toList.all tagC = (s.data.toList.drop (k + 1)).all tagC) := by
            have := unhide hall
            rw [hdr, List.all_cons, ← hc, ht, Bool.true_and] at this
            exact this
          clear hdr hc ht
          go_wp2_with fail
          refine (implBetween_any (wrap64 (s[k].toNat : Int)) 32 126 w).mono ?_
          rintro e w1 ⟨rfl, rfl⟩
          go_wp2_with fail
          go_round
          case rel => exact ⟨k + 1, by omega, by go_num, unhide HN⟩
          case measure => simp [intOf]; omega
      · go_wp2_with fail
        go_ret
        have h := unhide hall
        rw [List.drop_of_length_le (by rw [data_len]; omega)] at h
        exact ⟨ret_bool (tag_yes s hl (by rw [h]; rfl)).symm, rfl⟩
  · have hl' : (12 : Int) < s.size := by omega
    go_enter Try.func99, Try.ntmps99
    go_wp2_with fail
    go_ret
    exact ⟨ret_bool (tag_long s hl).symm, rfl⟩

/-- The order is right by itself. -/
def ordB (o : Od) : Bool := betB o.side 1 2 && betB o.life 0 1 && tagB o.tag && betB o.ticks 1 1000000 && betB o.left 1 1000000
set_option maxHeartbeats 800000 in
theorem orderOK_any (o : Od) (w : World) (hs : o.tag.size ≤ maxLen) :
    Calls Try.prog 68 #[.agg #[.int .i64 o.id, .int .i64 o.side, .int .i64 o.ticks, .int .i64 o.left, .int .i64 o.life, .string o.tag]] w fun e w' => e = .returned (.bool (ordB o)) ∧ Below w.heap.size w w' := by
  have HT := hide (fun W => isTag_any o.tag W hs)
  clear hs
  cases h1 : betB o.side 1 2
  · go_enter Try.func68, Try.ntmps68
    go_wp2_with (first | (go_at_call 97; refine (isSide_any _ _).mono ?_; rintro e w' ⟨rfl, rfl⟩) | (go_at_call 98; refine (isLife_any _ _).mono ?_; rintro e w' ⟨rfl, rfl⟩) | (go_at_call 99; refine (unhide HT _).mono ?_; rintro e w' ⟨rfl, rfl⟩) | (go_at_call 66; refine (implBetween_any _ _ _ _).mono ?_; rintro e w' ⟨rfl, rfl⟩))
    go_ret
    exact ⟨ret_bool (by simp [ordB, h1]), by go_grown⟩
  ·
    cases h2 : betB o.life 0 1
    · go_enter Try.func68, Try.ntmps68
      go_wp2_with (first | (go_at_call 97; refine (isSide_any _ _).mono ?_; rintro e w' ⟨rfl, rfl⟩) | (go_at_call 98; refine (isLife_any _ _).mono ?_; rintro e w' ⟨rfl, rfl⟩) | (go_at_call 99; refine (unhide HT _).mono ?_; rintro e w' ⟨rfl, rfl⟩) | (go_at_call 66; refine (implBetween_any _ _ _ _).mono ?_; rintro e w' ⟨rfl, rfl⟩))
      go_ret
      exact ⟨ret_bool (by simp [ordB, h1, h2]), by go_grown⟩
    ·
      cases h3 : tagB o.tag
      · go_enter Try.func68, Try.ntmps68
        go_wp2_with (first | (go_at_call 97; refine (isSide_any _ _).mono ?_; rintro e w' ⟨rfl, rfl⟩) | (go_at_call 98; refine (isLife_any _ _).mono ?_; rintro e w' ⟨rfl, rfl⟩) | (go_at_call 99; refine (unhide HT _).mono ?_; rintro e w' ⟨rfl, rfl⟩) | (go_at_call 66; refine (implBetween_any _ _ _ _).mono ?_; rintro e w' ⟨rfl, rfl⟩))
        go_ret
        exact ⟨ret_bool (by simp [ordB, h1, h2, h3]), by go_grown⟩
      ·
        cases h4 : betB o.ticks 1 1000000
        · go_enter Try.func68, Try.ntmps68
          go_wp2_with (first | (go_at_call 97; refine (isSide_any _ _).mono ?_; rintro e w' ⟨rfl, rfl⟩) | (go_at_call 98; refine (isLife_any _ _).mono ?_; rintro e w' ⟨rfl, rfl⟩) | (go_at_call 99; refine (unhide HT _).mono ?_; rintro e w' ⟨rfl, rfl⟩) | (go_at_call 66; refine (implBetween_any _ _ _ _).mono ?_; rintro e w' ⟨rfl, rfl⟩))
          go_ret
          exact ⟨ret_bool (by simp [ordB, h1, h2, h3, h4]), by go_grown⟩
        ·
          cases h5 : betB o.left 1 1000000
          · go_enter Try.func68, Try.ntmps68
            go_wp2_with (first | (go_at_call 97; refine (isSide_any _ _).mono ?_; rintro e w' ⟨rfl, rfl⟩) | (go_at_call 98; refine (isLife_any _ _).mono ?_; rintro e w' ⟨rfl, rfl⟩) | (go_at_call 99; refine (unhide HT _).mono ?_; rintro e w' ⟨rfl, rfl⟩) | (go_at_call 66; refine (implBetween_any _ _ _ _).mono ?_; rintro e w' ⟨rfl, rfl⟩))
            go_ret
            exact ⟨ret_bool (by simp [ordB, h1, h2, h3, h4, h5]), by go_grown⟩
          · go_enter Try.func68, Try.ntmps68
            go_wp2_with (first | (go_at_call 97; refine (isSide_any _ _).mono ?_; rintro e w' ⟨rfl, rfl⟩) | (go_at_call 98; refine (isLife_any _ _).mono ?_; rintro e w' ⟨rfl, rfl⟩) | (go_at_call 99; refine (unhide HT _).mono ?_; rintro e w' ⟨rfl, rfl⟩) | (go_at_call 66; refine (implBetween_any _ _ _ _).mono ?_; rintro e w' ⟨rfl, rfl⟩))
            go_ret
            exact ⟨ret_bool (by simp [ordB, h1, h2, h3, h4, h5]), by go_grown⟩
end Go.Proofs.Yteljmhgpffekgaa
