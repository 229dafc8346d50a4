/-
  What the small functions that ask whether an order is right return, of the program and of the model: proved by walking them. (what walks the functions of the model or of the laws)
-/
import Derived.Test.YteljmhgpffekgaaFj25
namespace Go.Proofs.Yteljmhgpffekgaa
open Go.RowKit
set_option linter.unusedVariables false

theorem specIn_any (n a b : Int) (w : World) :
    Calls Try.prog 76 #[.int .i64 n, .int .i64 a, .int .i64 b] w fun e w' => e = .returned (.bool (betB n a b)) ∧ w' = w := by
  go_enter Try.func76, Try.ntmps76
  go_wp2
  all_goals go_ret
  all_goals exact ⟨ret_bool (by rw [Bool.eq_iff_iff]; simp [betB]; omega), rfl⟩
set_option maxHeartbeats 400000 in
theorem l03Tag_any (s : ByteArray) (w : World) (hs : s.size ≤ maxLen) :
    Calls Try.prog 108 #[.string s] w fun e w' => e = .returned (.bool (tagB s)) ∧ w' = w := by
  unfold maxLen at hs
  by_cases hl : s.size ≤ 12
  · have hl' : ¬ ((12 : Int) < s.size) := by omega
    go_enter Try.func108, Try.ntmps108
    go_wp2_with fail
    go_loop [3] (fun i => ∃ k : Nat, k ≤ s.size ∧ i = .int .i64 k ∧ Hid (s.data.toList.all tagC = (s.data.toList.drop k).all tagC)) (fun i => s.size - (intOf i).toNat)
    case atStart => exact ⟨0, Nat.zero_le _, rfl, by simp [Hid]⟩
    case round =>
      obtain ⟨k, hk, rfl, hall⟩ := hrel
      by_cases hlt : k < s.size
      · have hlt' : (k : Int) < s.size := by omega
        have hdr := drop_cons s k hlt
        have hw : betB (s[k].toNat : Int) 32 126 = tagC s[k] := rfl
        cases ht : tagC s[k]
        · have HT : Hid (s.data.toList.all tagC = false) := by
            have := unhide hall
            rw [hdr, List.all_cons, ht, Bool.false_and] at this
            exact this
          rw [ht] at hw
          have hor : (s[k].toNat : Int) < 32 ∨ (32 ≤ (s[k].toNat : Int) ∧ (126 : Int) < s[k].toNat) := by
            simp [betB] at hw; omega
          clear hdr ht hw
          rcases hor with h32 | ⟨h32, h126⟩
          · have hd : decide ((s[k].toNat : Int) < 32) = true := by simpa using h32
            go_wp2_with fail
            go_ret
            exact ⟨ret_bool (tag_no s (unhide HT)).symm, rfl⟩
          · have hd : decide ((s[k].toNat : Int) < 32) = false := by simpa using h32
            go_wp2_with fail
            go_ret
            exact ⟨ret_bool (tag_no s (unhide HT)).symm, rfl⟩
        · have HN : Hid (s.data.toList.all tagC = (s.data.toList.drop (k + 1)).all tagC) := by
            have := unhide hall
            rw [hdr, List.all_cons, ht, Bool.true_and] at this
            exact this
          rw [ht] at hw
          have hor : 32 ≤ (s[k].toNat : Int) ∧ (s[k].toNat : Int) ≤ 126 := by
            simp [betB] at hw; omega
          obtain ⟨h32, h126⟩ := hor
          have hd : decide ((s[k].toNat : Int) < 32) = false := by simpa using h32
          have hd2 : ¬ ((126 : Int) < s[k].toNat) := by omega
          clear hdr ht hw
          go_wp2_with fail
          go_round
          case rel => exact ⟨k + 1, by omega, by go_num, unhide HN⟩
          case measure => simp [intOf]; omega
      · go_wp2_with fail
        go_ret
        have h := unhide hall
        rw [List.drop_of_length_le (by rw [data_len]; omega)] at h
        exact ⟨ret_bool (tag_yes s hl (by rw [h]; rfl)).symm, rfl⟩
  · have hl' : (12 : Int) < s.size := by omega
    go_enter Try.func108, Try.ntmps108
    go_wp2_with fail
    go_ret
    exact ⟨ret_bool (tag_long s hl).symm, rfl⟩

set_option maxHeartbeats 800000 in
theorem l03Order_any (o : Od) (w : World) (hs : o.tag.size ≤ maxLen) :
    Calls Try.prog 77 #[.agg #[.int .i64 o.id, .int .i64 o.side, .int .i64 o.ticks, .int .i64 o.left, .int .i64 o.life, .string o.tag]] w fun e w' => e = .returned (.bool (ordB o)) ∧ Below w.heap.size w w' := by
  have HT := hide (fun W => l03Tag_any o.tag W hs)
  clear hs
  cases h1 : betB o.side 1 2
  · go_enter Try.func77, Try.ntmps77
    go_wp2_with (first | (go_at_call 108; refine (unhide HT _).mono ?_; rintro e w' ⟨rfl, rfl⟩) | (go_at_call 76; refine (specIn_any _ _ _ _).mono ?_; rintro e w' ⟨rfl, rfl⟩))
    go_ret
    exact ⟨ret_bool (by simp [ordB, h1]), by go_grown⟩
  ·
    cases h4 : betB o.ticks 1 1000000
    · go_enter Try.func77, Try.ntmps77
      go_wp2_with (first | (go_at_call 108; refine (unhide HT _).mono ?_; rintro e w' ⟨rfl, rfl⟩) | (go_at_call 76; refine (specIn_any _ _ _ _).mono ?_; rintro e w' ⟨rfl, rfl⟩))
      go_ret
      exact ⟨ret_bool (by simp [ordB, h1, h4]), by go_grown⟩
    ·
      cases h5 : betB o.left 1 1000000
      · go_enter Try.func77, Try.ntmps77
        go_wp2_with (first | (go_at_call 108; refine (unhide HT _).mono ?_; rintro e w' ⟨rfl, rfl⟩) | (go_at_call 76; refine (specIn_any _ _ _ _).mono ?_; rintro e w' ⟨rfl, rfl⟩))
        go_ret
        exact ⟨ret_bool (by simp [ordB, h1, h4, h5]), by go_grown⟩
      ·
        cases h2 : betB o.life 0 1
        · go_enter Try.func77, Try.ntmps77
          go_wp2_with (first | (go_at_call 108; refine (unhide HT _).mono ?_; rintro e w' ⟨rfl, rfl⟩) | (go_at_call 76; refine (specIn_any _ _ _ _).mono ?_; rintro e w' ⟨rfl, rfl⟩))
          go_ret
          exact ⟨ret_bool (by simp [ordB, h1, h4, h5, h2]), by go_grown⟩
        ·
          cases h3 : tagB o.tag
          · go_enter Try.func77, Try.ntmps77
            go_wp2_with (first | (go_at_call 108; refine (unhide HT _).mono ?_; rintro e w' ⟨rfl, rfl⟩) | (go_at_call 76; refine (specIn_any _ _ _ _).mono ?_; rintro e w' ⟨rfl, rfl⟩))
            go_ret
            exact ⟨ret_bool (by simp [ordB, h1, h4, h5, h2, h3]), by go_grown⟩
          · go_enter Try.func77, Try.ntmps77
            go_wp2_with (first | (go_at_call 108; refine (unhide HT _).mono ?_; rintro e w' ⟨rfl, rfl⟩) | (go_at_call 76; refine (specIn_any _ _ _ _).mono ?_; rintro e w' ⟨rfl, rfl⟩))
            go_ret
            exact ⟨ret_bool (by simp [ordB, h1, h4, h5, h2, h3]), by go_grown⟩
end Go.Proofs.Yteljmhgpffekgaa
