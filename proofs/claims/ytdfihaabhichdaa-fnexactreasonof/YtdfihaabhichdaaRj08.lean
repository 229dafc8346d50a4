/-
  Commands as records of eight cells; no function walked but the copying of one.
-/
import Derived.Test.YtdfihaabhichdaaRj05
import Derived.Test.YtdfihaabhichdaaRj06
import Derived.WalkLawsBesides
namespace Go.Proofs.Ytdfihaabhichdaa
open Go.RowKit
set_option linter.unusedVariables false

/-- A command. -/
structure Cm where
  k : Int
  s : Int
  t : Int
  l : Int
  q : Int
  i : Int
  p : Nat
  g : ByteArray
/-- Its cells. -/
def Cm.vs (c : Cm) : List Value := [.int .i64 c.k, .int .i64 c.s, .int .i64 c.t, .int .i64 c.l, .int .i64 c.q, .int .i64 c.i, .float .f64 c.p, .string c.g]
theorem Cm.len (c : Cm) : c.vs.length = 8 := rfl
/-- The cells of a command, told one by one. -/
theorem cm_cells {w : World} {b o : Nat} {c : Cm} (h : w.rangeAt b o c.vs) :
    w.cell? ⟨b, o, none⟩ = some (.int .i64 c.k) ∧ w.cell? ⟨b, o + 1, none⟩ = some (.int .i64 c.s) ∧ w.cell? ⟨b, o + 2, none⟩ = some (.int .i64 c.t) ∧ w.cell? ⟨b, o + 3, none⟩ = some (.int .i64 c.l) ∧
    w.cell? ⟨b, o + 4, none⟩ = some (.int .i64 c.q) ∧ w.cell? ⟨b, o + 5, none⟩ = some (.int .i64 c.i) ∧ w.cell? ⟨b, o + 6, none⟩ = some (.float .f64 c.p) ∧ w.cell? ⟨b, o + 7, none⟩ = some (.string c.g) :=
  ⟨h 0 _ rfl, h 1 _ rfl, h 2 _ rfl, h 3 _ rfl, h 4 _ rfl, h 5 _ rfl, h 6 _ rfl, h 7 _ rfl⟩

theorem there1 {w : World} {b o n : Nat} (h : w.there b o n) (j : Nat) (hj : j < n) : ∃ v, w.cell? ⟨b, o + j, none⟩ = some v ∧ w.frozen? ⟨b, o + j, none⟩ = false := by
  obtain ⟨v, hv⟩ := Option.isSome_iff_exists.1 (h j hj).1
  exact ⟨v, hv, (h j hj).2⟩
/-- Eight cells that may be written, told one by one. -/
theorem there8 {w : World} {b o : Nat} (h : w.there b o 8) :
    (∃ v, w.cell? ⟨b, o, none⟩ = some v ∧ w.frozen? ⟨b, o, none⟩ = false) ∧ (∃ v, w.cell? ⟨b, o + 1, none⟩ = some v ∧ w.frozen? ⟨b, o + 1, none⟩ = false) ∧
    (∃ v, w.cell? ⟨b, o + 2, none⟩ = some v ∧ w.frozen? ⟨b, o + 2, none⟩ = false) ∧ (∃ v, w.cell? ⟨b, o + 3, none⟩ = some v ∧ w.frozen? ⟨b, o + 3, none⟩ = false) ∧
    (∃ v, w.cell? ⟨b, o + 4, none⟩ = some v ∧ w.frozen? ⟨b, o + 4, none⟩ = false) ∧ (∃ v, w.cell? ⟨b, o + 5, none⟩ = some v ∧ w.frozen? ⟨b, o + 5, none⟩ = false) ∧
    (∃ v, w.cell? ⟨b, o + 6, none⟩ = some v ∧ w.frozen? ⟨b, o + 6, none⟩ = false) ∧ (∃ v, w.cell? ⟨b, o + 7, none⟩ = some v ∧ w.frozen? ⟨b, o + 7, none⟩ = false) :=
  ⟨there1 h 0 (by omega), there1 h 1 (by omega), there1 h 2 (by omega), there1 h 3 (by omega), there1 h 4 (by omega), there1 h 5 (by omega), there1 h 6 (by omega), there1 h 7 (by omega)⟩

theorem sfl (a : Addr) (x : Nat) (m : Mode) (w : World) : (store a (.float .f64 x) m).run Try.prog w = stored Try.prog w a (.float .f64 x) m := run_store _ w a _ m rfl
end Go.Proofs.Ytdfihaabhichdaa
namespace Go.Proofs.Ytdfihaabhichdaa
open Go.RowKit
set_option linter.unusedVariables false

theorem toCmd_any (c : Cm) (w : World) :
    Calls Try.prog 8 #[.agg #[.int .i64 c.k, .int .i64 c.s, .int .i64 c.t, .int .i64 c.l, .int .i64 c.q, .int .i64 c.i, .float .f64 c.p, .string c.g]] w fun e w' =>
      e = .returned (.agg #[.int .i64 c.k, .int .i64 c.s, .int .i64 c.t, .int .i64 c.l, .int .i64 c.q, .int .i64 c.i, .float .f64 c.p, .string c.g]) ∧ Below w.heap.size w w' := by
  obtain ⟨k, s, t, l, q, i, p, g⟩ := c
  have hsf := sfl
  simp only
  go_enter Try.func8, Try.ntmps8
  go_wp2_with fail
  go_returns
  refine ⟨rfl, ?_⟩
  go_grown
end Go.Proofs.Ytdfihaabhichdaa
namespace Go.Proofs.Ytdfihaabhichdaa
open Go.RowKit
set_option linter.unusedVariables false

def betB (n a b : Int) : Bool := decide (a ≤ n) && decide (n ≤ b)
theorem implBetween_any (n a b : Int) (w : World) :
    Calls Try.prog 27 #[.int .i64 n, .int .i64 a, .int .i64 b] w fun e w' => e = .returned (.bool (betB n a b)) ∧ w' = w := by
  go_enter Try.func27, Try.ntmps27
  go_wp2
  all_goals go_ret
  all_goals exact ⟨ret_bool (by rw [Bool.eq_iff_iff]; simp [betB]; omega), rfl⟩
theorem isSide_any (n : Int) (w : World) :
    Calls Try.prog 46 #[.int .i64 n] w fun e w' => e = .returned (.bool (betB n 1 2)) ∧ w' = w := by
  go_enter Try.func46, Try.ntmps46
  go_wp2
  all_goals go_ret
  all_goals exact ⟨ret_bool (by rw [Bool.eq_iff_iff]; simp [betB]; omega), rfl⟩
theorem isLife_any (n : Int) (w : World) :
    Calls Try.prog 47 #[.int .i64 n] w fun e w' => e = .returned (.bool (betB n 0 1)) ∧ w' = w := by
  go_enter Try.func47, Try.ntmps47
  go_wp2
  all_goals go_ret
  all_goals exact ⟨ret_bool (by rw [Bool.eq_iff_iff]; simp [betB]; omega), rfl⟩

def tagC (c : UInt8) : Bool := betB c.toNat 32 126
/-- The text may be a tag. -/
def tagB (s : ByteArray) : Bool := decide (s.size ≤ 12) && s.data.toList.all tagC
theorem drop_cons (s : ByteArray) (k : Nat) (h : k < s.size) : s.data.toList.drop k = s[k] :: s.data.toList.drop (k + 1) := by
  rw [get_nat s k h]
  exact List.drop_eq_getElem_cons (by rw [data_len]; exact h)
theorem tag_yes (s : ByteArray) (h : s.size ≤ 12) (hk : s.data.toList.all tagC = true) : tagB s = true := by simp only [tagB, hk, decide_eq_true h, Bool.and_true]
theorem tag_long (s : ByteArray) (h : ¬ s.size ≤ 12) : tagB s = false := by simp only [tagB, decide_eq_false h, Bool.false_and]
theorem tag_no (s : ByteArray) (hk : s.data.toList.all tagC = false) : tagB s = false := by simp only [tagB, hk, Bool.and_false]

set_option maxHeartbeats 400000 in
theorem isTag_any (s : ByteArray) (w : World) (hs : s.size ≤ maxLen) :
    Calls Try.prog 48 #[.string s] w fun e w' => e = .returned (.bool (tagB s)) ∧ w' = w := by
  unfold maxLen at hs
  by_cases hl : s.size ≤ 12
  · have hl' : ¬ ((12 : Int) < s.size) := by omega
    go_enter Try.func48, Try.ntmps48
    go_wp2_with fail
    go_loop [9] (fun i => ∃ k : Nat, k ≤ s.size ∧ i = .int .i64 k ∧ Hid (s.data.toList.all tagC = (s.data.toList.drop k).all tagC)) (fun i => s.size - (intOf i).toNat)
    case atStart => exact ⟨0, Nat.zero_le _, rfl, by simp [Hid]⟩
    case round =>
      obtain ⟨k, hk, rfl, hall⟩ := hrel
      by_cases hlt : k < s.size
      · have hlt' : (k : Int) < s.size := by omega
        have hdr := drop_cons s k hlt
        have hgen : ∃ c, c = s[k] := ⟨_, rfl⟩
        obtain ⟨c, hc⟩ := hgen
        have hw : betB (wrap64 (s[k].toNat : Int)) 32 126 = tagC c := by
          have hlt256 := UInt8.toNat_lt s[k]
          rw [hc, show wrap64 (s[k].toNat : Int) = (s[k].toNat : Int) by unfold wrap64; omega]; rfl
        cases ht : tagC c
        · rw [ht] at hw
          have HT : Hid (s.data.toList.all tagC = false) := by
            have := unhide hall
            rw [hdr, List.all_cons, ← hc, ht, Bool.false_and] at this
            exact this
          clear hdr hc ht
          go_wp2_with fail
          refine (implBetween_any (wrap64 (s[k].toNat : Int)) 32 126 w).mono ?_
          rintro e w1 ⟨rfl, rfl⟩
          go_wp2_with fail
          go_ret
          exact ⟨ret_bool (tag_no s (unhide HT)).symm, rfl⟩
        · rw [ht] at hw
          have HN : Hid (s.data.toList.all tagC = (s.data.toList.drop (k + 1)).all tagC) := by
            have := unhide hall
            rw [hdr, List.all_cons, ← hc, ht, Bool.true_and] at this
            exact this
          clear hdr hc ht
          go_wp2_with fail
          refine (implBetween_any (wrap64 (s[k].toNat : Int)) 32 126 w).mono ?_
          rintro e w1 ⟨rfl, rfl⟩
          go_wp2_with fail
          go_round
          case rel => exact ⟨k + 1, by omega, by go_num, unhide HN⟩
          case measure => simp [intOf]; omega
      · go_wp2_with fail
        go_ret
        have h := unhide hall
        rw [List.drop_of_length_le (by rw [data_len]; omega)] at h
        exact ⟨ret_bool (tag_yes s hl (by rw [h]; rfl)).symm, rfl⟩
  · have hl' : (12 : Int) < s.size := by omega
    go_enter Try.func48, Try.ntmps48
    go_wp2_with fail
    go_ret
    exact ⟨ret_bool (tag_long s hl).symm, rfl⟩

/-- The order is right by itself. -/
def ordB (o : Od) : Bool := betB o.side 1 2 && betB o.life 0 1 && tagB o.tag && betB o.ticks 1 1000000 && betB o.left 1 1000000
set_option maxHeartbeats 800000 in
theorem orderOK_any (o : Od) (w : World) (hs : o.tag.size ≤ maxLen) :
    Calls Try.prog 29 #[.agg #[.int .i64 o.id, .int .i64 o.side, .int .i64 o.ticks, .int .i64 o.left, .int .i64 o.life, .string o.tag]] w fun e w' => e = .returned (.bool (ordB o)) ∧ Below w.heap.size w w' := by
  have HT := hide (fun W => isTag_any o.tag W hs)
  clear hs
  cases h1 : betB o.side 1 2
  · go_enter Try.func29, Try.ntmps29
    go_wp2_with (first | (go_at_call 46; refine (isSide_any _ _).mono ?_; rintro e w' ⟨rfl, rfl⟩) | (go_at_call 47; refine (isLife_any _ _).mono ?_; rintro e w' ⟨rfl, rfl⟩) | (go_at_call 48; refine (unhide HT _).mono ?_; rintro e w' ⟨rfl, rfl⟩) | (go_at_call 27; refine (implBetween_any _ _ _ _).mono ?_; rintro e w' ⟨rfl, rfl⟩))
    go_ret
    exact ⟨ret_bool (by simp [ordB, h1]), by go_grown⟩
  ·
    cases h2 : betB o.life 0 1
    · go_enter Try.func29, Try.ntmps29
      go_wp2_with (first | (go_at_call 46; refine (isSide_any _ _).mono ?_; rintro e w' ⟨rfl, rfl⟩) | (go_at_call 47; refine (isLife_any _ _).mono ?_; rintro e w' ⟨rfl, rfl⟩) | (go_at_call 48; refine (unhide HT _).mono ?_; rintro e w' ⟨rfl, rfl⟩) | (go_at_call 27; refine (implBetween_any _ _ _ _).mono ?_; rintro e w' ⟨rfl, rfl⟩))
      go_ret
      exact ⟨ret_bool (by simp [ordB, h1, h2]), by go_grown⟩
    ·
      cases h3 : tagB o.tag
      · go_enter Try.func29, Try.ntmps29
        go_wp2_with (first | (go_at_call 46; refine (isSide_any _ _).mono ?_; rintro e w' ⟨rfl, rfl⟩) | (go_at_call 47; refine (isLife_any _ _).mono ?_; rintro e w' ⟨rfl, rfl⟩) | (go_at_call 48; refine (unhide HT _).mono ?_; rintro e w' ⟨rfl, rfl⟩) | (go_at_call 27; refine (implBetween_any _ _ _ _).mono ?_; rintro e w' ⟨rfl, rfl⟩))
        go_ret
        exact ⟨ret_bool (by simp [ordB, h1, h2, h3]), by go_grown⟩
      ·
        cases h4 : betB o.ticks 1 1000000
        · go_enter Try.func29, Try.ntmps29
          go_wp2_with (first | (go_at_call 46; refine (isSide_any _ _).mono ?_; rintro e w' ⟨rfl, rfl⟩) | (go_at_call 47; refine (isLife_any _ _).mono ?_; rintro e w' ⟨rfl, rfl⟩) | (go_at_call 48; refine (unhide HT _).mono ?_; rintro e w' ⟨rfl, rfl⟩) | (go_at_call 27; refine (implBetween_any _ _ _ _).mono ?_; rintro e w' ⟨rfl, rfl⟩))
          go_ret
          exact ⟨ret_bool (by simp [ordB, h1, h2, h3, h4]), by go_grown⟩
        ·
          cases h5 : betB o.left 1 1000000
          · go_enter Try.func29, Try.ntmps29
            go_wp2_with (first | (go_at_call 46; refine (isSide_any _ _).mono ?_; rintro e w' ⟨rfl, rfl⟩) | (go_at_call 47; refine (isLife_any _ _).mono ?_; rintro e w' ⟨rfl, rfl⟩) | (go_at_call 48; refine (unhide HT _).mono ?_; rintro e w' ⟨rfl, rfl⟩) | (go_at_call 27; refine (implBetween_any _ _ _ _).mono ?_; rintro e w' ⟨rfl, rfl⟩))
            go_ret
            exact ⟨ret_bool (by simp [ordB, h1, h2, h3, h4, h5]), by go_grown⟩
          · go_enter Try.func29, Try.ntmps29
            go_wp2_with (first | (go_at_call 46; refine (isSide_any _ _).mono ?_; rintro e w' ⟨rfl, rfl⟩) | (go_at_call 47; refine (isLife_any _ _).mono ?_; rintro e w' ⟨rfl, rfl⟩) | (go_at_call 48; refine (unhide HT _).mono ?_; rintro e w' ⟨rfl, rfl⟩) | (go_at_call 27; refine (implBetween_any _ _ _ _).mono ?_; rintro e w' ⟨rfl, rfl⟩))
            go_ret
            exact ⟨ret_bool (by simp [ordB, h1, h2, h3, h4, h5]), by go_grown⟩
end Go.Proofs.Ytdfihaabhichdaa
namespace Go.Proofs.Ytdfihaabhichdaa
open Go.RowKit
set_option linter.unusedVariables false

theorem specIn_any (n a b : Int) (w : World) :
    Calls Try.prog 19 #[.int .i64 n, .int .i64 a, .int .i64 b] w fun e w' => e = .returned (.bool (betB n a b)) ∧ w' = w := by
  go_enter Try.func19, Try.ntmps19
  go_wp2
  all_goals go_ret
  all_goals exact ⟨ret_bool (by rw [Bool.eq_iff_iff]; simp [betB]; omega), rfl⟩
set_option maxHeartbeats 400000 in
theorem l03Tag_any (s : ByteArray) (w : World) (hs : s.size ≤ maxLen) :
    Calls Try.prog 39 #[.string s] w fun e w' => e = .returned (.bool (tagB s)) ∧ w' = w := by
  unfold maxLen at hs
  by_cases hl : s.size ≤ 12
  · have hl' : ¬ ((12 : Int) < s.size) := by omega
    go_enter Try.func39, Try.ntmps39
    go_wp2_with fail
    go_loop [3] (fun i => ∃ k : Nat, k ≤ s.size ∧ i = .int .i64 k ∧ Hid (s.data.toList.all tagC = (s.data.toList.drop k).all tagC)) (fun i => s.size - (intOf i).toNat)
    case atStart => exact ⟨0, Nat.zero_le _, rfl, by simp [Hid]⟩
    case round =>
      obtain ⟨k, hk, rfl, hall⟩ := hrel
      by_cases hlt : k < s.size
      · have hlt' : (k : Int) < s.size := by omega
        have hdr := drop_cons s k hlt
        have hw : betB (s[k].toNat : Int) 32 126 = tagC s[k] := rfl
        cases ht : tagC s[k]
        · have HT : Hid (s.data.toList.all tagC = false) := by
            have := unhide hall
            rw [hdr, List.all_cons, ht, Bool.false_and] at this
            exact this
          rw [ht] at hw
          have hor : (s[k].toNat : Int) < 32 ∨ (32 ≤ (s[k].toNat : Int) ∧ (126 : Int) < s[k].toNat) := by
            simp [betB] at hw; omega
          clear hdr ht hw
          rcases hor with h32 | ⟨h32, h126⟩
          · have hd : decide ((s[k].toNat : Int) < 32) = true := by simpa using h32
            go_wp2_with fail
            go_ret
            exact ⟨ret_bool (tag_no s (unhide HT)).symm, rfl⟩
          · have hd : decide ((s[k].toNat : Int) < 32) = false := by simpa using h32
            go_wp2_with fail
            go_ret
            exact ⟨ret_bool (tag_no s (unhide HT)).symm, rfl⟩
        · have HN : Hid (s.data.toList.all tagC = (s.data.toList.drop (k + 1)).all tagC) := by
            have := unhide hall
            rw [hdr, List.all_cons, ht, Bool.true_and] at this
            exact this
          rw [ht] at hw
          have hor : 32 ≤ (s[k].toNat : Int) ∧ (s[k].toNat : Int) ≤ 126 := by
            simp [betB] at hw; omega
          obtain ⟨h32, h126⟩ := hor
          have hd : decide ((s[k].toNat : Int) < 32) = false := by simpa using h32
          have hd2 : ¬ ((126 : Int) < s[k].toNat) := by omega
          clear hdr ht hw
          go_wp2_with fail
          go_round
          case rel => exact ⟨k + 1, by omega, by go_num, unhide HN⟩
          case measure => simp [intOf]; omega
      · go_wp2_with fail
        go_ret
        have h := unhide hall
        rw [List.drop_of_length_le (by rw [data_len]; omega)] at h
        exact ⟨ret_bool (tag_yes s hl (by rw [h]; rfl)).symm, rfl⟩
  · have hl' : (12 : Int) < s.size := by omega
    go_enter Try.func39, Try.ntmps39
    go_wp2_with fail
    go_ret
    exact ⟨ret_bool (tag_long s hl).symm, rfl⟩

set_option maxHeartbeats 800000 in
theorem l03Order_any (o : Od) (w : World) (hs : o.tag.size ≤ maxLen) :
    Calls Try.prog 20 #[.agg #[.int .i64 o.id, .int .i64 o.side, .int .i64 o.ticks, .int .i64 o.left, .int .i64 o.life, .string o.tag]] w fun e w' => e = .returned (.bool (ordB o)) ∧ Below w.heap.size w w' := by
  have HT := hide (fun W => l03Tag_any o.tag W hs)
  clear hs
  cases h1 : betB o.side 1 2
  · go_enter Try.func20, Try.ntmps20
    go_wp2_with (first | (go_at_call 39; refine (unhide HT _).mono ?_; rintro e w' ⟨rfl, rfl⟩) | (go_at_call 19; refine (specIn_any _ _ _ _).mono ?_; rintro e w' ⟨rfl, rfl⟩))
    go_ret
    exact ⟨ret_bool (by simp [ordB, h1]), by go_grown⟩
  ·
    cases h4 : betB o.ticks 1 1000000
    · go_enter Try.func20, Try.ntmps20
      go_wp2_with (first | (go_at_call 39; refine (unhide HT _).mono ?_; rintro e w' ⟨rfl, rfl⟩) | (go_at_call 19; refine (specIn_any _ _ _ _).mono ?_; rintro e w' ⟨rfl, rfl⟩))
      go_ret
      exact ⟨ret_bool (by simp [ordB, h1, h4]), by go_grown⟩
    ·
      cases h5 : betB o.left 1 1000000
      · go_enter Try.func20, Try.ntmps20
        go_wp2_with (first | (go_at_call 39; refine (unhide HT _).mono ?_; rintro e w' ⟨rfl, rfl⟩) | (go_at_call 19; refine (specIn_any _ _ _ _).mono ?_; rintro e w' ⟨rfl, rfl⟩))
        go_ret
        exact ⟨ret_bool (by simp [ordB, h1, h4, h5]), by go_grown⟩
      ·
        cases h2 : betB o.life 0 1
        · go_enter Try.func20, Try.ntmps20
          go_wp2_with (first | (go_at_call 39; refine (unhide HT _).mono ?_; rintro e w' ⟨rfl, rfl⟩) | (go_at_call 19; refine (specIn_any _ _ _ _).mono ?_; rintro e w' ⟨rfl, rfl⟩))
          go_ret
          exact ⟨ret_bool (by simp [ordB, h1, h4, h5, h2]), by go_grown⟩
        ·
          cases h3 : tagB o.tag
          · go_enter Try.func20, Try.ntmps20
            go_wp2_with (first | (go_at_call 39; refine (unhide HT _).mono ?_; rintro e w' ⟨rfl, rfl⟩) | (go_at_call 19; refine (specIn_any _ _ _ _).mono ?_; rintro e w' ⟨rfl, rfl⟩))
            go_ret
            exact ⟨ret_bool (by simp [ordB, h1, h4, h5, h2, h3]), by go_grown⟩
          · go_enter Try.func20, Try.ntmps20
            go_wp2_with (first | (go_at_call 39; refine (unhide HT _).mono ?_; rintro e w' ⟨rfl, rfl⟩) | (go_at_call 19; refine (specIn_any _ _ _ _).mono ?_; rintro e w' ⟨rfl, rfl⟩))
            go_ret
            exact ⟨ret_bool (by simp [ordB, h1, h4, h5, h2, h3]), by go_grown⟩
end Go.Proofs.Ytdfihaabhichdaa
