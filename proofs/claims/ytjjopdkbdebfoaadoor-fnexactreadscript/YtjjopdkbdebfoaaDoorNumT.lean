/-
  Numbers' texts, as the program reads them: proved by walking the functions.
-/
import Derived.Test.YtjjopdkbdebfoaaDoorSplW
namespace Go.Proofs.YtjjopdkbdebfoaaDoor
open Go.RowKit
set_option linter.unusedVariables false

theorem isDg_any (b : UInt8) (w : World) :
    Calls Tryd.prog 50 #[.int .u8 (b.toNat : Int)] w fun e w' => e = .returned (.bool (dgB b)) ∧ w' = w := by
  go_enter Tryd.func50, Tryd.ntmps50
  go_wp2
  all_goals go_ret
  all_goals exact ⟨ret_bool (by rw [Bool.eq_iff_iff]; simp [dgB]; omega), rfl⟩
theorem isBtw_any (n a b : Int) (w : World) :
    Calls Tryd.prog 59 #[.int .i64 n, .int .i64 a, .int .i64 b] w fun e w' => e = .returned (.bool (decide (a ≤ n ∧ n ≤ b))) ∧ w' = w := by
  go_enter Tryd.func59, Tryd.ntmps59
  go_wp2
  all_goals go_ret
  all_goals exact ⟨ret_bool (by rw [Bool.eq_iff_iff]; simp; try omega), rfl⟩
theorem pow_17 : ∀ k, k < 18 → (10 : Int) ^ k ≤ 100000000000000000 := by decide
theorem head_at (s : ByteArray) (h : 0 < s.size) : s.data.toList.head? = some s[0] := by rw [data_cons s h]; rfl
theorem dgB_iff (b : UInt8) : dgB b = true ↔ 48 ≤ b.toNat ∧ b.toNat ≤ 57 := by
  rw [dgB, Bool.and_eq_true, decide_eq_true_iff, decide_eq_true_iff]
theorem dgOk_all {most : Nat} {l : List UInt8} (h : dgOk most l = true) : 1 ≤ l.length ∧ l.length ≤ most ∧ (1 < l.length → l.head? ≠ some 48) ∧ ∀ b ∈ l, dgB b = true := by
  simp only [dgOk, Bool.and_eq_true, decide_eq_true_iff, Bool.not_eq_true', Bool.and_eq_false_iff, decide_eq_false_iff_not, beq_eq_false_iff_ne, List.all_eq_true] at h
  obtain ⟨⟨⟨h1, h2⟩, h3⟩, h4⟩ := h
  exact ⟨h1, h2, fun hl => h3.resolve_left (fun e => e hl), h4⟩
theorem dgOk_iff (most : Nat) (l : List UInt8) : dgOk most l = true ↔ 1 ≤ l.length ∧ l.length ≤ most ∧ (1 < l.length → l.head? ≠ some 48) ∧ ∀ b ∈ l, dgB b = true := by
  refine ⟨dgOk_all, fun ⟨h1, h2, h3, h4⟩ => ?_⟩
  simp only [dgOk, Bool.and_eq_true, decide_eq_true_iff, Bool.not_eq_true', Bool.and_eq_false_iff, decide_eq_false_iff_not, beq_eq_false_iff_ne, List.all_eq_true]
  refine ⟨⟨⟨h1, h2⟩, ?_⟩, h4⟩
  by_cases hl : 1 < l.length
  · exact .inr (h3 hl)
  · exact .inl hl
/-- What a text's digits are, and whether they are. -/
def dgE (most : Nat) (l : List UInt8) : Ending := .returned (.tuple #[.int .i64 (if dgOk most l = true then dgN l else 0), .bool (dgOk most l)])

set_option maxRecDepth 100000 in
set_option maxHeartbeats 1600000 in
theorem digitsOf_any (s : ByteArray) (most : Nat) (w : World) (hm : most ≤ 18) (hs : s.size ≤ 1048576) :
    Calls Tryd.prog 49 #[.string s, .int .i64 most] w fun e w' => e = dgE most s.data.toList ∧ w' = w := by
  have HBW := hide (fun W => isBtw_any (s.size : Int) 1 most W)
  have hl := data_len s
  by_cases h1 : 1 ≤ s.size ∧ s.size ≤ most
  · have hb : decide ((1 : Int) ≤ s.size ∧ (s.size : Int) ≤ most) = true := decide_eq_true (by omega)
    have h0 : 0 < s.size := by omega
    have h0' : (0 : Int) < s.size := by omega
    rw [hb] at HBW
    by_cases h2 : 1 < s.size ∧ s[0] = 48
    · have hne : dgOk most s.data.toList = false := by
        rw [Bool.eq_false_iff]
        intro h
        have := (dgOk_all h).2.2.1 (by omega)
        rw [head_at s h0, h2.2] at this
        exact this rfl
      have HE : Hid (dgE most s.data.toList = .returned (.tuple #[.int .i64 0, .bool false])) := by show _ = _; rw [dgE, hne]; rfl
      have h21 : (1 : Int) < s.size := by omega
      have h22 : ((s[0].toNat : Int) == 48) = true := by rw [h2.2]; rfl
      clear hne h2 hl hb
      go_enter Tryd.func49, Tryd.ntmps49
      go_wp2_with (go_at_call 59; refine (unhide HBW _).mono ?_; rintro e w' ⟨rfl, rfl⟩)
      go_ret2
      exact ⟨by rw [unhide HE]; rfl, rfl⟩
    · have hcs : ((1 : Int) < s.size ∧ ((s[0].toNat : Int) == 48) = false) ∨ ¬ ((1 : Int) < s.size) := by
        by_cases h : 1 < s.size
        · left
          refine ⟨by omega, ?_⟩
          rw [beq_eq_false_iff_ne]
          intro e
          exact h2 ⟨h, UInt8.toNat_inj.1 (by show _ = 48; omega)⟩
        · right; omega
      have HOK : Hid ((∀ b ∈ s.data.toList, dgB b = true) → dgOk most s.data.toList = true) := fun h => (dgOk_iff _ _).2 ⟨by omega, by omega, fun hl1 hh => by
        rw [head_at s h0, Option.some.injEq] at hh
        exact h2 ⟨by omega, hh⟩, h⟩
      have HIS := hide (fun b W => isDg_any b W)
      have hs18 : s.size ≤ 18 := by omega
      clear h2 hb
      rcases hcs with ⟨h21, h22⟩ | h21
      all_goals
        go_enter Tryd.func49, Tryd.ntmps49
        go_wp2_with (go_at_call 59; refine (unhide HBW _).mono ?_; rintro e w' ⟨rfl, rfl⟩)
        go_loopw [6, 25] (fun nv iv wr => ∃ (k : Nat) (n : Int), k ≤ s.size ∧ iv = .int .i64 k ∧ nv = .int .i64 n ∧ Hid (n = dgN (s.data.toList.take k) ∧ ∀ b ∈ s.data.toList.take k, dgB b = true) ∧ wr = w') (fun _ iv _ => s.size - (intOf iv).toNat)
        case atStart => exact ⟨0, 0, Nat.zero_le _, rfl, rfl, ⟨rfl, by simp⟩, rfl⟩
        case round =>
          obtain ⟨k, n, hk, rfl, rfl, hpl, rfl⟩ := hrel
          obtain ⟨hn, hd⟩ := unhide hpl
          by_cases hlt : k < s.size
          · have hlt' : (k : Int) < s.size := by omega
            have hbd := dgN_bound k (s.data.toList.take k) (by rw [List.length_take]; omega) hd
            rw [← hn] at hbd
            have hpw := pow_17 k (by omega)
            have hn0 := hbd.1
            have hn1 : n < 100000000000000000 := by omega
            have HSB := hide (fun W => unhide HIS s[k] W)
            have htk := take_snoc s k hlt
            cases hdb : dgB s[k] with
            | true =>
              have h48 := (dgB_iff _).1 hdb
              rw [hdb] at HSB
              have HP : Hid (10 * n + ((s[k].toNat : Int) - 48) = dgN (s.data.toList.take (k + 1)) ∧ ∀ b ∈ s.data.toList.take (k + 1), dgB b = true) := by
                rw [htk, dgN_snoc, ← hn]
                refine ⟨rfl, fun b hb => ?_⟩
                rcases List.mem_append.1 hb with h | h
                · exact hd b h
                · rw [List.mem_singleton.1 h]; exact hdb
              have hw8 : IntKind.u8.wrap ((s[k].toNat : Int) - 48) = (s[k].toNat : Int) - 48 := by unfold IntKind.wrap; simp [IntKind.bits, IntKind.signed]; omega
              have hw1 : IntKind.i64.wrap (10 * n) = 10 * n := by rw [IntKind.wrap_i64]; omega
              have hw2 : IntKind.i64.wrap ((s[k].toNat : Int) - 48) = (s[k].toNat : Int) - 48 := by rw [IntKind.wrap_i64]; omega
              have hw3 : IntKind.i64.wrap (10 * n + ((s[k].toNat : Int) - 48)) = 10 * n + ((s[k].toNat : Int) - 48) := by rw [IntKind.wrap_i64]; omega
              clear hpl hn hd hbd hpw htk hdb
              go_wp2_with (go_at_call 50; refine (unhide HSB _).mono ?_; rintro e w2 ⟨rfl, rfl⟩)
              exact ⟨⟨k + 1, _, by omega, by go_num, rfl, unhide HP, trivial⟩, by simp [intOf]; omega⟩
            | false =>
              rw [hdb] at HSB
              have hne : dgOk most s.data.toList = false := by
                rw [Bool.eq_false_iff]
                intro h
                have := (dgOk_all h).2.2.2 s[k] (by rw [get_nat s k hlt]; exact List.getElem_mem _)
                rw [hdb] at this; cases this
              have HE : Hid (dgE most s.data.toList = .returned (.tuple #[.int .i64 0, .bool false])) := by show _ = _; rw [dgE, hne]; rfl
              clear hpl hn hd hbd hpw htk hdb hne
              go_wp2_with (go_at_call 50; refine (unhide HSB _).mono ?_; rintro e w2 ⟨rfl, rfl⟩)
              go_ret2
              exact ⟨by rw [unhide HE]; rfl, rfl⟩
          · obtain rfl : k = s.size := by omega
            rw [List.take_of_length_le (by omega)] at hn hd
            have HE : Hid (dgE most s.data.toList = .returned (.tuple #[.int .i64 n, .bool true])) := by show _ = _; rw [dgE, unhide HOK hd, if_pos rfl, hn]
            clear hpl hn hd
            go_wp2_with fail
            go_ret2
            exact ⟨by rw [unhide HE]; rfl, rfl⟩
  · have hb : decide ((1 : Int) ≤ s.size ∧ (s.size : Int) ≤ most) = false := decide_eq_false (by omega)
    have hne : dgOk most s.data.toList = false := by
      rw [Bool.eq_false_iff]
      intro h
      have := dgOk_all h
      omega
    have HE : Hid (dgE most s.data.toList = .returned (.tuple #[.int .i64 0, .bool false])) := by show _ = _; rw [dgE, hne]; rfl
    rw [hb] at HBW
    clear hb hne
    go_enter Tryd.func49, Tryd.ntmps49
    go_wp2_with (go_at_call 59; refine (unhide HBW _).mono ?_; rintro e w' ⟨rfl, rfl⟩)
    go_ret2
    exact ⟨by rw [unhide HE]; rfl, rfl⟩

theorem byte_ext {a b : ByteArray} (h : a.data.toList = b.data.toList) : a = b := WideShapes.bytes_inj h
theorem nmS_iff (s : ByteArray) : nmS s.data.toList = true ↔ ∃ h : 0 < s.size, s[0] = 45 := by
  unfold nmS
  by_cases h : 0 < s.size
  · rw [head_at s h]; simp [h]
  · have : s.data.toList = [] := List.length_eq_zero_iff.1 (by rw [data_len]; omega)
    rw [this]; simp [h]
/-- A text without the hyphen ahead of it. -/
def cutM (s : ByteArray) : ByteArray := if nmS s.data.toList = true then s.extract 1 s.size else s
theorem cutM_data (s : ByteArray) : (cutM s).data.toList = nmR s.data.toList := by
  unfold cutM nmR
  split
  · rw [Lib.extract_data, List.take_of_length_le (by rw [List.length_drop, data_len]; omega), List.drop_one]
  · rfl
theorem cutM_size (s : ByteArray) : (cutM s).size ≤ s.size := by
  unfold cutM
  split
  · rw [ByteArray.size_extract]; omega
  · exact Nat.le_refl _
set_option maxRecDepth 100000 in
set_option maxHeartbeats 1000000 in
theorem cutPrefix_any (s : ByteArray) (w : World) :
    Calls Tryd.prog 48 #[.string s, .string ⟨#[45]⟩] w fun e w' => e = .returned (.tuple #[.string (cutM s), .bool (nmS s.data.toList)]) ∧ w' = w := by
  have h01 : (s.extract 0 1).toList = s.data.toList.take 1 := by rw [Lib.toList_data, Lib.extract_data]; simp
  by_cases hy : nmS s.data.toList = true
  · obtain ⟨h0, h45⟩ := (nmS_iff s).1 hy
    have e1 : ((s.extract 0 1).toList == [45]) = true := by rw [h01, data_cons s h0, h45]; rfl
    have HE : Hid (cutM s = s.extract 1 s.size ∧ nmS s.data.toList = true) := ⟨by unfold cutM; rw [if_pos hy], hy⟩
    have h1 : (1 : Int) ≤ s.size := by omega
    clear h01 hy h45
    go_enter Tryd.func48, Tryd.ntmps48
    go_wp2
    go_ret2
    exact ⟨by rw [(unhide HE).1, (unhide HE).2]; rfl, rfl⟩
  · have HE : Hid (cutM s = s ∧ nmS s.data.toList = false) := ⟨by unfold cutM; rw [if_neg hy], by simpa using hy⟩
    by_cases h0 : 0 < s.size
    · have e1 : ((s.extract 0 1).toList == [45]) = false := by
        rw [h01, data_cons s h0, beq_eq_false_iff_ne]
        intro e
        exact hy ((nmS_iff s).2 ⟨h0, by simpa using e⟩)
      have h1 : (1 : Int) ≤ s.size := by omega
      clear h01 hy
      go_enter Tryd.func48, Tryd.ntmps48
      go_wp2
      go_ret2
      exact ⟨by rw [(unhide HE).1, (unhide HE).2]; rfl, rfl⟩
    · have h1 : (s.size : Int) < 1 := by omega
      clear h01 hy
      go_enter Tryd.func48, Tryd.ntmps48
      go_wp2
      go_ret2
      exact ⟨by rw [(unhide HE).1, (unhide HE).2]; rfl, rfl⟩

/-- What a number's text is, and whether it is one. -/
def nmE (l : List UInt8) : Ending := .returned (.tuple #[.int .i64 (nmV l), .bool (nmOk l)])
theorem dg_fits {l : List UInt8} (h : dgOk 18 l = true) : 0 ≤ dgN l ∧ dgN l < 1000000000000000000 := by
  obtain ⟨h1, h2, _, h4⟩ := dgOk_all h
  have hb := dgN_bound l.length l rfl h4
  have hp : ∀ k, k < 19 → (10 : Int) ^ k ≤ 1000000000000000000 := by decide
  have := hp l.length (by omega)
  omega
set_option maxRecDepth 100000 in
set_option maxHeartbeats 1000000 in
theorem numberOf_any (s : ByteArray) (w : World) (hs : s.size ≤ 1048576) :
    Calls Tryd.prog 41 #[.string s] w fun e w' => e = nmE s.data.toList ∧ w' = w := by
  have HC := hide (fun W => cutPrefix_any s W)
  have HD := hide (fun W => digitsOf_any (cutM s) 18 W (Nat.le_refl _) (Nat.le_trans (cutM_size s) hs))
  rw [cutM_data] at HD
  have HN : Hid (nmOk s.data.toList = (dgOk 18 (nmR s.data.toList) && !(nmS s.data.toList && decide (dgN (nmR s.data.toList) = 0)))) := rfl
  have HV : Hid (nmV s.data.toList = if nmOk s.data.toList = true then (if nmS s.data.toList = true then -dgN (nmR s.data.toList) else dgN (nmR s.data.toList)) else 0) := rfl
  have HFT := hide (fun h => dg_fits (l := nmR s.data.toList) h)
  unfold nmE dgE at *
  generalize nmOk s.data.toList = ok at *
  generalize nmV s.data.toList = v at *
  generalize nmS s.data.toList = sg at *
  generalize nmR s.data.toList = l at *
  generalize cutM s = s' at *
  generalize dgN l = n at *
  cases hd : dgOk 18 l with
  | false =>
    rw [hd] at HD HN
    obtain rfl : ok = false := unhide HN
    obtain rfl : v = 0 := unhide HV
    clear HN HV hd
    go_enter Tryd.func41, Tryd.ntmps41
    go_wp2_with first
      | (go_at_call 48; refine (unhide HC _).mono ?_; rintro e w' ⟨rfl, rfl⟩)
      | (go_at_call 49; refine (unhide HD _).mono ?_; rintro e w' ⟨rfl, rfl⟩)
    go_ret2
    exact ⟨rfl, rfl⟩
  | true =>
    have hft := unhide HFT hd
    rw [hd] at HD HN
    rw [if_pos rfl] at HD
    cases sg with
    | false =>
      obtain rfl : ok = true := unhide HN
      obtain rfl : v = n := unhide HV
      clear HN HV hd HFT
      go_enter Tryd.func41, Tryd.ntmps41
      go_wp2_with first
        | (go_at_call 48; refine (unhide HC _).mono ?_; rintro e w' ⟨rfl, rfl⟩)
        | (go_at_call 49; refine (unhide HD _).mono ?_; rintro e w' ⟨rfl, rfl⟩)
      go_ret2
      exact ⟨rfl, rfl⟩
    | true =>
      by_cases h0 : n = 0
      · subst h0
        obtain rfl : ok = false := unhide HN
        obtain rfl : v = 0 := unhide HV
        clear HN HV hd HFT
        go_enter Tryd.func41, Tryd.ntmps41
        go_wp2_with first
          | (go_at_call 48; refine (unhide HC _).mono ?_; rintro e w' ⟨rfl, rfl⟩)
          | (go_at_call 49; refine (unhide HD _).mono ?_; rintro e w' ⟨rfl, rfl⟩)
        go_ret2
        exact ⟨rfl, rfl⟩
      · have hdn : decide (n = 0) = false := decide_eq_false h0
        have hbn : (n == 0) = false := by simpa using h0
        rw [hdn] at HN
        obtain rfl : ok = true := unhide HN
        obtain rfl : v = -n := unhide HV
        have hw : IntKind.i64.wrap (-n) = -n := by rw [IntKind.wrap_i64]; omega
        clear HN HV hd HFT h0 hdn
        go_enter Tryd.func41, Tryd.ntmps41
        go_wp2_with first
          | (go_at_call 48; refine (unhide HC _).mono ?_; rintro e w' ⟨rfl, rfl⟩)
          | (go_at_call 49; refine (unhide HD _).mono ?_; rintro e w' ⟨rfl, rfl⟩)
        go_ret2
        exact ⟨rfl, rfl⟩
end Go.Proofs.YtjjopdkbdebfoaaDoor
