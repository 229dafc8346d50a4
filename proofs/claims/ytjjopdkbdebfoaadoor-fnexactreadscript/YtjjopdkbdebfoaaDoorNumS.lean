/-
  Numbers' texts, as the model reads them: proved by walking the function.
-/
import Derived.Test.YtjjopdkbdebfoaaDoorNumT
namespace Go.Proofs.YtjjopdkbdebfoaaDoor
open Go.RowKit
set_option linter.unusedVariables false

/-- The digits that stand in a text behind its hyphen, in the model's words. -/
theorem nm_false {l : List UInt8} (h : nmOk l = false) : nmE l = .returned (.tuple #[.int .i64 0, .bool false]) := by
  rw [nmE, nmV, h]; rfl
theorem nmOk_iff (l : List UInt8) : nmOk l = true ↔ dgOk 18 (nmR l) = true ∧ ¬ (nmS l = true ∧ dgN (nmR l) = 0) := by
  unfold nmOk
  rw [Bool.and_eq_true, Bool.not_eq_true', Bool.and_eq_false_iff, decide_eq_false_iff_not]
  constructor
  · rintro ⟨h1, h2⟩
    refine ⟨h1, fun ⟨h3, h4⟩ => ?_⟩
    rcases h2 with h2 | h2
    · rw [h3] at h2; cases h2
    · exact h2 h4
  · rintro ⟨h1, h2⟩
    refine ⟨h1, ?_⟩
    cases h3 : nmS l with
    | false => exact .inl rfl
    | true => exact .inr (fun h4 => h2 ⟨h3, h4⟩)
/-- A number of digits without a nought ahead is nought just when it is the lone nought. -/
theorem foldl_pos : ∀ (l : List UInt8) (n : Int), 0 < n → (∀ b ∈ l, dgB b = true) → 0 < l.foldl dgV n
  | [], n, h, _ => h
  | b :: l, n, h, hd => by
    rw [List.foldl_cons]
    have hb := (dgB_iff b).1 (hd b (List.mem_cons_self ..))
    exact foldl_pos l _ (by unfold dgV; omega) (fun x hx => hd x (List.mem_cons_of_mem _ hx))
theorem dgN_zero {l : List UInt8} (h : dgOk 18 l = true) : dgN l = 0 ↔ l.head? = some 48 := by
  obtain ⟨h1, _, h3, h4⟩ := dgOk_all h
  cases l with
  | nil => simp at h1
  | cons b r =>
    have hb := (dgB_iff b).1 (h4 b (List.mem_cons_self ..))
    rw [List.head?_cons, Option.some.injEq]
    constructor
    · intro hz
      by_cases he : b.toNat = 48
      · exact UInt8.toNat_inj.1 (by show _ = 48; omega)
      · have := foldl_pos r (dgV 0 b) (by unfold dgV; omega) (fun x hx => h4 x (List.mem_cons_of_mem _ hx))
        unfold dgN at hz
        rw [List.foldl_cons] at hz
        omega
    · intro he
      subst he
      cases r with
      | nil => rfl
      | cons c r => exact absurd rfl (h3 (by simp))

theorem pow_18 : ∀ k, k < 19 → (10 : Int) ^ k ≤ 1000000000000000000 := by decide
set_option maxRecDepth 100000 in
set_option maxHeartbeats 3200000 in
theorem l00Number_any (s : ByteArray) (w : World) (hs : s.size ≤ 1048576) :
    Calls Tryd.prog 22 #[.string s] w fun e w' => e = nmE s.data.toList ∧ w' = w := by
  by_cases h0 : s.size = 0
  · have hl : s.data.toList = [] := List.length_eq_zero_iff.1 (by rw [data_len]; exact h0)
    have HE : Hid (nmE s.data.toList = .returned (.tuple #[.int .i64 0, .bool false])) := by show _ = _; rw [hl]; rfl
    have h1 : ((s.size : Int) == 0) = true := by rw [h0]; rfl
    have h2 : ¬ ((0 : Int) < s.size) := by omega
    clear hl
    go_enter Tryd.func22, Tryd.ntmps22
    go_wp2_with fail
    go_ret2
    exact ⟨by rw [unhide HE]; rfl, rfl⟩
  have h0p : 0 < s.size := by omega
  have h0i : (0 : Int) < s.size := by omega
  have hcs : ∃ r, r.size ≤ 18446744073709 ∧ nmR s.data.toList = r.data.toList ∧ ((nmS s.data.toList = true ∧ ((s[0].toNat : Int) == 45) = true ∧ s.extract 1 s.size = r) ∨ (nmS s.data.toList = false ∧ ((s[0].toNat : Int) == 45) = false ∧ s = r)) := by
    by_cases hy : nmS s.data.toList = true
    · obtain ⟨_, h45⟩ := (nmS_iff s).1 hy
      exact ⟨s.extract 1 s.size, by rw [ByteArray.size_extract]; omega, by rw [← cutM_data]; unfold cutM; rw [if_pos hy], .inl ⟨hy, by rw [h45]; rfl, rfl⟩⟩
    · refine ⟨s, by omega, by rw [nmR, if_neg hy], .inr ⟨by simpa using hy, ?_, rfl⟩⟩
      rw [beq_eq_false_iff_ne]
      intro e
      exact hy ((nmS_iff s).2 ⟨h0p, UInt8.toNat_inj.1 (by show _ = 45; omega)⟩)
  obtain ⟨r, hrs, hnr, hcs⟩ := hcs
  have HNR := hide hnr
  have h11 : (1 : Int) ≤ s.size := by omega
  have hrl := data_len r
  clear hnr
  rcases hcs with ⟨hsg, hb, hex⟩ | ⟨hsg, hb, rfl⟩
  · have HSG := hide hsg
    clear hsg
    by_cases hA : r.size = 0 ∨ 18 < r.size
    · have hne : nmOk s.data.toList = false := by
        rw [Bool.eq_false_iff]
        intro h
        have h1 := ((nmOk_iff _).1 h).1
        rw [unhide HNR] at h1
        have := dgOk_all h1
        omega
      have HE := hide (nm_false hne)
      clear hne
      rcases hA with hA | hA
      · have hA1 : ((r.size : Int) == 0) = true := by rw [hA]; rfl
        go_enter Tryd.func22, Tryd.ntmps22
        go_wp2_with fail
        go_ret2
        exact ⟨by rw [unhide HE]; rfl, rfl⟩
      · have hA1 : ((r.size : Int) == 0) = false := beq_eq_false_iff_ne.2 (by omega)
        have hA2 : (18 : Int) < r.size := by omega
        go_enter Tryd.func22, Tryd.ntmps22
        go_wp2_with fail
        go_ret2
        exact ⟨by rw [unhide HE]; rfl, rfl⟩
    · have hA1 : ((r.size : Int) == 0) = false := beq_eq_false_iff_ne.2 (by omega)
      have hA2 : ¬ ((18 : Int) < r.size) := by omega
      have hr0 : 0 < r.size := by omega
      have hr0i : (0 : Int) < r.size := by omega
      by_cases hB : r[0] = 48
      · have hne : nmOk s.data.toList = false := by
          rw [Bool.eq_false_iff]
          intro h
          obtain ⟨h1, h2⟩ := (nmOk_iff _).1 h
          rw [unhide HNR] at h1
          exact h2 ⟨unhide HSG, by rw [unhide HNR, dgN_zero h1, head_at r hr0, hB]⟩
        have HE := hide (nm_false hne)
        have hB1 : ((r[0].toNat : Int) == 48) = true := by rw [hB]; rfl
        clear hne
        rcases (show (1 : Int) < r.size ∨ ¬ ((1 : Int) < r.size) by omega) with hC | hC
        all_goals
          go_enter Tryd.func22, Tryd.ntmps22
          go_wp2_with fail
          go_ret2
          exact ⟨by rw [unhide HE]; rfl, rfl⟩
      · have hB1 : ((r[0].toNat : Int) == 48) = false := by
          rw [beq_eq_false_iff_ne]
          intro e
          exact hB (UInt8.toNat_inj.1 (by show _ = 48; omega))
        have HOK : Hid ((∀ b ∈ r.data.toList, dgB b = true) → nmE s.data.toList = .returned (.tuple #[.int .i64 (-dgN r.data.toList), .bool true])) := fun h => by
          have h18 : dgOk 18 r.data.toList = true := (dgOk_iff _ _).2 ⟨by omega, by omega, fun _ hh => by rw [head_at r hr0, Option.some.injEq] at hh; exact hB hh, h⟩
          have hz : ¬ (true = true ∧ dgN r.data.toList = 0) := fun ⟨_, h2⟩ => by rw [dgN_zero h18, head_at r hr0, Option.some.injEq] at h2; exact hB h2
          have hok : nmOk s.data.toList = true := (nmOk_iff _).2 ⟨by rw [unhide HNR]; exact h18, by rw [unhide HNR, unhide HSG]; exact hz⟩
          rw [nmE, nmV, hok, if_pos rfl, unhide HSG, unhide HNR]
          rfl
        go_enter Tryd.func22, Tryd.ntmps22
        go_wp2_with fail
        go_loopw [5, 6] (fun nv iv wr => ∃ (k : Nat) (n : Int), k ≤ r.size ∧ iv = .int .i64 k ∧ nv = .int .i64 n ∧ Hid (n = dgN (r.data.toList.take k) ∧ ∀ b ∈ r.data.toList.take k, dgB b = true) ∧ wr = w) (fun _ iv _ => r.size - (intOf iv).toNat)
        case atStart => exact ⟨0, 0, Nat.zero_le _, rfl, rfl, ⟨rfl, by simp⟩, rfl⟩
        case round =>
          obtain ⟨k, n, hk, rfl, rfl, hpl, rfl⟩ := hrel
          obtain ⟨hn, hd⟩ := unhide hpl
          by_cases hlt : k < r.size
          · have hlt' : (k : Int) < r.size := by omega
            have hbd := dgN_bound k (r.data.toList.take k) (by rw [List.length_take]; omega) hd
            rw [← hn] at hbd
            have hpw := pow_17 k (by omega)
            have hn0 := hbd.1
            have hn1 : n < 100000000000000000 := by omega
            have htk := take_snoc r k hlt
            have h256 := r[k].toNat_lt
            by_cases hdb : dgB r[k] = true
            · have h48 := (dgB_iff _).1 hdb
              have HP : Hid (n * 10 + (r[k].toNat : Int) - 48 = dgN (r.data.toList.take (k + 1)) ∧ ∀ b ∈ r.data.toList.take (k + 1), dgB b = true) := by
                rw [htk, dgN_snoc, ← hn]
                refine ⟨by omega, fun b hb => ?_⟩
                rcases List.mem_append.1 hb with h | h
                · exact hd b h
                · rw [List.mem_singleton.1 h]; exact hdb
              have hc1 : ¬ ((r[k].toNat : Int) < 48) := by omega
              have hc2 : ¬ ((57 : Int) < r[k].toNat) := by omega
              have hw1 : IntKind.i64.wrap (n * 10) = n * 10 := by rw [IntKind.wrap_i64]; omega
              have hw2 : IntKind.i64.wrap (r[k].toNat : Int) = r[k].toNat := by rw [IntKind.wrap_i64]; omega
              have hw3 : IntKind.i64.wrap (n * 10 + (r[k].toNat : Int)) = n * 10 + r[k].toNat := by rw [IntKind.wrap_i64]; omega
              have hw4 : IntKind.i64.wrap (n * 10 + (r[k].toNat : Int) - 48) = n * 10 + r[k].toNat - 48 := by rw [IntKind.wrap_i64]; omega
              clear hpl hn hd hbd hpw htk hdb h48
              go_wp2_with fail
              exact ⟨⟨k + 1, _, by omega, by go_num, rfl, unhide HP, trivial⟩, by simp [intOf]; omega⟩
            · have hne : nmOk s.data.toList = false := by
                rw [Bool.eq_false_iff]
                intro h
                have h1 := ((nmOk_iff _).1 h).1
                rw [unhide HNR] at h1
                exact hdb ((dgOk_all h1).2.2.2 r[k] (by rw [get_nat r k hlt]; exact List.getElem_mem _))
              have HE := hide (nm_false hne)
              have hcs : (r[k].toNat : Int) < 48 ∨ (¬ ((r[k].toNat : Int) < 48) ∧ (57 : Int) < r[k].toNat) := by
                by_cases h : (r[k].toNat : Int) < 48
                · exact .inl h
                · refine .inr ⟨h, ?_⟩
                  by_cases h2 : (57 : Int) < r[k].toNat
                  · exact h2
                  · exact absurd ((dgB_iff _).2 ⟨by omega, by omega⟩) hdb
              clear hpl hn hd hbd hpw htk hdb hne
              rcases hcs with hc1 | ⟨hc1, hc2⟩
              all_goals
                go_wp2_with fail
                go_ret2
                exact ⟨by rw [unhide HE]; rfl, rfl⟩
          · rw [List.take_of_length_le (by omega)] at hn hd
            have HE := hide (unhide HOK hd)
            have hbd := dgN_bound _ _ rfl hd
            rw [hrl, ← hn] at hbd
            have hpw := pow_18 r.size (by omega)
            rw [← hn] at HE
            have hwm : IntKind.i64.wrap (-n) = -n := by rw [IntKind.wrap_i64]; omega
            have hwn : IntKind.i64.wrap n = n := by rw [IntKind.wrap_i64]; omega
            clear hpl hn hd hbd hpw
            go_wp2_with fail
            go_ret2
            exact ⟨by rw [unhide HE]; rfl, rfl⟩
  · have HSG := hide hsg
    clear hsg
    by_cases hA : s.size = 0 ∨ 18 < s.size
    · have hne : nmOk s.data.toList = false := by
        rw [Bool.eq_false_iff]
        intro h
        have h1 := ((nmOk_iff _).1 h).1
        rw [unhide HNR] at h1
        have := dgOk_all h1
        omega
      have HE := hide (nm_false hne)
      clear hne
      rcases hA with hA | hA
      · have hA1 : ((s.size : Int) == 0) = true := by rw [hA]; rfl
        go_enter Tryd.func22, Tryd.ntmps22
        go_wp2_with fail
        go_ret2
        exact ⟨by rw [unhide HE]; rfl, rfl⟩
      · have hA1 : ((s.size : Int) == 0) = false := beq_eq_false_iff_ne.2 (by omega)
        have hA2 : (18 : Int) < s.size := by omega
        go_enter Tryd.func22, Tryd.ntmps22
        go_wp2_with fail
        go_ret2
        exact ⟨by rw [unhide HE]; rfl, rfl⟩
    · have hA1 : ((s.size : Int) == 0) = false := beq_eq_false_iff_ne.2 (by omega)
      have hA2 : ¬ ((18 : Int) < s.size) := by omega
      have hr0 : 0 < s.size := by omega
      have hr0i : (0 : Int) < s.size := by omega
      by_cases hB : s[0] = 48 ∧ 1 < s.size
      · have hne : nmOk s.data.toList = false := by
          rw [Bool.eq_false_iff]
          intro h
          obtain ⟨h1, h2⟩ := (nmOk_iff _).1 h
          rw [unhide HNR] at h1
          exact (dgOk_all h1).2.2.1 (by omega) (by rw [head_at s hr0, hB.1])
        have HE := hide (nm_false hne)
        have hB1 : ((s[0].toNat : Int) == 48) = true := by rw [hB.1]; rfl
        clear hne
        have hC : (1 : Int) < s.size := by omega
        go_enter Tryd.func22, Tryd.ntmps22
        go_wp2_with fail
        go_ret2
        exact ⟨by rw [unhide HE]; rfl, rfl⟩
      · have hcs : ((s[0].toNat : Int) == 48) = false ∨ (((s[0].toNat : Int) == 48) = true ∧ ¬ ((1 : Int) < s.size)) := by
          by_cases h : s[0] = 48
          · exact .inr ⟨by rw [h]; rfl, fun h2 => hB ⟨h, by omega⟩⟩
          · left
            rw [beq_eq_false_iff_ne]
            intro e
            exact h (UInt8.toNat_inj.1 (by show _ = 48; omega))
        rcases hcs with hB1 | ⟨hB1, hC⟩
        all_goals
          have HOK : Hid ((∀ b ∈ s.data.toList, dgB b = true) → nmE s.data.toList = .returned (.tuple #[.int .i64 (dgN s.data.toList), .bool true])) := fun h => by
            have h18 : dgOk 18 s.data.toList = true := (dgOk_iff _ _).2 ⟨by omega, by omega, fun hl1 hh => by rw [head_at s hr0, Option.some.injEq] at hh; exact hB ⟨hh, by omega⟩, h⟩
            have hz : ¬ (false = true ∧ dgN s.data.toList = 0) := fun ⟨h1, _⟩ => by cases h1
            have hok : nmOk s.data.toList = true := (nmOk_iff _).2 ⟨by rw [unhide HNR]; exact h18, by rw [unhide HNR, unhide HSG]; exact hz⟩
            rw [nmE, nmV, hok, if_pos rfl, unhide HSG, unhide HNR]
            rfl
          go_enter Tryd.func22, Tryd.ntmps22
          go_wp2_with fail
          go_loopw [5, 6] (fun nv iv wr => ∃ (k : Nat) (n : Int), k ≤ s.size ∧ iv = .int .i64 k ∧ nv = .int .i64 n ∧ Hid (n = dgN (s.data.toList.take k) ∧ ∀ b ∈ s.data.toList.take k, dgB b = true) ∧ wr = w) (fun _ iv _ => s.size - (intOf iv).toNat)
          case atStart => exact ⟨0, 0, Nat.zero_le _, rfl, rfl, ⟨rfl, by simp⟩, rfl⟩
          case round =>
            obtain ⟨k, n, hk, rfl, rfl, hpl, rfl⟩ := hrel
            obtain ⟨hn, hd⟩ := unhide hpl
            by_cases hlt : k < s.size
            · have hlt' : (k : Int) < s.size := by omega
              have hbd := dgN_bound k (s.data.toList.take k) (by rw [List.length_take]; omega) hd
              rw [← hn] at hbd
              have hpw := pow_17 k (by omega)
              have hn0 := hbd.1
              have hn1 : n < 100000000000000000 := by omega
              have htk := take_snoc s k hlt
              have h256 := s[k].toNat_lt
              by_cases hdb : dgB s[k] = true
              · have h48 := (dgB_iff _).1 hdb
                have HP : Hid (n * 10 + (s[k].toNat : Int) - 48 = dgN (s.data.toList.take (k + 1)) ∧ ∀ b ∈ s.data.toList.take (k + 1), dgB b = true) := by
                  rw [htk, dgN_snoc, ← hn]
                  refine ⟨by omega, fun b hb => ?_⟩
                  rcases List.mem_append.1 hb with h | h
                  · exact hd b h
                  · rw [List.mem_singleton.1 h]; exact hdb
                have hc1 : ¬ ((s[k].toNat : Int) < 48) := by omega
                have hc2 : ¬ ((57 : Int) < s[k].toNat) := by omega
                have hw1 : IntKind.i64.wrap (n * 10) = n * 10 := by rw [IntKind.wrap_i64]; omega
                have hw2 : IntKind.i64.wrap (s[k].toNat : Int) = s[k].toNat := by rw [IntKind.wrap_i64]; omega
                have hw3 : IntKind.i64.wrap (n * 10 + (s[k].toNat : Int)) = n * 10 + s[k].toNat := by rw [IntKind.wrap_i64]; omega
                have hw4 : IntKind.i64.wrap (n * 10 + (s[k].toNat : Int) - 48) = n * 10 + s[k].toNat - 48 := by rw [IntKind.wrap_i64]; omega
                clear hpl hn hd hbd hpw htk hdb h48
                go_wp2_with fail
                exact ⟨⟨k + 1, _, by omega, by go_num, rfl, unhide HP, trivial⟩, by simp [intOf]; omega⟩
              · have hne : nmOk s.data.toList = false := by
                  rw [Bool.eq_false_iff]
                  intro h
                  have h1 := ((nmOk_iff _).1 h).1
                  rw [unhide HNR] at h1
                  exact hdb ((dgOk_all h1).2.2.2 s[k] (by rw [get_nat s k hlt]; exact List.getElem_mem _))
                have HE := hide (nm_false hne)
                have hcs : (s[k].toNat : Int) < 48 ∨ (¬ ((s[k].toNat : Int) < 48) ∧ (57 : Int) < s[k].toNat) := by
                  by_cases h : (s[k].toNat : Int) < 48
                  · exact .inl h
                  · refine .inr ⟨h, ?_⟩
                    by_cases h2 : (57 : Int) < s[k].toNat
                    · exact h2
                    · exact absurd ((dgB_iff _).2 ⟨by omega, by omega⟩) hdb
                clear hpl hn hd hbd hpw htk hdb hne
                rcases hcs with hc1 | ⟨hc1, hc2⟩
                all_goals
                  go_wp2_with fail
                  go_ret2
                  exact ⟨by rw [unhide HE]; rfl, rfl⟩
            · rw [List.take_of_length_le (by omega)] at hn hd
              have HE := hide (unhide HOK hd)
              have hbd := dgN_bound _ _ rfl hd
              rw [hrl, ← hn] at hbd
              have hpw := pow_18 s.size (by omega)
              rw [← hn] at HE
              have hwm : IntKind.i64.wrap (n) = n := by rw [IntKind.wrap_i64]; omega
              have hwn : IntKind.i64.wrap n = n := by rw [IntKind.wrap_i64]; omega
              clear hpl hn hd hbd hpw
              go_wp2_with fail
              go_ret2
              exact ⟨by rw [unhide HE]; rfl, rfl⟩
end Go.Proofs.YtjjopdkbdebfoaaDoor
