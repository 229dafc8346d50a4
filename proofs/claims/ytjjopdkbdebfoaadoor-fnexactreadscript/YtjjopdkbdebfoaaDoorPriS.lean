/-
  Prices' texts, as the model reads them, and words that are looked up: proved by walking the functions.
-/
import Derived.Test.YtjjopdkbdebfoaaDoorNumS
import Derived.Test.YtjjopdkbdebfoaaDoorPriT
import Derived.Lib.IndexLaws
namespace Go.Proofs.YtjjopdkbdebfoaaDoor
open Go.RowKit
set_option linter.unusedVariables false

theorem ib_app (b : List UInt8) : ∀ (a : List UInt8), (46 : UInt8) ∉ a → Lib.indexByte (a ++ 46 :: b) 46 = a.length
  | [], _ => by rw [List.nil_append, ib_cons, if_pos rfl]; rfl
  | c :: a, h => by
    have h1 : ¬ c = 46 := fun e => h (by rw [e]; exact List.mem_cons_self ..)
    have h2 := ib_app b a (fun hm => h (List.mem_cons_of_mem _ hm))
    rw [List.cons_append, ib_cons, if_neg h1, h2, if_neg (by omega), List.length_cons]
    omega
theorem pr_cut {a b : List UInt8} (h : (46 : UInt8) ∉ a) : prA (a ++ 46 :: b) = a ∧ prB (a ++ 46 :: b) = b := by
  unfold prA prB
  rw [ib_app b a h, if_neg (by omega), if_neg (by omega)]
  simp
theorem ib_in (c : UInt8) : ∀ (l : List UInt8) (x : List UInt8), c ∈ l → ∃ m : Nat, Lib.indexByte (l ++ x) c = m ∧ m < l.length
  | [], _, h => by simp at h
  | b :: l, x, h => by
    rw [List.cons_append, ib_cons]
    by_cases hb : b = c
    · exact ⟨0, by rw [if_pos hb]; rfl, by simp⟩
    · obtain ⟨m, h1, h2⟩ := ib_in c l x ((List.mem_cons.1 h).resolve_left (fun e => hb e.symm))
      exact ⟨m + 1, by rw [if_neg hb, h1, if_neg (by omega)]; rfl, by simp; omega⟩
theorem nmOk_chars {l : List UInt8} (h : nmOk l = true) : (46 : UInt8) ∉ l := by
  obtain ⟨h1, _⟩ := (nmOk_iff l).1 h
  have h4 := (dgOk_all h1).2.2.2
  intro hm
  unfold nmR at h4
  by_cases hs : nmS l = true
  · rw [if_pos hs] at h4
    cases l with
    | nil => simp at hm
    | cons c r =>
      rcases List.mem_cons.1 hm with rfl | hm
      · simp [nmS] at hs
      · have := h4 46 hm; simp [dgB] at this
  · rw [if_neg hs] at h4
    have := h4 46 hm; simp [dgB] at this
theorem dg_no_sign {most : Nat} {l : List UInt8} (h : dgOk most l = true) : nmS l = false := by
  have h4 := dgOk_all h
  cases l with
  | nil => simp at h4
  | cons c r =>
    have := (dgB_iff c).1 (h4.2.2.2 c (List.mem_cons_self ..))
    simp only [nmS, List.head?_cons]
    rw [beq_eq_false_iff_ne]
    intro e
    rw [Option.some.injEq] at e
    subst e
    simp at this
theorem nm_of_dg {l : List UInt8} (h : dgOk 18 l = true) : nmOk l = true ∧ nmV l = dgN l := by
  have hs := dg_no_sign h
  have hr : nmR l = l := by unfold nmR; rw [hs]; rfl
  have hok : nmOk l = true := (nmOk_iff l).2 ⟨by rw [hr]; exact h, fun ⟨h1, _⟩ => by rw [hs] at h1; cases h1⟩
  exact ⟨hok, by rw [nmV, hok, if_pos rfl, hs, hr]; rfl⟩
theorem dg_of_nm {l : List UInt8} (h : nmOk l = true) (h0 : 0 ≤ nmV l) : dgOk 18 l = true := by
  obtain ⟨h1, h2⟩ := (nmOk_iff l).1 h
  cases hs : nmS l with
  | false => rw [show nmR l = l by unfold nmR; rw [hs]; rfl] at h1; exact h1
  | true =>
    have hz : ¬ dgN (nmR l) = 0 := fun e => h2 ⟨hs, e⟩
    have := (dg_fits h1).1
    rw [nmV, h, if_pos rfl, hs, if_pos rfl] at h0
    omega
theorem dg_more {a b : Nat} {l : List UInt8} (h : dgOk a l = true) (hb : l.length ≤ b) : dgOk b l = true := by
  obtain ⟨h1, _, h3, h4⟩ := dgOk_all h
  exact (dgOk_iff _ _).2 ⟨h1, hb, h3, h4⟩
theorem dgN_two (a : List UInt8) (x y : UInt8) : dgN (a ++ [x, y]) = dgN a * 100 + dgN [49, x, y] - 100 := by
  rw [show a ++ [x, y] = (a ++ [x]) ++ [y] by simp, dgN_snoc, dgN_snoc]
  simp only [dgN, List.foldl_cons, List.foldl_nil, dgV]
  have : (49 : UInt8).toNat = 49 := rfl
  omega
/-- The model's price is the program's. -/
theorem pr_yes {a b : List UInt8} (hb : b.length = 2) (ha : a.length ≤ 9) (h1 : nmOk a = true) (h2 : 0 ≤ nmV a) (h3 : nmOk (49 :: b) = true) : prOk (a ++ 46 :: b) = true ∧ prN (a ++ 46 :: b) = nmV a * 100 + nmV (49 :: b) - 100 := by
  obtain ⟨e1, e2⟩ := pr_cut (b := b) (nmOk_chars h1)
  have hd := dg_of_nm h1 h2
  have hn3 : nmS (49 :: b) = false := rfl
  have hd3 : dgOk 18 (49 :: b) = true := by
    have := ((nmOk_iff _).1 h3).1
    rwa [show nmR (49 :: b) = 49 :: b from rfl] at this
  refine ⟨?_, ?_⟩
  · unfold prOk
    rw [e1, e2, dg_more hd ha, decide_eq_true hb, Bool.true_and, Bool.true_and, List.all_eq_true]
    exact fun x hx => (dgOk_all hd3).2.2.2 x (List.mem_cons_of_mem _ hx)
  · unfold prN
    rw [e1, e2, (nm_of_dg hd).2, (nm_of_dg hd3).2]
    match b, hb with
    | [x, y], _ => exact dgN_two a x y
theorem pr_back {a b : List UInt8} (hb : b.length = 2) (h : prOk (a ++ 46 :: b) = true) : nmOk a = true ∧ 0 ≤ nmV a ∧ nmOk (49 :: b) = true := by
  unfold prOk at h
  rw [Bool.and_eq_true, Bool.and_eq_true, decide_eq_true_iff] at h
  obtain ⟨⟨h1, h2⟩, h3⟩ := h
  by_cases hm : (46 : UInt8) ∈ a
  · obtain ⟨m, e1, e2⟩ := ib_in 46 a (46 :: b) hm
    unfold prB at h2
    rw [e1, if_neg (by omega), List.length_drop, List.length_append, List.length_cons] at h2
    simp at h2
    omega
  · obtain ⟨e1, e2⟩ := pr_cut (b := b) hm
    rw [e1] at h1
    rw [e2] at h3
    have hd : dgOk 18 a = true := dg_more h1 (by have := (dgOk_all h1).2.1; omega)
    obtain ⟨h5, h6⟩ := nm_of_dg hd
    have hd3 : dgOk 18 (49 :: b) = true := (dgOk_iff _ _).2 ⟨by simp, by simp; omega, fun _ hh => by simp at hh, fun x hx => by
      rcases List.mem_cons.1 hx with rfl | hx
      · rfl
      · exact List.all_eq_true.1 h3 x hx⟩
    exact ⟨h5, by rw [h6]; exact (dg_fits hd).1, (nm_of_dg hd3).1⟩
/-- A text of which the third byte from its end is no point, or that is too short or too long, is no price's. -/
theorem pr_not {l : List UInt8} (h : prOk l = true) : 4 ≤ l.length ∧ l.length ≤ 12 ∧ l[l.length - 3]? = some 46 := by
  unfold prOk at h
  rw [Bool.and_eq_true, Bool.and_eq_true, decide_eq_true_iff] at h
  obtain ⟨⟨h1, h2⟩, h3⟩ := h
  rcases ib_cases l 46 with hm | ⟨m, hm⟩
  · unfold prB at h2
    rw [if_pos hm] at h2
    simp at h2
  · have hml := (pcs_hit 46 l m hm).2.2
    have hs := (Lib.indexByte_some hm).1
    have hne : ¬ ((m : Int) = -1) := by omega
    unfold prB at h2
    unfold prA at h1
    rw [hm, if_neg hne] at h1 h2
    rw [show ((m : Int)).toNat = m by omega] at h1 h2
    rw [List.length_drop] at h2
    have h5 := dgOk_all h1
    rw [List.length_take] at h5
    refine ⟨by omega, by omega, ?_⟩
    rw [show l.length - 3 = m by omega]
    exact hs

theorem app_data (a b : ByteArray) : (a ++ b).data.toList = a.data.toList ++ b.data.toList := by
  rw [ByteArray.data_append]; simp
theorem pr_false {l : List UInt8} (h1 : l ≠ [45]) (h2 : prOk l = false) : prE l = .returned (.tuple #[.float .f64 0, .bool false]) := by
  have h : (l == [45]) = false := by simpa using h1
  rw [prE, prV, prK, h, h2]; rfl
theorem split3 {l : List UInt8} {m : Nat} (hl : l.length = m + 3) (h : l[m]? = some 46) : l = l.take m ++ 46 :: l.drop (m + 1) := by
  obtain ⟨h1, h2⟩ := List.getElem?_eq_some_iff.1 h
  rw [← h2, ← List.drop_eq_getElem_cons h1, List.take_append_drop]
set_option maxRecDepth 100000 in
set_option maxHeartbeats 1600000 in
theorem l08Price_any (s : ByteArray) (w : World) (hs : s.size ≤ 1048576) :
    Calls Tryd.prog 24 #[.string s] w fun e w' => e = prE s.data.toList ∧ w' = w := by
  by_cases hm : s.data.toList = [45]
  · have e1 : (s.toList == [45]) = true := by rw [Lib.toList_data, hm]; rfl
    have HE : Hid (prE s.data.toList = .returned (.tuple #[.float .f64 0, .bool true])) := by show _ = _; rw [hm]; rfl
    clear hm
    go_enter Tryd.func24, Tryd.ntmps24
    go_wp2_with fail
    go_ret2
    exact ⟨by rw [unhide HE]; rfl, rfl⟩
  have e1 : (s.toList == [45]) = false := by rw [Lib.toList_data]; simpa using hm
  by_cases hn : s.size < 4 ∨ 12 < s.size
  · have hne : prOk s.data.toList = false := by
      rw [Bool.eq_false_iff]
      intro h
      have := pr_not h
      rw [data_len] at this
      omega
    have HE := hide (pr_false hm hne)
    clear hm hne
    rcases hn with hn | hn
    · have h1 : (s.size : Int) < 4 := by omega
      go_enter Tryd.func24, Tryd.ntmps24
      go_wp2_with fail
      go_ret2
      exact ⟨by rw [unhide HE]; rfl, rfl⟩
    · have h1 : ¬ ((s.size : Int) < 4) := by omega
      have h2 : (12 : Int) < s.size := by omega
      go_enter Tryd.func24, Tryd.ntmps24
      go_wp2_with fail
      go_ret2
      exact ⟨by rw [unhide HE]; rfl, rfl⟩
  obtain ⟨m, hms⟩ : ∃ m, s.size = m + 3 := ⟨s.size - 3, by omega⟩
  have h1 : ¬ ((s.size : Int) < 4) := by omega
  have h2 : ¬ ((12 : Int) < s.size) := by omega
  have hlt : m < s.size := by omega
  have hlt' : (m : Int) < s.size := by omega
  have hw3 : IntKind.i64.wrap ((s.size : Int) - 3) = (m : Int) := by rw [IntKind.wrap_i64]; omega
  have hw2 : IntKind.i64.wrap ((s.size : Int) - 2) = (m : Int) + 1 := by rw [IntKind.wrap_i64]; omega
  have hgm : s.data.toList[m]? = some s[m] := by rw [List.getElem?_eq_getElem (by rw [data_len]; exact hlt)]; rfl
  by_cases h46 : s[m] = 46
  · have h46b : ((s[m].toNat : Int) != 46) = false := by rw [h46]; rfl
    have h46c : ((s[m].toNat : Int) == 46) = true := by rw [h46]; rfl
    rw [h46] at hgm
    have hsp := split3 (by rw [data_len]; exact hms) hgm
    have hla : (s.extract 0 m).data.toList = s.data.toList.take m := by rw [Lib.extract_data]; simp
    have hlb : (s.extract (m + 1) s.size).data.toList = s.data.toList.drop (m + 1) := by rw [Lib.extract_data, List.take_of_length_le (by rw [List.length_drop, data_len]; omega)]
    have hbl : (s.data.toList.drop (m + 1)).length = 2 := by rw [List.length_drop, data_len]; omega
    have hal : (s.data.toList.take m).length ≤ 9 := by rw [List.length_take]; omega
    have HA := hide (fun W => l00Number_any (s.extract 0 m) W (by rw [ByteArray.size_extract]; omega))
    have HB := hide (fun W => l00Number_any (⟨#[49]⟩ ++ s.extract (m + 1) s.size) W (by rw [ByteArray.size_append, ByteArray.size_extract]; show 1 + _ ≤ _; omega))
    rw [hla] at HA
    rw [app_data, hlb] at HB
    have HB : Hid (∀ W, Calls Tryd.prog 22 #[.string (⟨#[49]⟩ ++ s.extract (m + 1) s.size)] W fun e w' => e = nmE (49 :: s.data.toList.drop (m + 1)) ∧ w' = W) := HB
    have HY : Hid (nmOk (s.data.toList.take m) = true → 0 ≤ nmV (s.data.toList.take m) → nmOk (49 :: s.data.toList.drop (m + 1)) = true → prOk s.data.toList = true ∧ prN s.data.toList = nmV (s.data.toList.take m) * 100 + nmV (49 :: s.data.toList.drop (m + 1)) - 100) := fun a b c => by
      have := pr_yes hbl hal a b c
      rwa [← hsp] at this
    have HZ : Hid (prOk s.data.toList = true → nmOk (s.data.toList.take m) = true ∧ 0 ≤ nmV (s.data.toList.take m) ∧ nmOk (49 :: s.data.toList.drop (m + 1)) = true) := fun h => pr_back hbl (by rw [← hsp]; exact h)
    have HV : Hid (nmOk (s.data.toList.take m) = true → nmV (s.data.toList.take m) < 1000000000000) := fun h => by
      by_cases h0 : 0 ≤ nmV (s.data.toList.take m)
      · have hd := dg_of_nm h h0
        have hb := dgN_bound _ _ rfl (dgOk_all hd).2.2.2
        have := pow_11 (s.data.toList.take m).length (by omega)
        rw [(nm_of_dg hd).2]
        omega
      · omega
    have HV2 : Hid (nmOk (49 :: s.data.toList.drop (m + 1)) = true → 0 ≤ nmV (49 :: s.data.toList.drop (m + 1)) ∧ nmV (49 :: s.data.toList.drop (m + 1)) < 1000000000000) := fun h => by
      have hd : dgOk 18 (49 :: s.data.toList.drop (m + 1)) = true := by
        have := ((nmOk_iff _).1 h).1
        rwa [show nmR (49 :: s.data.toList.drop (m + 1)) = 49 :: s.data.toList.drop (m + 1) from rfl] at this
      have hb := dgN_bound _ _ rfl (dgOk_all hd).2.2.2
      have := pow_11 (49 :: s.data.toList.drop (m + 1)).length (by rw [List.length_cons]; omega)
      rw [(nm_of_dg hd).2]
      omega
    have HE : Hid (∀ b, prOk s.data.toList = b → prE s.data.toList = .returned (.tuple #[.float .f64 (if b = true then hun (prN s.data.toList) else 0), .bool b])) := fun b hb => by
      have h : (s.data.toList == [45]) = false := by simpa using hm
      rw [prE, prV, prK, h, hb]; rfl
    unfold nmE at HA HB
    clear hgm hsp hla hlb hbl hal hm h46
    generalize prOk s.data.toList = po at *
    generalize prN s.data.toList = pn at *
    generalize nmV (s.data.toList.take m) = va at *
    generalize nmOk (s.data.toList.take m) = oa at *
    generalize nmV (49 :: s.data.toList.drop (m + 1)) = vb at *
    generalize nmOk (49 :: s.data.toList.drop (m + 1)) = ob at *
    have hm0 : (0 : Int) ≤ m := by omega
    have hm1 : (m : Int) ≤ s.size := by omega
    have hm2 : (m : Int) + 1 ≤ s.size := by omega
    clear hms hn
    by_cases hall : oa = true ∧ 0 ≤ va ∧ ob = true
    · obtain ⟨rfl, hva, rfl⟩ := hall
      obtain ⟨rfl, rfl⟩ := unhide HY rfl hva rfl
      have hv1 := unhide HV rfl
      have hv2 := unhide HV2 rfl
      have hE := hide (unhide HE true rfl)
      have hq := hun_run (va * 100 + vb - 100)
      have hx1 : IntKind.i64.wrap (va * 100) = va * 100 := by rw [IntKind.wrap_i64]; omega
      have hx2 : IntKind.i64.wrap (va * 100 + vb) = va * 100 + vb := by rw [IntKind.wrap_i64]; omega
      have hx3 : IntKind.i64.wrap (va * 100 + vb - 100) = va * 100 + vb - 100 := by rw [IntKind.wrap_i64]; omega
      have hva' : ¬ (va < 0) := by omega
      clear HY HZ HV HV2 HE
      go_enter Tryd.func24, Tryd.ntmps24
      go_wp2_with fail
      refine (unhide HA _).mono ?_
      rintro e w1 ⟨rfl, rfl⟩
      go_wp2_with fail
      refine (unhide HB _).mono ?_
      rintro e w1 ⟨rfl, rfl⟩
      go_wp2_with fail
      go_ret2
      exact ⟨by rw [unhide hE]; rfl, rfl⟩
    · have hpo : po = false := by
        rw [Bool.eq_false_iff]
        intro h
        exact hall (unhide HZ h)
      subst hpo
      have hE := hide (unhide HE false rfl)
      have hcs : oa = false ∨ (oa = true ∧ ob = false) ∨ (oa = true ∧ ob = true ∧ va < 0) := by
        cases oa with
        | false => exact .inl rfl
        | true =>
          cases ob with
          | false => exact .inr (.inl ⟨rfl, rfl⟩)
          | true =>
            refine .inr (.inr ⟨rfl, rfl, ?_⟩)
            by_cases h : va < 0
            · exact h
            · exact absurd ⟨rfl, by omega, rfl⟩ hall
      clear HY HZ HV HV2 HE hall
      rcases hcs with rfl | ⟨rfl, rfl⟩ | ⟨rfl, rfl, hva⟩
      all_goals
        go_enter Tryd.func24, Tryd.ntmps24
        go_wp2_with fail
        refine (unhide HA _).mono ?_
        rintro e w1 ⟨rfl, rfl⟩
        go_wp2_with fail
        refine (unhide HB _).mono ?_
        rintro e w1 ⟨rfl, rfl⟩
        go_wp2_with fail
        go_ret2
        exact ⟨by rw [unhide hE]; rfl, rfl⟩
  · have hne : prOk s.data.toList = false := by
      rw [Bool.eq_false_iff]
      intro h
      have := (pr_not h).2.2
      rw [data_len, show s.size - 3 = m by omega, hgm, Option.some.injEq] at this
      exact h46 this
    have HE := hide (pr_false hm hne)
    have h46b : ((s[m].toNat : Int) == 46) = false := by
      rw [beq_eq_false_iff_ne]
      intro e
      exact h46 (UInt8.toNat_inj.1 (by show _ = 46; omega))
    have h46c : ((s[m].toNat : Int) != 46) = true := by simp [bne, h46b]
    have hm0 : (0 : Int) ≤ m := by omega
    clear hm hne hgm h46 hms hn
    go_enter Tryd.func24, Tryd.ntmps24
    go_wp2_with fail
    go_ret2
    exact ⟨by rw [unhide HE]; rfl, rfl⟩

/-- The place of a text among others, -1 where it is none of them. -/
def idxW (x : List UInt8) : List ByteArray → Nat → Int
  | [], _ => -1
  | b :: r, k => if b.data.toList = x then (k : Int) else idxW x r (k + 1)
set_option maxRecDepth 100000 in
set_option maxHeartbeats 1000000 in
theorem l08Word_any (v : Value) (l : List ByteArray) (s : ByteArray) (w : World) (hr : RdR tx1 1 w v l) :
    Calls Tryd.prog 23 #[v, .string s] w fun e w' => e = .returned (.int .i64 (idxW s.data.toList l 0)) ∧ w' = w := by
  obtain ⟨a, cap, rfl, hlen, hc⟩ := hr
  have HC : Hid (∀ j c, l[j]? = some c → ∃ b off, a = some ⟨b, off, none⟩ ∧ w.cell? ⟨b, off + j, none⟩ = some (.string c)) := fun j c hj => by
    obtain ⟨b, off, h1, _, h3⟩ := hc (by intro h; rw [h] at hj; simp at hj)
    have := h3 j c hj 0 (.string c) rfl
    rw [Nat.mul_one, Nat.add_zero] at this
    exact ⟨b, off, h1, this⟩
  clear hc
  go_enter Tryd.func23, Tryd.ntmps23
  go_wp2_with fail
  go_loopw [5] (fun iv wr => ∃ k : Nat, k ≤ l.length ∧ iv = .int .i64 k ∧ Hid (idxW s.data.toList l 0 = idxW s.data.toList (l.drop k) k) ∧ wr = w) (fun iv _ => l.length - (intOf iv).toNat)
  case atStart => exact ⟨0, Nat.zero_le _, rfl, rfl, rfl⟩
  case round =>
    obtain ⟨k, hk, rfl, hpl, rfl⟩ := hrel
    by_cases hlt : k < l.length
    · obtain ⟨c, hkc⟩ : ∃ c, l[k]? = some c := ⟨_, List.getElem?_eq_getElem hlt⟩
      obtain ⟨b, off, rfl, hcell⟩ := unhide HC k c hkc
      have hp := unhide hpl
      have hdr : l.drop k = c :: l.drop (k + 1) := by
        obtain ⟨h1, rfl⟩ := List.getElem?_eq_some_iff.1 hkc
        exact List.drop_eq_getElem_cons h1
      rw [hdr, idxW] at hp
      have hlt' : (k : Int) < l.length := by omega
      by_cases he : c.data.toList = s.data.toList
      · have hb : (c.toList == s.toList) = true := by rw [Lib.toList_data, Lib.toList_data, he]; simp
        rw [if_pos he] at hp
        have HP := hide hp
        clear hp hpl he hdr hkc
        go_wp2_with fail
        go_ret
        exact ⟨by rw [unhide HP]; rfl, rfl⟩
      · have hb : (c.toList == s.toList) = false := by rw [Lib.toList_data, Lib.toList_data]; simpa using he
        rw [if_neg he] at hp
        have HP := hide hp
        clear hp hpl he hdr hkc
        go_wp2_with fail
        go_roundw
        case rel => exact ⟨k + 1, by omega, by go_num, unhide HP, trivial⟩
        case measure => simp [intOf]; omega
    · obtain rfl : k = l.length := by omega
      have hp := unhide hpl
      rw [List.drop_of_length_le (Nat.le_refl _)] at hp
      have HP := hide hp
      clear hp hpl
      go_wp2_with fail
      go_ret
      exact ⟨by rw [unhide HP]; rfl, rfl⟩
end Go.Proofs.YtjjopdkbdebfoaaDoor
