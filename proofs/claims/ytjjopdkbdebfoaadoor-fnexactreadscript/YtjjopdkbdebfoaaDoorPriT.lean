/-
  Prices' texts and words of types, as the program reads them: proved by walking the functions.
-/
import Derived.Test.YtjjopdkbdebfoaaDoorNumT
import Derived.Test.YtjjopdkbdebfoaaDoorNanB
namespace Go.Proofs.YtjjopdkbdebfoaaDoor
open Go.RowKit
set_option linter.unusedVariables false

/-- A whole number by a hundred is a float. -/
theorem hun_some (n : Int) : ∃ r, FloatKind.f64.format.div (floatOfInt .f64 n) 4636737291354636288 = some r := by
  have hn := ofInt_order n
  have h4 : Ieee.double.read 4636737291354636288 = .number false 7036874417766400 (-46) := by decide
  show ∃ r, ((Ieee.double.read (floatOfInt .f64 n)).quotient _ (Ieee.double.read 4636737291354636288)).map Ieee.double.write = some r
  have hn' : (Ieee.double.read (floatOfInt .f64 n)).order (Ieee.double.read (floatOfInt .f64 n)) = some Ordering.eq := hn
  rw [h4]
  cases hx : Ieee.double.read (floatOfInt .f64 n) with
  | nan s f => rw [hx] at hn'; simp [Ieee.Datum.order] at hn'
  | infinity s => exact ⟨_, rfl⟩
  | number s m i => exact ⟨_, by rw [Ieee.Datum.quotient, if_neg (by decide)]; rfl⟩
def hun (n : Int) : Nat := (FloatKind.f64.format.div (floatOfInt .f64 n) 4636737291354636288).getD 0
theorem hun_run (n : Int) (W : World) : (binOp .quo 22 (.float .f64 (floatOfInt .f64 n)) (.float .f64 4636737291354636288)).run Tryd.prog W = .ok (.float .f64 (hun n)) W := by
  obtain ⟨r, hr⟩ := hun_some n
  have e : hun n = r := by unfold hun; rw [hr]; rfl
  rw [e]
  simp [binOp, Op.floatArith, hr]

/-- A text ahead of its first point, and behind it. -/
def cutA (s : ByteArray) : ByteArray := if Lib.indexByte s.data.toList 46 = -1 then s else s.extract 0 (Lib.indexByte s.data.toList 46).toNat
def cutB (s : ByteArray) : ByteArray := if Lib.indexByte s.data.toList 46 = -1 then ⟨#[]⟩ else s.extract ((Lib.indexByte s.data.toList 46).toNat + 1) s.size
theorem cutA_data (s : ByteArray) : (cutA s).data.toList = prA s.data.toList := by
  unfold cutA prA
  split
  · rfl
  · rw [Lib.extract_data]; simp
theorem cutB_data (s : ByteArray) : (cutB s).data.toList = prB s.data.toList := by
  unfold cutB prB
  split
  · rfl
  · rw [Lib.extract_data, List.take_of_length_le (by rw [List.length_drop, data_len]; omega)]
theorem cutA_size (s : ByteArray) : (cutA s).size ≤ s.size := by
  unfold cutA
  split
  · exact Nat.le_refl _
  · rw [ByteArray.size_extract]; omega
set_option maxRecDepth 100000 in
set_option maxHeartbeats 1000000 in
theorem liteCut_any (s : ByteArray) (w : World) (hs : s.size ≤ 1048576) :
    Calls Tryd.prog 37 #[.string s, .string ⟨#[46]⟩] w fun e w' => ∃ n b, e = .returned (.tuple #[.string (cutA s), .string (cutB s), .bool b]) ∧ w' = w.drewN n := by
  have HI := hide (fun W => index1_any s 46 W)
  rcases ib_cases s.data.toList 46 with hm | ⟨m, hm⟩
  · have HE : Hid (cutA s = s ∧ cutB s = ⟨#[]⟩) := ⟨if_pos hm, if_pos hm⟩
    rw [hm] at HI
    clear hm
    go_enter Tryd.func37, Tryd.ntmps37
    go_wp2_with (go_at_call 47; refine (unhide HI _).mono ?_; rintro e w' ⟨rfl, rfl⟩)
    go_ret3
    exact ⟨0, false, by rw [(unhide HE).1, (unhide HE).2]; rfl, rfl⟩
  · have hml := (pcs_hit 46 _ m hm).2.2
    rw [data_len] at hml
    have HE : Hid (cutA s = s.extract 0 m ∧ cutB s = s.extract (m + 1) s.size) := by
      have h1 : ¬ ((m : Int) = -1) := by omega
      unfold cutA cutB
      rw [hm, if_neg h1, if_neg h1]
      exact ⟨by simp, by simp⟩
    have h1 : (0 : Int) ≤ m := by omega
    have h2 : (m : Int) ≤ s.size := by omega
    have h3 : (m : Int) + 1 ≤ s.size := by omega
    have hw1 : IntKind.i64.wrap ((m : Int) + 1) = (m : Int) + 1 := by rw [IntKind.wrap_i64]; omega
    rw [hm] at HI
    clear hm
    go_enter Tryd.func37, Tryd.ntmps37
    go_wp2_with (go_at_call 47; refine (unhide HI _).mono ?_; rintro e w' ⟨rfl, rfl⟩)
    go_quiet (fail)
    go_wp2_with fail
    go_ret3
    exact ⟨nq, true, by rw [(unhide HE).1, (unhide HE).2]; rfl, rfl⟩
set_option maxRecDepth 100000 in
theorem strCut_any (s : ByteArray) (w : World) (hs : s.size ≤ 1048576) :
    Calls Tryd.prog 29 #[.string s, .string ⟨#[46]⟩] w fun e w' => ∃ n b, e = .returned (.tuple #[.string (cutA s), .string (cutB s), .bool b]) ∧ w' = w.drewN n := by
  have HI := hide (liteCut_any s w hs)
  go_enter Tryd.func29, Tryd.ntmps29
  go_wp2_with fail
  refine (unhide HI).mono ?_
  rintro e w' ⟨n, b, rfl, rfl⟩
  go_wp2_with fail
  go_ret3
  exact ⟨n, b, rfl, rfl⟩

/-- What a price's text is, and whether it is one. -/
def prK (l : List UInt8) : Bool := (l == [45]) || prOk l
def prV (l : List UInt8) : Nat := if (l == [45]) = true then 0 else if prOk l = true then hun (prN l) else 0
def prE (l : List UInt8) : Ending := .returned (.tuple #[.float .f64 (prV l), .bool (prK l)])
theorem dgN_app (l m : List UInt8) (k : Nat) (b : UInt8) (h : m[k]? = some b) : dgN (l ++ m.take (k + 1)) = 10 * dgN (l ++ m.take k) + ((b.toNat : Int) - 48) := by
  rw [List.take_add_one, h, Option.toList_some, ← List.append_assoc, dgN_snoc]
theorem pow_11 : ∀ k, k < 12 → (10 : Int) ^ k ≤ 100000000000 := by decide
set_option maxRecDepth 100000 in
set_option maxHeartbeats 1600000 in
theorem priceOf_any (s : ByteArray) (w : World) (hs : s.size ≤ 1048576) :
    Calls Tryd.prog 42 #[.string s] w fun e w' => ∃ n, e = prE s.data.toList ∧ w' = w.drewN n := by
  have HC := hide (fun W => strCut_any s W hs)
  have HD := hide (fun W => digitsOf_any (cutA s) 9 W (by omega) (Nat.le_trans (cutA_size s) hs))
  rw [cutA_data] at HD
  by_cases hm : s.data.toList = [45]
  · have e1 : (s.toList == [45]) = true := by rw [Lib.toList_data, hm]; rfl
    have HE : Hid (prE s.data.toList = .returned (.tuple #[.float .f64 0, .bool true])) := by show _ = _; rw [hm]; rfl
    clear hm
    go_enter Tryd.func42, Tryd.ntmps42
    go_wp2_with fail
    go_ret2
    exact ⟨0, by rw [unhide HE]; rfl, rfl⟩
  · have e1 : (s.toList == [45]) = false := by rw [Lib.toList_data]; simpa using hm
    have hm' : (s.data.toList == [45]) = false := by simpa using hm
    have HE : Hid (prE s.data.toList = .returned (.tuple #[.float .f64 (if prOk s.data.toList = true then hun (prN s.data.toList) else 0), .bool (prOk s.data.toList)])) := by
      show _ = _
      rw [prE, prV, prK, hm']; rfl
    have HB := hide (cutB_data s)
    have hbl : (cutB s).size = (prB s.data.toList).length := by rw [← cutB_data, data_len]
    have HP : Hid (prOk s.data.toList = (dgOk 9 (prA s.data.toList) && decide ((prB s.data.toList).length = 2) && (prB s.data.toList).all dgB)) := rfl
    have HN : Hid (prN s.data.toList = dgN (prA s.data.toList ++ prB s.data.toList)) := rfl
    clear hm hm'
    generalize prOk s.data.toList = ok at *
    generalize prN s.data.toList = pn at *
    generalize prA s.data.toList = la at *
    generalize prB s.data.toList = lb at *
    generalize cutA s = sa at *
    generalize cutB s = sb at *
    unfold dgE at HD
    cases hd : dgOk 9 la with
    | false =>
      rw [hd] at HD HP
      obtain rfl : ok = false := unhide HP
      clear HP HN hd
      go_enter Tryd.func42, Tryd.ntmps42
      go_wp2_with fail
      refine (unhide HC _).mono ?_
      rintro e w1 ⟨n, b, rfl, hw1⟩
      have HW1 := hide hw1
      clear hw1
      go_wp2_with fail
      refine (unhide HD _).mono ?_
      rintro e w2 ⟨rfl, rfl⟩
      go_wp2_with fail
      go_ret2
      exact ⟨n, by rw [unhide HE]; rfl, unhide HW1⟩
    | true =>
      obtain ⟨ha1, ha2, -, ha4⟩ := dgOk_all hd
      have HA4 := hide ha4
      rw [hd] at HD HP
      rw [if_pos rfl] at HD
      by_cases h2 : lb.length = 2
      · rw [decide_eq_true h2] at HP
        have hsb : sb.size = 2 := by omega
        have HIS := hide (fun b W => isDg_any b W)
        go_enter Tryd.func42, Tryd.ntmps42
        go_wp2_with fail
        refine (unhide HC _).mono ?_
        rintro e w1 ⟨n, b, rfl, hw1⟩
        have HW1 := hide hw1
        clear hw1 hd ha4
        go_wp2_with fail
        refine (unhide HD _).mono ?_
        rintro e w2 ⟨rfl, rfl⟩
        have h2i : ((sb.size : Int) == 2) = true := by rw [hsb]; rfl
        have h2n : ((sb.size : Int) != 2) = false := by rw [hsb]; rfl
        go_wp2_with fail
        have HGT : Hid (∀ k (hk : k < sb.size), lb[k]? = some sb[k]) := fun k hk => by
          rw [← unhide HB, List.getElem?_eq_getElem (by rw [data_len]; exact hk)]; rfl
        go_loopw [7, 32] (fun nv iv wr => ∃ (k : Nat) (h : Int), k ≤ sb.size ∧ iv = .int .i64 k ∧ nv = .int .i64 h ∧ Hid (h = dgN (la ++ lb.take k) ∧ ∀ b ∈ lb.take k, dgB b = true) ∧ wr = w2) (fun _ iv _ => sb.size - (intOf iv).toNat)
        case atStart => exact ⟨0, dgN la, Nat.zero_le _, rfl, rfl, ⟨by simp, by simp⟩, rfl⟩
        case round =>
          obtain ⟨k, h, hk, rfl, rfl, hpl, rfl⟩ := hrel
          obtain ⟨hn, hdg⟩ := unhide hpl
          by_cases hlt : k < sb.size
          · have hlt' : (k : Int) < sb.size := by omega
            have hbd := dgN_bound (la ++ lb.take k).length (la ++ lb.take k) rfl (fun b hb => (List.mem_append.1 hb).elim (unhide HA4 b) (hdg b))
            rw [← hn] at hbd
            have hpw := pow_11 (la ++ lb.take k).length (by rw [List.length_append, List.length_take]; omega)
            have hn0 := hbd.1
            have hn1 : h < 100000000000 := by omega
            have HSB := hide (fun W => unhide HIS sb[k] W)
            have hgk := unhide HGT k hlt
            cases hdb : dgB sb[k] with
            | true =>
              have h48 := (dgB_iff _).1 hdb
              rw [hdb] at HSB
              have HPL : Hid (10 * h + ((sb[k].toNat : Int) - 48) = dgN (la ++ lb.take (k + 1)) ∧ ∀ b ∈ lb.take (k + 1), dgB b = true) := by
                refine ⟨by rw [dgN_app la lb k _ hgk, ← hn], fun b hb => ?_⟩
                rw [List.take_add_one, hgk] at hb
                rcases List.mem_append.1 hb with h' | h'
                · exact hdg b h'
                · rw [List.mem_singleton.1 h']; exact hdb
              have hw8 : IntKind.u8.wrap ((sb[k].toNat : Int) - 48) = (sb[k].toNat : Int) - 48 := by unfold IntKind.wrap; simp [IntKind.bits, IntKind.signed]; omega
              have hw1 : IntKind.i64.wrap (10 * h) = 10 * h := by rw [IntKind.wrap_i64]; omega
              have hw2 : IntKind.i64.wrap ((sb[k].toNat : Int) - 48) = (sb[k].toNat : Int) - 48 := by rw [IntKind.wrap_i64]; omega
              have hw3 : IntKind.i64.wrap (10 * h + ((sb[k].toNat : Int) - 48)) = 10 * h + ((sb[k].toNat : Int) - 48) := by rw [IntKind.wrap_i64]; omega
              clear hpl hn hdg hbd hpw hgk hdb
              go_wp2_with (go_at_call 50; refine (unhide HSB _).mono ?_; rintro e w3 ⟨rfl, rfl⟩)
              exact ⟨⟨k + 1, _, by omega, by go_num, rfl, unhide HPL, trivial⟩, by simp [intOf]; omega⟩
            | false =>
              rw [hdb] at HSB
              have hne : ok = false := by
                rw [unhide HP, Bool.eq_false_iff]
                intro h'
                have := List.all_eq_true.1 (by simpa using h') sb[k] (List.mem_of_getElem? hgk)
                rw [hdb] at this; cases this
              subst hne
              clear hpl hn hdg hbd hpw hgk hdb
              go_wp2_with (go_at_call 50; refine (unhide HSB _).mono ?_; rintro e w3 ⟨rfl, rfl⟩)
              go_ret2
              exact ⟨n, by rw [unhide HE]; rfl, unhide HW1⟩
          · rw [List.take_of_length_le (by omega)] at hn hdg
            have hne : ok = true := by
              rw [unhide HP]
              simpa using hdg
            subst hne
            obtain rfl : h = pn := by rw [hn, unhide HN]
            have hq := hun_run h
            clear hpl hn hdg
            go_wp2_with fail
            go_ret2
            exact ⟨by rw [unhide HE, if_pos trivial]; rfl, n, unhide HW1⟩
      · have hne : ok = false := by rw [unhide HP, decide_eq_false h2]; rfl
        subst hne
        have hsb : ¬ sb.size = 2 := by omega
        have h2i : ((sb.size : Int) == 2) = false := by simp; omega
        have h2n : ((sb.size : Int) != 2) = true := by simp; omega
        clear HP HN hd h2 ha4 hbl
        go_enter Tryd.func42, Tryd.ntmps42
        go_wp2_with fail
        refine (unhide HC _).mono ?_
        rintro e w1 ⟨n, b, rfl, hw1⟩
        have HW1 := hide hw1
        clear hw1
        go_wp2_with fail
        refine (unhide HD _).mono ?_
        rintro e w2 ⟨rfl, rfl⟩
        go_wp2_with fail
        go_ret2
        exact ⟨n, by rw [unhide HE]; rfl, unhide HW1⟩

/-- The words of types, in the program's own variable. -/
def tyWs : List ByteArray := [⟨#[]⟩, ⟨#[108, 105, 109, 105, 116]⟩, ⟨#[109, 97, 114, 107, 101, 116]⟩, ⟨#[105, 111, 99]⟩, ⟨#[102, 111, 107]⟩, ⟨#[112, 111, 115, 116]⟩]
def tyWAt (k : Nat) : ByteArray := tyWs.getD k ⟨#[]⟩
def TabT (w : World) : Prop := ∀ i, i < 6 → w.cell? ⟨0, i, none⟩ = some (.string (tyWAt i))
theorem ttab_below {B : Nat} {w w' : World} (h : TabT w) (hb : Below B w w') (hB : w.heap.size ≤ B) : TabT w' :=
  fun i hi => (hb.cell (p := ⟨_, i, none⟩) (Nat.lt_of_lt_of_le (World.block_lt_of_cell? w _ (h i hi)) hB)).trans (h i hi)
/-- The type of a word, 0 of others. -/
def tyF (l : List UInt8) : Nat → Nat → Int
  | 0, _ => 0
  | n + 1, k => if (tyWAt k).data.toList = l then (k : Int) else tyF l n (k + 1)
def tyN (l : List UInt8) : Int := tyF l 5 1
theorem tyF_bound (l : List UInt8) : ∀ n k, tyF l n k = 0 ∨ ((k : Int) ≤ tyF l n k ∧ tyF l n k < k + n)
  | 0, k => .inl rfl
  | n + 1, k => by
    unfold tyF
    split
    · right; omega
    · rcases tyF_bound l n (k + 1) with h | h
      · exact .inl h
      · right; omega
set_option maxRecDepth 100000 in
set_option maxHeartbeats 1000000 in
theorem typeOf_any (s : ByteArray) (w : World) (ht : TabT w) :
    Calls Tryd.prog 40 #[.string s] w fun e w' => e = .returned (.tuple #[.int .i64 (tyN s.data.toList), .bool (decide (tyN s.data.toList ≠ 0))]) ∧ w' = w := by
  have HT := hide ht
  clear ht
  go_enter Tryd.func40, Tryd.ntmps40
  go_wp2_with fail
  go_loopw [4] (fun iv wr => ∃ k : Nat, 1 ≤ k ∧ k ≤ 6 ∧ iv = .int .i64 k ∧ Hid (tyN s.data.toList = tyF s.data.toList (6 - k) k) ∧ wr = w) (fun iv _ => 6 - (intOf iv).toNat)
  case atStart => exact ⟨1, Nat.le_refl _, by omega, rfl, rfl, rfl⟩
  case round =>
    obtain ⟨k, hk1, hk2, rfl, hpl, rfl⟩ := hrel
    by_cases hlt : k < 6
    · have hle : (k : Int) ≤ 5 := by omega
      have hc := unhide HT k hlt
      have hp := unhide hpl
      rw [show 6 - k = (5 - k) + 1 by omega, tyF] at hp
      have h06 : (k : Int) < 6 := by omega
      by_cases he : (tyWAt k).data.toList = s.data.toList
      · have hb : ((tyWAt k).toList == s.toList) = true := by rw [Lib.toList_data, Lib.toList_data, he]; simp
        rw [if_pos he] at hp
        have HP := hide hp
        clear hp hpl he
        generalize tyWAt k = t at *
        go_wp2_with fail
        go_ret2
        exact ⟨by rw [unhide HP, decide_eq_true (by omega)]; rfl, rfl⟩
      · have hb : ((tyWAt k).toList == s.toList) = false := by rw [Lib.toList_data, Lib.toList_data]; simpa using he
        rw [if_neg he, show 5 - k = 6 - (k + 1) by omega] at hp
        have HP := hide hp
        clear hp hpl he
        generalize tyWAt k = t at *
        go_wp2_with fail
        go_roundw
        case rel => exact ⟨k + 1, by omega, by omega, by go_num, unhide HP, trivial⟩
        case measure => simp [intOf]; omega
    · obtain rfl : k = 6 := by omega
      have HP : Hid (tyN s.data.toList = 0) := unhide hpl
      clear hpl
      go_wp2_with fail
      go_ret2
      exact ⟨by rw [unhide HP]; rfl, rfl⟩
end Go.Proofs.YtjjopdkbdebfoaaDoor
