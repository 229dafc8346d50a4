/-
  The exact law of GetFloat, walked: it returns true, and nothing that was there is turned.
-/
import Derived.Test.YtoaoiiafmojaaaaDoorGetFlt
import Derived.Test.YtoaoiiafmojaaaaDoorSameW
import Derived.Test.YtoaoiiafmojaaaaDoorPlaceW
namespace Go.Proofs.YtoaoiiafmojaaaaDoor
open Go.RowKit
set_option linter.unusedVariables false

/-- What the other reader of a float answers. -/
def fltT (r : Option (Nat × Nat)) : Value :=
  .tuple #[.float .f64 ((r.map fun x => x.1).getD 0), .int .i64 ((r.map fun x => (x.2 : Int)).getD 0), .bool r.isSome]
theorem fltT_none {r : Option (Nat × Nat)} (h : r = none) : fltT r = .tuple #[.float .f64 0, .int .i64 0, .bool false] := by subst h; rfl
theorem fltT_some {r : Option (Nat × Nat)} {s n : Nat} (h : r = some (s, n)) : fltT r = .tuple #[.float .f64 s, .int .i64 n, .bool true] := by subst h; rfl

/-- A float's bits; of every NaN the same. -/
def fbit (x : Nat) : Nat := if nanB x = true then 9221120237041090560 else x
theorem l01Bits_any (x : Nat) (w : World) :
    Calls Tryd.prog 31 #[.float .f64 x] w fun e w' => e = .returned (.int .u64 (fbit x)) ∧ w' = w := by
  have hb := fbits
  cases h : nanB x with
  | true =>
    have HF := hide (show fbit x = 9221120237041090560 from if_pos h)
    have h' : (FloatKind.f64.format.order x x != some Ordering.eq) = true := h
    clear h
    go_enter Tryd.func31, Tryd.ntmps31
    go_wp2
    go_ret
    exact ⟨ret_int (by rw [unhide HF]; rfl), rfl⟩
  | false =>
    have HF := hide (show fbit x = x from if_neg (by rw [h]; decide))
    have h' : (FloatKind.f64.format.order x x != some Ordering.eq) = false := h
    clear h
    go_enter Tryd.func31, Tryd.ntmps31
    go_wp2
    go_ret
    exact ⟨ret_int (by rw [unhide HF]), rfl⟩

set_option maxRecDepth 100000 in
set_option maxHeartbeats 1000000 in
theorem l01GetFlt_any (v : Value) (l : List Int) (k : Nat) (w : World) (hr : Rd w v l) (hcap : CapOk v) (hk : k ≤ l.length) (hl : l.length ≤ 65536) (hb : Bts l) :
    Calls Tryd.prog 19 #[v, .int .i64 k] w fun e w' => e = .returned (fltT (floatA l k)) ∧ w' = w := by
  obtain ⟨a, cap, rfl, _, hc⟩ := hr
  have HC := hide hc
  have HB := hide hb
  have hfb := frombits
  clear hc hcap hb
  by_cases h8 : l.length < k + 8
  · have HT := hide (fltT_none (floatA_end h8))
    have h8' : (l.length : Int) < k + 8 := by omega
    go_enter Tryd.func19, Tryd.ntmps19
    go_wp2_with fail
    go_ret3
    exact ⟨by rw [unhide HT]; rfl, rfl⟩
  have h8' : (k : Int) + 8 ≤ l.length := by omega
  have HBad := hide (fun h => fltT_none (floatA_bad (l := l) (k := k) (by omega) h))
  have HYes := hide (fun h => fltT_some (floatA_yes (l := l) (k := k) (by omega) h))
  obtain ⟨b, off, rfl, hcell⟩ := unhide HC (by intro h; rw [h] at h8; simp at h8)
  have HCl := hide hcell
  clear hcell
  go_enter Tryd.func19, Tryd.ntmps19
  go_wp2_with fail
  go_loop [7, 8] (fun uv iv => ∃ i : Nat, i ≤ 8 ∧ iv = .int .i64 i ∧ uv = .int .u64 (bits8 l k i)) (fun _ iv => 8 - (intOf iv).toNat)
  case atStart => exact ⟨0, by omega, rfl, rfl⟩
  case round =>
    obtain ⟨i, hi, rfl, rfl⟩ := hrel
    by_cases hlt : i < 8
    · have hcx := unhide HCl (k + i) (by omega)
      have hbx := bts_get (unhide HB) (k + i)
      have hlt8 := bits8_lt l k (unhide HB) i
      have hp : 256 ^ i ≤ 72057594037927936 := Nat.le_trans (Nat.pow_le_pow_right (by omega) (show i ≤ 7 by omega)) (by decide)
      have hor := or8 (bits8 l k i) (l.getD (k + i) 0) (by omega) hbx.1 hbx.2
      have HS := hide (bits8_step l k i (by omega))
      rw [← unhide HS] at hor
      have hlt' : (i : Int) < 8 := by omega
      have hki : (k : Int) + i < l.length := by omega
      generalize l.getD (k + i) 0 = c at *
      generalize hu : bits8 l k i = u at *
      generalize hu' : bits8 l k (i + 1) = u' at *
      have HU' := hide hu'
      clear hlt8 hp hu hu'
      obtain ⟨hc0, hc1⟩ := hbx
      go_wp2_with fail
      go_round
      case rel => exact ⟨i + 1, by omega, by go_num, by rw [unhide HU']⟩
      case measure => simp [intOf]; omega
    · obtain rfl : i = 8 := by omega
      generalize bits8 l k 8 = u at *
      by_cases hbad : nanB u = true ∧ u ≠ 9221120237041090560
      · have HT := hide (unhide HBad hbad)
        have hf : fbit u = 9221120237041090560 := if_pos hbad.1
        have hne : (((fbit u : Nat) : Int) != (u : Int)) = true := by rw [hf, bne_iff_ne]; omega
        have HL := hide (fun w => l01Bits_any u w)
        clear hf hbad
        generalize fbit u = f at *
        go_wp2_with (go_at_call 31; refine (unhide HL _).mono ?_; rintro e w' ⟨rfl, rfl⟩)
        go_ret3
        exact ⟨by rw [unhide HT]; rfl, rfl⟩
      · have HT := hide (unhide HYes hbad)
        have hf : fbit u = u := by
          unfold fbit
          split
          · rename_i h; by_cases e : u = 9221120237041090560
            · exact e.symm
            · exact absurd ⟨h, e⟩ hbad
          · rfl
        have HL := hide (fun w => l01Bits_any u w)
        rw [hf] at HL
        clear hf hbad
        go_wp2_with (go_at_call 31; refine (unhide HL _).mono ?_; rintro e w' ⟨rfl, rfl⟩)
        go_ret3
        exact ⟨by rw [unhide HT]; rfl, rfl⟩

set_option maxRecDepth 100000 in
set_option maxHeartbeats 400000 in
theorem specGetFlt_any (v : Value) (l : List Int) (at_ : Int) (w : World) (hrd : Rd w v l) (hcap : CapOk v) (hb : Bts l) :
    Calls Tryd.prog 10 #[v, .int .i64 at_] w fun e w' => e = .returned (tupF (floatR l at_).1 (floatR l at_).2) ∧ w' = w := by
  have HA := hide (fun w h => l01At_any v l at_ w h)
  have HR := hide hrd
  obtain ⟨a, cap, rfl⟩ := rd_len hrd
  by_cases h1 : 65536 < l.length
  · have HF := hide (floatR_long (k := at_) h1)
    have HP := hide (show placeC l at_ = 2 from if_pos h1)
    clear hrd hcap hb
    generalize floatR l at_ = r at *
    go_enter Tryd.func10, Tryd.ntmps10
    go_wp2_with fail
    refine (unhide HA _ (unhide HR)).mono ?_
    rw [unhide HP]
    rintro e w1 ⟨rfl, rfl⟩
    go_wp2_with fail
    go_ret3
    exact ⟨by rw [unhide HF]; rfl, rfl⟩
  by_cases h2 : at_ < 0 ∨ (l.length : Int) < at_
  · have HF := hide (floatR_out h1 h2)
    have HP := hide (show placeC l at_ = 5 by unfold placeC; rw [if_neg h1, if_pos h2])
    clear hrd hcap hb h2
    generalize floatR l at_ = r at *
    go_enter Tryd.func10, Tryd.ntmps10
    go_wp2_with fail
    refine (unhide HA _ (unhide HR)).mono ?_
    rw [unhide HP]
    rintro e w1 ⟨rfl, rfl⟩
    go_wp2_with fail
    go_ret3
    exact ⟨by rw [unhide HF]; rfl, rfl⟩
  obtain ⟨k, rfl⟩ := Int.eq_ofNat_of_zero_le (show 0 ≤ at_ by omega)
  have HP := hide (show placeC l (k : Int) = 0 by unfold placeC; rw [if_neg h1, if_neg h2])
  have HG := hide (fun w h => l01GetFlt_any (.slice a l.length cap) l k w h hcap (by omega) (by omega) hb)
  cases hg : floatA l k with
  | none =>
    have HF := hide (floatR_none h1 (by omega) hg)
    have HT := hide (fltT_none hg)
    clear hrd hcap hb hg
    generalize floatR l k = r at *
    go_enter Tryd.func10, Tryd.ntmps10
    go_wp2_with fail
    refine (unhide HA _ (unhide HR)).mono ?_
    rw [unhide HP]
    rintro e w1 ⟨rfl, rfl⟩
    go_wp2_with fail
    refine (unhide HG _ (unhide HR)).mono ?_
    rw [unhide HT]
    rintro e w2 ⟨rfl, rfl⟩
    go_wp2_with fail
    go_ret3
    exact ⟨by rw [unhide HF]; rfl, rfl⟩
  | some x =>
    obtain ⟨s, n⟩ := x
    have HF := hide (floatR_some h1 (by omega) hg)
    have HT := hide (fltT_some hg)
    clear hrd hcap hb hg
    generalize floatR l k = r at *
    go_enter Tryd.func10, Tryd.ntmps10
    go_wp2_with fail
    refine (unhide HA _ (unhide HR)).mono ?_
    rw [unhide HP]
    rintro e w1 ⟨rfl, rfl⟩
    go_wp2_with fail
    refine (unhide HG _ (unhide HR)).mono ?_
    rw [unhide HT]
    rintro e w2 ⟨rfl, rfl⟩
    go_wp2_with fail
    go_ret3
    exact ⟨by rw [unhide HF]; rfl, rfl⟩

set_option maxRecDepth 100000 in
set_option maxHeartbeats 800000 in
theorem exactGetFloat (v : Value) (l : List Int) (at_ : Int) (w : World) (hr : Rd w v l) (hb : Bts l) (hl : l.length ≤ 1048576) (hE : ErrT w) :
    Calls Tryd.prog 4 #[v, .int .i64 at_] w fun e w' => e = .returned (.bool true) ∧ Below w.heap.size w w' := by
  have HR := hide hr
  have HE := hide hE
  have HB := hide hb
  obtain ⟨a, cap, rfl⟩ := rd_len hr
  clear hr hE hb
  have hl' : (l.length : Int) ≤ 1048576 := by omega
  have HS := hide (fun v w h h2 => specGetFlt_any v l at_ w h h2 (unhide HB))
  have HI := hide (fun v w h h2 h3 => implGetFlt_any v l at_ w h h2 (unhide HB) h3)
  generalize floatR l at_ = r at *
  obtain ⟨r1, r2, r3⟩ := r
  go_enter Tryd.func4, Tryd.ntmps4
  go_wp2_with fail
  refine (toBytesT_any _ l _ (unhide HR)).mono ?_
  rintro e w1 ⟨v1, rfl, ho1, hb1⟩
  have O1 := hide ho1
  have B1 := hide hb1
  clear ho1 hb1
  go_wp2_with fail
  refine (unhide HS v1 _ (own_rd (unhide O1).own) (capOk_own (unhide O1))).mono ?_
  rintro e w2 ⟨rfl, rfl⟩
  unfold tupF
  go_wp2_with fail
  refine (toBytesT_any _ l _ (rd_below (unhide HR) (unhide B1) (Nat.le_refl _))).mono ?_
  rintro e w3 ⟨v2, rfl, ho2, hb2⟩
  have O2 := hide ho2
  have B2 := hide hb2
  clear ho2 hb2
  go_wp2_with fail
  refine (unhide HI v2 _ (own_rd (unhide O2).own) (capOk_own (unhide O2)) (errT_below (errT_below (unhide HE) (unhide B1) (Nat.le_refl _)) (unhide B2) (Nat.le_refl _))).mono ?_
  rintro e w4 ⟨rfl, hb4⟩
  have B4 := hide hb4
  clear hb4
  unfold tupF
  go_wp2_with fail
  refine (sameFloat_any r1 _).mono ?_
  rintro e w9 ⟨rfl, rfl⟩
  go_wp2_with fail
  refine (toBytesT_any _ l _ (rd_below (rd_below (rd_below (unhide HR) (unhide B1) (Nat.le_refl _)) (unhide B2) (Nat.le_refl _)) (unhide B4) (Nat.le_refl _))).mono ?_
  rintro e w5 ⟨v3, rfl, ho3, hb3⟩
  have O3 := hide ho3
  have B3 := hide hb3
  clear ho3 hb3
  go_wp2_with fail
  refine (eqBytes_same v2 v3 l _ (own_rd (own_below (own_below (unhide O2).own (unhide B4) (Nat.le_refl _)) (unhide B3) (Nat.le_refl _))) (own_rd (unhide O3).own)).mono ?_
  rintro e w6 ⟨rfl, n6, rfl⟩
  go_wp2_with fail
  go_ret
  have s1 := (unhide B1).size
  have s2 := (unhide B2).size
  have s4 := (unhide B4).size
  exact ⟨rfl, below_drewN' ((((unhide B1).trans ((unhide B2).mono s1)).trans ((unhide B4).mono (by omega))).trans ((unhide B3).mono (by omega))) n6⟩

theorem lawGetFloat (a : Option Addr) (len cap : Nat) (zs : List Int) (at_ : Int) (w : World)
    (h : (a = none ∧ len = 0 ∧ cap = 0 ∧ zs = []) ∨ ∃ x, a = some x ∧ len ≤ cap ∧ cap ≤ maxLen ∧ zs.length = cap ∧ (∀ i, i < zs.length → w.cell? (x.add i) = some (.int .u8 (zs.getD i 0))) ∧ ∀ n ∈ zs, (Lit.int .u8 n).wf = true) (hE : ErrT w) :
    Calls Tryd.prog 4 #[.slice a len cap, .int .i64 at_] w fun e w' => e = .returned (.bool true) ∧ Below w.heap.size w w' := by
  by_cases hl : len ≤ 1048576
  · obtain ⟨h1, h2, h3⟩ := rd_of_row h (by omega)
    exact exactGetFloat _ _ at_ w h2 h3 (by omega) hE
  · have hl' : (1048576 : Int) < len := by omega
    clear h hE
    go_enter Tryd.func4, Tryd.ntmps4
    go_wp2_with fail
    go_ret
    exact ⟨rfl, Below.refl _ _⟩
end Go.Proofs.YtoaoiiafmojaaaaDoor
