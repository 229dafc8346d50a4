/-
  The exact law of GetText, walked: it returns true, and nothing that was there is turned.
-/
import Derived.Test.YtoaoiiafmojaaaaDoorTextR
import Derived.Test.YtoaoiiafmojaaaaDoorPlaceW
namespace Go.Proofs.YtoaoiiafmojaaaaDoor
open Go.RowKit
set_option linter.unusedVariables false

/-- What the reading of a text at a place answers. -/
def textR (l : List Int) (at_ : Int) : ByteArray × Int × Int :=
  if 65536 < l.length then (⟨#[]⟩, 0, 2) else if at_ < 0 ∨ (l.length : Int) < at_ then (⟨#[]⟩, 0, 5)
  else match textA l at_.toNat with | some (s, n) => (s, (n : Int), 0) | none => (⟨#[]⟩, 0, 3)
theorem textR_long {l : List Int} {k : Int} (h : 65536 < l.length) : textR l k = (⟨#[]⟩, 0, 2) := by unfold textR; rw [if_pos h]
theorem textR_out {l : List Int} {k : Int} (h : ¬ 65536 < l.length) (h1 : k < 0 ∨ (l.length : Int) < k) : textR l k = (⟨#[]⟩, 0, 5) := by unfold textR; rw [if_neg h, if_pos h1]
theorem textR_some {l : List Int} {k : Nat} {s : ByteArray} {n : Nat} (h : ¬ 65536 < l.length) (h1 : k ≤ l.length) (hg : textA l k = some (s, n)) : textR l k = (s, (n : Int), 0) := by
  unfold textR; rw [if_neg h, if_neg (by omega), Int.toNat_natCast, hg]
theorem textR_none {l : List Int} {k : Nat} (h : ¬ 65536 < l.length) (h1 : k ≤ l.length) (hg : textA l k = none) : textR l k = (⟨#[]⟩, 0, 3) := by
  unfold textR; rw [if_neg h, if_neg (by omega), Int.toNat_natCast, hg]

theorem readS_any (v : Value) (l : List Int) (at_ : Int) (w : World) (hrd : Rd w v l) (hcap : CapOk v) (hb : Bts l) (hE : ErrT w) :
    Calls Tryd.prog 23 #[v, .int .i64 at_, .func (.func 24) #[] #[]] w fun e w' => e = .returned (tupS (textR l at_).1 (textR l at_).2) ∧ Below w.heap.size w w' := by
  obtain ⟨a, cap, hv⟩ := rd_len hrd
  by_cases h1 : 65536 < l.length
  · rw [textR_long h1]
    refine readS_fault v l.length a cap hv at_ 2 w hE fun w0 hw0 => ?_
    subst hw0
    subst hv
    exact tryS_check w.heap.size a l.length cap at_ 2 _ (rdr_new w _ at_) fun w0 h => check_long _ at_ a l.length cap w0 h h1
  by_cases h2 : at_ < 0 ∨ (l.length : Int) < at_
  · rw [textR_out h1 h2]
    refine readS_fault v l.length a cap hv at_ 5 w hE fun w0 hw0 => ?_
    subst hw0
    subst hv
    exact tryS_check w.heap.size a l.length cap at_ 5 _ (rdr_new w _ at_) fun w0 h => check_out _ at_ a l.length cap w0 h h2 (by omega)
  obtain ⟨k, rfl⟩ := Int.eq_ofNat_of_zero_le (show 0 ≤ at_ by omega)
  have hk : k ≤ l.length := by omega
  have hnum : ∀ w0, Below (w.alloc (.cells #[v, .int .i64 (k : Int)] 54)).heap.size (w.alloc (.cells #[v, .int .i64 (k : Int)] 54)) w0 →
      Calls Tryd.prog 24 #[.pointer (some ⟨w.heap.size, 0, none⟩)] w0 fun e w' => TxtEnd w.heap.size v w0 (textA l k) e w' := fun w0 hb0 =>
    text_any w.heap.size v l k w w0 hrd hcap (Nat.le_refl _) (((Below.refl _ w).alloc (Nat.le_refl _) _).trans (hb0.mono (by simp))) (rdr_below (rdr_new w v k) hb0 (by simp)) hk (by omega) hb
  cases hg : textA l k with
  | none =>
    rw [textR_none h1 hk hg]
    refine readS_fault v l.length a cap hv k 3 w hE fun w0 hw0 => ?_
    subst hw0
    rw [hg] at hnum
    subst hv
    exact tryS_fail w.heap.size a l.length cap k 3 _ (rdr_new w _ k) (by omega) (by omega) (by omega) fun w0 h => (hnum w0 h).mono fun e w' h => ⟨h.1, h.2.2 rfl⟩
  | some r =>
    obtain ⟨s, n⟩ := r
    rw [textR_some h1 hk hg]
    refine readS_fine v l.length a cap hv k s n w fun w0 hw0 => ?_
    subst hw0
    rw [hg] at hnum
    subst hv
    exact tryS_ok w.heap.size a l.length cap k s n _ (rdr_new w _ k) (by omega) (by omega) (by omega) fun w0 h => (hnum w0 h).mono fun e w' h => ⟨h.1, (h.2.1 s n rfl).1, (h.2.1 s n rfl).2⟩

theorem implGetTxt_any (v : Value) (l : List Int) (at_ : Int) (w : World) (hrd : Rd w v l) (hcap : CapOk v) (hb : Bts l) (hE : ErrT w) :
    Calls Tryd.prog 14 #[v, .int .i64 at_] w fun e w' => e = .returned (tupS (textR l at_).1 (textR l at_).2) ∧ Below w.heap.size w w' := by
  have HR := hide (readS_any v l at_ w hrd hcap hb hE)
  obtain ⟨a, cap, rfl⟩ := rd_len hrd
  clear hrd hcap hb hE
  generalize textR l at_ = r at *
  obtain ⟨r1, r2, r3⟩ := r
  go_enter Tryd.func14, Tryd.ntmps14
  go_wp2_with fail
  refine (unhide HR).mono ?_
  rintro e w1 ⟨rfl, hb1⟩
  have HB := hide hb1
  clear hb1
  unfold tupS
  go_wp2_with fail
  go_ret3
  exact ⟨rfl, unhide HB⟩

/-- What the other reader of a text answers. -/
def txtT (r : Option (ByteArray × Nat)) : Value :=
  .tuple #[.string ((r.map fun x => x.1).getD ⟨#[]⟩), .int .i64 ((r.map fun x => (x.2 : Int)).getD 0), .bool r.isSome]
theorem txtT_none {r : Option (ByteArray × Nat)} (h : r = none) : txtT r = .tuple #[.string ⟨#[]⟩, .int .i64 0, .bool false] := by subst h; rfl
theorem txtT_some {r : Option (ByteArray × Nat)} {s : ByteArray} {n : Nat} (h : r = some (s, n)) : txtT r = .tuple #[.string s, .int .i64 n, .bool true] := by subst h; rfl

set_option maxRecDepth 100000 in
set_option maxHeartbeats 1000000 in
theorem l01GetTxt_any (v : Value) (l : List Int) (k : Nat) (w : World) (hr : Rd w v l) (hcap : CapOk v) (hk : k ≤ l.length) (hl : l.length ≤ 65536) (hb : Bts l) :
    Calls Tryd.prog 22 #[v, .int .i64 k] w fun e w' => e = .returned (txtT (textA l k)) ∧ w' = w := by
  have HR := hide hr
  have HG := hide (fun w h => l01Get_any v l k w h hk hl hb)
  obtain ⟨a, cap, rfl, _, hc⟩ := hr
  have HC := hide hc
  have hcp := hcap _ _ _ rfl
  clear hc hcap hb
  cases hg : getU l k with
  | none =>
    have HT := hide (txtT_none (textA_no hg))
    have HT2 := hide (getT_none hg)
    clear hg
    go_enter Tryd.func22, Tryd.ntmps22
    go_wp2_with fail
    refine (unhide HG _ (unhide HR)).mono ?_
    rw [unhide HT2]
    rintro e w1 ⟨rfl, rfl⟩
    go_wp2_with fail
    go_ret3
    exact ⟨by rw [unhide HT]; rfl, rfl⟩
  | some x =>
    obtain ⟨u, n⟩ := x
    have hle := getU_le 10 0 0 l k u n hg
    have HT2 := hide (getT_some hg)
    have HBad := hide (fun h => txtT_none (textA_bad hg h))
    have HYes := hide (fun h => txtT_some (textA_yes hg h))
    clear hg
    generalize unz u = z at *
    obtain ⟨hn1, hn2⟩ := hle
    by_cases hbad : z < 0 ∨ 13 < z ∨ (l.length : Int) - n < z
    · have HT := hide (unhide HBad hbad)
      rcases (show z < 0 ∨ (0 ≤ z ∧ 13 < z) ∨ (0 ≤ z ∧ z ≤ 13 ∧ (l.length : Int) < n + z) by omega) with h1 | ⟨h1, h2⟩ | ⟨h1, h2, h3⟩
      all_goals
        clear hbad
        go_enter Tryd.func22, Tryd.ntmps22
        go_wp2_with fail
        refine (unhide HG _ (unhide HR)).mono ?_
        rw [unhide HT2]
        rintro e w1 ⟨rfl, rfl⟩
        go_wp2_with fail
        go_ret3
        exact ⟨by rw [unhide HT]; rfl, rfl⟩
    · obtain ⟨c, rfl⟩ := Int.eq_ofNat_of_zero_le (show 0 ≤ z by omega)
      have HT := hide (unhide HYes hbad)
      rw [Int.toNat_natCast] at HT
      have h2 : (c : Int) ≤ 13 := by omega
      have h3 : (n : Int) + c ≤ l.length := by omega
      have h4 : (n : Int) + c ≤ cap := by omega
      clear hbad
      by_cases hne : l = []
      · subst hne
        obtain rfl : n = 0 := by simpa using hn1
        obtain rfl : c = 0 := by simp at h3; omega
        have hcv := fun c' a' W => conv_text (.slice a' 0 c') [] W ⟨a', c', rfl, by simp, fun h => absurd rfl h⟩
        have HT' : Hid (txtT (textA [] k) = .tuple #[.string (strB []), .int .i64 0, .bool true]) := unhide HT
        generalize strB [] = s at *
        go_enter Tryd.func22, Tryd.ntmps22
        go_wp2_with fail
        refine (unhide HG _ (unhide HR)).mono ?_
        rw [unhide HT2]
        rintro e w1 ⟨rfl, rfl⟩
        go_wp2_with fail
        all_goals go_ret3
        all_goals exact ⟨by rw [unhide HT']; rfl, rfl⟩
      · obtain ⟨b, off, rfl, hcl⟩ := unhide HC hne
        by_cases hc0 : c = 0
        · subst hc0
          have hcv := fun c' a' W => conv_text (.slice a' 0 c') [] W ⟨a', c', rfl, by simp, fun h => absurd rfl h⟩
          have HT' : Hid (txtT (textA l k) = .tuple #[.string (strB []), .int .i64 n, .bool true]) := unhide HT
          generalize strB [] = s at *
          have h5 : (n : Int) ≤ cap := by omega
          have h6 : (n : Int) ≤ l.length := by omega
          clear hcl
          go_enter Tryd.func22, Tryd.ntmps22
          go_wp2_with fail
          refine (unhide HG _ (unhide HR)).mono ?_
          rw [unhide HT2]
          rintro e w1 ⟨rfl, rfl⟩
          go_wp2_with fail
          all_goals go_ret3
          all_goals exact ⟨by rw [unhide HT']; rfl, rfl⟩
        · have hcv := fun W h => conv_text _ _ W (piece_rd (w := W) (b := b) (off := off) (cap := cap - n) (n := n) (c := c) (l := l) h (by omega) hl)
          replace hcv := hcv w hcl
          generalize strB ((l.drop n).take c) = s at *
          have hne2 : ¬ cap = n := by omega
          clear hcl
          go_enter Tryd.func22, Tryd.ntmps22
          go_wp2_with fail
          refine (unhide HG _ (unhide HR)).mono ?_
          rw [unhide HT2]
          rintro e w1 ⟨rfl, rfl⟩
          go_wp2_with fail
          go_ret3
          exact ⟨by rw [unhide HT]; rfl, rfl⟩

set_option maxRecDepth 100000 in
set_option maxHeartbeats 400000 in
theorem specGetTxt_any (v : Value) (l : List Int) (at_ : Int) (w : World) (hrd : Rd w v l) (hcap : CapOk v) (hb : Bts l) :
    Calls Tryd.prog 13 #[v, .int .i64 at_] w fun e w' => e = .returned (tupS (textR l at_).1 (textR l at_).2) ∧ w' = w := by
  have HA := hide (fun w h => l01At_any v l at_ w h)
  have HR := hide hrd
  obtain ⟨a, cap, rfl⟩ := rd_len hrd
  by_cases h1 : 65536 < l.length
  · have HF := hide (textR_long (k := at_) h1)
    have HP := hide (show placeC l at_ = 2 from if_pos h1)
    clear hrd hcap hb
    generalize textR l at_ = r at *
    go_enter Tryd.func13, Tryd.ntmps13
    go_wp2_with fail
    refine (unhide HA _ (unhide HR)).mono ?_
    rw [unhide HP]
    rintro e w1 ⟨rfl, rfl⟩
    go_wp2_with fail
    go_ret3
    exact ⟨by rw [unhide HF]; rfl, rfl⟩
  by_cases h2 : at_ < 0 ∨ (l.length : Int) < at_
  · have HF := hide (textR_out h1 h2)
    have HP := hide (show placeC l at_ = 5 by unfold placeC; rw [if_neg h1, if_pos h2])
    clear hrd hcap hb h2
    generalize textR l at_ = r at *
    go_enter Tryd.func13, Tryd.ntmps13
    go_wp2_with fail
    refine (unhide HA _ (unhide HR)).mono ?_
    rw [unhide HP]
    rintro e w1 ⟨rfl, rfl⟩
    go_wp2_with fail
    go_ret3
    exact ⟨by rw [unhide HF]; rfl, rfl⟩
  obtain ⟨k, rfl⟩ := Int.eq_ofNat_of_zero_le (show 0 ≤ at_ by omega)
  have HP := hide (show placeC l (k : Int) = 0 by unfold placeC; rw [if_neg h1, if_neg h2])
  have HG := hide (fun w h => l01GetTxt_any (.slice a l.length cap) l k w h hcap (by omega) (by omega) hb)
  cases hg : textA l k with
  | none =>
    have HF := hide (textR_none h1 (by omega) hg)
    have HT := hide (txtT_none hg)
    clear hrd hcap hb hg
    generalize textR l k = r at *
    go_enter Tryd.func13, Tryd.ntmps13
    go_wp2_with fail
    refine (unhide HA _ (unhide HR)).mono ?_
    rw [unhide HP]
    rintro e w1 ⟨rfl, rfl⟩
    go_wp2_with fail
    refine (unhide HG _ (unhide HR)).mono ?_
    rw [unhide HT]
    rintro e w2 ⟨rfl, rfl⟩
    go_wp2_with fail
    go_ret3
    exact ⟨by rw [unhide HF]; rfl, rfl⟩
  | some x =>
    obtain ⟨s, n⟩ := x
    have HF := hide (textR_some h1 (by omega) hg)
    have HT := hide (txtT_some hg)
    clear hrd hcap hb hg
    generalize textR l k = r at *
    go_enter Tryd.func13, Tryd.ntmps13
    go_wp2_with fail
    refine (unhide HA _ (unhide HR)).mono ?_
    rw [unhide HP]
    rintro e w1 ⟨rfl, rfl⟩
    go_wp2_with fail
    refine (unhide HG _ (unhide HR)).mono ?_
    rw [unhide HT]
    rintro e w2 ⟨rfl, rfl⟩
    go_wp2_with fail
    go_ret3
    exact ⟨by rw [unhide HF]; rfl, rfl⟩

set_option maxRecDepth 100000 in
set_option maxHeartbeats 800000 in
theorem exactGetText (v : Value) (l : List Int) (at_ : Int) (w : World) (hr : Rd w v l) (hb : Bts l) (hl : l.length ≤ 1048576) (hE : ErrT w) :
    Calls Tryd.prog 5 #[v, .int .i64 at_] w fun e w' => e = .returned (.bool true) ∧ Below w.heap.size w w' := by
  have HR := hide hr
  have HE := hide hE
  have HB := hide hb
  obtain ⟨a, cap, rfl⟩ := rd_len hr
  clear hr hE hb
  have hl' : (l.length : Int) ≤ 1048576 := by omega
  have HS := hide (fun v w h h2 => specGetTxt_any v l at_ w h h2 (unhide HB))
  have HI := hide (fun v w h h2 h3 => implGetTxt_any v l at_ w h h2 (unhide HB) h3)
  generalize textR l at_ = r at *
  obtain ⟨r1, r2, r3⟩ := r
  go_enter Tryd.func5, Tryd.ntmps5
  go_wp2_with fail
  refine (toBytesT_any _ l _ (unhide HR)).mono ?_
  rintro e w1 ⟨v1, rfl, ho1, hb1⟩
  have O1 := hide ho1
  have B1 := hide hb1
  clear ho1 hb1
  go_wp2_with fail
  refine (unhide HS v1 _ (own_rd (unhide O1).own) (capOk_own (unhide O1))).mono ?_
  rintro e w2 ⟨rfl, rfl⟩
  unfold tupS
  go_wp2_with fail
  refine (toBytesT_any _ l _ (rd_below (unhide HR) (unhide B1) (Nat.le_refl _))).mono ?_
  rintro e w3 ⟨v2, rfl, ho2, hb2⟩
  have O2 := hide ho2
  have B2 := hide hb2
  clear ho2 hb2
  go_wp2_with fail
  refine (unhide HI v2 _ (own_rd (unhide O2).own) (capOk_own (unhide O2)) (errT_below (errT_below (unhide HE) (unhide B1) (Nat.le_refl _)) (unhide B2) (Nat.le_refl _))).mono ?_
  rintro e w4 ⟨rfl, hb4⟩
  have B4 := hide hb4
  clear hb4
  unfold tupS
  go_wp2_with fail
  refine (toBytesT_any _ l _ (rd_below (rd_below (rd_below (unhide HR) (unhide B1) (Nat.le_refl _)) (unhide B2) (Nat.le_refl _)) (unhide B4) (Nat.le_refl _))).mono ?_
  rintro e w5 ⟨v3, rfl, ho3, hb3⟩
  have O3 := hide ho3
  have B3 := hide hb3
  clear ho3 hb3
  go_wp2_with fail
  refine (eqBytes_same v2 v3 l _ (own_rd (own_below (own_below (unhide O2).own (unhide B4) (Nat.le_refl _)) (unhide B3) (Nat.le_refl _))) (own_rd (unhide O3).own)).mono ?_
  rintro e w6 ⟨rfl, n6, rfl⟩
  go_wp2_with fail
  go_ret
  have s1 := (unhide B1).size
  have s2 := (unhide B2).size
  have s4 := (unhide B4).size
  exact ⟨rfl, below_drewN' ((((unhide B1).trans ((unhide B2).mono s1)).trans ((unhide B4).mono (by omega))).trans ((unhide B3).mono (by omega))) n6⟩

theorem lawGetText (a : Option Addr) (len cap : Nat) (zs : List Int) (at_ : Int) (w : World)
    (h : (a = none ∧ len = 0 ∧ cap = 0 ∧ zs = []) ∨ ∃ x, a = some x ∧ len ≤ cap ∧ cap ≤ maxLen ∧ zs.length = cap ∧ (∀ i, i < zs.length → w.cell? (x.add i) = some (.int .u8 (zs.getD i 0))) ∧ ∀ n ∈ zs, (Lit.int .u8 n).wf = true) (hE : ErrT w) :
    Calls Tryd.prog 5 #[.slice a len cap, .int .i64 at_] w fun e w' => e = .returned (.bool true) ∧ Below w.heap.size w w' := by
  by_cases hl : len ≤ 1048576
  · obtain ⟨h1, h2, h3⟩ := rd_of_row h (by omega)
    exact exactGetText _ _ at_ w h2 h3 (by omega) hE
  · have hl' : (1048576 : Int) < len := by omega
    clear h hE
    go_enter Tryd.func5, Tryd.ntmps5
    go_wp2_with fail
    go_ret
    exact ⟨rfl, Below.refl _ _⟩
end Go.Proofs.YtoaoiiafmojaaaaDoor
