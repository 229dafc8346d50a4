/-
  The exact law of GetNumber, walked: it returns true, and nothing that was there is turned.
-/
import Derived.Test.YtoaoiiafmojaaaaDoorPlaceW
namespace Go.Proofs.YtoaoiiafmojaaaaDoor
open Go.RowKit
set_option linter.unusedVariables false

set_option maxRecDepth 100000 in
set_option maxHeartbeats 400000 in
theorem specGetNum_any (v : Value) (l : List Int) (at_ : Int) (w : World) (hrd : Rd w v l) (hb : Bts l) :
    Calls Tryd.prog 6 #[v, .int .i64 at_] w fun e w' => e = .returned (tup3 (numA l at_)) ∧ w' = w := by
  have HA := hide (fun w h => l01At_any v l at_ w h)
  have HR := hide hrd
  obtain ⟨a, cap, rfl⟩ := rd_len hrd
  by_cases h1 : 65536 < l.length
  · have HF := hide (numA_long (k := at_) h1)
    have HP := hide (show placeC l at_ = 2 from if_pos h1)
    clear hrd hb
    generalize numA l at_ = r at *
    go_enter Tryd.func6, Tryd.ntmps6
    go_wp2_with fail
    refine (unhide HA _ (unhide HR)).mono ?_
    rw [unhide HP]
    rintro e w1 ⟨rfl, rfl⟩
    go_wp2_with fail
    go_ret3
    exact ⟨by rw [unhide HF]; rfl, rfl⟩
  by_cases h2 : at_ < 0 ∨ (l.length : Int) < at_
  · have HF := hide (numA_out h1 h2)
    have HP := hide (show placeC l at_ = 5 by unfold placeC; rw [if_neg h1, if_pos h2])
    clear hrd hb h2
    generalize numA l at_ = r at *
    go_enter Tryd.func6, Tryd.ntmps6
    go_wp2_with fail
    refine (unhide HA _ (unhide HR)).mono ?_
    rw [unhide HP]
    rintro e w1 ⟨rfl, rfl⟩
    go_wp2_with fail
    go_ret3
    exact ⟨by rw [unhide HF]; rfl, rfl⟩
  obtain ⟨k, rfl⟩ := Int.eq_ofNat_of_zero_le (show 0 ≤ at_ by omega)
  have HP := hide (show placeC l (k : Int) = 0 by unfold placeC; rw [if_neg h1, if_neg h2])
  have HG := hide (fun w h => l01Get_any (.slice a l.length cap) l k w h (by omega) (by omega) hb)
  cases hg : getU l k with
  | none =>
    have HF := hide (numA_none h1 (by omega) hg)
    have HT := hide (getT_none hg)
    clear hrd hb hg
    generalize numA l k = r at *
    go_enter Tryd.func6, Tryd.ntmps6
    go_wp2_with fail
    refine (unhide HA _ (unhide HR)).mono ?_
    rw [unhide HP]
    rintro e w1 ⟨rfl, rfl⟩
    go_wp2_with fail
    refine (unhide HG _ (unhide HR)).mono ?_
    rw [unhide HT]
    rintro e w2 ⟨rfl, rfl⟩
    go_wp2_with fail
    go_ret3
    exact ⟨by rw [unhide HF]; rfl, rfl⟩
  | some x =>
    obtain ⟨u, n⟩ := x
    have HF := hide (numA_some h1 (by omega) hg)
    have HT := hide (getT_some hg)
    clear hrd hb hg
    generalize numA l k = r at *
    generalize unz u = z at *
    go_enter Tryd.func6, Tryd.ntmps6
    go_wp2_with fail
    refine (unhide HA _ (unhide HR)).mono ?_
    rw [unhide HP]
    rintro e w1 ⟨rfl, rfl⟩
    go_wp2_with fail
    refine (unhide HG _ (unhide HR)).mono ?_
    rw [unhide HT]
    rintro e w2 ⟨rfl, rfl⟩
    go_wp2_with fail
    go_ret3
    exact ⟨by rw [unhide HF]; rfl, rfl⟩

set_option maxRecDepth 100000 in
set_option maxHeartbeats 800000 in
theorem exactGetNum (v : Value) (l : List Int) (at_ : Int) (w : World) (hr : Rd w v l) (hb : Bts l) (hl : l.length ≤ 1048576) (hE : ErrT w) :
    Calls Tryd.prog 3 #[v, .int .i64 at_] w fun e w' => e = .returned (.bool true) ∧ Below w.heap.size w w' := by
  have HR := hide hr
  have HE := hide hE
  have HB := hide hb
  obtain ⟨a, cap, rfl⟩ := rd_len hr
  clear hr hE hb
  have hl' : (l.length : Int) ≤ 1048576 := by omega
  have HS := hide (fun v w h => specGetNum_any v l at_ w h (unhide HB))
  have HI := hide (fun v w h h2 h3 => implGetNum_any v l at_ w h h2 (unhide HB) h3)
  generalize numA l at_ = r at *
  obtain ⟨r1, r2, r3⟩ := r
  go_enter Tryd.func3, Tryd.ntmps3
  go_wp2_with fail
  refine (toBytesT_any _ l _ (unhide HR)).mono ?_
  rintro e w1 ⟨v1, rfl, ho1, hb1⟩
  have O1 := hide ho1
  have B1 := hide hb1
  clear ho1 hb1
  go_wp2_with fail
  refine (unhide HS v1 _ (own_rd (unhide O1).own)).mono ?_
  rintro e w2 ⟨rfl, rfl⟩
  unfold tup3
  go_wp2_with fail
  refine (toBytesT_any _ l _ (rd_below (unhide HR) (unhide B1) (Nat.le_refl _))).mono ?_
  rintro e w3 ⟨v2, rfl, ho2, hb2⟩
  have O2 := hide ho2
  have B2 := hide hb2
  clear ho2 hb2
  go_wp2_with fail
  refine (unhide HI v2 _ (own_rd (unhide O2).own) (capOk_own (unhide O2)) (errT_below (errT_below (unhide HE) (unhide B1) (Nat.le_refl _)) (unhide B2) (Nat.le_refl _))).mono ?_
  rintro e w4 ⟨rfl, hb4⟩
  have B4 := hide hb4
  clear hb4
  unfold tup3
  go_wp2_with fail
  refine (toBytesT_any _ l _ (rd_below (rd_below (rd_below (unhide HR) (unhide B1) (Nat.le_refl _)) (unhide B2) (Nat.le_refl _)) (unhide B4) (Nat.le_refl _))).mono ?_
  rintro e w5 ⟨v3, rfl, ho3, hb3⟩
  have O3 := hide ho3
  have B3 := hide hb3
  clear ho3 hb3
  go_wp2_with fail
  refine (eqBytes_same v2 v3 l _ (own_rd (own_below (own_below (unhide O2).own (unhide B4) (Nat.le_refl _)) (unhide B3) (Nat.le_refl _))) (own_rd (unhide O3).own)).mono ?_
  rintro e w6 ⟨rfl, n6, rfl⟩
  go_wp2_with fail
  go_ret
  have s1 := (unhide B1).size
  have s2 := (unhide B2).size
  have s4 := (unhide B4).size
  exact ⟨rfl, below_drewN' ((((unhide B1).trans ((unhide B2).mono s1)).trans ((unhide B4).mono (by omega))).trans ((unhide B3).mono (by omega))) n6⟩

theorem lawGetNum (a : Option Addr) (len cap : Nat) (zs : List Int) (at_ : Int) (w : World)
    (h : (a = none ∧ len = 0 ∧ cap = 0 ∧ zs = []) ∨ ∃ x, a = some x ∧ len ≤ cap ∧ cap ≤ maxLen ∧ zs.length = cap ∧ (∀ i, i < zs.length → w.cell? (x.add i) = some (.int .u8 (zs.getD i 0))) ∧ ∀ n ∈ zs, (Lit.int .u8 n).wf = true) (hE : ErrT w) :
    Calls Tryd.prog 3 #[.slice a len cap, .int .i64 at_] w fun e w' => e = .returned (.bool true) ∧ Below w.heap.size w w' := by
  by_cases hl : len ≤ 1048576
  · obtain ⟨h1, h2, h3⟩ := rd_of_row h (by omega)
    exact exactGetNum _ _ at_ w h2 h3 (by omega) hE
  · have hl' : (1048576 : Int) < len := by omega
    clear h hE
    go_enter Tryd.func3, Tryd.ntmps3
    go_wp2_with fail
    go_ret
    exact ⟨rfl, Below.refl _ _⟩
end Go.Proofs.YtoaoiiafmojaaaaDoor
