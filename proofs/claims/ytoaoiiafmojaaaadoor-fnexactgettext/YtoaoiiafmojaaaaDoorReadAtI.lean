/-
  What the face of a reading of a number answers, proved by walking it; and the two functions that read a number.
-/
import Derived.Test.YtoaoiiafmojaaaaDoorGetW
namespace Go.Proofs.YtoaoiiafmojaaaaDoor
open Go.RowKit
set_option linter.unusedVariables false

def CapOk (v : Value) : Prop := ∀ a n c, v = .slice a n c → n ≤ c
/-- What the reading of a number at a place answers: the number, the place behind it, a code. -/
def numA (l : List Int) (at_ : Int) : Int × Int × Int :=
  if 65536 < l.length then (0, 0, 2) else if at_ < 0 ∨ (l.length : Int) < at_ then (0, 0, 5)
  else match getU l at_.toNat with | some (u, n) => (unz u, (n : Int), 0) | none => (0, 0, 3)
def tup3 (x : Int × Int × Int) : Value := .tuple #[.int .i64 x.1, .int .i64 x.2.1, .int .i64 x.2.2]
theorem numA_long {l : List Int} {k : Int} (h : 65536 < l.length) : numA l k = (0, 0, 2) := by unfold numA; rw [if_pos h]
theorem numA_out {l : List Int} {k : Int} (h : ¬ 65536 < l.length) (h1 : k < 0 ∨ (l.length : Int) < k) : numA l k = (0, 0, 5) := by unfold numA; rw [if_neg h, if_pos h1]
theorem numA_some {l : List Int} {k : Nat} {u n : Nat} (h : ¬ 65536 < l.length) (h1 : k ≤ l.length) (hg : getU l k = some (u, n)) : numA l k = (unz u, (n : Int), 0) := by
  unfold numA; rw [if_neg h, if_neg (by omega), Int.toNat_natCast, hg]
theorem numA_none {l : List Int} {k : Nat} (h : ¬ 65536 < l.length) (h1 : k ≤ l.length) (hg : getU l k = none) : numA l k = (0, 0, 3) := by
  unfold numA; rw [if_neg h, if_neg (by omega), Int.toNat_natCast, hg]

theorem rdr_new (w : World) (v : Value) (k : Int) : Rdr w.heap.size (w.alloc (.cells #[v, .int .i64 k] 54)) v k :=
  ⟨by simp, by simp, by simp⟩

set_option maxRecDepth 100000 in
set_option maxHeartbeats 1000000 in
theorem readInt_fault (v : Value) (len : Nat) (a : Option Addr) (cap : Nat) (hv : v = .slice a len cap) (at_ c : Int) (w : World) (hE : ErrT w)
    (htry : ∀ w0, w0 = w.alloc (.cells #[v, .int .i64 at_] 54) → Calls Tryd.prog 25 #[.pointer (some ⟨w.heap.size, 0, none⟩), .func (.func 18) #[] #[]] w0 fun e w' => (∃ p, e = .returned (.tuple #[.int .i64 0, faultV c p])) ∧ w0.grownBy w' (some w.heap.size)) :
    Calls Tryd.prog 17 #[v, .int .i64 at_, .func (.func 18) #[] #[]] w fun e w' => e = .returned (tup3 (0, 0, c)) ∧ Below w.heap.size w w' := by
  subst hv
  have HT := hide htry
  have HE := hide hE
  clear htry hE
  go_enter Tryd.func17, Tryd.ntmps17
  go_wp2_with fail
  refine (unhide HT _ rfl).mono ?_
  rintro e w1 ⟨⟨p, rfl⟩, hg⟩
  have hb : Below w.heap.size w w1 := ((Below.refl _ w).alloc (Nat.le_refl _) _).trans (gr_below hg (Nat.le_refl _) (by simp))
  have HB := hide hb
  have HE1 := hide (errT_below (unhide HE) hb (Nat.le_refl _))
  clear hg hb
  unfold faultV
  go_wp2_with fail
  refine (codeOf_any c p _ (unhide HE1)).mono ?_
  rintro e w2 ⟨rfl, hb2⟩
  have HB2 := hide hb2
  clear hb2
  go_wp2_with fail
  go_ret3
  exact ⟨rfl, (unhide HB).trans ((unhide HB2).mono (unhide HB).size)⟩

set_option maxRecDepth 100000 in
set_option maxHeartbeats 1000000 in
theorem readInt_fine (v : Value) (len : Nat) (a : Option Addr) (cap : Nat) (hv : v = .slice a len cap) (at_ n next : Int) (w : World)
    (htry : ∀ w0, w0 = w.alloc (.cells #[v, .int .i64 at_] 54) → Calls Tryd.prog 25 #[.pointer (some ⟨w.heap.size, 0, none⟩), .func (.func 18) #[] #[]] w0 fun e w' => e = .returned (.tuple #[.int .i64 n, .nilIface]) ∧ Rdr w.heap.size w' v next ∧ w0.grownBy w' (some w.heap.size)) :
    Calls Tryd.prog 17 #[v, .int .i64 at_, .func (.func 18) #[] #[]] w fun e w' => e = .returned (tup3 (n, next, 0)) ∧ Below w.heap.size w w' := by
  subst hv
  have HT := hide htry
  clear htry
  go_enter Tryd.func17, Tryd.ntmps17
  go_wp2_with fail
  refine (unhide HT _ rfl).mono ?_
  rintro e w1 ⟨rfl, hr, hg⟩
  have HB := hide (((Below.refl _ w).alloc (Nat.le_refl _) _).trans (gr_below hg (Nat.le_refl _) (by simp)))
  obtain ⟨c1, c2, c3⟩ := hr
  clear hg
  go_wp2_with fail
  go_quiet (fail)
  go_wp2_with fail
  go_ret3
  exact ⟨rfl, below_drewN' (unhide HB) _⟩

theorem readInt_any (v : Value) (l : List Int) (at_ : Int) (w : World) (hrd : Rd w v l) (hcap : CapOk v) (hb : Bts l) (hE : ErrT w) :
    Calls Tryd.prog 17 #[v, .int .i64 at_, .func (.func 18) #[] #[]] w fun e w' => e = .returned (tup3 (numA l at_)) ∧ Below w.heap.size w w' := by
  obtain ⟨a, cap, hv⟩ := rd_len hrd
  by_cases h1 : 65536 < l.length
  · rw [numA_long h1]
    refine readInt_fault v l.length a cap hv at_ 2 w hE fun w0 hw0 => ?_
    subst hw0
    subst hv
    exact tryInt_check w.heap.size a l.length cap at_ 2 _ (rdr_new w _ at_) fun w0 h => check_long _ at_ a l.length cap w0 h h1
  by_cases h2 : at_ < 0 ∨ (l.length : Int) < at_
  · rw [numA_out h1 h2]
    refine readInt_fault v l.length a cap hv at_ 5 w hE fun w0 hw0 => ?_
    subst hw0
    subst hv
    exact tryInt_check w.heap.size a l.length cap at_ 5 _ (rdr_new w _ at_) fun w0 h => check_out _ at_ a l.length cap w0 h h2 (by omega)
  obtain ⟨k, rfl⟩ := Int.eq_ofNat_of_zero_le (show 0 ≤ at_ by omega)
  have hk : k ≤ l.length := by omega
  have hnum : ∀ w0, Below (w.alloc (.cells #[v, .int .i64 (k : Int)] 54)).heap.size (w.alloc (.cells #[v, .int .i64 (k : Int)] 54)) w0 →
      Calls Tryd.prog 18 #[.pointer (some ⟨w.heap.size, 0, none⟩)] w0 fun e w' => NumEnd w.heap.size v w0 (getU l k) e w' := fun w0 hb0 =>
    number_any w.heap.size v l k w w0 hrd hcap (Nat.le_refl _) (((Below.refl _ w).alloc (Nat.le_refl _) _).trans (hb0.mono (by simp))) (rdr_below (rdr_new w v k) hb0 (by simp)) hk (by omega) hb
  cases hg : getU l k with
  | none =>
    rw [numA_none h1 hk hg]
    refine readInt_fault v l.length a cap hv k 3 w hE fun w0 hw0 => ?_
    subst hw0
    rw [hg] at hnum
    subst hv
    exact tryInt_fail w.heap.size a l.length cap k 3 _ (rdr_new w _ k) (by omega) (by omega) (by omega) fun w0 h => (hnum w0 h).mono fun e w' h => ⟨h.1, h.2.2 rfl⟩
  | some r =>
    obtain ⟨u, n⟩ := r
    rw [numA_some h1 hk hg]
    refine readInt_fine v l.length a cap hv k (unz u) n w fun w0 hw0 => ?_
    subst hw0
    rw [hg] at hnum
    subst hv
    exact tryInt_ok w.heap.size a l.length cap k (unz u) n _ (rdr_new w _ k) (by omega) (by omega) (by omega) fun w0 h => (hnum w0 h).mono fun e w' h => ⟨h.1, (h.2.1 u n rfl).1, (h.2.1 u n rfl).2⟩

theorem implGetNum_any (v : Value) (l : List Int) (at_ : Int) (w : World) (hrd : Rd w v l) (hcap : CapOk v) (hb : Bts l) (hE : ErrT w) :
    Calls Tryd.prog 8 #[v, .int .i64 at_] w fun e w' => e = .returned (tup3 (numA l at_)) ∧ Below w.heap.size w w' := by
  have HR := hide (readInt_any v l at_ w hrd hcap hb hE)
  obtain ⟨a, cap, rfl⟩ := rd_len hrd
  clear hrd hcap hb hE
  generalize numA l at_ = r at *
  obtain ⟨r1, r2, r3⟩ := r
  go_enter Tryd.func8, Tryd.ntmps8
  go_wp2_with fail
  refine (unhide HR).mono ?_
  rintro e w1 ⟨rfl, hb1⟩
  have HB := hide hb1
  clear hb1
  unfold tup3
  go_wp2_with fail
  go_ret3
  exact ⟨rfl, unhide HB⟩
theorem capOk_own {B : Nat} {w : World} {v : Value} {l : List Int} (h : OwnT B w v l) : CapOk v := by
  obtain ⟨g, cap, cur, t, rfl, _, _, h1, _⟩ := h
  intro a n c e
  simp only [Value.slice.injEq] at e
  omega
end Go.Proofs.YtoaoiiafmojaaaaDoor
