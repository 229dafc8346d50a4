/-
  What the reading of a float at a place answers, proved by walking it.
-/
import Derived.Test.YtoaoiiafmojaaaaDoorFloatR
namespace Go.Proofs.YtoaoiiafmojaaaaDoor
open Go.RowKit
set_option linter.unusedVariables false

/-- What the reading of a float at a place answers. -/
def floatR (l : List Int) (at_ : Int) : Nat × Int × Int :=
  if 65536 < l.length then (0, 0, 2) else if at_ < 0 ∨ (l.length : Int) < at_ then (0, 0, 5)
  else match floatA l at_.toNat with | some (s, n) => (s, (n : Int), 0) | none => (0, 0, 3)
theorem floatR_long {l : List Int} {k : Int} (h : 65536 < l.length) : floatR l k = (0, 0, 2) := by unfold floatR; rw [if_pos h]
theorem floatR_out {l : List Int} {k : Int} (h : ¬ 65536 < l.length) (h1 : k < 0 ∨ (l.length : Int) < k) : floatR l k = (0, 0, 5) := by unfold floatR; rw [if_neg h, if_pos h1]
theorem floatR_some {l : List Int} {k : Nat} {s n : Nat} (h : ¬ 65536 < l.length) (h1 : k ≤ l.length) (hg : floatA l k = some (s, n)) : floatR l k = (s, (n : Int), 0) := by
  unfold floatR; rw [if_neg h, if_neg (by omega), Int.toNat_natCast, hg]
theorem floatR_none {l : List Int} {k : Nat} (h : ¬ 65536 < l.length) (h1 : k ≤ l.length) (hg : floatA l k = none) : floatR l k = (0, 0, 3) := by
  unfold floatR; rw [if_neg h, if_neg (by omega), Int.toNat_natCast, hg]

theorem readF_any (v : Value) (l : List Int) (at_ : Int) (w : World) (hrd : Rd w v l) (hcap : CapOk v) (hb : Bts l) (hE : ErrT w) :
    Calls Tryd.prog 20 #[v, .int .i64 at_, .func (.func 21) #[] #[]] w fun e w' => e = .returned (tupF (floatR l at_).1 (floatR l at_).2) ∧ Below w.heap.size w w' := by
  obtain ⟨a, cap, hv⟩ := rd_len hrd
  by_cases h1 : 65536 < l.length
  · rw [floatR_long h1]
    refine readF_fault v l.length a cap hv at_ 2 w hE fun w0 hw0 => ?_
    subst hw0
    subst hv
    exact tryF_check w.heap.size a l.length cap at_ 2 _ (rdr_new w _ at_) fun w0 h => check_long _ at_ a l.length cap w0 h h1
  by_cases h2 : at_ < 0 ∨ (l.length : Int) < at_
  · rw [floatR_out h1 h2]
    refine readF_fault v l.length a cap hv at_ 5 w hE fun w0 hw0 => ?_
    subst hw0
    subst hv
    exact tryF_check w.heap.size a l.length cap at_ 5 _ (rdr_new w _ at_) fun w0 h => check_out _ at_ a l.length cap w0 h h2 (by omega)
  obtain ⟨k, rfl⟩ := Int.eq_ofNat_of_zero_le (show 0 ≤ at_ by omega)
  have hk : k ≤ l.length := by omega
  have hnum : ∀ w0, Below (w.alloc (.cells #[v, .int .i64 (k : Int)] 54)).heap.size (w.alloc (.cells #[v, .int .i64 (k : Int)] 54)) w0 →
      Calls Tryd.prog 21 #[.pointer (some ⟨w.heap.size, 0, none⟩)] w0 fun e w' => FltEnd w.heap.size v w0 (floatA l k) e w' := fun w0 hb0 =>
    float_any w.heap.size v l k w w0 hrd hcap (Nat.le_refl _) (((Below.refl _ w).alloc (Nat.le_refl _) _).trans (hb0.mono (by simp))) (rdr_below (rdr_new w v k) hb0 (by simp)) hk (by omega) hb
  cases hg : floatA l k with
  | none =>
    rw [floatR_none h1 hk hg]
    refine readF_fault v l.length a cap hv k 3 w hE fun w0 hw0 => ?_
    subst hw0
    rw [hg] at hnum
    subst hv
    exact tryF_fail w.heap.size a l.length cap k 3 _ (rdr_new w _ k) (by omega) (by omega) (by omega) fun w0 h => (hnum w0 h).mono fun e w' h => ⟨h.1, h.2.2 rfl⟩
  | some r =>
    obtain ⟨s, n⟩ := r
    rw [floatR_some h1 hk hg]
    refine readF_fine v l.length a cap hv k s n w fun w0 hw0 => ?_
    subst hw0
    rw [hg] at hnum
    subst hv
    exact tryF_ok w.heap.size a l.length cap k s n _ (rdr_new w _ k) (by omega) (by omega) (by omega) fun w0 h => (hnum w0 h).mono fun e w' h => ⟨h.1, (h.2.1 s n rfl).1, (h.2.1 s n rfl).2⟩

theorem implGetFlt_any (v : Value) (l : List Int) (at_ : Int) (w : World) (hrd : Rd w v l) (hcap : CapOk v) (hb : Bts l) (hE : ErrT w) :
    Calls Tryd.prog 11 #[v, .int .i64 at_] w fun e w' => e = .returned (tupF (floatR l at_).1 (floatR l at_).2) ∧ Below w.heap.size w w' := by
  have HR := hide (readF_any v l at_ w hrd hcap hb hE)
  obtain ⟨a, cap, rfl⟩ := rd_len hrd
  clear hrd hcap hb hE
  generalize floatR l at_ = r at *
  obtain ⟨r1, r2, r3⟩ := r
  go_enter Tryd.func11, Tryd.ntmps11
  go_wp2_with fail
  refine (unhide HR).mono ?_
  rintro e w1 ⟨rfl, hb1⟩
  have HB := hide hb1
  clear hb1
  unfold tupF
  go_wp2_with fail
  go_ret3
  exact ⟨rfl, unhide HB⟩
end Go.Proofs.YtoaoiiafmojaaaaDoor
