/-
  The sum of a row of floats, by the program and by the model, walked: either gives the same word, or a number that is none.
-/
import Derived.Test.YteljmhgpffekgaaFj11
import Derived.Test.YteljmhgpffekgaaFj12
import Derived.Handy
namespace Go.Proofs.Yteljmhgpffekgaa
open Go.RowKit

/-- The word v is that of o; of none it is no number. -/
def HasF (o : Option Nat) (v : Nat) : Prop := (∀ r, o = some r → v = r) ∧ (o = none → nanB v = true)
/-- The sum of floats, from nought on. -/
def sumO (l : List Nat) : Option Nat := l.foldl (fun o x => o.bind fun s => FloatKind.f64.format.add s x) (some 0)
theorem sumO_snoc (l : List Nat) (x : Nat) : sumO (l ++ [x]) = (sumO l).bind fun s => FloatKind.f64.format.add s x := by
  simp [sumO]
theorem addF (o : Option Nat) (v x : Nat) (W : World) (h : HasF o v) :
    ∃ v' n, (binOp .add 29 (.float .f64 v) (.float .f64 x)).run Try.prog W = .ok (.float .f64 v') (W.drewN n) ∧ HasF (o.bind fun s => FloatKind.f64.format.add s x) v' := by
  have key : (o.bind fun s => FloatKind.f64.format.add s x) = FloatKind.f64.format.add v x := by
    cases ho : o with
    | none =>
      have := add_nan v x (h.2 ho)
      exact this.symm
    | some r => rw [h.1 r ho]; rfl
  rw [key]
  cases ha : FloatKind.f64.format.add v x with
  | some r =>
    exact ⟨r, 0, by simp [binOp, Op.floatArith, ha]; rfl, ⟨fun r' hr => by cases hr; rfl, fun h => by cases h⟩⟩
  | none =>
    refine ⟨(Question.nanBits .f64 v x).cut (W.tape W.drawn (.nanBits .f64 v x)), 1, ?_, (fun r' hr => by simp at hr), fun _ => nan_drawn _⟩
    simp [binOp, Op.floatArith, ha, choose]
    rfl

theorem frombitsN (n : Int) (w : World) : (callFunc 62 #[.int .u64 n]).run Try.prog w = .ok (.value (.float .f64 n.toNat)) w := by
  rw [run_callFunc_extern (e := Extern.MathFloatBits.float64frombits) Try.func62 (by kernel_rfl) (by kernel_rfl) (by kernel_rfl) (by kernel_rfl)]
  rfl
theorem oneNaN_any (x : Nat) (w : World) :
    Calls Try.prog 37 #[.float .f64 x] w fun e w' => e = .returned (.float .f64 (fbit x)) ∧ w' = w := by
  have hb := frombitsN
  go_enter Try.func37, Try.ntmps37
  go_wp2_with (go_at_call 59; refine (floatBits_any _ _).mono ?_; rintro e w' ⟨rfl, rfl⟩)
  go_ret
  exact ⟨rfl, rfl⟩

set_option maxRecDepth 100000 in
set_option maxHeartbeats 400000 in
theorem implSumP_any (v : Value) (l : List Nat) (w : World) (hr : RdF w v l) (hl : l.length ≤ 4096) :
    Calls Try.prog 15 #[v] w fun e w' => ∃ s n, e = .returned (.tuple #[.float .f64 (fbit s), .int .i64 0]) ∧ HasF (sumO l) s ∧ w' = w.drewN n := by
  obtain ⟨a, cap, rfl, _, hc⟩ := hr
  have HC := hide hc
  clear hc
  have hl' : (l.length : Int) ≤ 4096 := by omega
  go_enter Try.func15, Try.ntmps15
  go_wp2_with fail
  go_loopw [4, 12] (fun sv iv wr => ∃ k s n : Nat, k ≤ l.length ∧ sv = .float .f64 s ∧ iv = .int .i64 k ∧ HasF (sumO (l.take k)) s ∧ wr = w.drewN n) (fun _ iv _ => l.length - (intOf iv).toNat)
  case atStart => exact ⟨0, 0, 0, Nat.zero_le _, rfl, rfl, ⟨fun r h => by simpa [sumO] using h, fun h => by simp [sumO] at h⟩, rfl⟩
  case round =>
    obtain ⟨k, s, n, hk, rfl, rfl, hs, rfl⟩ := hrel
    by_cases hlt : k < l.length
    · obtain ⟨b, off, rfl, hc⟩ := unhide HC (by intro h; rw [h] at hlt; simp at hlt)
      have h1 := hc k hlt
      clear hc
      have hlt' : (k : Int) < l.length := by omega
      obtain ⟨s', n', hq, hh⟩ := addF (sumO (l.take k)) s (l.getD k 0) (w.drewN n) hs
      rw [← sumO_snoc, ← takeF_get l k hlt] at hh
      have HH := hide hh
      clear hs hh
      generalize l.getD k 0 = x at h1 hq
      go_wp2_with fail
      go_roundw
      case rel => exact ⟨k + 1, s', n + n', by omega, rfl, by go_num, unhide HH, by simp [World.drewN]⟩
      case measure => simp [intOf]; omega
    · have HH := hide hs
      clear hs
      go_wp2_with fail
      refine (oneNaN_any s _).mono ?_
      rintro e w2 ⟨rfl, rfl⟩
      go_wp2_with fail
      go_returns
      have hs := unhide HH
      rw [List.take_of_length_le (by omega)] at hs
      exact ⟨s, n, rfl, hs, rfl⟩

set_option maxRecDepth 100000 in
set_option maxHeartbeats 400000 in
theorem specSumP_any (v : Value) (l : List Nat) (w : World) (hr : RdF w v l) (hl : l.length ≤ 4096) :
    Calls Try.prog 16 #[v] w fun e w' => ∃ s n, e = .returned (.tuple #[.float .f64 s, .int .i64 0]) ∧ HasF (sumO l) s ∧ w' = w.drewN n := by
  obtain ⟨a, cap, rfl, _, hc⟩ := hr
  have HC := hide hc
  clear hc
  have hl' : (l.length : Int) ≤ 4096 := by omega
  go_enter Try.func16, Try.ntmps16
  go_wp2_with fail
  go_loopw [4, 5] (fun sv iv wr => ∃ k s n : Nat, k ≤ l.length ∧ sv = .float .f64 s ∧ iv = .int .i64 k ∧ HasF (sumO (l.take k)) s ∧ wr = w.drewN n) (fun _ iv _ => l.length - (intOf iv).toNat)
  case atStart => exact ⟨0, 0, 0, Nat.zero_le _, rfl, rfl, ⟨fun r h => by simpa [sumO] using h, fun h => by simp [sumO] at h⟩, rfl⟩
  case round =>
    obtain ⟨k, s, n, hk, rfl, rfl, hs, rfl⟩ := hrel
    by_cases hlt : k < l.length
    · obtain ⟨b, off, rfl, hc⟩ := unhide HC (by intro h; rw [h] at hlt; simp at hlt)
      have h1 := hc k hlt
      clear hc
      have hlt' : (k : Int) < l.length := by omega
      obtain ⟨s', n', hq, hh⟩ := addF (sumO (l.take k)) s (l.getD k 0) (w.drewN n) hs
      rw [← sumO_snoc, ← takeF_get l k hlt] at hh
      have HH := hide hh
      clear hs hh
      generalize l.getD k 0 = x at h1 hq
      go_wp2_with fail
      go_roundw
      case rel => exact ⟨k + 1, s', n + n', by omega, rfl, by go_num, unhide HH, by simp [World.drewN]⟩
      case measure => simp [intOf]; omega
    · have HH := hide hs
      clear hs
      go_wp2_with fail
      go_returns
      have hs := unhide HH
      rw [List.take_of_length_le (by omega)] at hs
      exact ⟨s, n, rfl, hs, rfl⟩
theorem implSumP_long (v : Value) (l : List Nat) (w : World) (hr : RdF w v l) (hl : 4096 < l.length) :
    Calls Try.prog 15 #[v] w fun e w' => e = .returned (.tuple #[.float .f64 0, .int .i64 2]) ∧ w' = w := by
  obtain ⟨a, cap, rfl, _, hc⟩ := hr
  clear hc
  have hl' : (4096 : Int) < l.length := by omega
  go_enter Try.func15, Try.ntmps15
  go_wp2_with fail
  go_returns
  exact ⟨rfl, rfl⟩
theorem specSumP_long (v : Value) (l : List Nat) (w : World) (hr : RdF w v l) (hl : 4096 < l.length) :
    Calls Try.prog 16 #[v] w fun e w' => e = .returned (.tuple #[.float .f64 0, .int .i64 2]) ∧ w' = w := by
  obtain ⟨a, cap, rfl, _, hc⟩ := hr
  clear hc
  have hl' : (4096 : Int) < l.length := by omega
  go_enter Try.func16, Try.ntmps16
  go_wp2_with fail
  go_returns
  exact ⟨rfl, rfl⟩
end Go.Proofs.Yteljmhgpffekgaa
