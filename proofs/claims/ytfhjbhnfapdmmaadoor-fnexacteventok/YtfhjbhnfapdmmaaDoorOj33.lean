/-
  A float's eight bytes and what is read from them: plain facts.
-/
import Derived.Test.YtfhjbhnfapdmmaaDoorOj16
import Derived.Test.YtfhjbhnfapdmmaaDoorOj27
namespace Go.Proofs.YtfhjbhnfapdmmaaDoor
open Go.RowKit

theorem fl8_bts (u : Nat) : Bts (fl8 u) := by
  intro x hx
  simp only [fl8, List.mem_cons, List.not_mem_nil, or_false] at hx
  omega
theorem shl_step (u m n : Nat) (M : Int) (hM : M = (m : Int)) (hn : n = m * 256) : shl8 (u / n) ((u : Int) / M % 256) = u / m := by
  subst hM hn
  unfold shl8
  rw [← Int.natCast_ediv, ← Nat.div_div_eq_div_mul]
  generalize u / m = q
  omega
theorem fl8_back (u : Nat) (h : u < 18446744073709551616) : (fl8 u).foldl shl8 0 = u := by
  have s0 := shl_step u 72057594037927936 18446744073709551616 72057594037927936 rfl rfl
  rw [Nat.div_eq_of_lt h] at s0
  have s1 := shl_step u 281474976710656 72057594037927936 281474976710656 rfl rfl
  have s2 := shl_step u 1099511627776 281474976710656 1099511627776 rfl rfl
  have s3 := shl_step u 4294967296 1099511627776 4294967296 rfl rfl
  have s4 := shl_step u 16777216 4294967296 16777216 rfl rfl
  have s5 := shl_step u 65536 16777216 65536 rfl rfl
  have s6 := shl_step u 256 65536 256 rfl rfl
  have s7 : shl8 (u / 256) ((u : Int) % 256) = u := by unfold shl8; omega
  simp only [fl8, List.foldl_cons, List.foldl_nil]
  rw [s0, s1, s2, s3, s4, s5, s6, s7]
theorem fbit_lt (x : Nat) (h : x < 18446744073709551616) : fbit x < 18446744073709551616 := by
  unfold fbit; split <;> omega
theorem fbit_nan (x : Nat) : ¬ (nanB (fbit x) = true ∧ fbit x ≠ 9221120237041090560) := by
  rintro ⟨h1, h2⟩
  by_cases h : nanB x = true
  · exact h2 (if_pos h)
  · rw [show fbit x = x from if_neg h] at h1; exact h h1
end Go.Proofs.YtfhjbhnfapdmmaaDoor
