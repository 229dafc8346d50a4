/-
  The bytes of floats, one behind the other, read back: plain facts on lists.
-/
import Derived.Test.YtglcppjfbkbbpaaDoorFloatI
import Derived.Test.YtglcppjfbkbbpaaDoorGetFlt
namespace Go.Proofs.YtglcppjfbkbbpaaDoor
open Go.RowKit

/-- The bytes of floats, one behind the other. -/
def enc (xs : List Nat) : List Int := (xs.map fun x => fl8 (fbit x)).flatten
theorem enc_nil : enc [] = [] := rfl
theorem enc_snoc (xs : List Nat) (x : Nat) : enc (xs ++ [x]) = enc xs ++ fl8 (fbit x) := by simp [enc]
theorem enc_cons (xs : List Nat) (x : Nat) : enc (x :: xs) = fl8 (fbit x) ++ enc xs := by simp [enc]
theorem enc_len (xs : List Nat) : (enc xs).length = 8 * xs.length := by
  induction xs with
  | nil => rfl
  | cons x r ih => rw [enc_cons, List.length_append, ih, fl8_len, List.length_cons]; omega
theorem fl8_bts (u : Nat) : Bts (fl8 u) := by
  intro x hx
  simp only [fl8, List.mem_cons, List.not_mem_nil, or_false] at hx
  omega
theorem enc_bts (xs : List Nat) : Bts (enc xs) := by
  induction xs with
  | nil => intro x hx; cases hx
  | cons x r ih =>
    rw [enc_cons]
    intro z hz
    rcases List.mem_append.1 hz with h | h
    · exact fl8_bts _ z h
    · exact ih z h
theorem enc_drop (xs : List Nat) (i : Nat) (h : i < xs.length) : ((enc xs).drop (8 * i)).take 8 = fl8 (fbit (xs.getD i 0)) := by
  induction xs generalizing i with
  | nil => simp at h
  | cons x r ih =>
    rw [enc_cons]
    cases i with
    | zero => rw [Nat.mul_zero, List.drop_zero]; exact List.take_left' (fl8_len _)
    | succ i =>
      rw [show 8 * (i + 1) = 8 + 8 * i by omega, ← List.drop_drop, List.drop_left' (fl8_len _)]
      exact ih i (by simpa using h)
theorem shl_step (u m n : Nat) (M : Int) (hM : M = (m : Int)) (hn : n = m * 256) : shl8 (u / n) ((u : Int) / M % 256) = u / m := by
  subst hM hn
  unfold shl8
  rw [← Int.natCast_ediv, ← Nat.div_div_eq_div_mul]
  generalize u / m = q
  omega
theorem fl8_back (u : Nat) (h : u < 18446744073709551616) : (fl8 u).foldl shl8 0 = u := by
  have s0 := shl_step u 72057594037927936 18446744073709551616 72057594037927936 rfl rfl
  rw [Nat.div_eq_of_lt h] at s0
  have s1 := shl_step u 281474976710656 72057594037927936 281474976710656 rfl rfl
  have s2 := shl_step u 1099511627776 281474976710656 1099511627776 rfl rfl
  have s3 := shl_step u 4294967296 1099511627776 4294967296 rfl rfl
  have s4 := shl_step u 16777216 4294967296 16777216 rfl rfl
  have s5 := shl_step u 65536 16777216 65536 rfl rfl
  have s6 := shl_step u 256 65536 256 rfl rfl
  have s7 : shl8 (u / 256) ((u : Int) % 256) = u := by unfold shl8; omega
  simp only [fl8, List.foldl_cons, List.foldl_nil]
  rw [s0, s1, s2, s3, s4, s5, s6, s7]
theorem fbit_lt (x : Nat) (h : x < 18446744073709551616) : fbit x < 18446744073709551616 := by
  unfold fbit; split <;> omega
theorem fbit_nan (x : Nat) : ¬ (nanB (fbit x) = true ∧ fbit x ≠ 9221120237041090560) := by
  rintro ⟨h1, h2⟩
  by_cases h : nanB x = true
  · exact h2 (if_pos h)
  · rw [show fbit x = x from if_neg h] at h1; exact h h1
theorem enc_read (xs : List Nat) (i : Nat) (h : i < xs.length) (hx : ∀ x ∈ xs, x < 18446744073709551616) (hl : xs.length ≤ 1000) : floatR (enc xs) ((8 * i : Nat) : Int) = (fbit (xs.getD i 0), ((8 * i + 8 : Nat) : Int), 0) := by
  have hlen := enc_len xs
  have hxi : xs.getD i 0 < 18446744073709551616 := by
    have e : xs.getD i 0 = xs[i] := by simp [h]
    rw [e]; exact hx _ (List.getElem_mem h)
  have hb : bits8 (enc xs) (8 * i) 8 = fbit (xs.getD i 0) := by
    unfold bits8; rw [enc_drop xs i h]; exact fl8_back _ (fbit_lt _ hxi)
  refine floatR_some (by omega) (by omega) ?_
  rw [← hb]
  exact floatA_yes (by omega) (by rw [hb]; exact fbit_nan _)
theorem nan_bits : nanB 9221120237041090560 = true := by decide +kernel
end Go.Proofs.YtglcppjfbkbbpaaDoor
