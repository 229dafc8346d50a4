/-
  A number's bytes read back, as plain facts on lists: the same number behind its bytes; no number where the last byte says that more follows and a needless zero does, or where the last byte lacks.
-/
import Derived.Test.YtmeekcdoajbjdaaGreatDoorGj06
import Derived.Test.YtmeekcdoajbjdaaGreatDoorGj09
import Derived.Test.YtmeekcdoajbjdaaGreatDoorGj14
import Derived.Test.YtmeekcdoajbjdaaGreatDoorGj15
namespace Go.Proofs.YtmeekcdoajbjdaaGreatDoor
open Go

theorem unz_zz (n : Int) : unz (zz n) = n := by
  unfold unz zz
  by_cases h : n < 0
  · rw [if_pos h, if_pos (by omega)]; omega
  · rw [if_neg h, if_neg (by omega)]; omega

theorem drop_head {l r : List Int} {k : Nat} {c : Int} (h : l.drop k = c :: r) : k < l.length ∧ l.getD k 0 = c ∧ l.drop (k + 1) = r := by
  have hk : k < l.length := by
    rcases Nat.lt_or_ge k l.length with h1 | h1
    · exact h1
    · rw [List.drop_eq_nil_of_le h1] at h; cases h
  rw [List.drop_eq_getElem_cons hk] at h
  injection h with h1 h2
  exact ⟨hk, by simp [hk, h1], h2⟩

theorem scan_put (l : List Int) (k : Nat) : ∀ (f x i acc : Nat), f = 10 - i → i ≤ 9 → l.drop (k + i) = putU x → acc + x * 128 ^ i < 18446744073709551616 → (0 < i → 0 < x) →
    scan l k f i acc = some (acc + x * 128 ^ i, k + i + (putU x).length)
  | 0, x, i, acc, hf, hi, _, _, _ => by omega
  | f + 1, x, i, acc, hf, hi, hd, hlt, hpos => by
    have h9 : i = 9 → x ≤ 1 := by
      intro e; subst e
      have e9 : (128 : Nat) ^ 9 = 9223372036854775808 := by decide
      rw [e9] at hlt; omega
    by_cases hx : x < 128
    · rw [putU_small hx] at hd ⊢
      obtain ⟨h1, h2, _⟩ := drop_head hd
      rw [scan, if_neg (by omega), h2, if_neg (by omega), if_pos (by omega)]
      have e : ((x : Int) % 128).toNat = x := by omega
      rw [e]; rfl
    · rw [putU_great hx] at hd ⊢
      obtain ⟨h1, h2, h3⟩ := drop_head hd
      rw [scan, if_neg (by omega), h2, if_neg (by omega), if_neg (by omega)]
      have e : (((x : Int) % 128 + 128) % 128).toNat = x % 128 := by omega
      have e2 : acc + x % 128 * 128 ^ i + x / 128 * 128 ^ (i + 1) = acc + x * 128 ^ i := by
        rw [Nat.pow_succ, Nat.mul_comm (128 ^ i) 128, ← Nat.mul_assoc, Nat.add_assoc, ← Nat.add_mul, Nat.mod_add_div']
      rw [e, scan_put l k f (x / 128) (i + 1) _ (by omega) (by omega) h3 (by rw [e2]; exact hlt) (by omega), e2]
      simp only [List.length_cons]
      congr 2; omega

/-- The bytes of a number with a needless zero. -/
def putL (u : Nat) : List Int := if u < 128 then [(u : Int) + 128, 0] else ((u : Int) % 128 + 128) :: putL (u / 128)
termination_by u
decreasing_by omega
/-- The bytes of a number without the last one. -/
def putS (u : Nat) : List Int := if u < 128 then [] else ((u : Int) % 128 + 128) :: putS (u / 128)
termination_by u
decreasing_by omega
theorem putL_small {u : Nat} (h : u < 128) : putL u = [(u : Int) + 128, 0] := by rw [putL, if_pos h]
theorem putL_great {u : Nat} (h : ¬ u < 128) : putL u = ((u : Int) % 128 + 128) :: putL (u / 128) := by rw [putL, if_neg h]
theorem putS_small {u : Nat} (h : u < 128) : putS u = [] := by rw [putS, if_pos h]
theorem putS_great {u : Nat} (h : ¬ u < 128) : putS u = ((u : Int) % 128 + 128) :: putS (u / 128) := by rw [putS, if_neg h]

theorem scan_long (l : List Int) (k : Nat) : ∀ (f x i acc : Nat), f = 10 - i → i ≤ 9 → l.drop (k + i) = putL x → scan l k f i acc = none
  | 0, x, i, acc, hf, hi, _ => by omega
  | f + 1, x, i, acc, hf, hi, hd => by
    by_cases hx : x < 128
    · rw [putL_small hx] at hd
      obtain ⟨h1, h2, h3⟩ := drop_head hd
      obtain ⟨h4, h5, _⟩ := drop_head h3
      rw [scan, if_neg (by omega), h2]
      by_cases h9 : i = 9
      · rw [if_pos (by omega)]
      · rw [if_neg (by omega), if_neg (by omega)]
        obtain ⟨g, rfl⟩ : ∃ g, f = g + 1 := ⟨f - 1, by omega⟩
        have h5' : l.getD (k + (i + 1)) 0 = 0 := h5
        rw [scan, if_neg (by omega), h5', if_pos (by omega)]
    · rw [putL_great hx] at hd
      obtain ⟨h1, h2, h3⟩ := drop_head hd
      rw [scan, if_neg (by omega), h2]
      by_cases h9 : i = 9
      · rw [if_pos (by omega)]
      · rw [if_neg (by omega), if_neg (by omega)]
        exact scan_long l k f (x / 128) (i + 1) _ (by omega) (by omega) h3
theorem scan_short (l : List Int) (k : Nat) : ∀ (f x i acc : Nat), f = 10 - i → i ≤ 9 → l.drop (k + i) = putS x → scan l k f i acc = none
  | 0, x, i, acc, hf, hi, _ => by omega
  | f + 1, x, i, acc, hf, hi, hd => by
    by_cases hx : x < 128
    · rw [putS_small hx, List.drop_eq_nil_iff] at hd
      rw [scan, if_pos hd]
    · rw [putS_great hx] at hd
      obtain ⟨h1, h2, h3⟩ := drop_head hd
      rw [scan, if_neg (by omega), h2]
      by_cases h9 : i = 9
      · rw [if_pos (by omega)]
      · rw [if_neg (by omega), if_neg (by omega)]
        exact scan_short l k f (x / 128) (i + 1) _ (by omega) (by omega) h3

theorem getU_put (more : List Int) (u : Nat) (h : u < 18446744073709551616) : getU (more ++ putU u) more.length = some (u, more.length + (putU u).length) := by
  have := scan_put (more ++ putU u) more.length 10 u 0 0 rfl (by omega) (by simp) (by omega) (by omega)
  simpa [getU] using this
theorem getU_long (u : Nat) : getU (putL u) 0 = none := scan_long (putL u) 0 10 u 0 0 rfl (by omega) (by simp)
theorem getU_short (u : Nat) : getU (putS u) 0 = none := scan_short (putS u) 0 10 u 0 0 rfl (by omega) (by simp)

theorem putU_bts : ∀ (u : Nat), ∀ x ∈ putU u, 0 ≤ x ∧ x ≤ 255 := by
  intro u
  induction u using Nat.strongRecOn with
  | _ u ih =>
    by_cases hu : u < 128
    · rw [putU_small hu]; intro x hx; simp at hx; omega
    · rw [putU_great hu]; intro x hx
      rcases List.mem_cons.1 hx with rfl | hx
      · omega
      · exact ih (u / 128) (by omega) x hx
theorem putU_last (u : Nat) : 0 ≤ (putU u).getD ((putU u).length - 1) 0 ∧ (putU u).getD ((putU u).length - 1) 0 < 128 := by
  induction u using Nat.strongRecOn with
  | _ u ih =>
    by_cases hu : u < 128
    · rw [putU_small hu]; simp; omega
    · have := ih (u / 128) (by omega)
      have hp := putU_pos (u / 128)
      rw [putU_great hu]
      obtain ⟨j, hj⟩ : ∃ j, (putU (u / 128)).length = j + 1 := ⟨(putU (u / 128)).length - 1, by omega⟩
      rw [hj] at this
      simpa [hj] using this
theorem long_eq (u : Nat) : (putU u).set ((putU u).length - 1) ((putU u).getD ((putU u).length - 1) 0 + 128) ++ [0] = putL u := by
  induction u using Nat.strongRecOn with
  | _ u ih =>
    by_cases hu : u < 128
    · rw [putU_small hu, putL_small hu]; simp
    · have := ih (u / 128) (by omega)
      have hp := putU_pos (u / 128)
      rw [putU_great hu, putL_great hu]
      obtain ⟨j, hj⟩ : ∃ j, (putU (u / 128)).length = j + 1 := ⟨(putU (u / 128)).length - 1, by omega⟩
      rw [hj] at this
      simpa [hj] using this
theorem short_eq (u : Nat) : (putU u).take ((putU u).length - 1) = putS u := by
  induction u using Nat.strongRecOn with
  | _ u ih =>
    by_cases hu : u < 128
    · rw [putU_small hu, putS_small hu]; simp
    · have := ih (u / 128) (by omega)
      have hp := putU_pos (u / 128)
      rw [putU_great hu, putS_great hu]
      obtain ⟨j, hj⟩ : ∃ j, (putU (u / 128)).length = j + 1 := ⟨(putU (u / 128)).length - 1, by omega⟩
      rw [hj] at this
      simpa [hj] using this
theorem or128c (c : Int) (h0 : 0 ≤ c) (h1 : c < 128) : bits .or .u8 c 128 = c + 128 := by
  obtain ⟨x, rfl⟩ := Int.eq_ofNat_of_zero_le h0
  have := or128 x
  rw [Int.emod_eq_of_lt (by omega) (by omega), Int.emod_eq_of_lt (by omega) (by omega)] at this
  exact this
end Go.Proofs.YtmeekcdoajbjdaaGreatDoor
namespace Go.Proofs.YtmeekcdoajbjdaaGreatDoor
open Go.RowKit

theorem fl8_bts (u : Nat) : Bts (fl8 u) := by
  intro x hx
  simp only [fl8, List.mem_cons, List.not_mem_nil, or_false] at hx
  omega
theorem shl_step (u m n : Nat) (M : Int) (hM : M = (m : Int)) (hn : n = m * 256) : shl8 (u / n) ((u : Int) / M % 256) = u / m := by
  subst hM hn
  unfold shl8
  rw [← Int.natCast_ediv, ← Nat.div_div_eq_div_mul]
  generalize u / m = q
  omega
theorem fl8_back (u : Nat) (h : u < 18446744073709551616) : (fl8 u).foldl shl8 0 = u := by
  have s0 := shl_step u 72057594037927936 18446744073709551616 72057594037927936 rfl rfl
  rw [Nat.div_eq_of_lt h] at s0
  have s1 := shl_step u 281474976710656 72057594037927936 281474976710656 rfl rfl
  have s2 := shl_step u 1099511627776 281474976710656 1099511627776 rfl rfl
  have s3 := shl_step u 4294967296 1099511627776 4294967296 rfl rfl
  have s4 := shl_step u 16777216 4294967296 16777216 rfl rfl
  have s5 := shl_step u 65536 16777216 65536 rfl rfl
  have s6 := shl_step u 256 65536 256 rfl rfl
  have s7 : shl8 (u / 256) ((u : Int) % 256) = u := by unfold shl8; omega
  simp only [fl8, List.foldl_cons, List.foldl_nil]
  rw [s0, s1, s2, s3, s4, s5, s6, s7]
theorem fbit_lt (x : Nat) (h : x < 18446744073709551616) : fbit x < 18446744073709551616 := by
  unfold fbit; split <;> omega
theorem fbit_nan (x : Nat) : ¬ (nanB (fbit x) = true ∧ fbit x ≠ 9221120237041090560) := by
  rintro ⟨h1, h2⟩
  by_cases h : nanB x = true
  · exact h2 (if_pos h)
  · rw [show fbit x = x from if_neg h] at h1; exact h h1
end Go.Proofs.YtmeekcdoajbjdaaGreatDoor
