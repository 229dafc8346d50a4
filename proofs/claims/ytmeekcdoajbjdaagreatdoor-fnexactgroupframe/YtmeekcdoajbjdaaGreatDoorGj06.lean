/-
  The reader of bytes, proved by walking its methods: how it fails (a panic with its own error), how it takes bytes, how it looks at its place.
-/
import Derived.Test.YtmeekcdoajbjdaaGreatDoorGj01
import Derived.WalkLawsBesides
import Derived.WalkSpells
import Derived.Laws.BitsAllLaws
import Derived.Laws.Bits64
import Derived.Lib.Zigzag
import Derived.RowKit
namespace Go.Proofs.YtmeekcdoajbjdaaGreatDoor
open Go.RowKit
set_option linter.unusedVariables false

/-- The reader in block B: its bytes and its place. -/
structure Rdr (B : Nat) (w : World) (v : Value) (k : Int) : Prop where
  bytes : w.cell? ⟨B, 0, none⟩ = some v
  place : w.cell? ⟨B, 1, none⟩ = some (.int .i64 k)
  free : w.frozen? ⟨B, 1, none⟩ = false
theorem Rdr.drewN {B : Nat} {w : World} {v : Value} {k : Int} (h : Rdr B w v k) (n : Nat) : Rdr B (w.drewN n) v k := ⟨h.1, h.2, h.3⟩
theorem Rdr.step {B : Nat} {w : World} {v : Value} {k : Int} (h : Rdr B w v k) (m : Int) : Rdr B (w.setCell ⟨B, 1, none⟩ (.int .i64 m)) v m :=
  ⟨by rw [World.cell?_setCell_other _ _ _ _ (addr_ne (by omega))]; exact h.1, World.cell?_setCell_same _ _ _ h.2, by rw [World.frozen?_setCell]; exact h.3⟩

/-- What the reader panics with. -/
def fault (c k : Int) : List PanicEntry := [{ v := .iface 109 (.agg #[.int .i64 c, .int .i64 k]), recovered := false }]

theorem fail_any (B : Nat) (c k : Int) (v : Value) (w : World) (hr : Rdr B w v k) :
    Calls Tryz.prog 85 #[.pointer (some ⟨B, 0, none⟩), .int .i64 c] w fun e w' => e = .panicked (fault c k) ∧ w' = w := by
  have h2 := hr.2
  clear hr
  go_enter Tryz.func85, Tryz.ntmps85
  go_wp2
  exact ⟨rfl, rfl, rfl⟩

set_option maxRecDepth 100000 in
set_option maxHeartbeats 400000 in
theorem take_end (B : Nat) (c k : Int) (a : Option Addr) (len cap : Nat) (w : World) (hr : Rdr B w (.slice a len cap) k) (h0 : 0 ≤ k) (h1 : k ≤ len) (hl : len ≤ 1073741824) (hc : (len : Int) - k < c) (hc1 : c ≤ 1073741824) :
    Calls Tryz.prog 84 #[.pointer (some ⟨B, 0, none⟩), .int .i64 c] w fun e w' => e = .panicked (fault 3 k) ∧ ∃ q, w' = w.drewN q := by
  have HR := hide hr
  obtain ⟨c1, c2, c3⟩ := hr
  go_enter Tryz.func84, Tryz.ntmps84
  go_wp2_with fail
  go_quiet (fail)
  go_wp2_with fail
  refine (fail_any B 3 k _ _ ((unhide HR).drewN _)).mono ?_
  rintro e w1 ⟨rfl, rfl⟩
  go_wp2_with fail
  exact ⟨rfl, rfl, _, rfl⟩

set_option maxRecDepth 100000 in
set_option maxHeartbeats 400000 in
theorem take_ok (B : Nat) (c k : Nat) (b off len cap : Nat) (w : World) (hr : Rdr B w (.slice (some ⟨b, off, none⟩) len cap) k) (h1 : k + c ≤ len) (hl : len ≤ 1073741824) (hcap : len ≤ cap) (hc1 : 1 ≤ c) :
    Calls Tryz.prog 84 #[.pointer (some ⟨B, 0, none⟩), .int .i64 c] w fun e w' => e = .returned (.slice (some ⟨b, off + k, none⟩) c (cap - k)) ∧ ∃ q, w' = (w.setCell ⟨B, 1, none⟩ (.int .i64 (k + c : Nat))).drewN q := by
  have HR := hide hr
  obtain ⟨c1, c2, c3⟩ := hr
  have h1' : (k : Int) + c ≤ len := by omega
  have h2' : ¬ ((len : Int) - k < c) := by omega
  have h3' : (k : Int) + c ≤ cap := by omega
  have hne : ¬ (cap = k) := by omega
  go_enter Tryz.func84, Tryz.ntmps84
  go_wp2_with fail
  go_quiet (fail)
  go_wp2_with fail
  go_quiet (fail)
  go_wp2_with fail
  go_ret
  refine ⟨by simp, _, by congr 3⟩

set_option maxRecDepth 100000 in
set_option maxHeartbeats 400000 in
theorem check_ok (B : Nat) (k : Int) (a : Option Addr) (len cap : Nat) (w : World) (hr : Rdr B w (.slice a len cap) k) (h0 : 0 ≤ k) (h1 : k ≤ len) (hl : len ≤ 65536) :
    Calls Tryz.prog 95 #[.pointer (some ⟨B, 0, none⟩)] w fun e w' => e = .returned (.tuple #[]) ∧ ∃ q, w' = w.drewN q := by
  obtain ⟨c1, c2, c3⟩ := hr
  have hl' : (len : Int) ≤ 65536 := by omega
  have hd : decide (k < 0) = false := by simpa using h0
  go_enter Tryz.func95, Tryz.ntmps95
  go_wp2_with fail
  go_quiet (fail)
  go_wp2_with fail
  go_end0
  exact ⟨rfl, _, rfl⟩
set_option maxRecDepth 100000 in
set_option maxHeartbeats 400000 in
theorem check_long (B : Nat) (k : Int) (a : Option Addr) (len cap : Nat) (w : World) (hr : Rdr B w (.slice a len cap) k) (hl : 65536 < len) :
    Calls Tryz.prog 95 #[.pointer (some ⟨B, 0, none⟩)] w fun e w' => e = .panicked (fault 2 k) ∧ ∃ q, w' = w.drewN q := by
  have HR := hide hr
  obtain ⟨c1, c2, c3⟩ := hr
  have hl' : (65536 : Int) < len := by omega
  go_enter Tryz.func95, Tryz.ntmps95
  go_wp2_with fail
  refine (fail_any B 2 k _ _ (unhide HR)).mono ?_
  rintro e w1 ⟨rfl, rfl⟩
  go_wp2_with fail
  exact ⟨rfl, rfl, 0, rfl⟩
set_option maxRecDepth 100000 in
set_option maxHeartbeats 400000 in
theorem check_out (B : Nat) (k : Int) (a : Option Addr) (len cap : Nat) (w : World) (hr : Rdr B w (.slice a len cap) k) (h : k < 0 ∨ (len : Int) < k) (hl : len ≤ 65536) :
    Calls Tryz.prog 95 #[.pointer (some ⟨B, 0, none⟩)] w fun e w' => e = .panicked (fault 5 k) ∧ ∃ q, w' = w.drewN q := by
  have HR := hide hr
  obtain ⟨c1, c2, c3⟩ := hr
  have hl' : (len : Int) ≤ 65536 := by omega
  rcases (show k < 0 ∨ (0 ≤ k ∧ (len : Int) < k) by omega) with h0 | ⟨h0, h1⟩
  · have hd : decide (k < 0) = true := by simpa using h0
    clear h
    go_enter Tryz.func95, Tryz.ntmps95
    go_wp2_with fail
    go_quiet (fail)
    go_wp2_with fail
    refine (fail_any B 5 k _ _ ((unhide HR).drewN _)).mono ?_
    rintro e w1 ⟨rfl, rfl⟩
    go_wp2_with fail
    exact ⟨rfl, rfl, _, rfl⟩
  · have hd : decide (k < 0) = false := by simpa using h0
    clear h
    go_enter Tryz.func95, Tryz.ntmps95
    go_wp2_with fail
    go_quiet (fail)
    go_wp2_with fail
    refine (fail_any B 5 k _ _ ((unhide HR).drewN _)).mono ?_
    rintro e w1 ⟨rfl, rfl⟩
    go_wp2_with fail
    exact ⟨rfl, rfl, _, rfl⟩
end Go.Proofs.YtmeekcdoajbjdaaGreatDoor
namespace Go.Proofs.YtmeekcdoajbjdaaGreatDoor
open Go
open Go.RowKit (wrap64)

def scan (l : List Int) (at_ : Nat) : Nat → Nat → Nat → Option (Nat × Nat)
  | 0, _, _ => none
  | f + 1, i, u =>
    if l.length ≤ at_ + i then none
    else if (i = 9 ∧ 1 < l.getD (at_ + i) 0) ∨ (0 < i ∧ l.getD (at_ + i) 0 = 0) then none
    else if l.getD (at_ + i) 0 < 128 then some (u + (l.getD (at_ + i) 0 % 128).toNat * 128 ^ i, at_ + i + 1)
    else scan l at_ f (i + 1) (u + (l.getD (at_ + i) 0 % 128).toNat * 128 ^ i)
/-- The number whose bytes begin at a place, as its folded form, and the place behind it. -/
def getU (l : List Int) (at_ : Nat) : Option (Nat × Nat) := scan l at_ 10 0 0
/-- The number of a folded form. -/
def unz (u : Nat) : Int := if u % 2 = 1 then -((u / 2 : Nat) : Int) - 1 else ((u / 2 : Nat) : Int)

theorem pow_le9 (i : Nat) (h : i ≤ 9) : 128 ^ i ≤ 9223372036854775808 :=
  Nat.le_trans (Nat.pow_le_pow_right (by omega) h) (by decide)
theorem pow_two (i : Nat) : (2 : Nat) ^ (7 * i) = 128 ^ i := by rw [Nat.pow_mul]
theorem step_lt (c : Int) (i u : Nat) (hi : i ≤ 9) (hu : u < 128 ^ i) (hc0 : 0 ≤ c) (hc1 : c ≤ 255) (h9 : i = 9 → c ≤ 1) :
    u + (c % 128).toNat * 128 ^ i < 18446744073709551616 ∧ u + (c % 128).toNat * 128 ^ i < 128 ^ (i + 1) := by
  have hp := pow_le9 i hi
  have hm : (c % 128).toNat ≤ 127 := by omega
  constructor
  · by_cases h : i = 9
    · subst h
      have := h9 rfl
      have hm1 : (c % 128).toNat ≤ 1 := by omega
      have e9 : (128 : Nat) ^ 9 = 9223372036854775808 := by decide
      rw [e9] at *
      omega
    · have h8 : 128 ^ i ≤ 72057594037927936 := Nat.le_trans (Nat.pow_le_pow_right (by omega) (show i ≤ 8 by omega)) (by decide)
      have : (c % 128).toNat * 128 ^ i ≤ 127 * 72057594037927936 := Nat.mul_le_mul hm h8
      omega
  · rw [Nat.pow_succ]
    have : (c % 128).toNat * 128 ^ i ≤ 127 * 128 ^ i := Nat.mul_le_mul_right _ hm
    omega
theorem and127b (c : Int) (h0 : 0 ≤ c) (h1 : c ≤ 255) : bits .and .u8 c 127 = c % 128 := by
  rw [u8_and _ _ (by omega) (by omega) (by omega) (by omega), show (127 : Int).toNat = 127 from rfl]
  have e : c.toNat &&& 127 = c.toNat % 128 := Nat.and_two_pow_sub_one_eq_mod c.toNat 7
  rw [e]; omega
theorem or_step (c : Int) (i u : Nat) (hi : i ≤ 9) (hu : u < 128 ^ i) (hc0 : 0 ≤ c) (hc1 : c ≤ 255) (h9 : i = 9 → c ≤ 1) :
    bits .or .u64 (u : Int) (IntKind.u64.wrap (c % 128 * 2 ^ (7 * i))) = ((u + (c % 128).toNat * 128 ^ i : Nat) : Int) := by
  have hlt := (step_lt c i u hi hu hc0 hc1 h9).1
  have e2 : c % 128 * 2 ^ (7 * i) = (((c % 128).toNat * 128 ^ i : Nat) : Int) := by
    rw [← pow_two i]
    rw [Int.natCast_mul, Int.toNat_of_nonneg (by omega)]
    congr 1
  rw [e2, IntKind.wrap_u64, Int.emod_eq_of_lt (by omega) (by omega), u64_or_nat _ _ (by omega) (by omega), Nat.or_comm]
  rw [nat_join (7 * i) _ _ (by rw [pow_two]; exact Nat.mul_mod_left _ _) (by rw [pow_two]; exact hu), Nat.add_comm]
theorem and1 (u : Nat) (h : u < 18446744073709551616) : bits .and .u64 (u : Int) 1 = ((u % 2 : Nat) : Int) := by
  have := u64_and_nat u 1 h (by omega)
  rw [show ((1 : Nat) : Int) = 1 from rfl] at this
  rw [this, nat_mask1]
theorem xor_comm64 (x y : Int) : bits .xor .i64 x y = bits .xor .i64 y x := by
  unfold bits; simp only [BitVec.xor_comm]
theorem xor_zero64 (x : Nat) (h : x < 9223372036854775808) : bits .xor .i64 (x : Int) 0 = x := by
  have e : bits .xor .i64 (x : Int) 0 = IntKind.i64.wrap (((BitVec.ofInt 64 (x : Int)) ^^^ (0#64)).toNat : Nat) := rfl
  rw [e, BitVec.xor_zero, ofInt_u64 x (by omega)]
  simp [IntKind.wrap, IntKind.bits, IntKind.signed]
  omega
theorem wrap_small (x : Int) (h0 : -9223372036854775808 ≤ x) (h1 : x ≤ 9223372036854775807) : wrap64 x = x := by
  unfold wrap64; omega
theorem unfold_eq (u : Nat) (h : u < 18446744073709551616) : bits .xor .i64 ((u : Int) / 2) (wrap64 (-wrap64 (bits .and .u64 (u : Int) 1))) = unz u := by
  rw [and1 u h, wrap_small ((u % 2 : Nat) : Int) (by omega) (by omega), wrap_small _ (by omega) (by omega)]
  have e : (u : Int) / 2 = ((u / 2 : Nat) : Int) := by omega
  rw [e]
  unfold unz
  by_cases h1 : u % 2 = 1
  · rw [if_pos h1, h1, xor_comm64]
    exact Lib.i64_not _ (by omega)
  · have h0 : u % 2 = 0 := by omega
    rw [if_neg h1, h0]
    exact xor_zero64 _ (by omega)
end Go.Proofs.YtmeekcdoajbjdaaGreatDoor
