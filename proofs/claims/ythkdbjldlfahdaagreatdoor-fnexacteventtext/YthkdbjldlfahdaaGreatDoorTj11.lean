/-
  The reader of bytes, proved by walking its methods: how it fails (a panic with its own error), how it takes bytes, how it looks at its place.
-/
import Derived.Test.YthkdbjldlfahdaaGreatDoorTj02
import Derived.WalkLawsBesides
import Derived.WalkSpells
namespace Go.Proofs.YthkdbjldlfahdaaGreatDoor
open Go.RowKit
set_option linter.unusedVariables false

/-- The reader in block B: its bytes and its place. -/
structure Rdr (B : Nat) (w : World) (v : Value) (k : Int) : Prop where
  bytes : w.cell? ⟨B, 0, none⟩ = some v
  place : w.cell? ⟨B, 1, none⟩ = some (.int .i64 k)
  free : w.frozen? ⟨B, 1, none⟩ = false
theorem Rdr.drewN {B : Nat} {w : World} {v : Value} {k : Int} (h : Rdr B w v k) (n : Nat) : Rdr B (w.drewN n) v k := ⟨h.1, h.2, h.3⟩
theorem Rdr.step {B : Nat} {w : World} {v : Value} {k : Int} (h : Rdr B w v k) (m : Int) : Rdr B (w.setCell ⟨B, 1, none⟩ (.int .i64 m)) v m :=
  ⟨by rw [World.cell?_setCell_other _ _ _ _ (addr_ne (by omega))]; exact h.1, World.cell?_setCell_same _ _ _ h.2, by rw [World.frozen?_setCell]; exact h.3⟩

/-- What the reader panics with. -/
def fault (c k : Int) : List PanicEntry := [{ v := .iface 92 (.agg #[.int .i64 c, .int .i64 k]), recovered := false }]

theorem fail_any (B : Nat) (c k : Int) (v : Value) (w : World) (hr : Rdr B w v k) :
    Calls Tryz.prog 64 #[.pointer (some ⟨B, 0, none⟩), .int .i64 c] w fun e w' => e = .panicked (fault c k) ∧ w' = w := by
  have h2 := hr.2
  clear hr
  go_enter Tryz.func64, Tryz.ntmps64
  go_wp2
  exact ⟨rfl, rfl, rfl⟩

set_option maxRecDepth 100000 in
set_option maxHeartbeats 400000 in
theorem take_end (B : Nat) (c k : Int) (a : Option Addr) (len cap : Nat) (w : World) (hr : Rdr B w (.slice a len cap) k) (h0 : 0 ≤ k) (h1 : k ≤ len) (hl : len ≤ 1073741824) (hc : (len : Int) - k < c) (hc1 : c ≤ 1073741824) :
    Calls Tryz.prog 63 #[.pointer (some ⟨B, 0, none⟩), .int .i64 c] w fun e w' => e = .panicked (fault 3 k) ∧ ∃ q, w' = w.drewN q := by
  have HR := hide hr
  obtain ⟨c1, c2, c3⟩ := hr
  go_enter Tryz.func63, Tryz.ntmps63
  go_wp2_with fail
  go_quiet (fail)
  go_wp2_with fail
  refine (fail_any B 3 k _ _ ((unhide HR).drewN _)).mono ?_
  rintro e w1 ⟨rfl, rfl⟩
  go_wp2_with fail
  exact ⟨rfl, rfl, _, rfl⟩

set_option maxRecDepth 100000 in
set_option maxHeartbeats 400000 in
theorem take_ok (B : Nat) (c k : Nat) (b off len cap : Nat) (w : World) (hr : Rdr B w (.slice (some ⟨b, off, none⟩) len cap) k) (h1 : k + c ≤ len) (hl : len ≤ 1073741824) (hcap : len ≤ cap) (hc1 : 1 ≤ c) :
    Calls Tryz.prog 63 #[.pointer (some ⟨B, 0, none⟩), .int .i64 c] w fun e w' => e = .returned (.slice (some ⟨b, off + k, none⟩) c (cap - k)) ∧ ∃ q, w' = (w.setCell ⟨B, 1, none⟩ (.int .i64 (k + c : Nat))).drewN q := by
  have HR := hide hr
  obtain ⟨c1, c2, c3⟩ := hr
  have h1' : (k : Int) + c ≤ len := by omega
  have h2' : ¬ ((len : Int) - k < c) := by omega
  have h3' : (k : Int) + c ≤ cap := by omega
  have hne : ¬ (cap = k) := by omega
  go_enter Tryz.func63, Tryz.ntmps63
  go_wp2_with fail
  go_quiet (fail)
  go_wp2_with fail
  go_quiet (fail)
  go_wp2_with fail
  go_ret
  refine ⟨by simp, _, by congr 3⟩

set_option maxRecDepth 100000 in
set_option maxHeartbeats 400000 in
theorem check_ok (B : Nat) (k : Int) (a : Option Addr) (len cap : Nat) (w : World) (hr : Rdr B w (.slice a len cap) k) (h0 : 0 ≤ k) (h1 : k ≤ len) (hl : len ≤ 65536) :
    Calls Tryz.prog 76 #[.pointer (some ⟨B, 0, none⟩)] w fun e w' => e = .returned (.tuple #[]) ∧ ∃ q, w' = w.drewN q := by
  obtain ⟨c1, c2, c3⟩ := hr
  have hl' : (len : Int) ≤ 65536 := by omega
  have hd : decide (k < 0) = false := by simpa using h0
  go_enter Tryz.func76, Tryz.ntmps76
  go_wp2_with fail
  go_quiet (fail)
  go_wp2_with fail
  go_end0
  exact ⟨rfl, _, rfl⟩
set_option maxRecDepth 100000 in
set_option maxHeartbeats 400000 in
theorem check_long (B : Nat) (k : Int) (a : Option Addr) (len cap : Nat) (w : World) (hr : Rdr B w (.slice a len cap) k) (hl : 65536 < len) :
    Calls Tryz.prog 76 #[.pointer (some ⟨B, 0, none⟩)] w fun e w' => e = .panicked (fault 2 k) ∧ ∃ q, w' = w.drewN q := by
  have HR := hide hr
  obtain ⟨c1, c2, c3⟩ := hr
  have hl' : (65536 : Int) < len := by omega
  go_enter Tryz.func76, Tryz.ntmps76
  go_wp2_with fail
  refine (fail_any B 2 k _ _ (unhide HR)).mono ?_
  rintro e w1 ⟨rfl, rfl⟩
  go_wp2_with fail
  exact ⟨rfl, rfl, 0, rfl⟩
set_option maxRecDepth 100000 in
set_option maxHeartbeats 400000 in
theorem check_out (B : Nat) (k : Int) (a : Option Addr) (len cap : Nat) (w : World) (hr : Rdr B w (.slice a len cap) k) (h : k < 0 ∨ (len : Int) < k) (hl : len ≤ 65536) :
    Calls Tryz.prog 76 #[.pointer (some ⟨B, 0, none⟩)] w fun e w' => e = .panicked (fault 5 k) ∧ ∃ q, w' = w.drewN q := by
  have HR := hide hr
  obtain ⟨c1, c2, c3⟩ := hr
  have hl' : (len : Int) ≤ 65536 := by omega
  rcases (show k < 0 ∨ (0 ≤ k ∧ (len : Int) < k) by omega) with h0 | ⟨h0, h1⟩
  · have hd : decide (k < 0) = true := by simpa using h0
    clear h
    go_enter Tryz.func76, Tryz.ntmps76
    go_wp2_with fail
    go_quiet (fail)
    go_wp2_with fail
    refine (fail_any B 5 k _ _ ((unhide HR).drewN _)).mono ?_
    rintro e w1 ⟨rfl, rfl⟩
    go_wp2_with fail
    exact ⟨rfl, rfl, _, rfl⟩
  · have hd : decide (k < 0) = false := by simpa using h0
    clear h
    go_enter Tryz.func76, Tryz.ntmps76
    go_wp2_with fail
    go_quiet (fail)
    go_wp2_with fail
    refine (fail_any B 5 k _ _ ((unhide HR).drewN _)).mono ?_
    rintro e w1 ⟨rfl, rfl⟩
    go_wp2_with fail
    exact ⟨rfl, rfl, _, rfl⟩
end Go.Proofs.YthkdbjldlfahdaaGreatDoor
