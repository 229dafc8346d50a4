/-
  What the trying of a reading returns, proved by walking it: the value and no error, or the reader's error.
-/
import Derived.Test.YtoaoiiafmojaaaaDoorTryW
namespace Go.Proofs.YtoaoiiafmojaaaaDoor
open Go.RowKit
set_option linter.unusedVariables false

theorem rdr_below {B C : Nat} {w w' : World} {v : Value} {k : Int} (h : Rdr B w v k) (hb : Below C w w') (hB : B < C) : Rdr B w' v k :=
  ⟨(hb.cell (p := ⟨B, 0, none⟩) hB).trans h.1, (hb.cell (p := ⟨B, 1, none⟩) hB).trans h.2, (hb.frozen (p := ⟨B, 1, none⟩) hB).trans h.3⟩
theorem rdr_grown {B g : Nat} {w w' : World} {v : Value} {k : Int} (h : Rdr B w v k) (hb : w.grownBy w' (some g)) (hne : B ≠ g) : Rdr B w' v k := by
  have hlt := World.block_lt_of_cell? w _ h.1
  have hblk := hb.block B hlt (by simpa using hne)
  exact ⟨(World.cell?_of_block (a := ⟨B, 0, none⟩) hblk).trans h.1, (World.cell?_of_block (a := ⟨B, 1, none⟩) hblk).trans h.2, (World.frozen?_of_block (a := ⟨B, 1, none⟩) hblk).trans h.3⟩

set_option maxRecDepth 100000 in
set_option maxHeartbeats 1000000 in
theorem tryInt_ok (B : Nat) (a : Option Addr) (len cap : Nat) (k : Int) (n next : Int) (w : World) (hr : Rdr B w (.slice a len cap) k) (h0 : 0 ≤ k) (h1 : k ≤ len) (hl : len ≤ 65536)
    (hread : ∀ w0, Below w.heap.size w w0 → Calls Tryd.prog 18 #[.pointer (some ⟨B, 0, none⟩)] w0 fun e w' => w0.grownBy w' (some B) ∧ e = .returned (.int .i64 n) ∧ Rdr B w' (.slice a len cap) next) :
    Calls Tryd.prog 25 #[.pointer (some ⟨B, 0, none⟩), .func (.func 18) #[] #[]] w fun e w' => e = .returned (.tuple #[.int .i64 n, .nilIface]) ∧ Rdr B w' (.slice a len cap) next ∧ w.grownBy w' (some B) := by
  have hmf : ∀ (fn : Fn) (first cap : Array Value) (w : World), (Instr.makeFunc fn first cap).run Tryd.prog w = .ok (.func fn first cap) w := fun _ _ _ _ => rfl
  have HR := hide hr
  have HRd := hide hread
  clear hr hread
  go_enter_defers Tryd.func25, Tryd.ntmps25
  go_wp2_with fail
  refine (check_ok B k a len cap _ (rdr_below (unhide HR) ((Below.refl _ w).alloc (Nat.le_refl _) _) (World.block_lt_of_cell? w _ (unhide HR).1)) h0 h1 hl).mono ?_
  rintro e w1 ⟨rfl, q, rfl⟩
  go_wp2_with fail
  refine (unhide HRd _ (below_drewN' ((Below.refl _ w).alloc (Nat.le_refl _) _) q)).mono ?_
  rintro e w2 ⟨hg, rfl, hr2⟩
  have hlt : B < w.heap.size := World.block_lt_of_cell? w _ (unhide HR).1
  have hcE : w2.cell? ⟨w.heap.size, 0, none⟩ = some .nilIface := hg.cell (a := ⟨w.heap.size, 0, none⟩) (by simp) (by simp; omega)
  have hfE : w2.frozen? ⟨w.heap.size, 0, none⟩ = false := by
    rw [World.frozen?_of_block (w := (w.alloc (.cells #[.nilIface] 56)).drewN q) (hg.block w.heap.size (by simp) (by simp; omega))]; simp
  have HG := hide hg
  have HR2 := hide hr2
  clear hg hr2
  go_wp2_with fail
  refine leaves_cons (f := 35) (args := #[.pointer (some ⟨w.heap.size, 0, none⟩)]) (by simp) (by simp [go_sem]) ?_
  refine (catch_idle ⟨w.heap.size, 0, none⟩ _).mono ?_
  rintro e u' w'' ⟨rfl, rfl, rfl⟩
  have hfin : w.grownBy (w2.setCell ⟨w.heap.size, 0, none⟩ .nilIface) (some B) := by
    refine ⟨(unhide HG).os, (unhide HG).tape, (unhide HG).output, ?_, fun i hi hne => ?_⟩
    · have := (unhide HG).size; simp [World.setCell] at this ⊢; omega
    · rw [Below.heap_setCell _ _ _ _ (by show i ≠ w.heap.size; omega), (unhide HG).block i (by simp; omega) hne]
      exact Below.heap_alloc w _ i hi
  have hrd : Rdr B (w2.setCell ⟨w.heap.size, 0, none⟩ .nilIface) (.slice a len cap) next := rdr_grown (unhide HR2) (gr_set w2 ⟨w.heap.size, 0, none⟩ .nilIface) (by show B ≠ w.heap.size; omega)
  simp [Leaves, settle, results, Tryd.results25, go_sem, World.cell?_setCell_same _ _ .nilIface hcE]
  exact ⟨hrd, hfin⟩

theorem gr_err {B q : Nat} {w w2 : World} {x : Value} (hg : ((w.alloc (.cells #[.nilIface] 56)).drewN q).grownBy w2 (some B)) : w.grownBy (w2.setCell ⟨w.heap.size, 0, none⟩ x) (some B) := by
  refine ⟨hg.os, hg.tape, hg.output, ?_, fun i hi hne => ?_⟩
  · have := hg.size; simp [World.setCell] at this ⊢; omega
  · rw [Below.heap_setCell _ _ _ _ (by show i ≠ w.heap.size; omega), hg.block i (by simp; omega) hne]
    exact Below.heap_alloc w _ i hi

set_option maxRecDepth 100000 in
set_option maxHeartbeats 1000000 in
theorem tryInt_fail (B : Nat) (a : Option Addr) (len cap : Nat) (k c : Int) (w : World) (hr : Rdr B w (.slice a len cap) k) (h0 : 0 ≤ k) (h1 : k ≤ len) (hl : len ≤ 65536)
    (hread : ∀ w0, Below w.heap.size w w0 → Calls Tryd.prog 18 #[.pointer (some ⟨B, 0, none⟩)] w0 fun e w' => w0.grownBy w' (some B) ∧ ∃ p, e = .panicked (fault c p)) :
    Calls Tryd.prog 25 #[.pointer (some ⟨B, 0, none⟩), .func (.func 18) #[] #[]] w fun e w' => (∃ p, e = .returned (.tuple #[.int .i64 0, faultV c p])) ∧ w.grownBy w' (some B) := by
  have hmf : ∀ (fn : Fn) (first cap : Array Value) (w : World), (Instr.makeFunc fn first cap).run Tryd.prog w = .ok (.func fn first cap) w := fun _ _ _ _ => rfl
  have HR := hide hr
  have HRd := hide hread
  clear hr hread
  go_enter_defers Tryd.func25, Tryd.ntmps25
  go_wp2_with fail
  refine (check_ok B k a len cap _ (rdr_below (unhide HR) ((Below.refl _ w).alloc (Nat.le_refl _) _) (World.block_lt_of_cell? w _ (unhide HR).1)) h0 h1 hl).mono ?_
  rintro e w1 ⟨rfl, q, rfl⟩
  go_wp2_with fail
  refine (unhide HRd _ (below_drewN' ((Below.refl _ w).alloc (Nat.le_refl _) _) q)).mono ?_
  rintro e w2 ⟨hg, p, rfl⟩
  have hlt : B < w.heap.size := World.block_lt_of_cell? w _ (unhide HR).1
  have hcE : w2.cell? ⟨w.heap.size, 0, none⟩ = some .nilIface := hg.cell (a := ⟨w.heap.size, 0, none⟩) (by simp) (by simp; omega)
  have hfE : w2.frozen? ⟨w.heap.size, 0, none⟩ = false := by
    rw [World.frozen?_of_block (w := (w.alloc (.cells #[.nilIface] 56)).drewN q) (hg.block w.heap.size (by simp) (by simp; omega))]; simp
  have HG := hide hg
  clear hg
  go_wp2_with fail
  refine leaves_cons (f := 35) (args := #[.pointer (some ⟨w.heap.size, 0, none⟩)]) (by simp) (by simp [go_sem]) ?_
  refine (catch_panicking ⟨w.heap.size, 0, none⟩ .nilIface c p [] _ hcE hfE).mono ?_
  rintro e u' w'' ⟨rfl, rfl, rfl⟩
  simp [Leaves, settle, results, Tryd.results25, go_sem, World.cell?_setCell_same _ _ (faultV c p) hcE]
  exact ⟨⟨p, rfl⟩, gr_err (unhide HG)⟩

set_option maxRecDepth 100000 in
set_option maxHeartbeats 1000000 in
theorem tryInt_check (B : Nat) (a : Option Addr) (len cap : Nat) (k c : Int) (w : World) (hr : Rdr B w (.slice a len cap) k)
    (hchk : ∀ w0, Rdr B w0 (.slice a len cap) k → Calls Tryd.prog 36 #[.pointer (some ⟨B, 0, none⟩)] w0 fun e w' => e = .panicked (fault c k) ∧ ∃ q, w' = w0.drewN q) :
    Calls Tryd.prog 25 #[.pointer (some ⟨B, 0, none⟩), .func (.func 18) #[] #[]] w fun e w' => (∃ p, e = .returned (.tuple #[.int .i64 0, faultV c p])) ∧ w.grownBy w' (some B) := by
  have hmf : ∀ (fn : Fn) (first cap : Array Value) (w : World), (Instr.makeFunc fn first cap).run Tryd.prog w = .ok (.func fn first cap) w := fun _ _ _ _ => rfl
  have HR := hide hr
  have HCk := hide hchk
  clear hr hchk
  go_enter_defers Tryd.func25, Tryd.ntmps25
  go_wp2_with fail
  refine (unhide HCk _ (rdr_below (unhide HR) ((Below.refl _ w).alloc (Nat.le_refl _) _) (World.block_lt_of_cell? w _ (unhide HR).1))).mono ?_
  rintro e w1 ⟨rfl, q, hw1⟩
  have hcE : w1.cell? ⟨w.heap.size, 0, none⟩ = some .nilIface := by rw [hw1]; simp
  have hfE : w1.frozen? ⟨w.heap.size, 0, none⟩ = false := by rw [hw1]; simp
  have HG : Hid (((w.alloc (.cells #[.nilIface] 56)).drewN q).grownBy w1 (some B)) := by rw [hw1]; exact World.grownBy.refl _ _
  clear hw1
  go_wp2_with fail
  refine leaves_cons (f := 35) (args := #[.pointer (some ⟨w.heap.size, 0, none⟩)]) (by simp) (by simp [go_sem]) ?_
  refine (catch_panicking ⟨w.heap.size, 0, none⟩ .nilIface c k [] _ hcE hfE).mono ?_
  rintro e u' w'' ⟨rfl, rfl, rfl⟩
  simp [Leaves, settle, results, Tryd.results25, go_sem, World.cell?_setCell_same _ _ (faultV c k) hcE]
  exact ⟨⟨k, rfl⟩, gr_err (unhide HG)⟩
end Go.Proofs.YtoaoiiafmojaaaaDoor
