/-
  The face of a reading of a text, proved by walking it: the deferred function that recovers, the trying, and what the reading answers.
-/
import Derived.Test.YtoaoiiafmojaaaaDoorReadAtI
namespace Go.Proofs.YtoaoiiafmojaaaaDoor
open Go.RowKit
set_option linter.unusedVariables false

def tupS (x : ByteArray) (y : Int × Int) : Value := .tuple #[.string x, .int .i64 y.1, .int .i64 y.2]
theorem catch_panickingS (p : Addr) (x : Value) (c k : Int) (older : List PanicEntry) (w : World) (hc : w.cell? p = some x) (hz : w.frozen? p = false) :
    CallsD Tryd.prog 40 #[.pointer (some p)] (.panicking ({ v := faultV c k, recovered := false } :: older)) w fun e u' w' =>
      e = .returned (.tuple #[]) ∧ u' = .panicking ({ v := faultV c k, recovered := true } :: older) ∧ w' = w.setCell p (faultV c k) := by
  refine callsD_of_wpS Tryd.func40 rfl fun c₀ cs hu => ?_
  simp only [faultV] at hu ⊢
  apply wpS_seq
  apply wpS_region
  simp [wpOpsS, go_sem, recoverD, hu, Tryd.ntmps40, Exit.thenS, ta_fault]
  apply wpS_seq
  apply wpS_region
  simp [wpOpsS, go_sem, Exit.thenS]
  refine wpS_cond (t := true) (by simp [Act.eval, Array.replicate]) ?_
  simp only [if_true]
  apply wpS_region
  simp [wpOpsS, go_sem, hc, hz, bodyPostS, results, Tryd.results40]

theorem catch_idleS (p : Addr) (w : World) :
    CallsD Tryd.prog 40 #[.pointer (some p)] .returning w fun e u' w' => e = .returned (.tuple #[]) ∧ u' = .returning ∧ w' = w := by
  refine callsD_of_wpS Tryd.func40 rfl fun c₀ cs hu => ?_
  apply wpS_seq
  apply wpS_region
  simp [wpOpsS, go_sem, recoverD, hu, Tryd.ntmps40, Exit.thenS, ta_nil]
  apply wpS_seq
  apply wpS_region
  simp [wpOpsS, go_sem, Exit.thenS]
  refine wpS_cond (t := false) (by simp [Act.eval, Array.replicate]) ?_
  simp only [Bool.false_eq_true, if_false]
  refine wpS_of_wp (wp_skip ?_)
  cases c₀
  simp_all [bodyPostS, results, Tryd.results40]

set_option maxRecDepth 100000 in
set_option maxHeartbeats 1000000 in
theorem tryS_ok (B : Nat) (a : Option Addr) (len cap : Nat) (k : Int) (n : ByteArray) (next : Int) (w : World) (hr : Rdr B w (.slice a len cap) k) (h0 : 0 ≤ k) (h1 : k ≤ len) (hl : len ≤ 65536)
    (hread : ∀ w0, Below w.heap.size w w0 → Calls Tryd.prog 24 #[.pointer (some ⟨B, 0, none⟩)] w0 fun e w' => w0.grownBy w' (some B) ∧ e = .returned (.string n) ∧ Rdr B w' (.slice a len cap) next) :
    Calls Tryd.prog 34 #[.pointer (some ⟨B, 0, none⟩), .func (.func 24) #[] #[]] w fun e w' => e = .returned (.tuple #[.string n, .nilIface]) ∧ Rdr B w' (.slice a len cap) next ∧ w.grownBy w' (some B) := by
  have hmf : ∀ (fn : Fn) (first cap : Array Value) (w : World), (Instr.makeFunc fn first cap).run Tryd.prog w = .ok (.func fn first cap) w := fun _ _ _ _ => rfl
  have HR := hide hr
  have HRd := hide hread
  clear hr hread
  go_enter_defers Tryd.func34, Tryd.ntmps34
  go_wp2_with fail
  refine (check_ok B k a len cap _ (rdr_below (unhide HR) ((Below.refl _ w).alloc (Nat.le_refl _) _) (World.block_lt_of_cell? w _ (unhide HR).1)) h0 h1 hl).mono ?_
  rintro e w1 ⟨rfl, q, rfl⟩
  go_wp2_with fail
  refine (unhide HRd _ (below_drewN' ((Below.refl _ w).alloc (Nat.le_refl _) _) q)).mono ?_
  rintro e w2 ⟨hg, rfl, hr2⟩
  have hlt : B < w.heap.size := World.block_lt_of_cell? w _ (unhide HR).1
  have hcE : w2.cell? ⟨w.heap.size, 0, none⟩ = some .nilIface := hg.cell (a := ⟨w.heap.size, 0, none⟩) (by simp) (by simp; omega)
  have hfE : w2.frozen? ⟨w.heap.size, 0, none⟩ = false := by
    rw [World.frozen?_of_block (w := (w.alloc (.cells #[.nilIface] 56)).drewN q) (hg.block w.heap.size (by simp) (by simp; omega))]; simp
  have HG := hide hg
  have HR2 := hide hr2
  clear hg hr2
  go_wp2_with fail
  refine leaves_cons (f := 40) (args := #[.pointer (some ⟨w.heap.size, 0, none⟩)]) (by simp) (by simp [go_sem]) ?_
  refine (catch_idleS ⟨w.heap.size, 0, none⟩ _).mono ?_
  rintro e u' w'' ⟨rfl, rfl, rfl⟩
  have hfin : w.grownBy (w2.setCell ⟨w.heap.size, 0, none⟩ .nilIface) (some B) := by
    refine ⟨(unhide HG).os, (unhide HG).tape, (unhide HG).output, ?_, fun i hi hne => ?_⟩
    · have := (unhide HG).size; simp [World.setCell] at this ⊢; omega
    · rw [Below.heap_setCell _ _ _ _ (by show i ≠ w.heap.size; omega), (unhide HG).block i (by simp; omega) hne]
      exact Below.heap_alloc w _ i hi
  have hrd : Rdr B (w2.setCell ⟨w.heap.size, 0, none⟩ .nilIface) (.slice a len cap) next := rdr_grown (unhide HR2) (gr_set w2 ⟨w.heap.size, 0, none⟩ .nilIface) (by show B ≠ w.heap.size; omega)
  simp [Leaves, settle, results, Tryd.results34, go_sem, World.cell?_setCell_same _ _ .nilIface hcE]
  exact ⟨hrd, hfin⟩

set_option maxRecDepth 100000 in
set_option maxHeartbeats 1000000 in
theorem tryS_fail (B : Nat) (a : Option Addr) (len cap : Nat) (k c : Int) (w : World) (hr : Rdr B w (.slice a len cap) k) (h0 : 0 ≤ k) (h1 : k ≤ len) (hl : len ≤ 65536)
    (hread : ∀ w0, Below w.heap.size w w0 → Calls Tryd.prog 24 #[.pointer (some ⟨B, 0, none⟩)] w0 fun e w' => w0.grownBy w' (some B) ∧ ∃ p, e = .panicked (fault c p)) :
    Calls Tryd.prog 34 #[.pointer (some ⟨B, 0, none⟩), .func (.func 24) #[] #[]] w fun e w' => (∃ p, e = .returned (.tuple #[.string ⟨#[]⟩, faultV c p])) ∧ w.grownBy w' (some B) := by
  have hmf : ∀ (fn : Fn) (first cap : Array Value) (w : World), (Instr.makeFunc fn first cap).run Tryd.prog w = .ok (.func fn first cap) w := fun _ _ _ _ => rfl
  have HR := hide hr
  have HRd := hide hread
  clear hr hread
  go_enter_defers Tryd.func34, Tryd.ntmps34
  go_wp2_with fail
  refine (check_ok B k a len cap _ (rdr_below (unhide HR) ((Below.refl _ w).alloc (Nat.le_refl _) _) (World.block_lt_of_cell? w _ (unhide HR).1)) h0 h1 hl).mono ?_
  rintro e w1 ⟨rfl, q, rfl⟩
  go_wp2_with fail
  refine (unhide HRd _ (below_drewN' ((Below.refl _ w).alloc (Nat.le_refl _) _) q)).mono ?_
  rintro e w2 ⟨hg, p, rfl⟩
  have hlt : B < w.heap.size := World.block_lt_of_cell? w _ (unhide HR).1
  have hcE : w2.cell? ⟨w.heap.size, 0, none⟩ = some .nilIface := hg.cell (a := ⟨w.heap.size, 0, none⟩) (by simp) (by simp; omega)
  have hfE : w2.frozen? ⟨w.heap.size, 0, none⟩ = false := by
    rw [World.frozen?_of_block (w := (w.alloc (.cells #[.nilIface] 56)).drewN q) (hg.block w.heap.size (by simp) (by simp; omega))]; simp
  have HG := hide hg
  clear hg
  go_wp2_with fail
  refine leaves_cons (f := 40) (args := #[.pointer (some ⟨w.heap.size, 0, none⟩)]) (by simp) (by simp [go_sem]) ?_
  refine (catch_panickingS ⟨w.heap.size, 0, none⟩ .nilIface c p [] _ hcE hfE).mono ?_
  rintro e u' w'' ⟨rfl, rfl, rfl⟩
  simp [Leaves, settle, results, Tryd.results34, go_sem, World.cell?_setCell_same _ _ (faultV c p) hcE]
  exact ⟨⟨p, rfl⟩, gr_err (unhide HG)⟩

set_option maxRecDepth 100000 in
set_option maxHeartbeats 1000000 in
theorem tryS_check (B : Nat) (a : Option Addr) (len cap : Nat) (k c : Int) (w : World) (hr : Rdr B w (.slice a len cap) k)
    (hchk : ∀ w0, Rdr B w0 (.slice a len cap) k → Calls Tryd.prog 36 #[.pointer (some ⟨B, 0, none⟩)] w0 fun e w' => e = .panicked (fault c k) ∧ ∃ q, w' = w0.drewN q) :
    Calls Tryd.prog 34 #[.pointer (some ⟨B, 0, none⟩), .func (.func 24) #[] #[]] w fun e w' => (∃ p, e = .returned (.tuple #[.string ⟨#[]⟩, faultV c p])) ∧ w.grownBy w' (some B) := by
  have hmf : ∀ (fn : Fn) (first cap : Array Value) (w : World), (Instr.makeFunc fn first cap).run Tryd.prog w = .ok (.func fn first cap) w := fun _ _ _ _ => rfl
  have HR := hide hr
  have HCk := hide hchk
  clear hr hchk
  go_enter_defers Tryd.func34, Tryd.ntmps34
  go_wp2_with fail
  refine (unhide HCk _ (rdr_below (unhide HR) ((Below.refl _ w).alloc (Nat.le_refl _) _) (World.block_lt_of_cell? w _ (unhide HR).1))).mono ?_
  rintro e w1 ⟨rfl, q, hw1⟩
  have hcE : w1.cell? ⟨w.heap.size, 0, none⟩ = some .nilIface := by rw [hw1]; simp
  have hfE : w1.frozen? ⟨w.heap.size, 0, none⟩ = false := by rw [hw1]; simp
  have HG : Hid (((w.alloc (.cells #[.nilIface] 56)).drewN q).grownBy w1 (some B)) := by rw [hw1]; exact World.grownBy.refl _ _
  clear hw1
  go_wp2_with fail
  refine leaves_cons (f := 40) (args := #[.pointer (some ⟨w.heap.size, 0, none⟩)]) (by simp) (by simp [go_sem]) ?_
  refine (catch_panickingS ⟨w.heap.size, 0, none⟩ .nilIface c k [] _ hcE hfE).mono ?_
  rintro e u' w'' ⟨rfl, rfl, rfl⟩
  simp [Leaves, settle, results, Tryd.results34, go_sem, World.cell?_setCell_same _ _ (faultV c k) hcE]
  exact ⟨⟨k, rfl⟩, gr_err (unhide HG)⟩

set_option maxRecDepth 100000 in
set_option maxHeartbeats 1000000 in
theorem readS_fault (v : Value) (len : Nat) (a : Option Addr) (cap : Nat) (hv : v = .slice a len cap) (at_ c : Int) (w : World) (hE : ErrT w)
    (htry : ∀ w0, w0 = w.alloc (.cells #[v, .int .i64 at_] 54) → Calls Tryd.prog 34 #[.pointer (some ⟨w.heap.size, 0, none⟩), .func (.func 24) #[] #[]] w0 fun e w' => (∃ p, e = .returned (.tuple #[.string ⟨#[]⟩, faultV c p])) ∧ w0.grownBy w' (some w.heap.size)) :
    Calls Tryd.prog 23 #[v, .int .i64 at_, .func (.func 24) #[] #[]] w fun e w' => e = .returned (tupS (⟨#[]⟩) (0, c)) ∧ Below w.heap.size w w' := by
  subst hv
  have HT := hide htry
  have HE := hide hE
  clear htry hE
  go_enter Tryd.func23, Tryd.ntmps23
  go_wp2_with fail
  refine (unhide HT _ rfl).mono ?_
  rintro e w1 ⟨⟨p, rfl⟩, hg⟩
  have hb : Below w.heap.size w w1 := ((Below.refl _ w).alloc (Nat.le_refl _) _).trans (gr_below hg (Nat.le_refl _) (by simp))
  have HB := hide hb
  have HE1 := hide (errT_below (unhide HE) hb (Nat.le_refl _))
  clear hg hb
  unfold faultV
  go_wp2_with fail
  refine (codeOf_any c p _ (unhide HE1)).mono ?_
  rintro e w2 ⟨rfl, hb2⟩
  have HB2 := hide hb2
  clear hb2
  go_wp2_with fail
  go_ret3
  exact ⟨rfl, (unhide HB).trans ((unhide HB2).mono (unhide HB).size)⟩

set_option maxRecDepth 100000 in
set_option maxHeartbeats 1000000 in
theorem readS_fine (v : Value) (len : Nat) (a : Option Addr) (cap : Nat) (hv : v = .slice a len cap) (at_ : Int) (n : ByteArray) (next : Int) (w : World)
    (htry : ∀ w0, w0 = w.alloc (.cells #[v, .int .i64 at_] 54) → Calls Tryd.prog 34 #[.pointer (some ⟨w.heap.size, 0, none⟩), .func (.func 24) #[] #[]] w0 fun e w' => e = .returned (.tuple #[.string n, .nilIface]) ∧ Rdr w.heap.size w' v next ∧ w0.grownBy w' (some w.heap.size)) :
    Calls Tryd.prog 23 #[v, .int .i64 at_, .func (.func 24) #[] #[]] w fun e w' => e = .returned (tupS n (next, 0)) ∧ Below w.heap.size w w' := by
  subst hv
  have HT := hide htry
  clear htry
  go_enter Tryd.func23, Tryd.ntmps23
  go_wp2_with fail
  refine (unhide HT _ rfl).mono ?_
  rintro e w1 ⟨rfl, hr, hg⟩
  have HB := hide (((Below.refl _ w).alloc (Nat.le_refl _) _).trans (gr_below hg (Nat.le_refl _) (by simp)))
  obtain ⟨c1, c2, c3⟩ := hr
  clear hg
  go_wp2_with fail
  go_quiet (fail)
  go_wp2_with fail
  go_ret3
  exact ⟨rfl, below_drewN' (unhide HB) _⟩
end Go.Proofs.YtoaoiiafmojaaaaDoor
