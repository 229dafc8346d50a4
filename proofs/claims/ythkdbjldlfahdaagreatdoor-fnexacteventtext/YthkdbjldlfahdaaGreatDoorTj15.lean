/-
  What the reading of a number at a place answers, proved by walking it: the number, the place behind it and OK, or zeros and a code; nothing that was there is turned.
-/
import Derived.Test.YthkdbjldlfahdaaGreatDoorTj02
import Derived.Test.YthkdbjldlfahdaaGreatDoorTj14
import Derived.WalkLawsBesides
import Derived.Laws.Externs
import Derived.WalkSpells
namespace Go.Proofs.YthkdbjldlfahdaaGreatDoor
open Go.RowKit
set_option linter.unusedVariables false

set_option maxRecDepth 100000 in
set_option maxHeartbeats 1000000 in
theorem codeOf_any (c k : Int) (w : World) (hg : ErrT w) :
    Calls Tryz.prog 62 #[faultV c k] w fun e w' => e = .returned (.int .i64 c) ∧ Below w.heap.size w w' := by
  have HG := hide (errT_below hg ((Below.refl _ w).alloc (Nat.le_refl _) (.cells #[.int .i64 0, .int .i64 0] 92)) (Nat.le_refl _))
  clear hg
  unfold faultV
  go_enter Tryz.func62, Tryz.ntmps62
  go_wp2_with fail
  refine (as_hit w.heap.size c k (.int .i64 0) (.int .i64 0) _ (unhide HG) (by simp) (by simp) (by simp) (by simp)).mono ?_
  rintro e w1 ⟨rfl, hw1⟩
  have hc0 : w1.cell? ⟨w.heap.size, 0, none⟩ = some (.int .i64 c) := by
    rw [hw1, World.cell?_setCell_other _ _ _ _ (addr_ne (by omega))]
    refine World.cell?_setCell_same _ _ _ (u := .int .i64 0) ?_
    rw [World.cell?_alloc_lt _ _ ⟨w.heap.size, 0, none⟩ (by simp; omega), World.cell?_alloc_lt _ _ ⟨w.heap.size, 0, none⟩ (by simp; omega), World.cell?_alloc_lt _ _ ⟨w.heap.size, 0, none⟩ (by simp; omega), World.cell?_alloc_lt _ _ ⟨w.heap.size, 0, none⟩ (by simp)]
    simp
  have hb : Hid (Below w.heap.size w w1) := by
    rw [hw1]
    exact ((((((Below.refl _ w).alloc (Nat.le_refl _) _).alloc (by simp) _).alloc (by simp; omega) _).alloc (by simp; omega) _).alloc (by simp; omega) _ |>.setCell (p := ⟨w.heap.size, 0, none⟩) (Nat.le_refl _) _).setCell (p := ⟨w.heap.size, 1, none⟩) (Nat.le_refl _) _
  clear hw1
  go_wp2_with fail
  go_ret
  exact ⟨rfl, unhide hb⟩

set_option maxRecDepth 100000 in
theorem number_empty (B : Nat) (w : World) (a : Option Addr) (cap : Nat) (hr : Rdr B w (.slice a 0 cap) 0) :
    Calls Tryz.prog 70 #[.pointer (some ⟨B, 0, none⟩)] w fun e w' => NumEnd B (.slice a 0 cap) w none e w' := by
  go_enter Tryz.func70, Tryz.ntmps70
  go_wp2_with fail
  refine wp_loop_rounds 1 ?_
  rw [rounds_succ]
  go_wp2_with fail
  refine (take_end B 1 0 a 0 cap _ hr (by omega) (by omega) (by omega) (by omega) (by omega)).mono ?_
  rintro e w1 ⟨rfl, q, rfl⟩
  go_wp2_with fail
  exact ⟨rfl, numEnd_fail (gr_drewN _ _ _) rfl _⟩

/-- The bytes are read with the reader in a new block. -/
theorem number_any (B : Nat) (v : Value) (l : List Int) (k : Nat) (w w0 : World) (hrd : Rd w v l) (hcap : ∀ a n c, v = .slice a n c → n ≤ c) (hBw : w.heap.size ≤ B) (hbel : Below w.heap.size w w0) (hr : Rdr B w0 v k) (hk : k ≤ l.length) (hl : l.length ≤ 65536) (hb : Bts l) :
    Calls Tryz.prog 70 #[.pointer (some ⟨B, 0, none⟩)] w0 fun e w' => NumEnd B v w0 (getU l k) e w' := by
  have hrd0 := rd_below hrd hbel (Nat.le_refl _)
  obtain ⟨a, cap, rfl, _, hc⟩ := hrd0
  obtain ⟨a', cap', e', _, hc'⟩ := hrd
  by_cases hne : l = []
  · subst hne
    obtain rfl : k = 0 := by simpa using hk
    have : getU [] 0 = none := rfl
    rw [this]
    exact number_empty B w0 a cap hr
  · obtain ⟨b, off, rfl, hcell⟩ := hc hne
    have hlt : b < w.heap.size := by
      simp only [Value.slice.injEq] at e'
      obtain ⟨rfl, _, rfl⟩ := e'
      obtain ⟨b2, o2, e2, hcell2⟩ := hc' hne
      simp only [Option.some.injEq, Addr.mk.injEq] at e2
      obtain ⟨rfl, rfl, _⟩ := e2
      have hp : 0 < l.length := List.length_pos_iff.2 hne
      exact World.block_lt_of_cell? w _ (hcell2 0 hp)
    exact number_some B w0 b off cap k l hr hk hl (hcap _ _ _ rfl) (by omega) hcell hb
end Go.Proofs.YthkdbjldlfahdaaGreatDoor
namespace Go.Proofs.YthkdbjldlfahdaaGreatDoor
open Go.RowKit

/-- The float is a NaN. -/
def nanB (x : Nat) : Bool := FloatKind.f64.format.order x x != some Ordering.eq

theorem read_rung (neg : Bool) (r : Nat) (h : r ≤ Ieee.double.infRung) : ¬ (Ieee.double.read (Ieee.double.word neg r)).isNaN = true := by
  have h1 : Ieee.double.infRung = 9218868437227405312 := by decide
  have h2 : Ieee.double.signWeight = 9223372036854775808 := by decide
  have hr : Ieee.double.word neg r % Ieee.double.signWeight = r := by
    unfold Ieee.Format.word
    cases neg <;> simp only [h2, if_true, if_false, Bool.false_eq_true] <;> omega
  unfold Ieee.Format.read
  simp only [hr]
  split
  · simp [Ieee.Datum.isNaN]
  · split
    · simp [Ieee.Datum.isNaN]
    · rw [if_pos (by omega)]; simp [Ieee.Datum.isNaN]
theorem datum_self (d : Ieee.Datum) (h : ¬ d.isNaN = true) : d.order d = some Ordering.eq := by
  cases d with
  | nan s f => simp [Ieee.Datum.isNaN] at h
  | infinity s => cases s <;> rfl
  | number s m i => simp [Ieee.Datum.order, Std.ReflCmp.compare_self]
theorem ofInt_order (n : Int) : FloatKind.f64.format.order (floatOfInt .f64 n) (floatOfInt .f64 n) = some Ordering.eq := by
  refine datum_self _ ?_
  show ¬ (Ieee.double.read (Ieee.double.nearest (n < 0) n.natAbs 0)).isNaN = true
  unfold Ieee.Format.nearest
  split
  · exact read_rung _ _ (Nat.zero_le _)
  · exact read_rung _ _ (Nat.min_le_right _ _)
end Go.Proofs.YthkdbjldlfahdaaGreatDoor
namespace Go.Proofs.YthkdbjldlfahdaaGreatDoor
open Go.RowKit

theorem fbits (x : Nat) (w : World) : (callFunc 44 #[.float .f64 x]).run Tryz.prog w = .ok (.value (.int .u64 x)) w := by
  rw [run_callFunc_extern (e := Extern.MathFloatBits.float64bits) Tryz.func44 (by kernel_rfl) (by kernel_rfl) (by kernel_rfl) (by kernel_rfl)]
  rfl

theorem isNaN_any (x : Nat) (w : World) :
    Calls Tryz.prog 65 #[.float .f64 x] w fun e w' => e = .returned (.bool (nanB x)) ∧ w' = w := by
  go_enter Tryz.func65, Tryz.ntmps65
  go_wp2
  go_ret
  exact ⟨rfl, rfl⟩
end Go.Proofs.YthkdbjldlfahdaaGreatDoor
