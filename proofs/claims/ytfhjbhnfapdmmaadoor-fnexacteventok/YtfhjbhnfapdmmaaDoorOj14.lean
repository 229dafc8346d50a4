/-
  What the reading of a number at a place answers, proved by walking it: the number, the place behind it and OK, or zeros and a code; nothing that was there is turned.
-/
import Derived.Test.YtfhjbhnfapdmmaaDoorOj13
namespace Go.Proofs.YtfhjbhnfapdmmaaDoor
open Go.RowKit
set_option linter.unusedVariables false

set_option maxRecDepth 100000 in
set_option maxHeartbeats 1000000 in
theorem codeOf_any (c k : Int) (w : World) (hg : ErrT w) :
    Calls Tryd.prog 47 #[faultV c k] w fun e w' => e = .returned (.int .i64 c) ∧ Below w.heap.size w w' := by
  have HG := hide (errT_below hg ((Below.refl _ w).alloc (Nat.le_refl _) (.cells #[.int .i64 0, .int .i64 0] 101)) (Nat.le_refl _))
  clear hg
  unfold faultV
  go_enter Tryd.func47, Tryd.ntmps47
  go_wp2_with fail
  refine (as_hit w.heap.size c k (.int .i64 0) (.int .i64 0) _ (unhide HG) (by simp) (by simp) (by simp) (by simp)).mono ?_
  rintro e w1 ⟨rfl, hw1⟩
  have hc0 : w1.cell? ⟨w.heap.size, 0, none⟩ = some (.int .i64 c) := by
    rw [hw1, World.cell?_setCell_other _ _ _ _ (addr_ne (by omega))]
    refine World.cell?_setCell_same _ _ _ (u := .int .i64 0) ?_
    rw [World.cell?_alloc_lt _ _ ⟨w.heap.size, 0, none⟩ (by simp; omega), World.cell?_alloc_lt _ _ ⟨w.heap.size, 0, none⟩ (by simp; omega), World.cell?_alloc_lt _ _ ⟨w.heap.size, 0, none⟩ (by simp; omega), World.cell?_alloc_lt _ _ ⟨w.heap.size, 0, none⟩ (by simp)]
    simp
  have hb : Hid (Below w.heap.size w w1) := by
    rw [hw1]
    exact ((((((Below.refl _ w).alloc (Nat.le_refl _) _).alloc (by simp) _).alloc (by simp; omega) _).alloc (by simp; omega) _).alloc (by simp; omega) _ |>.setCell (p := ⟨w.heap.size, 0, none⟩) (Nat.le_refl _) _).setCell (p := ⟨w.heap.size, 1, none⟩) (Nat.le_refl _) _
  clear hw1
  go_wp2_with fail
  go_ret
  exact ⟨rfl, unhide hb⟩

set_option maxRecDepth 100000 in
theorem number_empty (B : Nat) (w : World) (a : Option Addr) (cap : Nat) (hr : Rdr B w (.slice a 0 cap) 0) :
    Calls Tryd.prog 78 #[.pointer (some ⟨B, 0, none⟩)] w fun e w' => NumEnd B (.slice a 0 cap) w none e w' := by
  go_enter Tryd.func78, Tryd.ntmps78
  go_wp2_with fail
  refine wp_loop_rounds 1 ?_
  rw [rounds_succ]
  go_wp2_with fail
  refine (take_end B 1 0 a 0 cap _ hr (by omega) (by omega) (by omega) (by omega) (by omega)).mono ?_
  rintro e w1 ⟨rfl, q, rfl⟩
  go_wp2_with fail
  exact ⟨rfl, numEnd_fail (gr_drewN _ _ _) rfl _⟩

/-- The bytes are read with the reader in a new block. -/
theorem number_any (B : Nat) (v : Value) (l : List Int) (k : Nat) (w w0 : World) (hrd : Rd w v l) (hcap : ∀ a n c, v = .slice a n c → n ≤ c) (hBw : w.heap.size ≤ B) (hbel : Below w.heap.size w w0) (hr : Rdr B w0 v k) (hk : k ≤ l.length) (hl : l.length ≤ 65536) (hb : Bts l) :
    Calls Tryd.prog 78 #[.pointer (some ⟨B, 0, none⟩)] w0 fun e w' => NumEnd B v w0 (getU l k) e w' := by
  have hrd0 := rd_below hrd hbel (Nat.le_refl _)
  obtain ⟨a, cap, rfl, _, hc⟩ := hrd0
  obtain ⟨a', cap', e', _, hc'⟩ := hrd
  by_cases hne : l = []
  · subst hne
    obtain rfl : k = 0 := by simpa using hk
    have : getU [] 0 = none := rfl
    rw [this]
    exact number_empty B w0 a cap hr
  · obtain ⟨b, off, rfl, hcell⟩ := hc hne
    have hlt : b < w.heap.size := by
      simp only [Value.slice.injEq] at e'
      obtain ⟨rfl, _, rfl⟩ := e'
      obtain ⟨b2, o2, e2, hcell2⟩ := hc' hne
      simp only [Option.some.injEq, Addr.mk.injEq] at e2
      obtain ⟨rfl, rfl, _⟩ := e2
      have hp : 0 < l.length := List.length_pos_iff.2 hne
      exact World.block_lt_of_cell? w _ (hcell2 0 hp)
    exact number_some B w0 b off cap k l hr hk hl (hcap _ _ _ rfl) (by omega) hcell hb
end Go.Proofs.YtfhjbhnfapdmmaaDoor
