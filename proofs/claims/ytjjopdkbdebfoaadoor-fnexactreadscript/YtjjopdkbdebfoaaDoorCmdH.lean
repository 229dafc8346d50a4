/-
  The marks of a row of commands are found: proved by walking the laws' own helper.
-/
import Derived.Test.YtjjopdkbdebfoaaDoorCmdM
namespace Go.Proofs.YtjjopdkbdebfoaaDoor
open Go.RowKit
set_option linter.unusedVariables false

set_option maxRecDepth 100000 in
set_option maxHeartbeats 800000 in
theorem heldCmdS_any (v : Value) (len k : Nat) (w : World) (hl : len ≤ 2097152) (hk0 : 0 < k) (hk1 : k ≤ 1000000000) (hr : RdR Cm.vs 8 w v (marksC k len)) :
    Calls Tryd.prog 12 #[v, .int .i64 k] w fun e w' => e = .returned (.int .i64 ((k + 8 * len : Nat) : Int)) ∧ Below w.heap.size w w' := by
  obtain ⟨a, cap, rfl, _, hc⟩ := hr
  rw [marksC_len]
  have hcell : ∀ (m : Nat), m < len → ∃ b off, a = some ⟨b, off, none⟩ ∧ b < w.heap.size ∧ w.rangeAt b (off + m * 8) (markC (k + 8 * m)).vs := by
    intro m hm
    have hg := marksC_get (k := k) hm
    obtain ⟨b, off, h1, h2, h3⟩ := hc (by intro h; rw [h] at hg; simp at hg)
    exact ⟨b, off, h1, h2, h3 m _ hg⟩
  have HC := hide hcell
  clear hcell hc
  go_enter Tryd.func12, Tryd.ntmps12
  go_wp2_with fail
  go_loopw [1, 5] (fun kv i wr => ∃ m kk : Nat, m ≤ len ∧ i = .int .i64 m ∧ kv = .int .i64 kk ∧ Hid (kk = k + 8 * m) ∧ Below w.heap.size w wr) (fun _ i _ => len - (intOf i).toNat)
  case atStart => exact ⟨0, k, Nat.zero_le _, rfl, rfl, rfl, Below.refl _ _⟩
  case round =>
    obtain ⟨m, kk, hm, rfl, rfl, hkk, hbel⟩ := hrel
    have HB := hide hbel
    have hkb : (kk : Int) ≤ 1020000000 := by have := unhide hkk; omega
    clear hbel
    by_cases hlt : m < len
    · obtain ⟨b, off, rfl, hb, hcl⟩ := unhide HC m hlt
      rw [← unhide hkk] at hcl
      obtain ⟨g0, g1, g2, g3, g4, g5, g6, g7⟩ := cm_cells (range_below hcl (unhide HB) hb)
      simp only [markC] at g0 g1 g2 g3 g4 g5 g6 g7
      have HG7 := hide g7
      have ho := ofInt_order ((kk : Int) + 1 + 1 + 1 + 1 + 1 + 1)
      have ho' : (FloatKind.f64.format.order (floatOfInt .f64 ((kk : Int) + 1 + 1 + 1 + 1 + 1 + 1)) (floatOfInt .f64 ((kk : Int) + 1 + 1 + 1 + 1 + 1 + 1)) != some Ordering.eq) = false := by rw [ho]; rfl
      have hlt' : (m : Int) < len := by omega
      have hbw : Hid (b < wr.heap.size) := Nat.lt_of_lt_of_le hb (unhide HB).size
      clear hcl ho hb
      go_wp2_with fail
      go_region_with (go_at_call 21; refine (markText_at _ (kk + 7) _ (by omega) (by omega) (by omega)).mono ?_; rintro e W2 ⟨rfl, hb2⟩; have c7 := (hb2.cell (p := ⟨b, off + m * 8 + 7, none⟩) (unhide hbw)).trans (unhide HG7); have HB2 := hide ((unhide HB).drew.trans (hb2.mono (unhide HB).drew.size)); clear hb2)
      all_goals go_wp2_with fail
      all_goals
        exact ⟨⟨m + 1, kk + 8, by omega, by go_num, congrArg (Value.int .i64) (by omega), by have := unhide hkk; show kk + 8 = _; omega, unhide HB2⟩, by simp [intOf]; omega⟩
    · go_wp2_with fail
      go_ret
      obtain rfl : m = len := by omega
      have h := unhide hkk
      subst h
      exact ⟨rfl, unhide HB⟩
end Go.Proofs.YtjjopdkbdebfoaaDoor
