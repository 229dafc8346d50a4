/-
  Two commands held against each other, and two rows of commands: proved by walking the laws' own helpers.
-/
import Derived.Test.YtjjopdkbdebfoaaDoorCmB
import Derived.Test.YtjjopdkbdebfoaaDoorSameW
import Derived.Deep.RegionWith
namespace Go.Proofs.YtjjopdkbdebfoaaDoor
open Go.RowKit
set_option linter.unusedVariables false

set_option maxHeartbeats 400000 in
theorem eqCmd_same (c : Cm) (w : World) :
    Calls Tryd.prog 7 #[.agg #[.int .i64 c.k, .int .i64 c.s, .int .i64 c.t, .int .i64 c.l, .int .i64 c.q, .int .i64 c.i, .float .f64 c.p, .string c.g], .agg #[.int .i64 c.k, .int .i64 c.s, .int .i64 c.t, .int .i64 c.l, .int .i64 c.q, .int .i64 c.i, .float .f64 c.p, .string c.g]] w fun e w' =>
      e = .returned (.bool true) ∧ Below w.heap.size w w' := by
  obtain ⟨k, s, t, l, q, i, p, g⟩ := c
  simp only
  go_enter Tryd.func7, Tryd.ntmps7
  go_wp2_with (go_at_call 17; refine (sameFloat_any _ _).mono ?_; rintro e w' ⟨rfl, rfl⟩)
  go_returns
  refine ⟨rfl, ?_⟩
  go_grown

set_option maxRecDepth 100000 in
set_option maxHeartbeats 400000 in
theorem eqCmdS_same (va vb : Value) (l : List Cm) (w : World) (ha : RdR Cm.vs 8 w va l) (hb : RdR Cm.vs 8 w vb l) :
    Calls Tryd.prog 10 #[va, vb] w fun e w' => e = .returned (.bool true) ∧ Below w.heap.size w w' := by
  obtain ⟨aa, ca, rfl, hl, hca⟩ := ha
  obtain ⟨ab, cb, rfl, _, hcb⟩ := hb
  have hcell : ∀ (k : Nat) (c : Cm), l[k]? = some c → ∃ b off b' off', aa = some ⟨b, off, none⟩ ∧ ab = some ⟨b', off', none⟩ ∧ b < w.heap.size ∧ b' < w.heap.size ∧ w.rangeAt b (off + k * 8) c.vs ∧ w.rangeAt b' (off' + k * 8) c.vs := by
    intro k c hk
    have hne : l ≠ [] := by intro h; rw [h] at hk; simp at hk
    obtain ⟨b, off, h1, h2, h3⟩ := hca hne
    obtain ⟨b', off', h1', h2', h3'⟩ := hcb hne
    exact ⟨b, off, b', off', h1, h1', h2, h2', h3 k c hk, h3' k c hk⟩
  have HC := hide hcell
  clear hcell hca hcb
  go_enter Tryd.func10, Tryd.ntmps10
  go_wp2_with fail
  go_loopw [5] (fun i wr => ∃ k : Nat, k ≤ l.length ∧ i = .int .i64 k ∧ Below w.heap.size w wr) (fun i _ => l.length - (intOf i).toNat)
  case atStart => exact ⟨0, Nat.zero_le _, rfl, Below.refl _ _⟩
  case round =>
    obtain ⟨k, hk, rfl, hbel⟩ := hrel
    have HB := hide hbel
    clear hbel
    by_cases hlt : k < l.length
    · obtain ⟨c, hkc⟩ : ∃ c, l[k]? = some c := ⟨_, List.getElem?_eq_getElem hlt⟩
      obtain ⟨b, off, b', off', rfl, rfl, hb, hb', hcl, hcl'⟩ := unhide HC k c hkc
      obtain ⟨g0, g1, g2, g3, g4, g5, g6, g7⟩ := cm_cells (range_below hcl (unhide HB) hb)
      obtain ⟨e0, e1, e2, e3, e4, e5, e6, e7⟩ := cm_cells (range_below hcl' (unhide HB) hb')
      have hlt' : (k : Int) < l.length := by omega
      clear hkc hcl hcl' hb hb'
      go_wp2_with fail
      go_region_with (go_at_call 7; refine (eqCmd_same c _).mono ?_; rintro e w2 ⟨rfl, hb2⟩; have HB2 := hide ((unhide HB).drew.trans (hb2.mono (unhide HB).drew.size)); clear hb2)
      go_wp2_with fail
      go_roundw
      case rel => exact ⟨k + 1, by omega, by go_num, unhide HB2⟩
      case measure => simp [intOf]; omega
      all_goals exact ⟨⟨k + 1, by omega, by go_num, unhide HB2⟩, by simp [intOf]; omega⟩
    · go_wp2_with fail
      go_ret
      exact ⟨rfl, unhide HB⟩

end Go.Proofs.YtjjopdkbdebfoaaDoor
