/-
  The copy that the exact laws make of a row of floats, and the helper that holds two such rows against each other, both walked.
-/
import Derived.Test.YteljmhgpffekgaaFlsB
import Derived.Test.YteljmhgpffekgaaSameW
import Derived.Deep.RegionWith
namespace Go.Proofs.Yteljmhgpffekgaa
open Go.RowKit

theorem sflt (a : Addr) (x : Nat) (m : Mode) (w : World) : (store a (.float .f64 x) m).run Try.prog w = stored Try.prog w a (.float .f64 x) m := run_store _ w a _ m rfl

set_option maxRecDepth 100000 in
set_option maxHeartbeats 400000 in
theorem toFloats_any (v : Value) (l : List Nat) (w : World) (hr : RdF w v l) :
    Calls Try.prog 26 #[v] w fun e w' => ∃ v', e = .returned v' ∧ RdF w' v' l ∧ Below w.heap.size w w' := by
  obtain ⟨a, cap, rfl, hl, hc⟩ := hr
  obtain ⟨i0, hi, hz0, hz1, hz2⟩ := info_parts Try.infoFlt
  have hcell : ∀ k, k < l.length → ∃ b off, a = some ⟨b, off, none⟩ ∧ b < w.heap.size ∧ w.cell? ⟨b, off + k, none⟩ = some (.float .f64 (l.getD k 0)) := by
    intro k hk
    obtain ⟨b, off, h1, h2⟩ := hc (by intro h; rw [h] at hk; simp at hk)
    exact ⟨b, off, h1, World.block_lt_of_cell? w _ (h2 k hk), h2 k hk⟩
  have HC := hide hcell
  clear hcell hc
  go_enter Try.func26, Try.ntmps26
  go_wp2_with (at_make; go_must (refine wpList_make_full _ rfl _ _ 23 rfl w.heap.size 29 i0 (.float .f64 0) 1 Try.underlying23 hi hz0 hz1 _ _ _ _ l.length rfl rfl rfl rfl (by rw [hz2]; omega) (by unfold maxLen; omega) (Nat.le_refl _) ?_); intro w1 hown hgrow)
  have HA := hide (arrF_made hown hgrow)
  clear hown hgrow
  go_loopw [4] (fun i wr => ∃ k : Nat, k ≤ l.length ∧ i = .int .i64 k ∧ ArrF l.length w.heap.size w wr (l.take k)) (fun i _ => l.length - (intOf i).toNat)
  case atStart => exact ⟨0, Nat.zero_le _, rfl, by simpa using unhide HA⟩
  case round =>
    obtain ⟨k, hk, rfl, harr⟩ := hrel
    by_cases hlt : k < l.length
    · obtain ⟨b, off, rfl, hb, hcl⟩ := unhide HC k hlt
      have hlt' : (k : Int) < l.length := by omega
      have hcr := (harr.below.cell (p := ⟨b, off + k, none⟩) hb).trans hcl
      obtain ⟨v0, hv0⟩ := harr.some hlt
      have hf0 := harr.free k
      have hstep := arrF_step (l.getD k 0) harr (by rw [List.length_take]; omega)
      rw [← takeF_get l k hlt, show (l.take k).length = k by rw [List.length_take]; omega] at hstep
      have HS := hide hstep
      clear hstep harr hcl hb
      generalize l.getD k 0 = x at *
      have hsf := sflt
      go_wp2_with fail
      go_roundw
      case rel => exact ⟨k + 1, by omega, by go_num, unhide HS⟩
      case measure => simp [intOf]; omega
    · go_wp2_with fail
      go_ret
      rw [List.take_of_length_le (by omega)] at harr
      exact ⟨_, rfl, arrF_rd harr hl, harr.below⟩

set_option maxRecDepth 100000 in
set_option maxHeartbeats 400000 in
theorem eqFloats_same (va vb : Value) (l : List Nat) (w : World) (ha : RdF w va l) (hb : RdF w vb l) :
    Calls Try.prog 28 #[va, vb] w fun e w' => e = .returned (.bool true) ∧ Below w.heap.size w w' := by
  obtain ⟨aa, ca, rfl, hl, hca⟩ := ha
  obtain ⟨ab, cb, rfl, _, hcb⟩ := hb
  have hcell : ∀ k, k < l.length → ∃ b off b' off', aa = some ⟨b, off, none⟩ ∧ ab = some ⟨b', off', none⟩ ∧ b < w.heap.size ∧ b' < w.heap.size ∧ w.cell? ⟨b, off + k, none⟩ = some (.float .f64 (l.getD k 0)) ∧ w.cell? ⟨b', off' + k, none⟩ = some (.float .f64 (l.getD k 0)) := by
    intro k hk
    have hne : l ≠ [] := by intro h; rw [h] at hk; simp at hk
    obtain ⟨b, off, h1, h2⟩ := hca hne
    obtain ⟨b', off', h1', h2'⟩ := hcb hne
    exact ⟨b, off, b', off', h1, h1', World.block_lt_of_cell? w _ (h2 k hk), World.block_lt_of_cell? w _ (h2' k hk), h2 k hk, h2' k hk⟩
  have HC := hide hcell
  clear hcell hca hcb
  go_enter Try.func28, Try.ntmps28
  go_wp2_with fail
  go_loopw [5] (fun i wr => ∃ k : Nat, k ≤ l.length ∧ i = .int .i64 k ∧ Below w.heap.size w wr) (fun i _ => l.length - (intOf i).toNat)
  case atStart => exact ⟨0, Nat.zero_le _, rfl, Below.refl _ _⟩
  case round =>
    obtain ⟨k, hk, rfl, hbel⟩ := hrel
    have HB := hide hbel
    clear hbel
    by_cases hlt : k < l.length
    · obtain ⟨b, off, b', off', rfl, rfl, hb, hb', hcl, hcl'⟩ := unhide HC k hlt
      have h1 := ((unhide HB).cell (p := ⟨b, off + k, none⟩) hb).trans hcl
      have h2 := ((unhide HB).cell (p := ⟨b', off' + k, none⟩) hb').trans hcl'
      clear hcl hcl' hb hb'
      generalize l.getD k 0 = x at h1 h2
      have hlt' : (k : Int) < l.length := by omega
      go_wp2_with fail
      go_region_with (go_at_call 13; refine (sameFloat_any x _).mono ?_; rintro e w2 ⟨rfl, rfl⟩; have HB2 := hide ((unhide HB).drew))
      go_wp2_with fail
      go_roundw
      case rel => exact ⟨k + 1, by omega, by go_num, unhide HB2⟩
      case measure => simp [intOf]; omega
      all_goals exact ⟨⟨k + 1, by omega, by go_num, unhide HB2⟩, by simp [intOf]; omega⟩
    · go_wp2_with fail
      go_ret
      exact ⟨rfl, unhide HB⟩
end Go.Proofs.Yteljmhgpffekgaa
