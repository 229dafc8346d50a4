/-
  The copy that the exact laws make of a row of bytes that came in, proved by walking the copying function: a new row with the same bytes.
-/
import Derived.Test.YtoaoiiafmojaaaaDoorOwnB
namespace Go.Proofs.YtoaoiiafmojaaaaDoor
open Go.RowKit

set_option maxRecDepth 100000 in
set_option maxHeartbeats 400000 in
theorem toBytesT_any (v : Value) (l : List Int) (w : World) (hr : Rd w v l) :
    Calls Tryd.prog 7 #[v] w fun e w' => ∃ v', e = .returned v' ∧ OwnT w.heap.size w' v' l ∧ Below w.heap.size w w' := by
  obtain ⟨a, cap, rfl, hl, hc⟩ := hr
  obtain ⟨i0, hi, hz0, hz1, hz2⟩ := info_parts Tryd.infoByte
  have hcell : ∀ k, k < l.length → ∃ b off, a = some ⟨b, off, none⟩ ∧ b < w.heap.size ∧ w.cell? ⟨b, off + k, none⟩ = some (.int .u8 (l.getD k 0)) := by
    intro k hk
    obtain ⟨b, off, h1, h2⟩ := hc (by intro h; rw [h] at hk; simp at hk)
    exact ⟨b, off, h1, World.block_lt_of_cell? w _ (h2 k hk), h2 k hk⟩
  have HC := hide hcell
  clear hcell hc
  go_enter Tryd.func7, Tryd.ntmps7
  go_wp2_with (at_make; go_must (refine wpList_make_full _ rfl _ _ 22 rfl w.heap.size 5 i0 (.int .u8 0) 1 Tryd.underlying22 hi hz0 hz1 _ _ _ _ l.length rfl rfl rfl rfl (by rw [hz2]; omega) (by unfold maxLen; omega) (Nat.le_refl _) ?_); intro w1 hown hgrow)
  have HA := hide (arr_made hown hgrow)
  clear hown hgrow
  go_loopw [4] (fun i wr => ∃ k : Nat, k ≤ l.length ∧ i = .int .i64 k ∧ Arr l.length w.heap.size w wr (l.take k)) (fun i _ => l.length - (intOf i).toNat)
  case atStart => exact ⟨0, Nat.zero_le _, rfl, by simpa using unhide HA⟩
  case round =>
    obtain ⟨k, hk, rfl, harr⟩ := hrel
    by_cases hlt : k < l.length
    · obtain ⟨b, off, rfl, hb, hcl⟩ := unhide HC k hlt
      have hlt' : (k : Int) < l.length := by omega
      have hcr := (harr.below.cell (p := ⟨b, off + k, none⟩) hb).trans hcl
      obtain ⟨v0, hv0⟩ := harr.some hlt
      have hf0 := harr.free k
      have hstep := arr_step (l.getD k 0) harr (by rw [List.length_take]; omega)
      rw [← take_get l k hlt, show (l.take k).length = k by rw [List.length_take]; omega] at hstep
      have HS := hide hstep
      clear hstep harr hcl hb
      generalize l.getD k 0 = x at *
      go_wp2_with fail
      go_roundw
      case rel => exact ⟨k + 1, by omega, by go_num, unhide HS⟩
      case measure => simp [intOf]; omega
    · go_wp2_with fail
      go_ret
      rw [List.take_of_length_le (by omega)] at harr
      exact ⟨_, rfl, arr_own harr rfl hl, harr.below⟩
theorem toBytes_any (v : Value) (l : List Int) (w : World) (hr : Rd w v l) :
    Calls Tryd.prog 7 #[v] w fun e w' => ∃ v', e = .returned v' ∧ Own w.heap.size w' v' l ∧ Below w.heap.size w w' :=
  (toBytesT_any v l w hr).mono fun _ _ ⟨v', h1, h2, h3⟩ => ⟨v', h1, h2.own, h3⟩
end Go.Proofs.YtoaoiiafmojaaaaDoor
