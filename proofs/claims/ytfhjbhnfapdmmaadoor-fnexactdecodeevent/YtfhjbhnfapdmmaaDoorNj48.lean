/-
  The copy that the exact laws make of a row of bytes that came in, proved by walking the copying function: a new row with the same bytes.
-/
import Derived.Test.YtfhjbhnfapdmmaaDoorNj02
import Derived.Test.YtfhjbhnfapdmmaaDoorNj12
import Derived.LaidLaws
import Derived.LaidHandle
namespace Go.Proofs.YtfhjbhnfapdmmaaDoor
open Go.RowKit

set_option maxRecDepth 100000 in
set_option maxHeartbeats 400000 in
theorem toBytesT_any (v : Value) (l : List Int) (w : World) (hr : Rd w v l) :
    Calls Tryd.prog 10 #[v] w fun e w' => ∃ v', e = .returned v' ∧ OwnT w.heap.size w' v' l ∧ Below w.heap.size w w' := by
  obtain ⟨a, cap, rfl, hl, hc⟩ := hr
  obtain ⟨i0, hi, hz0, hz1, hz2⟩ := info_parts Tryd.infoByte
  have hcell : ∀ k, k < l.length → ∃ b off, a = some ⟨b, off, none⟩ ∧ b < w.heap.size ∧ w.cell? ⟨b, off + k, none⟩ = some (.int .u8 (l.getD k 0)) := by
    intro k hk
    obtain ⟨b, off, h1, h2⟩ := hc (by intro h; rw [h] at hk; simp at hk)
    exact ⟨b, off, h1, World.block_lt_of_cell? w _ (h2 k hk), h2 k hk⟩
  have HC := hide hcell
  clear hcell hc
  go_enter Tryd.func10, Tryd.ntmps10
  go_wp2_with (at_make; go_must (refine wpList_make_full _ rfl _ _ 34 rfl w.heap.size 5 i0 (.int .u8 0) 1 Tryd.underlying34 hi hz0 hz1 _ _ _ _ l.length rfl rfl rfl rfl (by rw [hz2]; omega) (by unfold maxLen; omega) (Nat.le_refl _) ?_); intro w1 hown hgrow)
  have HA := hide (arr_made hown hgrow)
  clear hown hgrow
  go_loopw [4] (fun i wr => ∃ k : Nat, k ≤ l.length ∧ i = .int .i64 k ∧ Arr l.length w.heap.size w wr (l.take k)) (fun i _ => l.length - (intOf i).toNat)
  case atStart => exact ⟨0, Nat.zero_le _, rfl, by simpa using unhide HA⟩
  case round =>
    obtain ⟨k, hk, rfl, harr⟩ := hrel
    by_cases hlt : k < l.length
    · obtain ⟨b, off, rfl, hb, hcl⟩ := unhide HC k hlt
      have hlt' : (k : Int) < l.length := by omega
      have hcr := (harr.below.cell (p := ⟨b, off + k, none⟩) hb).trans hcl
      obtain ⟨v0, hv0⟩ := harr.some hlt
      have hf0 := harr.free k
      have hstep := arr_step (l.getD k 0) harr (by rw [List.length_take]; omega)
      rw [← take_get l k hlt, show (l.take k).length = k by rw [List.length_take]; omega] at hstep
      have HS := hide hstep
      clear hstep harr hcl hb
      generalize l.getD k 0 = x at *
      go_wp2_with fail
      go_roundw
      case rel => exact ⟨k + 1, by omega, by go_num, unhide HS⟩
      case measure => simp [intOf]; omega
    · go_wp2_with fail
      go_ret
      rw [List.take_of_length_le (by omega)] at harr
      exact ⟨_, rfl, arr_own harr rfl hl, harr.below⟩
theorem toBytes_any (v : Value) (l : List Int) (w : World) (hr : Rd w v l) :
    Calls Tryd.prog 10 #[v] w fun e w' => ∃ v', e = .returned v' ∧ Own w.heap.size w' v' l ∧ Below w.heap.size w w' :=
  (toBytesT_any v l w hr).mono fun _ _ ⟨v', h1, h2, h3⟩ => ⟨v', h1, h2.own, h3⟩
end Go.Proofs.YtfhjbhnfapdmmaaDoor
namespace Go.Proofs.YtfhjbhnfapdmmaaDoor
open Go.RowKit

set_option maxHeartbeats 400000 in
theorem eqBytes_same (va vb : Value) (l : List Int) (w : World) (ha : Rd w va l) (hb : Rd w vb l) :
    Calls Tryd.prog 13 #[va, vb] w fun e w' => e = .returned (.bool true) ∧ ∃ n, w' = w.drewN n := by
  obtain ⟨aa, ca, rfl, hl, hca⟩ := ha
  obtain ⟨ab, cb, rfl, _, hcb⟩ := hb
  by_cases hne : l = []
  · subst hne
    clear hca hcb
    go_enter Tryd.func13, Tryd.ntmps13
    go_wp2
    refine wp_loop_rounds 1 ?_
    rw [rounds_succ]
    go_wp2
    go_ret
    exact ⟨rfl, 0, rfl⟩
  obtain ⟨b1, o1, rfl, hc1⟩ := hca hne
  obtain ⟨b2, o2, rfl, hc2⟩ := hcb hne
  have H1 := hide hc1
  have H2 := hide hc2
  clear hca hcb hc1 hc2
  go_enter Tryd.func13, Tryd.ntmps13
  go_wp2_with fail
  go_loopw [5] (fun i wr => ∃ k n : Nat, k ≤ l.length ∧ i = .int .i64 k ∧ wr = w.drewN n) (fun i _ => l.length - (intOf i).toNat)
  case atStart => exact ⟨0, 0, Nat.zero_le _, rfl, rfl⟩
  case round =>
    obtain ⟨k, n, hk, rfl, rfl⟩ := hrel
    by_cases hlt : k < l.length
    · have h1 := unhide H1 k hlt
      have h2 := unhide H2 k hlt
      generalize l.getD k 0 = x at h1 h2
      have hlt' : (k : Int) < l.length := by omega
      go_wp2_with fail
      go_quiet (fail)
      go_wp2_with fail
      go_roundw
      case rel => exact ⟨k + 1, _, by omega, by go_num, rfl⟩
      case measure => simp [intOf]; omega
    · go_wp2_with fail
      go_ret
      exact ⟨rfl, _, rfl⟩
end Go.Proofs.YtfhjbhnfapdmmaaDoor
namespace Go.Proofs.YtfhjbhnfapdmmaaDoor
open Go.RowKit

theorem gErr : Tryd.prog.globalNamed "errors.errorType" = some 1 := by kernel_rfl
theorem rtErr : (Tryd.prog.cutTypes.find? (·.1 == "internal/reflectlite.rtype")).map (·.2) = some 126 := by kernel_rfl
theorem oneErr : ((List.range 167).filter fun t => Tryd.prog.rowNamed t [101, 114, 114, 111, 114]) = [81] := by kernel_rfl
theorem sizeErr : Tryd.prog.types.size = 167 := by kernel_rfl
theorem err_laid {W : World} (h : laidMetH Tryd.prog [("errors.errorType", Rows.laid_errors_errorType)] W) : ErrT W := by
  have h' : laidMet Tryd.prog [] W ∧ handlesMet Tryd.prog [("errors.errorType", Rows.laid_errors_errorType)] W := h
  obtain ⟨name, u, ty, e1, e2, e3, e4, e5⟩ := h'.2 _ (List.mem_singleton.2 rfl)
  have en : name = [101, 114, 114, 111, 114] := (Option.some.inj e1).symm
  subst en
  obtain rfl := Option.some.inj (rtErr.symm.trans e2)
  have hm : ty ∈ (List.range 167).filter fun t => Tryd.prog.rowNamed t [101, 114, 114, 111, 114] := List.mem_filter.2 ⟨List.mem_range.2 (by rw [← sizeErr]; exact e3), e4⟩
  rw [oneErr] at hm
  obtain rfl := List.mem_singleton.1 hm
  have hh : typeHandle Tryd.prog 81 = .pointer (some ⟨2, 81, none⟩) := by kernel_rfl
  rw [hh] at e5
  simpa [ErrT] using World.var?_cell gErr e5 0
end Go.Proofs.YtfhjbhnfapdmmaaDoor
