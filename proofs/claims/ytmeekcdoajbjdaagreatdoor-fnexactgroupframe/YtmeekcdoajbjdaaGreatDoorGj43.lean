/-
  Rows of events in the laws: their copying, and their size; proved by walking the laws' own helpers.
-/
import Derived.Test.YtmeekcdoajbjdaaGreatDoorGj40
import Derived.Test.YtmeekcdoajbjdaaGreatDoorGj42
import Derived.WalkLawsBesides
import Derived.Deep.RegionWith
namespace Go.Proofs.YtmeekcdoajbjdaaGreatDoor
open Go.RowKit
set_option linter.unusedVariables false

theorem Tryz.infoEvent : (Tryz.prog.info? 46).map (fun i => (i.zero, i.size, i.bytes)) = some (some (.agg #[.int .i64 0, .int .i64 0, .int .i64 0, .int .i64 0, .int .i64 0, .int .i64 0, .int .i64 0, .float .f64 0, .string ⟨#[]⟩, .int .i64 0, .int .i64 0, .int .i64 0, .int .i64 0, .int .i64 0]), 14, 120) := by kernel_rfl
theorem take_snocE {α : Type} (l : List α) (k : Nat) (c : α) (h : l[k]? = some c) : l.take (k + 1) = l.take k ++ [c] := by
  obtain ⟨hk, rfl⟩ := List.getElem?_eq_some_iff.1 h
  rw [List.take_succ_eq_append_getElem hk]
theorem ev_cells {W : World} {b o : Nat} {e : Ev} (h : W.rangeAt b o e.vs) : W.cell? ⟨b, o, none⟩ = some (.int .i64 e.kind) ∧ W.cell? ⟨b, o + 1, none⟩ = some (.int .i64 e.cmd.k) ∧ W.cell? ⟨b, o + 2, none⟩ = some (.int .i64 e.cmd.s) ∧ W.cell? ⟨b, o + 3, none⟩ = some (.int .i64 e.cmd.t) ∧ W.cell? ⟨b, o + 4, none⟩ = some (.int .i64 e.cmd.l) ∧ W.cell? ⟨b, o + 5, none⟩ = some (.int .i64 e.cmd.q) ∧ W.cell? ⟨b, o + 6, none⟩ = some (.int .i64 e.cmd.i) ∧ W.cell? ⟨b, o + 7, none⟩ = some (.float .f64 e.cmd.p) ∧ W.cell? ⟨b, o + 8, none⟩ = some (.string e.cmd.g) ∧ W.cell? ⟨b, o + 9, none⟩ = some (.int .i64 e.id) ∧ W.cell? ⟨b, o + 10, none⟩ = some (.int .i64 e.other) ∧ W.cell? ⟨b, o + 11, none⟩ = some (.int .i64 e.qty) ∧ W.cell? ⟨b, o + 12, none⟩ = some (.int .i64 e.price) ∧ W.cell? ⟨b, o + 13, none⟩ = some (.int .i64 e.reason) := ⟨h 0 _ rfl, h 1 _ rfl, h 2 _ rfl, h 3 _ rfl, h 4 _ rfl, h 5 _ rfl, h 6 _ rfl, h 7 _ rfl, h 8 _ rfl, h 9 _ rfl, h 10 _ rfl, h 11 _ rfl, h 12 _ rfl, h 13 _ rfl⟩
theorem there1L {w : World} {b o n : Nat} (h : w.there b o n) (j : Nat) (hj : j < n) : ∃ v, w.cell? ⟨b, o + j, none⟩ = some v ∧ w.frozen? ⟨b, o + j, none⟩ = false := by
  obtain ⟨h1, h2⟩ := h j hj
  obtain ⟨v, hv⟩ := Option.isSome_iff_exists.1 h1
  exact ⟨v, hv, h2⟩
set_option maxRecDepth 100000 in
set_option maxHeartbeats 1600000 in
theorem toEventS_any (v : Value) (l : List Ev) (w : World) (hr : RdR Ev.vs 14 w v l) :
    Calls Tryz.prog 6 #[v] w fun e w' => ∃ v', e = .returned v' ∧ OwnR Ev.vs 14 w.heap.size w' v' l ∧ Below w.heap.size w w' := by
  obtain ⟨a, cap, rfl, hl, hc⟩ := hr
  obtain ⟨i0, hi, hz0, hz1, hz2⟩ := info_parts Tryz.infoEvent
  have hcell : ∀ (k : Nat) (c : Ev), l[k]? = some c → ∃ b off, a = some ⟨b, off, none⟩ ∧ b < w.heap.size ∧ w.rangeAt b (off + k * 14) c.vs := by
    intro k c hk
    obtain ⟨b, off, h1, h2, h3⟩ := hc (by intro h; rw [h] at hk; simp at hk)
    exact ⟨b, off, h1, h2, h3 k c hk⟩
  have HC := hide hcell
  clear hcell hc
  go_enter Tryz.func6, Tryz.ntmps6
  go_wp2_with (at_make; go_must (refine wpList_make_full _ rfl _ _ 27 rfl w.heap.size 46 i0 _ 14 Tryz.underlying27 hi hz0 hz1 _ _ _ _ l.length rfl rfl rfl rfl (by rw [hz2]; omega) (by unfold maxLen; omega) (Nat.le_refl _) ?_); intro w1 hown hgrow)
  have HA := hide (fill_made (f := Ev.vs) hown hgrow)
  clear hown hgrow hi hz0 hz1 hz2
  go_loopw [4] (fun i wr => ∃ k : Nat, k ≤ l.length ∧ i = .int .i64 k ∧ FillR Ev.vs 14 l.length w.heap.size w wr (l.take k)) (fun i _ => l.length - (intOf i).toNat)
  case atStart => exact ⟨0, Nat.zero_le _, rfl, by simpa using unhide HA⟩
  case round =>
    obtain ⟨k, hk, rfl, harr⟩ := hrel
    have HF := hide harr
    clear harr HA
    by_cases hlt : k < l.length
    · obtain ⟨c, hkc⟩ : ∃ c, l[k]? = some c := ⟨_, List.getElem?_eq_getElem hlt⟩
      have HKC := hide hkc
      obtain ⟨b, off, rfl, hb, hcl⟩ := unhide HC k c hkc
      have hcr := range_below hcl (unhide HF).2.2.2.2 hb
      obtain ⟨g0, g1, g2, g3, g4, g5, g6, g7, g8, g9, g10, g11, g12, g13⟩ := ev_cells hcr
      have hlt' : (k : Int) < l.length := by omega
      clear hkc hcl hb hcr
      go_wp2_with fail
      refine (toEvent_any c _).mono ?_
      rintro e w2 ⟨rfl, hb2⟩
      unfold evV
      have HF2 := hide (fill_below (unhide HF) hb2 (Nat.le_refl _))
      clear hb2
      have ht14 := fill_there (unhide HF2) hlt
      obtain ⟨x0, y0, z0⟩ := there1L ht14 0 (by omega)
      obtain ⟨x1, y1, z1⟩ := there1L ht14 1 (by omega)
      obtain ⟨x2, y2, z2⟩ := there1L ht14 2 (by omega)
      obtain ⟨x3, y3, z3⟩ := there1L ht14 3 (by omega)
      obtain ⟨x4, y4, z4⟩ := there1L ht14 4 (by omega)
      obtain ⟨x5, y5, z5⟩ := there1L ht14 5 (by omega)
      obtain ⟨x6, y6, z6⟩ := there1L ht14 6 (by omega)
      obtain ⟨x7, y7, z7⟩ := there1L ht14 7 (by omega)
      obtain ⟨x8, y8, z8⟩ := there1L ht14 8 (by omega)
      obtain ⟨x9, y9, z9⟩ := there1L ht14 9 (by omega)
      obtain ⟨x10, y10, z10⟩ := there1L ht14 10 (by omega)
      obtain ⟨x11, y11, z11⟩ := there1L ht14 11 (by omega)
      obtain ⟨x12, y12, z12⟩ := there1L ht14 12 (by omega)
      obtain ⟨x13, y13, z13⟩ := there1L ht14 13 (by omega)
      rw [Nat.add_zero] at y0 z0
      clear ht14
      have hsf := sfl
      go_wp2_with fail
      go_roundw
      case rel =>
        refine ⟨k + 1, by omega, by go_num, ?_⟩
        have h := fill_step c (unhide HF2) (by rw [List.length_take]; omega) Ev.len
        rw [← take_snocE l k c (unhide HKC), show (l.take k).length = k by rw [List.length_take]; omega] at h
        exact h
      case measure => simp [intOf]; omega
    · go_wp2_with fail
      go_ret
      have h := unhide HF
      rw [List.take_of_length_le (by omega)] at h
      exact ⟨_, rfl, fill_own h rfl hl, h.2.2.2.2⟩
set_option maxRecDepth 100000 in
set_option maxHeartbeats 400000 in
theorem szEventS_any (v : Value) (l : List Ev) (w : World) (hr : RdR Ev.vs 14 w v l) (hl : l.length ≤ 1048576) (hg : ∀ c ∈ l, c.cmd.g.size ≤ maxLen) :
    Calls Tryz.prog 4 #[v, .int .i64 1048576] w fun e w' => ∃ y : Int, e = .returned (.int .i64 y) ∧ y ≤ 1048576 ∧ Below w.heap.size w w' := by
  obtain ⟨a, cap, rfl, _, hc⟩ := hr
  have hcell : ∀ (k : Nat) (c : Ev), l[k]? = some c → ∃ b off, a = some ⟨b, off, none⟩ ∧ b < w.heap.size ∧ w.rangeAt b (off + k * 14) c.vs := by
    intro k c hk
    obtain ⟨b, off, h1, h2, h3⟩ := hc (by intro h; rw [h] at hk; simp at hk)
    exact ⟨b, off, h1, h2, h3 k c hk⟩
  have HC := hide hcell
  have HG := hide hg
  clear hcell hc hg
  have hl' : ¬ (1048576 - (l.length : Int) < 0) := by omega
  go_enter Tryz.func4, Tryz.ntmps4
  go_wp2_with fail
  go_loopw [1, 5] (fun xv i wr => ∃ (x : Int) (k : Nat), xv = .int .i64 x ∧ 0 ≤ x ∧ x ≤ 1048576 ∧ k ≤ l.length ∧ i = .int .i64 k ∧ Below w.heap.size w wr) (fun _ i _ => l.length - (intOf i).toNat)
  case atStart => exact ⟨_, 0, rfl, by omega, by omega, Nat.zero_le _, rfl, Below.refl _ _⟩
  case round =>
    obtain ⟨x, k, rfl, hx0, hx1, hk, rfl, hbel⟩ := hrel
    have HB := hide hbel
    clear hbel
    by_cases hlt : k < l.length
    · obtain ⟨c, hkc⟩ : ∃ c, l[k]? = some c := ⟨_, List.getElem?_eq_getElem hlt⟩
      obtain ⟨b, off, rfl, hb, hcl⟩ := unhide HC k c hkc
      have HS := hide (unhide HG c (List.mem_of_getElem? hkc))
      obtain ⟨g0, g1, g2, g3, g4, g5, g6, g7, g8, g9, g10, g11, g12, g13⟩ := ev_cells (range_below hcl (unhide HB) hb)
      have hlt' : (k : Int) < l.length := by omega
      clear hkc hcl hb
      go_wp2_with fail
      refine (szEvent_any c x _ hx0 (by omega) (unhide HS)).mono ?_
      rintro e w2 ⟨y, rfl, hy1, hb2⟩
      have HB2 := hide ((unhide HB).trans (hb2.mono (unhide HB).size))
      clear hb2
      by_cases hy : y < 0
      · go_wp2_with fail
        go_ret
        exact ⟨_, rfl, by omega, unhide HB2⟩
      · go_wp2_with fail
        go_roundw
        case rel => exact ⟨y, k + 1, rfl, by omega, by omega, by omega, by go_num, unhide HB2⟩
        case measure => simp [intOf]; omega
    · go_wp2_with fail
      go_ret
      exact ⟨_, rfl, by omega, unhide HB⟩
theorem szEventS_long (a : Option Addr) (len cap : Nat) (w : World) (hl : 1048576 < len) (hm : len ≤ maxLen) :
    Calls Tryz.prog 4 #[.slice a len cap, .int .i64 1048576] w fun e w' => e = .returned (.int .i64 (-1)) ∧ w' = w := by
  unfold maxLen at hm
  have hl' : 1048576 - (len : Int) < 0 := by omega
  go_enter Tryz.func4, Tryz.ntmps4
  go_wp2_with fail
  go_ret
  exact ⟨rfl, rfl⟩
end Go.Proofs.YtmeekcdoajbjdaaGreatDoor
namespace Go.Proofs.YtmeekcdoajbjdaaGreatDoor
open Go.RowKit
set_option linter.unusedVariables false

set_option maxRecDepth 100000 in
set_option maxHeartbeats 1600000 in
theorem eqEventS_same (va vb : Value) (l : List Ev) (w : World) (ha : RdR Ev.vs 14 w va l) (hb : RdR Ev.vs 14 w vb l) :
    Calls Tryz.prog 9 #[va, vb] w fun e w' => e = .returned (.bool true) ∧ Below w.heap.size w w' := by
  obtain ⟨aa, ca, rfl, hl, hca⟩ := ha
  obtain ⟨ab, cb, rfl, _, hcb⟩ := hb
  have hcell : ∀ (k : Nat) (c : Ev), l[k]? = some c → ∃ b off b' off', aa = some ⟨b, off, none⟩ ∧ ab = some ⟨b', off', none⟩ ∧ b < w.heap.size ∧ b' < w.heap.size ∧ w.rangeAt b (off + k * 14) c.vs ∧ w.rangeAt b' (off' + k * 14) c.vs := by
    intro k c hk
    have hne : l ≠ [] := by intro h; rw [h] at hk; simp at hk
    obtain ⟨b, off, h1, h2, h3⟩ := hca hne
    obtain ⟨b', off', h1', h2', h3'⟩ := hcb hne
    exact ⟨b, off, b', off', h1, h1', h2, h2', h3 k c hk, h3' k c hk⟩
  have HC := hide hcell
  clear hcell hca hcb
  go_enter Tryz.func9, Tryz.ntmps9
  go_wp2_with fail
  go_loopw [5] (fun i wr => ∃ k : Nat, k ≤ l.length ∧ i = .int .i64 k ∧ Below w.heap.size w wr) (fun i _ => l.length - (intOf i).toNat)
  case atStart => exact ⟨0, Nat.zero_le _, rfl, Below.refl _ _⟩
  case round =>
    obtain ⟨k, hk, rfl, hbel⟩ := hrel
    have HB := hide hbel
    clear hbel
    by_cases hlt : k < l.length
    · obtain ⟨c, hkc⟩ : ∃ c, l[k]? = some c := ⟨_, List.getElem?_eq_getElem hlt⟩
      obtain ⟨b, off, b', off', rfl, rfl, hb, hb', hcl, hcl'⟩ := unhide HC k c hkc
      obtain ⟨g0, g1, g2, g3, g4, g5, g6, g7, g8, g9, g10, g11, g12, g13⟩ := ev_cells (range_below hcl (unhide HB) hb)
      obtain ⟨e0, e1, e2, e3, e4, e5, e6, e7, e8, e9, e10, e11, e12, e13⟩ := ev_cells (range_below hcl' (unhide HB) hb')
      have hlt' : (k : Int) < l.length := by omega
      clear hkc hcl hcl' hb hb'
      go_wp2_with fail
      go_region_with (go_at_call 22; refine (eqEvent_same c _).mono ?_; rintro e w2 ⟨rfl, hb2⟩; have HB2 := hide ((unhide HB).drew.trans (hb2.mono (unhide HB).drew.size)); clear hb2)
      go_wp2_with fail
      go_roundw
      case rel => exact ⟨k + 1, by omega, by go_num, unhide HB2⟩
      case measure => simp [intOf]; omega
      all_goals exact ⟨⟨k + 1, by omega, by go_num, unhide HB2⟩, by simp [intOf]; omega⟩
    · go_wp2_with fail
      go_ret
      exact ⟨rfl, unhide HB⟩
end Go.Proofs.YtmeekcdoajbjdaaGreatDoor
