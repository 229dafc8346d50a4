/-
  Levels held against each other, marked, and the marks found: proved by walking the laws' own helpers.
-/
import Derived.Test.YtadnjcgfoofjiaaLj26
import Derived.Test.YtadnjcgfoofjiaaLj47
namespace Go.Proofs.Ytadnjcgfoofjiaa
open Go.RowKit
set_option linter.unusedVariables false

theorem lv_cells {w : World} {b o : Nat} {n : Lv} (h : w.rangeAt b o n.vs) :
    w.cell? ⟨b, o, none⟩ = some (.int .i64 n.side) ∧ w.cell? ⟨b, o + 1, none⟩ = some (.int .i64 n.ticks) ∧ w.cell? ⟨b, o + 2, none⟩ = some (.int .i64 n.qty) ∧ w.cell? ⟨b, o + 3, none⟩ = some (.int .i64 n.count) :=
  ⟨h 0 _ rfl, h 1 _ rfl, h 2 _ rfl, h 3 _ rfl⟩
theorem there4 {w : World} {b o : Nat} (h : w.there b o 4) :
    (∃ v, w.cell? ⟨b, o, none⟩ = some v ∧ w.frozen? ⟨b, o, none⟩ = false) ∧ (∃ v, w.cell? ⟨b, o + 1, none⟩ = some v ∧ w.frozen? ⟨b, o + 1, none⟩ = false) ∧
    (∃ v, w.cell? ⟨b, o + 2, none⟩ = some v ∧ w.frozen? ⟨b, o + 2, none⟩ = false) ∧ (∃ v, w.cell? ⟨b, o + 3, none⟩ = some v ∧ w.frozen? ⟨b, o + 3, none⟩ = false) :=
  ⟨there1O h 0 (by omega), there1O h 1 (by omega), there1O h 2 (by omega), there1O h 3 (by omega)⟩

set_option maxHeartbeats 400000 in
theorem eqLevel_same (o : Lv) (w : World) :
    Calls Try.prog 43 #[.agg #[.int .i64 o.side, .int .i64 o.ticks, .int .i64 o.qty, .int .i64 o.count], .agg #[.int .i64 o.side, .int .i64 o.ticks, .int .i64 o.qty, .int .i64 o.count]] w fun e w' => e = .returned (.bool true) ∧ Below w.heap.size w w' := by
  obtain ⟨side, ticks, qty, count⟩ := o
  simp only
  go_enter Try.func43, Try.ntmps43
  go_wp2_with fail
  go_returns
  refine ⟨rfl, ?_⟩
  go_grown

set_option maxRecDepth 100000 in
set_option maxHeartbeats 400000 in
theorem eqLevelS_same (va vb : Value) (l : List Lv) (w : World) (ha : RdR Lv.vs 4 w va l) (hb : RdR Lv.vs 4 w vb l) :
    Calls Try.prog 20 #[va, vb] w fun e w' => e = .returned (.bool true) ∧ Below w.heap.size w w' := by
  obtain ⟨aa, ca, rfl, hl, hca⟩ := ha
  obtain ⟨ab, cb, rfl, _, hcb⟩ := hb
  have hcell : ∀ (k : Nat) (c : Lv), l[k]? = some c → ∃ b off b' off', aa = some ⟨b, off, none⟩ ∧ ab = some ⟨b', off', none⟩ ∧ b < w.heap.size ∧ b' < w.heap.size ∧ w.rangeAt b (off + k * 4) c.vs ∧ w.rangeAt b' (off' + k * 4) c.vs := by
    intro k c hk
    have hne : l ≠ [] := by intro h; rw [h] at hk; simp at hk
    obtain ⟨b, off, h1, h2, h3⟩ := hca hne
    obtain ⟨b', off', h1', h2', h3'⟩ := hcb hne
    exact ⟨b, off, b', off', h1, h1', h2, h2', h3 k c hk, h3' k c hk⟩
  have HC := hide hcell
  clear hcell hca hcb
  go_enter Try.func20, Try.ntmps20
  go_wp2_with fail
  go_loopw [5] (fun i wr => ∃ k : Nat, k ≤ l.length ∧ i = .int .i64 k ∧ Below w.heap.size w wr) (fun i _ => l.length - (intOf i).toNat)
  case atStart => exact ⟨0, Nat.zero_le _, rfl, Below.refl _ _⟩
  case round =>
    obtain ⟨k, hk, rfl, hbel⟩ := hrel
    have HB := hide hbel
    clear hbel
    by_cases hlt : k < l.length
    · obtain ⟨c, hkc⟩ : ∃ c, l[k]? = some c := ⟨_, List.getElem?_eq_getElem hlt⟩
      obtain ⟨b, off, b', off', rfl, rfl, hb, hb', hcl, hcl'⟩ := unhide HC k c hkc
      obtain ⟨g0, g1, g2, g3⟩ := lv_cells (range_below hcl (unhide HB) hb)
      obtain ⟨e0, e1, e2, e3⟩ := lv_cells (range_below hcl' (unhide HB) hb')
      have hlt' : (k : Int) < l.length := by omega
      clear hkc hcl hcl' hb hb'
      go_wp2_with fail
      go_region_with (go_at_call 43; refine (eqLevel_same c _).mono ?_; rintro e w2 ⟨rfl, hb2⟩; have HB2 := hide ((unhide HB).drew.trans (hb2.mono (unhide HB).drew.size)); clear hb2)
      go_wp2_with fail
      go_roundw
      case rel => exact ⟨k + 1, by omega, by go_num, unhide HB2⟩
      case measure => simp [intOf]; omega
      all_goals exact ⟨⟨k + 1, by omega, by go_num, unhide HB2⟩, by simp [intOf]; omega⟩
    · go_wp2_with fail
      go_ret
      exact ⟨rfl, unhide HB⟩

/-- The mark of a level. -/
def markL (k : Nat) : Lv := ⟨k, (k : Int) + 1, (k : Int) + 1 + 1, (k : Int) + 1 + 1 + 1⟩
def marksL (k n : Nat) : List Lv := (List.range n).map fun i => markL (k + 4 * i)
theorem marksL_len (k n : Nat) : (marksL k n).length = n := by simp [marksL]
theorem marksL_more (k n : Nat) : marksL k (n + 1) = marksL k n ++ [markL (k + 4 * n)] := by simp [marksL, List.range_succ]
theorem marksL_get {k n i : Nat} (h : i < n) : (marksL k n)[i]? = some (markL (k + 4 * i)) := by simp [marksL, h]

set_option maxRecDepth 100000 in
set_option maxHeartbeats 800000 in
theorem markLevelS_any (g len cap k : Nat) (w : World) (hl : len ≤ 2097152) (hk0 : 0 < k) (hk1 : k ≤ 1000000000) (hg : g < w.heap.size) (ht : w.there g 0 (len * 4)) :
    Calls Try.prog 22 #[.slice (some ⟨g, 0, none⟩) len cap, .int .i64 k] w fun e w' => e = .returned (.int .i64 ((k + 4 * len : Nat) : Int)) ∧ MarkR Lv.vs 4 len g w w' (marksL k len) := by
  have HM : Hid (MarkR Lv.vs 4 len g w w (marksL k 0)) := ⟨by simp [marksL], ht, World.grownBy.refl _ _, by simp [marksL], hg⟩
  clear ht
  go_enter Try.func22, Try.ntmps22
  go_wp2_with fail
  go_loopw [1, 5] (fun kv i wr => ∃ m kk : Nat, m ≤ len ∧ i = .int .i64 m ∧ kv = .int .i64 kk ∧ Hid (kk = k + 4 * m) ∧ MarkR Lv.vs 4 len g w wr (marksL k m)) (fun _ i _ => len - (intOf i).toNat)
  case atStart => exact ⟨0, k, Nat.zero_le _, rfl, rfl, rfl, unhide HM⟩
  case round =>
    obtain ⟨m, kk, hm, rfl, rfl, hkk, hmr⟩ := hrel
    have HR := hide hmr
    have hkb : (kk : Int) ≤ 1020000000 := by have := unhide hkk; omega
    clear hmr HM
    by_cases hlt : m < len
    · obtain ⟨⟨x0, y0, z0⟩, ⟨x1, y1, z1⟩, ⟨x2, y2, z2⟩, x3, y3, z3⟩ := there4 (there_part (i := m * 4) (m := 4) (unhide HR).2.1 (by omega))
      have hlt' : (m : Int) < len := by omega
      go_wp2_with fail
      go_roundw
      case rel =>
        refine ⟨m + 1, kk + 4, by omega, by go_num, congrArg (Value.int .i64) (by omega), by have := unhide hkk; show kk + 4 = _; omega, ?_⟩
        have h := mark_stepR (C := wr.heap.size) (markL kk) [.int .i64 (kk : Int), .int .i64 ((kk : Int) + 1), .int .i64 ((kk : Int) + 1 + 1)] (.int .i64 ((kk : Int) + 1 + 1 + 1)) rfl (unhide HR) (by rw [marksL_len]; exact hlt) Lv.len (by rw [marksL_len]; exact Below.refl _ _) (Nat.le_refl _)
        rw [marksL_len, unhide hkk, ← marksL_more, ← unhide hkk] at h
        exact h
      case measure => simp [intOf]; omega
    · go_wp2_with fail
      go_ret
      obtain rfl : m = len := by omega
      have h := unhide hkk
      subst h
      exact ⟨rfl, unhide HR⟩

set_option maxRecDepth 100000 in
set_option maxHeartbeats 800000 in
theorem heldLevelS_any (v : Value) (len k : Nat) (w : World) (hl : len ≤ 2097152) (hk0 : 0 < k) (hk1 : k ≤ 1000000000) (hr : RdR Lv.vs 4 w v (marksL k len)) :
    Calls Try.prog 23 #[v, .int .i64 k] w fun e w' => e = .returned (.int .i64 ((k + 4 * len : Nat) : Int)) ∧ Below w.heap.size w w' := by
  obtain ⟨a, cap, rfl, _, hc⟩ := hr
  rw [marksL_len]
  have hcell : ∀ (m : Nat), m < len → ∃ b off, a = some ⟨b, off, none⟩ ∧ b < w.heap.size ∧ w.rangeAt b (off + m * 4) (markL (k + 4 * m)).vs := by
    intro m hm
    have hg := marksL_get (k := k) hm
    obtain ⟨b, off, h1, h2, h3⟩ := hc (by intro h; rw [h] at hg; simp at hg)
    exact ⟨b, off, h1, h2, h3 m _ hg⟩
  have HC := hide hcell
  clear hcell hc
  go_enter Try.func23, Try.ntmps23
  go_wp2_with fail
  go_loopw [1, 5] (fun kv i wr => ∃ m kk : Nat, m ≤ len ∧ i = .int .i64 m ∧ kv = .int .i64 kk ∧ Hid (kk = k + 4 * m) ∧ Below w.heap.size w wr) (fun _ i _ => len - (intOf i).toNat)
  case atStart => exact ⟨0, k, Nat.zero_le _, rfl, rfl, rfl, Below.refl _ _⟩
  case round =>
    obtain ⟨m, kk, hm, rfl, rfl, hkk, hbel⟩ := hrel
    have HB := hide hbel
    have hkb : (kk : Int) ≤ 1020000000 := by have := unhide hkk; omega
    clear hbel
    by_cases hlt : m < len
    · obtain ⟨b, off, rfl, hb, hcl⟩ := unhide HC m hlt
      rw [← unhide hkk] at hcl
      obtain ⟨g0, g1, g2, g3⟩ := lv_cells (range_below hcl (unhide HB) hb)
      simp only [markL] at g0 g1 g2 g3
      have hlt' : (m : Int) < len := by omega
      clear hcl hb
      go_wp2_with fail
      go_roundw
      case rel => exact ⟨m + 1, kk + 4, by omega, by go_num, congrArg (Value.int .i64) (by omega), by have := unhide hkk; show kk + 4 = _; omega, unhide HB⟩
      case measure => simp [intOf]; omega
    · go_wp2_with fail
      go_ret
      obtain rfl : m = len := by omega
      have h := unhide hkk
      subst h
      exact ⟨rfl, unhide HB⟩

theorem markLevelS_nil (a : Option Addr) (cap k : Nat) (w : World) :
    Calls Try.prog 22 #[.slice a 0 cap, .int .i64 k] w fun e w' => e = .returned (.int .i64 k) ∧ w' = w := by
  go_enter Try.func22, Try.ntmps22
  go_wp2
  refine wp_loop_rounds 1 ?_
  rw [rounds_succ]
  go_wp2
  go_ret
  exact ⟨rfl, rfl⟩
/-- A row of levels that the call made is marked: it is then a row of marks; other rows stay. -/
theorem markL_own {B : Nat} (v : Value) (l : List Lv) (w : World) (h : OwnR Lv.vs 4 B w v l) (hl : l.length ≤ 2097152) :
    Calls Try.prog 22 #[v, .int .i64 1] w fun e w' => e = .returned (.int .i64 ((1 + 4 * l.length : Nat) : Int)) ∧ OwnR Lv.vs 4 B w' v (marksL 1 l.length) ∧
      ∃ G, w.grownBy w' G ∧ ∀ g, G = some g → v.ownBlock = some g ∧ B ≤ g ∧ l ≠ [] := by
  obtain ⟨a, cap, rfl, hlen, h⟩ := h
  by_cases hne : l = []
  · subst hne
    refine (markLevelS_nil a cap 1 w).mono ?_
    rintro e w' ⟨rfl, rfl⟩
    exact ⟨rfl, ⟨a, cap, rfl, by simp [marksL], fun h => absurd rfl h⟩, none, World.grownBy.refl _ _, fun g hg => by cases hg⟩
  · obtain ⟨g, rfl, h0, h1, h2, h3⟩ := h hne
    refine (markLevelS_any g l.length cap 1 w hl (by omega) (by omega) h1 h3).mono ?_
    rintro e w' ⟨rfl, m1, m2, m3, m4, m5⟩
    refine ⟨rfl, ⟨_, cap, by rw [marksL_len], by rw [marksL_len]; exact hlen, fun _ => ⟨g, rfl, h0, m5, m1, by rw [marksL_len]; exact m2⟩⟩, some g, m3, fun g' hg => ?_⟩
    obtain rfl := Option.some.inj hg
    exact ⟨rfl, h0, hne⟩
end Go.Proofs.Ytadnjcgfoofjiaa
