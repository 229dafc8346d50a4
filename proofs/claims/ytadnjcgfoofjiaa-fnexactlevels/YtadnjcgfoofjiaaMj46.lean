/-
  A row of orders marked, and the marks found: proved by walking the laws' own helpers.
-/
import Derived.Test.YtadnjcgfoofjiaaMj08
import Derived.Test.YtadnjcgfoofjiaaMj40
namespace Go.Proofs.Ytadnjcgfoofjiaa
open Go.RowKit
set_option linter.unusedVariables false

/-- The mark of an order. -/
def markO (k : Nat) : Od := ⟨k, (k : Int) + 1, (k : Int) + 1 + 1, (k : Int) + 1 + 1 + 1, (k : Int) + 1 + 1 + 1 + 1, markS (k + 5)⟩
/-- Its cells but the text. -/
def mark5 (k : Nat) : List Value := [.int .i64 (k : Int), .int .i64 ((k : Int) + 1), .int .i64 ((k : Int) + 1 + 1), .int .i64 ((k : Int) + 1 + 1 + 1), .int .i64 ((k : Int) + 1 + 1 + 1 + 1)]
def marksO (k n : Nat) : List Od := (List.range n).map fun i => markO (k + 6 * i)
theorem marksO_len (k n : Nat) : (marksO k n).length = n := by simp [marksO]
theorem marksO_more (k n : Nat) : marksO k (n + 1) = marksO k n ++ [markO (k + 6 * n)] := by simp [marksO, List.range_succ]
theorem marksO_get {k n i : Nat} (h : i < n) : (marksO k n)[i]? = some (markO (k + 6 * i)) := by simp [marksO, h]

set_option maxRecDepth 100000 in
set_option maxHeartbeats 800000 in
theorem markOrderS_any (g len cap k : Nat) (w : World) (hl : len ≤ 2097152) (hk0 : 0 < k) (hk1 : k ≤ 1000000000) (hg : g < w.heap.size) (ht : w.there g 0 (len * 6)) :
    Calls Try.prog 26 #[.slice (some ⟨g, 0, none⟩) len cap, .int .i64 k] w fun e w' => e = .returned (.int .i64 ((k + 6 * len : Nat) : Int)) ∧ MarkR Od.vs 6 len g w w' (marksO k len) := by
  have HM : Hid (MarkR Od.vs 6 len g w w (marksO k 0)) := ⟨by simp [marksO], ht, World.grownBy.refl _ _, by simp [marksO], hg⟩
  clear ht
  go_enter Try.func26, Try.ntmps26
  go_wp2_with fail
  go_loopw [1, 5] (fun kv i wr => ∃ m kk : Nat, m ≤ len ∧ i = .int .i64 m ∧ kv = .int .i64 kk ∧ Hid (kk = k + 6 * m) ∧ MarkR Od.vs 6 len g w wr (marksO k m)) (fun _ i _ => len - (intOf i).toNat)
  case atStart => exact ⟨0, k, Nat.zero_le _, rfl, rfl, rfl, unhide HM⟩
  case round =>
    obtain ⟨m, kk, hm, rfl, rfl, hkk, hmr⟩ := hrel
    have HR := hide hmr
    have hkb : (kk : Int) ≤ 1020000000 := by have := unhide hkk; omega
    clear hmr HM
    by_cases hlt : m < len
    · obtain ⟨⟨x0, y0, z0⟩, ⟨x1, y1, z1⟩, ⟨x2, y2, z2⟩, ⟨x3, y3, z3⟩, ⟨x4, y4, z4⟩, x5, y5, z5⟩ := there6 (there_part (i := m * 6) (m := 6) (unhide HR).2.1 (by omega))
      have hlt' : (m : Int) < len := by omega
      go_wp2_with fail
      refine (markText_at _ (kk + 5) _ (by omega) (by omega) (by omega)).mono ?_
      rintro e W2 ⟨rfl, hb⟩
      have hb' : Below (wr.setCells g (m * 6) (mark5 kk)).heap.size (wr.setCells g (m * 6) (mark5 kk)) W2 := hb
      have T2 := there_below (World.there_setCells (unhide HR).2.1 g (m * 6) (mark5 kk)) hb' (by rw [size_setCells]; exact (unhide HR).2.2.2.2)
      obtain ⟨v7, c7, f7⟩ := there1O (there_part (i := m * 6 + 5) (m := 1) T2 (by omega)) 0 (by omega)
      have HB := hide hb'
      clear hb hb' T2 y0 z0 y1 z1 y2 z2 y3 z3 y4 z4 y5 z5
      rw [Nat.add_zero] at c7 f7
      go_wp2_with fail
      go_roundw
      case rel =>
        refine ⟨m + 1, kk + 6, by omega, by go_num, congrArg (Value.int .i64) (by omega), by have := unhide hkk; show kk + 6 = _; omega, ?_⟩
        have h := mark_stepR (markO kk) (mark5 kk) (.string (markS (kk + 5))) rfl (unhide HR) (by rw [marksO_len]; exact hlt) Od.len (by rw [marksO_len]; exact unhide HB) (by rw [size_setCells]; exact Nat.le_refl _)
        rw [marksO_len, unhide hkk, ← marksO_more, ← unhide hkk] at h
        exact h
      case measure => simp [intOf]; omega
    · go_wp2_with fail
      go_ret
      obtain rfl : m = len := by omega
      have h := unhide hkk
      subst h
      exact ⟨rfl, unhide HR⟩

set_option maxRecDepth 100000 in
set_option maxHeartbeats 800000 in
theorem heldOrderS_any (v : Value) (len k : Nat) (w : World) (hl : len ≤ 2097152) (hk0 : 0 < k) (hk1 : k ≤ 1000000000) (hr : RdR Od.vs 6 w v (marksO k len)) :
    Calls Try.prog 27 #[v, .int .i64 k] w fun e w' => e = .returned (.int .i64 ((k + 6 * len : Nat) : Int)) ∧ Below w.heap.size w w' := by
  obtain ⟨a, cap, rfl, _, hc⟩ := hr
  rw [marksO_len]
  have hcell : ∀ (m : Nat), m < len → ∃ b off, a = some ⟨b, off, none⟩ ∧ b < w.heap.size ∧ w.rangeAt b (off + m * 6) (markO (k + 6 * m)).vs := by
    intro m hm
    have hg := marksO_get (k := k) hm
    obtain ⟨b, off, h1, h2, h3⟩ := hc (by intro h; rw [h] at hg; simp at hg)
    exact ⟨b, off, h1, h2, h3 m _ hg⟩
  have HC := hide hcell
  clear hcell hc
  go_enter Try.func27, Try.ntmps27
  go_wp2_with fail
  go_loopw [1, 5] (fun kv i wr => ∃ m kk : Nat, m ≤ len ∧ i = .int .i64 m ∧ kv = .int .i64 kk ∧ Hid (kk = k + 6 * m) ∧ Below w.heap.size w wr) (fun _ i _ => len - (intOf i).toNat)
  case atStart => exact ⟨0, k, Nat.zero_le _, rfl, rfl, rfl, Below.refl _ _⟩
  case round =>
    obtain ⟨m, kk, hm, rfl, rfl, hkk, hbel⟩ := hrel
    have HB := hide hbel
    have hkb : (kk : Int) ≤ 1020000000 := by have := unhide hkk; omega
    clear hbel
    by_cases hlt : m < len
    · obtain ⟨b, off, rfl, hb, hcl⟩ := unhide HC m hlt
      rw [← unhide hkk] at hcl
      obtain ⟨g0, g1, g2, g3, g4, g5⟩ := od_cells (range_below hcl (unhide HB) hb)
      simp only [markO] at g0 g1 g2 g3 g4 g5
      have HG5 := hide g5
      have hlt' : (m : Int) < len := by omega
      have hbw : Hid (b < wr.heap.size) := Nat.lt_of_lt_of_le hb (unhide HB).size
      clear hcl hb
      go_wp2_with fail
      go_region_with (go_at_call 44; refine (markText_at _ (kk + 5) _ (by omega) (by omega) (by omega)).mono ?_; rintro e W2 ⟨rfl, hb2⟩; have c7 := (hb2.cell (p := ⟨b, off + m * 6 + 5, none⟩) (unhide hbw)).trans (unhide HG5); have HB2 := hide ((unhide HB).drew.trans (hb2.mono (unhide HB).drew.size)); clear hb2)
      all_goals go_wp2_with fail
      all_goals
        exact ⟨⟨m + 1, kk + 6, by omega, by go_num, congrArg (Value.int .i64) (by omega), by have := unhide hkk; show kk + 6 = _; omega, unhide HB2⟩, by simp [intOf]; omega⟩
    · go_wp2_with fail
      go_ret
      obtain rfl : m = len := by omega
      have h := unhide hkk
      subst h
      exact ⟨rfl, unhide HB⟩

theorem markOrderS_nil (a : Option Addr) (cap k : Nat) (w : World) :
    Calls Try.prog 26 #[.slice a 0 cap, .int .i64 k] w fun e w' => e = .returned (.int .i64 k) ∧ w' = w := by
  go_enter Try.func26, Try.ntmps26
  go_wp2
  refine wp_loop_rounds 1 ?_
  rw [rounds_succ]
  go_wp2
  go_ret
  exact ⟨rfl, rfl⟩
/-- A row of orders that the call made is marked: it is then a row of marks; other rows stay. -/
theorem markO_own {B : Nat} (v : Value) (l : List Od) (w : World) (h : OwnR Od.vs 6 B w v l) (hl : l.length ≤ 2097152) :
    Calls Try.prog 26 #[v, .int .i64 1] w fun e w' => e = .returned (.int .i64 ((1 + 6 * l.length : Nat) : Int)) ∧ OwnR Od.vs 6 B w' v (marksO 1 l.length) ∧
      ∃ G, w.grownBy w' G ∧ ∀ g, G = some g → v.ownBlock = some g ∧ B ≤ g ∧ l ≠ [] := by
  obtain ⟨a, cap, rfl, hlen, h⟩ := h
  by_cases hne : l = []
  · subst hne
    refine (markOrderS_nil a cap 1 w).mono ?_
    rintro e w' ⟨rfl, rfl⟩
    exact ⟨rfl, ⟨a, cap, rfl, by simp [marksO], fun h => absurd rfl h⟩, none, World.grownBy.refl _ _, fun g hg => by cases hg⟩
  · obtain ⟨g, rfl, h0, h1, h2, h3⟩ := h hne
    refine (markOrderS_any g l.length cap 1 w hl (by omega) (by omega) h1 h3).mono ?_
    rintro e w' ⟨rfl, m1, m2, m3, m4, m5⟩
    refine ⟨rfl, ⟨_, cap, by rw [marksO_len], by rw [marksO_len]; exact hlen, fun _ => ⟨g, rfl, h0, m5, m1, by rw [marksO_len]; exact m2⟩⟩, some g, m3, fun g' hg => ?_⟩
    obtain rfl := Option.some.inj hg
    exact ⟨rfl, h0, hne⟩
end Go.Proofs.Ytadnjcgfoofjiaa
