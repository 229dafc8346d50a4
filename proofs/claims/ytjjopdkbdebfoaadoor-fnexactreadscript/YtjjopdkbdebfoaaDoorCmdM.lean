/-
  A row of commands marked, and the marks found: proved by walking the laws' own helpers.
-/
import Derived.Test.YtjjopdkbdebfoaaDoorCmB
import Derived.WalkLawsBesides
import Derived.Test.YtjjopdkbdebfoaaDoorMarkG
import Derived.Test.YtjjopdkbdebfoaaDoorNanB
import Derived.Laws.Cover2
import Derived.Deep.RegionWith
namespace Go.Proofs.YtjjopdkbdebfoaaDoor
open Go.RowKit
set_option linter.unusedVariables false

/-- The mark of a command. -/
def markC (k : Nat) : Cm := ⟨k, (k : Int) + 1, (k : Int) + 1 + 1, (k : Int) + 1 + 1 + 1, (k : Int) + 1 + 1 + 1 + 1, (k : Int) + 1 + 1 + 1 + 1 + 1, floatOfInt .f64 ((k : Int) + 1 + 1 + 1 + 1 + 1 + 1), markS (k + 7)⟩
/-- Its cells but the text. -/
def mark7 (k : Nat) : List Value := [.int .i64 (k : Int), .int .i64 ((k : Int) + 1), .int .i64 ((k : Int) + 1 + 1), .int .i64 ((k : Int) + 1 + 1 + 1), .int .i64 ((k : Int) + 1 + 1 + 1 + 1), .int .i64 ((k : Int) + 1 + 1 + 1 + 1 + 1), .float .f64 (floatOfInt .f64 ((k : Int) + 1 + 1 + 1 + 1 + 1 + 1))]
def marksC (k n : Nat) : List Cm := (List.range n).map fun i => markC (k + 8 * i)
theorem marksC_len (k n : Nat) : (marksC k n).length = n := by simp [marksC]
theorem marksC_more (k n : Nat) : marksC k (n + 1) = marksC k n ++ [markC (k + 8 * n)] := by simp [marksC, List.range_succ]
theorem marksC_get {k n i : Nat} (h : i < n) : (marksC k n)[i]? = some (markC (k + 8 * i)) := by simp [marksC, h]

set_option maxRecDepth 100000 in
set_option maxHeartbeats 800000 in
theorem markCmdS_any (g len cap k : Nat) (w : World) (hl : len ≤ 2097152) (hk0 : 0 < k) (hk1 : k ≤ 1000000000) (hg : g < w.heap.size) (ht : w.there g 0 (len * 8)) :
    Calls Tryd.prog 11 #[.slice (some ⟨g, 0, none⟩) len cap, .int .i64 k] w fun e w' => e = .returned (.int .i64 ((k + 8 * len : Nat) : Int)) ∧ MarkR Cm.vs 8 len g w w' (marksC k len) := by
  have HM : Hid (MarkR Cm.vs 8 len g w w (marksC k 0)) := ⟨by simp [marksC], ht, World.grownBy.refl _ _, by simp [marksC], hg⟩
  have hsf := sfl
  clear ht
  go_enter Tryd.func11, Tryd.ntmps11
  go_wp2_with fail
  go_loopw [1, 5] (fun kv i wr => ∃ m kk : Nat, m ≤ len ∧ i = .int .i64 m ∧ kv = .int .i64 kk ∧ Hid (kk = k + 8 * m) ∧ MarkR Cm.vs 8 len g w wr (marksC k m)) (fun _ i _ => len - (intOf i).toNat)
  case atStart => exact ⟨0, k, Nat.zero_le _, rfl, rfl, rfl, unhide HM⟩
  case round =>
    obtain ⟨m, kk, hm, rfl, rfl, hkk, hmr⟩ := hrel
    have HR := hide hmr
    have hkb : (kk : Int) ≤ 1020000000 := by have := unhide hkk; omega
    clear hmr HM
    by_cases hlt : m < len
    · obtain ⟨⟨x0, y0, z0⟩, ⟨x1, y1, z1⟩, ⟨x2, y2, z2⟩, ⟨x3, y3, z3⟩, ⟨x4, y4, z4⟩, ⟨x5, y5, z5⟩, ⟨x6, y6, z6⟩, x7, y7, z7⟩ := there8 (there_part (i := m * 8) (m := 8) (unhide HR).2.1 (by omega))
      have hlt' : (m : Int) < len := by omega
      go_wp2_with fail
      refine (markText_at _ (kk + 7) _ (by omega) (by omega) (by omega)).mono ?_
      rintro e W2 ⟨rfl, hb⟩
      have hb' : Below (wr.setCells g (m * 8) (mark7 kk)).heap.size (wr.setCells g (m * 8) (mark7 kk)) W2 := hb
      have T2 := there_below (World.there_setCells (unhide HR).2.1 g (m * 8) (mark7 kk)) hb' (by rw [size_setCells]; exact (unhide HR).2.2.2.2)
      obtain ⟨v7, c7, f7⟩ := there1 (there_part (i := m * 8 + 7) (m := 1) T2 (by omega)) 0 (by omega)
      have HB := hide hb'
      clear hb hb' T2 y0 z0 y1 z1 y2 z2 y3 z3 y4 z4 y5 z5 y6 z6 y7 z7
      rw [Nat.add_zero] at c7 f7
      go_wp2_with fail
      go_roundw
      case rel =>
        refine ⟨m + 1, kk + 8, by omega, by go_num, congrArg (Value.int .i64) (by omega), by have := unhide hkk; show kk + 8 = _; omega, ?_⟩
        have h := mark_stepR (markC kk) (mark7 kk) (.string (markS (kk + 7))) rfl (unhide HR) (by rw [marksC_len]; exact hlt) Cm.len (by rw [marksC_len]; exact unhide HB) (by rw [size_setCells]; exact Nat.le_refl _)
        rw [marksC_len, unhide hkk, ← marksC_more, ← unhide hkk] at h
        exact h
      case measure => simp [intOf]; omega
    · go_wp2_with fail
      go_ret
      obtain rfl : m = len := by omega
      have h := unhide hkk
      subst h
      exact ⟨rfl, unhide HR⟩
end Go.Proofs.YtjjopdkbdebfoaaDoor
