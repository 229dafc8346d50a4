/-
  A row of commands marked, and the marks found: proved by walking the laws' own helpers.
-/
import Derived.Test.YthkhankhddcacagCmdW
import Derived.Test.YthkhankhddcacagMarkT
import Derived.Test.YthkhankhddcacagNanB
import Derived.Laws.Cover2
import Derived.Deep.RegionWith
namespace Go.Proofs.Ythkhankhddcacag
open Go.RowKit
set_option linter.unusedVariables false

section
variable {α : Type} (f : α → List Value) (sz : Nat)
/-- The row of n records in block g, its first ones written anew; all else as it was. -/
def MarkR (n g : Nat) (w wr : World) (done : List α) : Prop :=
  (∀ i c, done[i]? = some c → wr.rangeAt g (0 + i * sz) (f c)) ∧ wr.there g 0 (n * sz) ∧ w.grownBy wr (some g) ∧ done.length ≤ n ∧ g < wr.heap.size
variable {f sz}
theorem gr_setCells {w : World} (g : Nat) : ∀ (vs : List Value) (o : Nat) (wr : World), w.grownBy wr (some g) → w.grownBy (wr.setCells g o vs) (some g)
  | [], _, _, h => h
  | v :: r, o, wr, h => by rw [World.setCells]; exact gr_setCells g r (o + 1) _ (gr_trans h (gr_set wr ⟨g, o, none⟩ v))
theorem range_append {w : World} {b o : Nat} {a c : List Value} (h1 : w.rangeAt b o a) (h2 : w.rangeAt b (o + a.length) c) : w.rangeAt b o (a ++ c) := fun j v hv => by
  by_cases hj : j < a.length
  · rw [List.getElem?_append_left hj] at hv; exact h1 j v hv
  · rw [List.getElem?_append_right (by omega)] at hv
    have := h2 _ v hv
    rw [show o + a.length + (j - a.length) = o + j by omega] at this; exact this
theorem there_part {w : World} {g i m n : Nat} (h : w.there g 0 n) (hi : i + m ≤ n) : w.there g i m := fun j hj => by
  have := h (i + j) (by omega)
  rw [Nat.zero_add] at this; exact this
theorem mark_stepR {n g C : Nat} {w wr W2 : World} {done : List α} (x : α) (a : List Value) (z : Value) (hx : f x = a ++ [z]) (h : MarkR f sz n g w wr done) (hn : done.length < n) (hf : ∀ c, (f c).length = sz)
    (hb : Below C (wr.setCells g (done.length * sz) a) W2) (hC : wr.heap.size ≤ C) : MarkR f sz n g w (W2.setCells g (done.length * sz + a.length) [z]) (done ++ [x]) := by
  obtain ⟨h1, h2, h3, h4, h5⟩ := h
  have hsz : a.length + 1 = sz := by rw [← hf x, hx]; simp
  have hle : done.length * sz + sz ≤ n * sz := by
    have := Nat.mul_le_mul_right sz (show done.length + 1 ≤ n by omega)
    rw [Nat.add_mul] at this; omega
  have hlt : g < C := by omega
  have t1 : (wr.setCells g (done.length * sz) a).there g 0 (n * sz) := World.there_setCells h2 _ _ _
  have t2 := there_below t1 hb hlt
  have ra : W2.rangeAt g (done.length * sz) a := range_below (World.rangeAt_setCells_same _ _ _ _ (there_part h2 (by omega))) hb hlt
  refine ⟨fun i c hc => ?_, World.there_setCells t2 _ _ _, ?_, by simp; omega, ?_⟩
  · by_cases hi : i < done.length
    · rw [List.getElem?_append_left hi] at hc
      have hi' := Nat.mul_le_mul_right sz (show i + 1 ≤ done.length by omega)
      rw [Nat.add_mul] at hi'
      refine World.rangeAt_setCells_apart (range_below (World.rangeAt_setCells_apart (h1 i c hc) _ _ _ (.inr (.inl ?_))) hb hlt) _ _ _ (.inr (.inl ?_))
      · rw [hf c]; omega
      · rw [hf c]; omega
    · have hlen : i < (done ++ [x]).length := (List.getElem?_eq_some_iff.1 hc).1
      have hi' : i = done.length := by simp at hlen; omega
      subst hi'
      simp only [List.getElem?_append_right (Nat.le_refl _), Nat.sub_self, List.getElem?_cons_zero, Option.some.injEq] at hc
      subst hc
      rw [Nat.zero_add, hx]
      exact range_append (World.rangeAt_setCells_apart ra _ _ _ (.inr (.inl (by omega)))) (World.rangeAt_setCells_same _ _ _ _ (there_part t2 (by simp; omega)))
  · exact gr_setCells g _ _ _ (gr_trans (gr_setCells g _ _ _ h3) (below_gr hb (by rw [size_setCells]; exact hC)))
  · rw [size_setCells]
    have := hb.size
    rw [size_setCells] at this
    omega
end

/-- The mark of a command. -/
def markC (k : Nat) : Cm := ⟨k, (k : Int) + 1, (k : Int) + 1 + 1, (k : Int) + 1 + 1 + 1, (k : Int) + 1 + 1 + 1 + 1, (k : Int) + 1 + 1 + 1 + 1 + 1, floatOfInt .f64 ((k : Int) + 1 + 1 + 1 + 1 + 1 + 1), markS (k + 7)⟩
/-- Its cells but the text. -/
def mark7 (k : Nat) : List Value := [.int .i64 (k : Int), .int .i64 ((k : Int) + 1), .int .i64 ((k : Int) + 1 + 1), .int .i64 ((k : Int) + 1 + 1 + 1), .int .i64 ((k : Int) + 1 + 1 + 1 + 1), .int .i64 ((k : Int) + 1 + 1 + 1 + 1 + 1), .float .f64 (floatOfInt .f64 ((k : Int) + 1 + 1 + 1 + 1 + 1 + 1))]
theorem markText_at (x : Int) (K : Nat) (w : World) (hx : x = K) (h0 : 0 < K) (h1 : K ≤ 1073741824) :
    Calls Try.prog 20 #[.int .i64 x] w fun e w' => e = .returned (.string (markS K)) ∧ Below w.heap.size w w' := by
  subst hx; exact markText_any K w h0 h1
def marksC (k n : Nat) : List Cm := (List.range n).map fun i => markC (k + 8 * i)
theorem marksC_len (k n : Nat) : (marksC k n).length = n := by simp [marksC]
theorem marksC_more (k n : Nat) : marksC k (n + 1) = marksC k n ++ [markC (k + 8 * n)] := by simp [marksC, List.range_succ]
theorem marksC_get {k n i : Nat} (h : i < n) : (marksC k n)[i]? = some (markC (k + 8 * i)) := by simp [marksC, h]

set_option maxRecDepth 100000 in
set_option maxHeartbeats 800000 in
theorem markCmdS_any (g len cap k : Nat) (w : World) (hl : len ≤ 2097152) (hk0 : 0 < k) (hk1 : k ≤ 1000000000) (hg : g < w.heap.size) (ht : w.there g 0 (len * 8)) :
    Calls Try.prog 12 #[.slice (some ⟨g, 0, none⟩) len cap, .int .i64 k] w fun e w' => e = .returned (.int .i64 ((k + 8 * len : Nat) : Int)) ∧ MarkR Cm.vs 8 len g w w' (marksC k len) := by
  have HM : Hid (MarkR Cm.vs 8 len g w w (marksC k 0)) := ⟨by simp [marksC], ht, World.grownBy.refl _ _, by simp [marksC], hg⟩
  have hsf := sfl
  clear ht
  go_enter Try.func12, Try.ntmps12
  go_wp2_with fail
  go_loopw [1, 5] (fun kv i wr => ∃ m kk : Nat, m ≤ len ∧ i = .int .i64 m ∧ kv = .int .i64 kk ∧ Hid (kk = k + 8 * m) ∧ MarkR Cm.vs 8 len g w wr (marksC k m)) (fun _ i _ => len - (intOf i).toNat)
  case atStart => exact ⟨0, k, Nat.zero_le _, rfl, rfl, rfl, unhide HM⟩
  case round =>
    obtain ⟨m, kk, hm, rfl, rfl, hkk, hmr⟩ := hrel
    have HR := hide hmr
    have hkb : (kk : Int) ≤ 1020000000 := by have := unhide hkk; omega
    clear hmr HM
    by_cases hlt : m < len
    · obtain ⟨⟨x0, y0, z0⟩, ⟨x1, y1, z1⟩, ⟨x2, y2, z2⟩, ⟨x3, y3, z3⟩, ⟨x4, y4, z4⟩, ⟨x5, y5, z5⟩, ⟨x6, y6, z6⟩, x7, y7, z7⟩ := there8 (there_part (i := m * 8) (m := 8) (unhide HR).2.1 (by omega))
      have hlt' : (m : Int) < len := by omega
      go_wp2_with fail
      refine (markText_at _ (kk + 7) _ (by omega) (by omega) (by omega)).mono ?_
      rintro e W2 ⟨rfl, hb⟩
      have hb' : Below (wr.setCells g (m * 8) (mark7 kk)).heap.size (wr.setCells g (m * 8) (mark7 kk)) W2 := hb
      have T2 := there_below (World.there_setCells (unhide HR).2.1 g (m * 8) (mark7 kk)) hb' (by rw [size_setCells]; exact (unhide HR).2.2.2.2)
      obtain ⟨v7, c7, f7⟩ := there1 (there_part (i := m * 8 + 7) (m := 1) T2 (by omega)) 0 (by omega)
      have HB := hide hb'
      clear hb hb' T2 y0 z0 y1 z1 y2 z2 y3 z3 y4 z4 y5 z5 y6 z6 y7 z7
      rw [Nat.add_zero] at c7 f7
      go_wp2_with fail
      go_roundw
      case rel =>
        refine ⟨m + 1, kk + 8, by omega, by go_num, congrArg (Value.int .i64) (by omega), by have := unhide hkk; show kk + 8 = _; omega, ?_⟩
        have h := mark_stepR (markC kk) (mark7 kk) (.string (markS (kk + 7))) rfl (unhide HR) (by rw [marksC_len]; exact hlt) Cm.len (by rw [marksC_len]; exact unhide HB) (by rw [size_setCells]; exact Nat.le_refl _)
        rw [marksC_len, unhide hkk, ← marksC_more, ← unhide hkk] at h
        exact h
      case measure => simp [intOf]; omega
    · go_wp2_with fail
      go_ret
      obtain rfl : m = len := by omega
      have h := unhide hkk
      subst h
      exact ⟨rfl, unhide HR⟩
end Go.Proofs.Ythkhankhddcacag
