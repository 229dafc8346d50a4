/-
  A row of events marked, and the marks found: proved by walking the laws' own helpers.
-/
import Derived.Test.YtmeekcdoajbjdaaGreatDoorGj15
import Derived.Test.YtmeekcdoajbjdaaGreatDoorGj41
import Derived.Test.YtmeekcdoajbjdaaGreatDoorGj43
import Derived.Test.YtmeekcdoajbjdaaGreatDoorGj44
namespace Go.Proofs.YtmeekcdoajbjdaaGreatDoor
open Go.RowKit
set_option linter.unusedVariables false

/-- The mark of an event. -/
def markE (k : Nat) : Ev := ⟨(k : Int), ⟨(k : Int) + 1, (k : Int) + 1 + 1, (k : Int) + 1 + 1 + 1, (k : Int) + 1 + 1 + 1 + 1, (k : Int) + 1 + 1 + 1 + 1 + 1, (k : Int) + 1 + 1 + 1 + 1 + 1 + 1, floatOfInt .f64 ((k : Int) + 1 + 1 + 1 + 1 + 1 + 1 + 1), markS (k + 8)⟩, (k : Int) + 1 + 1 + 1 + 1 + 1 + 1 + 1 + 1 + 1, (k : Int) + 1 + 1 + 1 + 1 + 1 + 1 + 1 + 1 + 1 + 1, (k : Int) + 1 + 1 + 1 + 1 + 1 + 1 + 1 + 1 + 1 + 1 + 1, (k : Int) + 1 + 1 + 1 + 1 + 1 + 1 + 1 + 1 + 1 + 1 + 1 + 1, (k : Int) + 1 + 1 + 1 + 1 + 1 + 1 + 1 + 1 + 1 + 1 + 1 + 1 + 1⟩
/-- Its cells ahead of the text. -/
def mark8 (k : Nat) : List Value := [.int .i64 ((k : Int)), .int .i64 ((k : Int) + 1), .int .i64 ((k : Int) + 1 + 1), .int .i64 ((k : Int) + 1 + 1 + 1), .int .i64 ((k : Int) + 1 + 1 + 1 + 1), .int .i64 ((k : Int) + 1 + 1 + 1 + 1 + 1), .int .i64 ((k : Int) + 1 + 1 + 1 + 1 + 1 + 1), .float .f64 (floatOfInt .f64 ((k : Int) + 1 + 1 + 1 + 1 + 1 + 1 + 1))]
/-- The text and the cells behind it. -/
def mark6 (k : Nat) : List Value := [.string (markS (k + 8)), .int .i64 ((k : Int) + 1 + 1 + 1 + 1 + 1 + 1 + 1 + 1 + 1), .int .i64 ((k : Int) + 1 + 1 + 1 + 1 + 1 + 1 + 1 + 1 + 1 + 1), .int .i64 ((k : Int) + 1 + 1 + 1 + 1 + 1 + 1 + 1 + 1 + 1 + 1 + 1), .int .i64 ((k : Int) + 1 + 1 + 1 + 1 + 1 + 1 + 1 + 1 + 1 + 1 + 1 + 1), .int .i64 ((k : Int) + 1 + 1 + 1 + 1 + 1 + 1 + 1 + 1 + 1 + 1 + 1 + 1 + 1)]
def marksE (k n : Nat) : List Ev := (List.range n).map fun i => markE (k + 14 * i)
theorem marksE_len (k n : Nat) : (marksE k n).length = n := by simp [marksE]
theorem marksE_more (k n : Nat) : marksE k (n + 1) = marksE k n ++ [markE (k + 14 * n)] := by simp [marksE, List.range_succ]
theorem marksE_get {k n i : Nat} (h : i < n) : (marksE k n)[i]? = some (markE (k + 14 * i)) := by simp [marksE, h]
theorem there1E {w : World} {b o n : Nat} (h : w.there b o n) (j : Nat) (hj : j < n) : ∃ v, w.cell? ⟨b, o + j, none⟩ = some v ∧ w.frozen? ⟨b, o + j, none⟩ = false := there1L h j hj
section
variable {α : Type} {f : α → List Value} {sz : Nat}
theorem mark_stepL {n g C : Nat} {w wr W2 : World} {done : List α} (x : α) (a z : List Value) (hx : f x = a ++ z) (h : MarkR f sz n g w wr done) (hn : done.length < n) (hf : ∀ c, (f c).length = sz)
    (hb : Below C (wr.setCells g (done.length * sz) a) W2) (hC : wr.heap.size ≤ C) : MarkR f sz n g w (W2.setCells g (done.length * sz + a.length) z) (done ++ [x]) := by
  obtain ⟨h1, h2, h3, h4, h5⟩ := h
  have hsz : a.length + z.length = sz := by rw [← hf x, hx]; simp
  have hle : done.length * sz + sz ≤ n * sz := by
    have := Nat.mul_le_mul_right sz (show done.length + 1 ≤ n by omega)
    rw [Nat.add_mul] at this; omega
  have hlt : g < C := by omega
  have t1 : (wr.setCells g (done.length * sz) a).there g 0 (n * sz) := World.there_setCells h2 _ _ _
  have t2 := there_below t1 hb hlt
  have ra : W2.rangeAt g (done.length * sz) a := range_below (World.rangeAt_setCells_same _ _ _ _ (there_part h2 (by omega))) hb hlt
  refine ⟨fun i c hc => ?_, World.there_setCells t2 _ _ _, ?_, by simp; omega, ?_⟩
  · by_cases hi : i < done.length
    · rw [List.getElem?_append_left hi] at hc
      have hi' := Nat.mul_le_mul_right sz (show i + 1 ≤ done.length by omega)
      rw [Nat.add_mul] at hi'
      refine World.rangeAt_setCells_apart (range_below (World.rangeAt_setCells_apart (h1 i c hc) _ _ _ (.inr (.inl ?_))) hb hlt) _ _ _ (.inr (.inl ?_))
      · rw [hf c]; omega
      · rw [hf c]; omega
    · have hlen : i < (done ++ [x]).length := (List.getElem?_eq_some_iff.1 hc).1
      have hi' : i = done.length := by simp at hlen; omega
      subst hi'
      simp only [List.getElem?_append_right (Nat.le_refl _), Nat.sub_self, List.getElem?_cons_zero, Option.some.injEq] at hc
      subst hc
      rw [Nat.zero_add, hx]
      exact range_append (World.rangeAt_setCells_apart ra _ _ _ (.inr (.inl (by omega)))) (World.rangeAt_setCells_same _ _ _ _ (there_part t2 (by omega)))
  · exact gr_setCellsM g _ _ _ (gr_trans (gr_setCellsM g _ _ _ h3) (below_gr hb (by rw [size_setCells]; exact hC)))
  · rw [size_setCells]
    have := hb.size
    rw [size_setCells] at this
    omega
end

set_option maxRecDepth 100000 in
set_option maxHeartbeats 1600000 in
theorem markEventS_any (g len cap k : Nat) (w : World) (hl : len ≤ 2097152) (hk0 : 0 < k) (hk1 : k ≤ 1000000000) (hg : g < w.heap.size) (ht : w.there g 0 (len * 14)) :
    Calls Tryz.prog 10 #[.slice (some ⟨g, 0, none⟩) len cap, .int .i64 k] w fun e w' => e = .returned (.int .i64 ((k + 14 * len : Nat) : Int)) ∧ MarkR Ev.vs 14 len g w w' (marksE k len) := by
  have HM : Hid (MarkR Ev.vs 14 len g w w (marksE k 0)) := ⟨by simp [marksE], ht, World.grownBy.refl _ _, by simp [marksE], hg⟩
  have hsf := sfl
  clear ht
  go_enter Tryz.func10, Tryz.ntmps10
  go_wp2_with fail
  go_loopw [1, 5] (fun kv i wr => ∃ m kk : Nat, m ≤ len ∧ i = .int .i64 m ∧ kv = .int .i64 kk ∧ Hid (kk = k + 14 * m) ∧ MarkR Ev.vs 14 len g w wr (marksE k m)) (fun _ i _ => len - (intOf i).toNat)
  case atStart => exact ⟨0, k, Nat.zero_le _, rfl, rfl, rfl, unhide HM⟩
  case round =>
    obtain ⟨m, kk, hm, rfl, rfl, hkk, hmr⟩ := hrel
    have HR := hide hmr
    have hkb : (kk : Int) ≤ 1030000000 := by have := unhide hkk; omega
    clear hmr HM
    by_cases hlt : m < len
    · have ht8 := there_part (i := m * 14) (m := 14) (unhide HR).2.1 (by omega)
      obtain ⟨x0, y0, z0⟩ := there1E ht8 0 (by omega)
      obtain ⟨x1, y1, z1⟩ := there1E ht8 1 (by omega)
      obtain ⟨x2, y2, z2⟩ := there1E ht8 2 (by omega)
      obtain ⟨x3, y3, z3⟩ := there1E ht8 3 (by omega)
      obtain ⟨x4, y4, z4⟩ := there1E ht8 4 (by omega)
      obtain ⟨x5, y5, z5⟩ := there1E ht8 5 (by omega)
      obtain ⟨x6, y6, z6⟩ := there1E ht8 6 (by omega)
      obtain ⟨x7, y7, z7⟩ := there1E ht8 7 (by omega)
      rw [Nat.add_zero] at y0 z0
      have hlt' : (m : Int) < len := by omega
      clear ht8
      go_wp2_with fail
      refine (markText_at _ (kk + 8) _ (by omega) (by omega) (by omega)).mono ?_
      rintro e W2 ⟨rfl, hb⟩
      have hb' : Below (wr.setCells g (m * 14) (mark8 kk)).heap.size (wr.setCells g (m * 14) (mark8 kk)) W2 := hb
      have T2 := there_part (i := m * 14) (m := 14) (there_below (World.there_setCells (unhide HR).2.1 g (m * 14) (mark8 kk)) hb' (by rw [size_setCells]; exact (unhide HR).2.2.2.2)) (by omega)
      obtain ⟨v8, c8, f8⟩ := there1E T2 8 (by omega)
      obtain ⟨v9, c9, f9⟩ := there1E T2 9 (by omega)
      obtain ⟨v10, c10, f10⟩ := there1E T2 10 (by omega)
      obtain ⟨v11, c11, f11⟩ := there1E T2 11 (by omega)
      obtain ⟨v12, c12, f12⟩ := there1E T2 12 (by omega)
      obtain ⟨v13, c13, f13⟩ := there1E T2 13 (by omega)
      have HB := hide hb'
      clear hb hb' T2 y0 z0 y1 z1 y2 z2 y3 z3 y4 z4 y5 z5 y6 z6 y7 z7
      go_wp2_with fail
      go_roundw
      case rel =>
        refine ⟨m + 1, kk + 14, by omega, by go_num, congrArg (Value.int .i64) (by omega), by have := unhide hkk; show kk + 14 = _; omega, ?_⟩
        have h := mark_stepL (markE kk) (mark8 kk) (mark6 kk) rfl (unhide HR) (by rw [marksE_len]; exact hlt) Ev.len (by rw [marksE_len]; exact unhide HB) (by rw [size_setCells]; exact Nat.le_refl _)
        rw [marksE_len, unhide hkk, ← marksE_more, ← unhide hkk] at h
        exact h
      case measure => simp [intOf]; omega
    · go_wp2_with fail
      go_ret
      obtain rfl : m = len := by omega
      have h := unhide hkk
      subst h
      exact ⟨rfl, unhide HR⟩
theorem markEventS_nil (a : Option Addr) (cap k : Nat) (w : World) :
    Calls Tryz.prog 10 #[.slice a 0 cap, .int .i64 k] w fun e w' => e = .returned (.int .i64 k) ∧ w' = w := by
  go_enter Tryz.func10, Tryz.ntmps10
  go_wp2
  refine wp_loop_rounds 1 ?_
  rw [rounds_succ]
  go_wp2
  go_ret
  exact ⟨rfl, rfl⟩
/-- A row of events that the call made is marked: it is then a row of marks; other rows stay. -/
theorem markE_own {B : Nat} (v : Value) (l : List Ev) (k : Nat) (w : World) (h : OwnR Ev.vs 14 B w v l) (hl : l.length ≤ 2097152) (hk0 : 0 < k) (hk1 : k ≤ 1000000000) :
    Calls Tryz.prog 10 #[v, .int .i64 k] w fun e w' => e = .returned (.int .i64 ((k + 14 * l.length : Nat) : Int)) ∧ OwnR Ev.vs 14 B w' v (marksE k l.length) ∧
      ∃ G, w.grownBy w' G ∧ ∀ g, G = some g → v.ownBlock = some g ∧ B ≤ g ∧ l ≠ [] := by
  obtain ⟨a, cap, rfl, hlen, h⟩ := h
  by_cases hne : l = []
  · subst hne
    refine (markEventS_nil a cap k w).mono ?_
    rintro e w' ⟨rfl, rfl⟩
    exact ⟨rfl, ⟨a, cap, rfl, by simp [marksE], fun h => absurd rfl h⟩, none, World.grownBy.refl _ _, fun g hg => by cases hg⟩
  · obtain ⟨g, rfl, h0, h1, h2, h3⟩ := h hne
    refine (markEventS_any g l.length cap k w hl hk0 hk1 h1 h3).mono ?_
    rintro e w' ⟨rfl, m1, m2, m3, m4, m5⟩
    refine ⟨rfl, ⟨_, cap, by rw [marksE_len], by rw [marksE_len]; exact hlen, fun _ => ⟨g, rfl, h0, m5, m1, by rw [marksE_len]; exact m2⟩⟩, some g, m3, fun g' hg => ?_⟩
    obtain rfl := Option.some.inj hg
    exact ⟨rfl, h0, hne⟩

end Go.Proofs.YtmeekcdoajbjdaaGreatDoor
namespace Go.Proofs.YtmeekcdoajbjdaaGreatDoor
open Go.RowKit Go.ChangeShapes Go.WideShapes Go.Deep
set_option linter.unusedVariables false

/-- What is told of an event that came in. -/
structure Ev.ok (e : Ev) : Prop where
  k : (Lit.int .i64 e.kind).wf = true
  c : e.cmd.ok
  a : (Lit.int .i64 e.id).wf = true
  o : (Lit.int .i64 e.other).wf = true
  q : (Lit.int .i64 e.qty).wf = true
  p : (Lit.int .i64 e.price).wf = true
  r : (Lit.int .i64 e.reason).wf = true
theorem flt_lt {p : Nat} (h : (Lit.float .f64 p).wf = true) : p < 18446744073709551616 := by
  simpa [Lit.wf] using h
theorem Ev.ok.fit {e : Ev} (h : e.ok) : e.fit := by
  refine ⟨fun o => ?_, bounds_i64 h.k, flt_lt h.c.p, h.c.g⟩
  unfold Ev.num
  split
  · exact bounds_i64 h.c.k
  · exact bounds_i64 h.c.s
  · exact bounds_i64 h.c.t
  · exact bounds_i64 h.c.l
  · exact bounds_i64 h.c.q
  · exact bounds_i64 h.c.i
  · exact bounds_i64 h.a
  · exact bounds_i64 h.o
  · exact bounds_i64 h.q
  · exact bounds_i64 h.p
  · exact bounds_i64 h.r
  · omega
section
variable {H : Type} {enc : TypeId × Value → H} {w : World} {base : Nat} {spare : Nat → Bool} {held : Bool}
theorem list14 {cs : List Value} (h : cs.length = 14) : ∃ v0 v1 v2 v3 v4 v5 v6 v7 v8 v9 v10 v11 v12 v13, cs = [v0, v1, v2, v3, v4, v5, v6, v7, v8, v9, v10, v11, v12, v13] :=
  match cs, h with
  | [v0, v1, v2, v3, v4, v5, v6, v7, v8, v9, v10, v11, v12, v13], _ => ⟨v0, v1, v2, v3, v4, v5, v6, v7, v8, v9, v10, v11, v12, v13, rfl⟩
theorem ev_opened {fuel : Nat} {cs : List Value} {x : DataW H × List MemPlace} (h : DataW.trod enc Tryz.prog w base spare held fuel 39 cs = some x) : ∃ e : Ev, cs = e.vs ∧ e.ok := by
  obtain ⟨xs, n, _, _, hlen, hxl, hf⟩ := DataW.trod_struct Tryz.underlying39 h
  have hl14 : cs.length = 14 := hlen.trans (by kernel_rfl)
  have k3 : Tryz.prog.cellsOf 3 = 1 := by kernel_rfl
  have k8 : Tryz.prog.cellsOf 37 = 8 := by kernel_rfl
  have hx : ∀ i, i < 7 → ∃ y, xs[i]? = some y := fun i hi => ⟨_, List.getElem?_eq_getElem (by rw [hxl]; exact hi)⟩
  obtain ⟨y0, e0⟩ := hx 0 (by omega)
  obtain ⟨y1, e1⟩ := hx 1 (by omega)
  obtain ⟨y2, e2⟩ := hx 2 (by omega)
  obtain ⟨y3, e3⟩ := hx 3 (by omega)
  obtain ⟨y4, e4⟩ := hx 4 (by omega)
  obtain ⟨y5, e5⟩ := hx 5 (by omega)
  obtain ⟨y6, e6⟩ := hx 6 (by omega)
  have f0 : DataW.trod enc Tryz.prog w base spare held n 3 ((cs.drop 0).take (Tryz.prog.cellsOf 3)) = some y0 := (hf 0 _ rfl).trans e0
  have f1 : DataW.trod enc Tryz.prog w base spare held n 37 ((cs.drop 1).take (Tryz.prog.cellsOf 37)) = some y1 := (hf 1 _ rfl).trans e1
  have f2 : DataW.trod enc Tryz.prog w base spare held n 3 ((cs.drop 9).take (Tryz.prog.cellsOf 3)) = some y2 := (hf 2 _ rfl).trans e2
  have f3 : DataW.trod enc Tryz.prog w base spare held n 3 ((cs.drop 10).take (Tryz.prog.cellsOf 3)) = some y3 := (hf 3 _ rfl).trans e3
  have f4 : DataW.trod enc Tryz.prog w base spare held n 3 ((cs.drop 11).take (Tryz.prog.cellsOf 3)) = some y4 := (hf 4 _ rfl).trans e4
  have f5 : DataW.trod enc Tryz.prog w base spare held n 3 ((cs.drop 12).take (Tryz.prog.cellsOf 3)) = some y5 := (hf 5 _ rfl).trans e5
  have f6 : DataW.trod enc Tryz.prog w base spare held n 3 ((cs.drop 13).take (Tryz.prog.cellsOf 3)) = some y6 := (hf 6 _ rfl).trans e6
  clear hf hx e0 e1 e2 e3 e4 e5 e6 h hlen
  obtain ⟨v0, v1, v2, v3, v4, v5, v6, v7, v8, v9, v10, v11, v12, v13, rfl⟩ := list14 hl14
  clear hl14
  simp only [k3, k8, List.drop_zero, List.drop_succ_cons, List.take_succ_cons, List.take_zero] at f0 f1 f2 f3 f4 f5 f6
  obtain ⟨n0, c0, _, b0⟩ := DataW.trod_int Tryz.underlying3 f0
  obtain ⟨c, c1, b1⟩ := cm_opened f1
  obtain ⟨n2, c2, _, b2⟩ := DataW.trod_int Tryz.underlying3 f2
  obtain ⟨n3, c3, _, b3⟩ := DataW.trod_int Tryz.underlying3 f3
  obtain ⟨n4, c4, _, b4⟩ := DataW.trod_int Tryz.underlying3 f4
  obtain ⟨n5, c5, _, b5⟩ := DataW.trod_int Tryz.underlying3 f5
  obtain ⟨n6, c6, _, b6⟩ := DataW.trod_int Tryz.underlying3 f6
  simp only [Cm.vs, List.cons.injEq, and_true] at c0 c1 c2 c3 c4 c5 c6
  obtain ⟨rfl, rfl, rfl, rfl, rfl, rfl, rfl, rfl⟩ := c1
  subst c0 c2 c3 c4 c5 c6
  exact ⟨⟨n0, c, n2, n3, n4, n5, n6⟩, rfl, ⟨b0, b1, b2, b3, b4, b5, b6⟩⟩
end
end Go.Proofs.YtmeekcdoajbjdaaGreatDoor
