/-
  The readers of commands that the program makes, and the map that it keeps them in: proved by walking the functions.
-/
import Derived.Test.YtjjopdkbdebfoaaDoorCmdR
import Derived.Handy
import Derived.Maps.Own
import Derived.MapKept
import Derived.WideMake
namespace Go.Proofs.YtjjopdkbdebfoaaDoor
open Go.RowKit
set_option linter.unusedVariables false

theorem size_madeC (w : World) (o : Obj) : (w.alloc o).heap.size = w.heap.size + 1 := by simp
/-- A reader of new orders of a side, its side in its box. -/
def rdN (b : Nat) : Value := .func (.func 39) #[] #[.pointer (some ⟨b, 0, none⟩)]
/-- A reader of numbers, their count and what makes a command of them in its boxes. -/
def rdM (b : Nat) : Value := .func (.func 43) #[] #[.pointer (some ⟨b, 0, none⟩), .pointer (some ⟨b + 1, 0, none⟩)]

set_option maxRecDepth 100000 in
theorem newReader_any (sd : Int) (w : World) :
    Calls Tryd.prog 31 #[.int .i64 sd] w fun e w' => e = .returned (rdN w.heap.size) ∧ w' = w.alloc (Obj.cells #[.int .i64 sd] 3) := by
  go_enter Tryd.func31, Tryd.ntmps31
  go_wp2_with fail
  go_ret
  exact ⟨rfl, rfl⟩
set_option maxRecDepth 100000 in
theorem numbersReader_any (n : Int) (f : Value) (w : World) (hf : f = .func (.func 33) #[] #[] ∨ f = .func (.func 34) #[] #[] ∨ f = .func (.func 35) #[] #[]) :
    Calls Tryd.prog 32 #[.int .i64 n, f] w fun e w' => e = .returned (rdM w.heap.size) ∧ ∃ t, w' = (w.alloc (Obj.cells #[.int .i64 n] 3)).alloc (Obj.cells #[f] t) := by
  rcases hf with rfl | rfl | rfl
  all_goals
    go_enter Tryd.func32, Tryd.ntmps32
    go_wp2_with fail
    go_ret
    exact ⟨rfl, _, rfl⟩

/-- An entry of a map of readers. -/
def mE (k : ByteArray) (v : Value) (b : Nat) : MapEntry := { key := .string k, val := v, born := b }
def putM (W : World) (r : Nat) (o : Obj) : World := { W with heap := W.heap.setIfInBounds r o }
theorem upd_run {W : World} {r clk : Nat} {es : Array MapEntry} (k : ByteArray) (v : Value) (hb : W.heap[r]? = some (.map es clk)) (hf : Instr.findNow .string (.string k) es.toList 0 = some none) :
    (Instr.mapUpdate 51 (.map (some r)) (.string k) v).run Tryd.prog W = .ok () (putM W r (.map (es.push (mE k v clk)) (clk + 1))) := by
  have hk := Tryd.underlying9
  have hc : (Instr.checkKey false 10000 9 (.string k)).run Tryd.prog W = .ok () W := MapKept.run_checkKey (k := .string k) hk (by simp [MapKept.IsKey]) false 9999
  simp [Instr.mapUpdate, run_underlying Tryd.underlying51, MapKept.run_getObj_map hb, hc, MapKept.run_findKey hk hf, MapKept.run_setObj_map _ hb, Result.andThen, putM, mE]
theorem putM_heap {W : World} {r : Nat} {o o' : Obj} (hb : W.heap[r]? = some o) : (putM W r o').heap[r]? = some o' := (MapKept.heap_set hb).1
theorem putM_size (W : World) (r : Nat) (o : Obj) : (putM W r o).heap.size = W.heap.size := by simp [putM]
theorem putM_cell {W : World} {r b i : Nat} {o : Obj} (h : b ≠ r) : (putM W r o).cell? ⟨b, i, none⟩ = W.cell? ⟨b, i, none⟩ :=
  World.cell?_of_block (a := ⟨b, i, none⟩) (by show (W.heap.setIfInBounds r o)[b]? = _; simp [Array.getElem?_setIfInBounds_ne (Ne.symm h)])
theorem putM_below {B : Nat} {w W : World} {r : Nat} (o : Obj) (h : Below B w W) (hr : B ≤ r) : Below B w (putM W r o) :=
  ⟨h.os, h.tape, h.output, by rw [putM_size]; exact h.size, fun k hk => by
    rw [← h.block k hk]
    show (W.heap.setIfInBounds r o)[k]? = _
    exact Array.getElem?_setIfInBounds_ne (by omega)⟩
theorem alloc_heap {W : World} {r : Nat} {o o' : Obj} (hb : W.heap[r]? = some o) : (W.alloc o').heap[r]? = some o :=
  ((MapKept.heap_alloc W o').2 r (Array.getElem?_eq_some_iff.1 hb).1).trans hb

def wBuy : ByteArray := ⟨#[98, 117, 121]⟩
def wSel : ByteArray := ⟨#[115, 101, 108, 108]⟩
def wCan : ByteArray := ⟨#[99, 97, 110, 99, 101, 108]⟩
def wRed : ByteArray := ⟨#[114, 101, 100, 117, 99, 101]⟩
def wEnd : ByteArray := ⟨#[101, 110, 100]⟩
/-- The map of readers, and what their boxes hold. -/
structure RdMap (W : World) (r b1 b2 b3 b4 b5 : Nat) : Prop where
  obj : W.heap[r]? = some (.map #[mE wBuy (rdN b1) 0, mE wSel (rdN b2) 1, mE wCan (rdM b3) 2, mE wRed (rdM b4) 3, mE wEnd (rdM b5) 4] 5)
  c1 : W.cell? ⟨b1, 0, none⟩ = some (.int .i64 1)
  c2 : W.cell? ⟨b2, 0, none⟩ = some (.int .i64 2)
  c3 : W.cell? ⟨b3, 0, none⟩ = some (.int .i64 1) ∧ W.cell? ⟨b3 + 1, 0, none⟩ = some (.func (.func 33) #[] #[])
  c4 : W.cell? ⟨b4, 0, none⟩ = some (.int .i64 2) ∧ W.cell? ⟨b4 + 1, 0, none⟩ = some (.func (.func 34) #[] #[])
  c5 : W.cell? ⟨b5, 0, none⟩ = some (.int .i64 0) ∧ W.cell? ⟨b5 + 1, 0, none⟩ = some (.func (.func 35) #[] #[])

theorem stepN {w W : World} {r clk : Nat} {es : Array MapEntry} (sd : Int) (k : ByteArray) (hO : W.heap[r]? = some (.map es clk)) (hB : Below w.heap.size w W) (hr : w.heap.size ≤ r) (hf : Instr.findNow .string (.string k) es.toList 0 = some none) :
    ∃ W1, (Instr.mapUpdate 51 (.map (some r)) (.string k) (rdN W.heap.size)).run Tryd.prog (W.alloc (Obj.cells #[.int .i64 sd] 3)) = .ok () W1 ∧ W1.heap[r]? = some (.map (es.push (mE k (rdN W.heap.size) clk)) (clk + 1)) ∧ W1.cell? ⟨W.heap.size, 0, none⟩ = some (.int .i64 sd) ∧ Below w.heap.size w W1 ∧ (∀ b i, b < W.heap.size → b ≠ r → W1.cell? ⟨b, i, none⟩ = W.cell? ⟨b, i, none⟩) ∧ W.heap.size < W1.heap.size := by
  have hrs := (Array.getElem?_eq_some_iff.1 hO).1
  have hO1 := alloc_heap (o' := Obj.cells #[.int .i64 sd] 3) hO
  refine ⟨_, upd_run k _ hO1 hf, putM_heap hO1, ?_, putM_below _ (hB.alloc hB.size _) hr, fun b i hb hne => ?_, ?_⟩
  · rw [putM_cell (by omega)]
    have := cells_madeT W [.int .i64 sd] 3 0 _ rfl
    exact this
  · rw [putM_cell hne, World.cell?_alloc_old _ _ _ (Nat.ne_of_lt hb)]
  · rw [putM_size, size_madeT]; omega
theorem stepM {w W : World} {r clk : Nat} {es : Array MapEntry} (n : Int) (f : Value) (t : TypeId) (k : ByteArray) (hO : W.heap[r]? = some (.map es clk)) (hB : Below w.heap.size w W) (hr : w.heap.size ≤ r) (hf : Instr.findNow .string (.string k) es.toList 0 = some none) :
    ∃ W1, (Instr.mapUpdate 51 (.map (some r)) (.string k) (rdM W.heap.size)).run Tryd.prog ((W.alloc (Obj.cells #[.int .i64 n] 3)).alloc (Obj.cells #[f] t)) = .ok () W1 ∧ W1.heap[r]? = some (.map (es.push (mE k (rdM W.heap.size) clk)) (clk + 1)) ∧ (W1.cell? ⟨W.heap.size, 0, none⟩ = some (.int .i64 n) ∧ W1.cell? ⟨W.heap.size + 1, 0, none⟩ = some f) ∧ Below w.heap.size w W1 ∧ (∀ b i, b < W.heap.size → b ≠ r → W1.cell? ⟨b, i, none⟩ = W.cell? ⟨b, i, none⟩) ∧ W.heap.size + 1 < W1.heap.size := by
  have hrs := (Array.getElem?_eq_some_iff.1 hO).1
  have hO1 := alloc_heap (o' := Obj.cells #[f] t) (alloc_heap (o' := Obj.cells #[.int .i64 n] 3) hO)
  have hB1 := hB.alloc hB.size (Obj.cells #[.int .i64 n] 3)
  refine ⟨_, upd_run k _ hO1 hf, putM_heap hO1, ⟨?_, ?_⟩, putM_below _ (hB1.alloc hB1.size _) hr, fun b i hb hne => ?_, ?_⟩
  · rw [putM_cell (by omega), World.cell?_alloc_old _ _ _ (Nat.ne_of_lt (by rw [size_madeT]; exact Nat.lt_succ_self _))]
    exact cells_madeT W [.int .i64 n] 3 0 _ rfl
  · rw [putM_cell (by omega)]
    have := cells_madeT (W.alloc (Obj.cells #[.int .i64 n] 3)) [f] t 0 _ rfl
    rw [size_madeT] at this
    exact this
  · rw [putM_cell hne, World.cell?_alloc_old _ _ _ (Nat.ne_of_lt (by show b < _; rw [size_madeT]; omega)), World.cell?_alloc_old _ _ _ (Nat.ne_of_lt hb)]
  · rw [putM_size, size_madeT, size_madeT]; omega
set_option maxRecDepth 100000 in
set_option maxHeartbeats 1600000 in
theorem cmdReaders_any (w : World) :
    Calls Tryd.prog 25 #[] w fun e w' => ∃ r b1 b2 b3 b4 b5, e = .returned (.map (some r)) ∧ RdMap w' r b1 b2 b3 b4 b5 ∧ Below w.heap.size w w' := by
  have HN := hide (fun sd W => newReader_any sd W)
  have HM := hide (fun n f W h => numbersReader_any n f W h)
  have hmm := @run_makeMap Tryd.prog
  have hmp := @run_makeMap_plain Tryd.prog
  go_enter Tryd.func25, Tryd.ntmps25
  go_wp2_with fail
  have HS : Hid (∃ r, r = w.heap.size ∧ (w.alloc (Obj.map #[] 0)).heap[r]? = some (.map #[] 0) ∧ Below w.heap.size w (w.alloc (Obj.map #[] 0))) := ⟨_, rfl, (MapKept.heap_alloc w _).1, (Below.refl _ _).alloc (Nat.le_refl _) _⟩
  obtain ⟨r, hr, h0, hb0⟩ := unhide HS
  have HR := hide hr
  have HB := hide hb0
  have HO := hide h0
  rw [← hr]
  generalize (w.alloc (Obj.map #[] 0)) = W0 at HB HO ⊢
  clear HS h0 hb0 hr
  have hrw : w.heap.size ≤ r := Nat.le_of_eq (unhide HR).symm
  have hr0 := (Array.getElem?_eq_some_iff.1 (unhide HO)).1
  refine (unhide HN 1 W0).mono ?_
  rintro e W1 ⟨rfl, rfl⟩
  obtain ⟨W1, u1, o1, a1, b1, k1, z1⟩ := stepN 1 ⟨#[98, 117, 121]⟩ (unhide HO) (unhide HB) hrw rfl
  have H1 := hide (And.intro o1 (And.intro a1 b1))
  have HK1 := hide k1
  clear o1 a1 b1 k1
  unfold rdN at u1 ⊢
  go_wp2_with fail
  clear u1
  refine (unhide HN 2 W1).mono ?_
  rintro e W2 ⟨rfl, rfl⟩
  obtain ⟨W2, u2, o2, a2, b2, k2, z2⟩ := stepN 2 ⟨#[115, 101, 108, 108]⟩ (unhide H1).1 (unhide H1).2.2 hrw rfl
  have H2 := hide (And.intro o2 (And.intro a2 b2))
  have HK2 := hide k2
  clear o2 a2 b2 k2
  unfold rdN at u2 ⊢
  go_wp2_with fail
  clear u2
  refine (unhide HM 1 _ W2 (.inl rfl)).mono ?_
  rintro e W3 ⟨rfl, t3, rfl⟩
  obtain ⟨W3, u3, o3, a3, b3, k3, z3⟩ := stepM 1 (.func (.func 33) #[] #[]) t3 ⟨#[99, 97, 110, 99, 101, 108]⟩ (unhide H2).1 (unhide H2).2.2 hrw rfl
  have H3 := hide (And.intro o3 (And.intro a3 b3))
  have HK3 := hide k3
  clear o3 a3 b3 k3
  unfold rdM at u3 ⊢
  go_wp2_with fail
  clear u3
  refine (unhide HM 2 _ W3 (.inr (.inl rfl))).mono ?_
  rintro e W4 ⟨rfl, t4, rfl⟩
  obtain ⟨W4, u4, o4, a4, b4, k4, z4⟩ := stepM 2 (.func (.func 34) #[] #[]) t4 ⟨#[114, 101, 100, 117, 99, 101]⟩ (unhide H3).1 (unhide H3).2.2 hrw rfl
  have H4 := hide (And.intro o4 (And.intro a4 b4))
  have HK4 := hide k4
  clear o4 a4 b4 k4
  unfold rdM at u4 ⊢
  go_wp2_with fail
  clear u4
  refine (unhide HM 0 _ W4 (.inr (.inr rfl))).mono ?_
  rintro e W5 ⟨rfl, t5, rfl⟩
  obtain ⟨W5, u5, o5, a5, b5, k5, z5⟩ := stepM 0 (.func (.func 35) #[] #[]) t5 ⟨#[101, 110, 100]⟩ (unhide H4).1 (unhide H4).2.2 hrw rfl
  have H5 := hide (And.intro o5 (And.intro a5 b5))
  have HK5 := hide k5
  clear o5 a5 b5 k5
  unfold rdM at u5 ⊢
  go_wp2_with fail
  go_ret
  have e1 : ∀ b i, b < W1.heap.size → b ≠ r → W5.cell? ⟨b, i, none⟩ = W1.cell? ⟨b, i, none⟩ := fun b i h1 h2 => by
    rw [unhide HK5 b i (by omega) h2, unhide HK4 b i (by omega) h2, unhide HK3 b i (by omega) h2, unhide HK2 b i h1 h2]
  have e2 : ∀ b i, b < W2.heap.size → b ≠ r → W5.cell? ⟨b, i, none⟩ = W2.cell? ⟨b, i, none⟩ := fun b i h1 h2 => by
    rw [unhide HK5 b i (by omega) h2, unhide HK4 b i (by omega) h2, unhide HK3 b i h1 h2]
  have e3 : ∀ b i, b < W3.heap.size → b ≠ r → W5.cell? ⟨b, i, none⟩ = W3.cell? ⟨b, i, none⟩ := fun b i h1 h2 => by
    rw [unhide HK5 b i (by omega) h2, unhide HK4 b i h1 h2]
  exact ⟨r, W0.heap.size, W1.heap.size, W2.heap.size, W3.heap.size, W4.heap.size, rfl, {
    obj := (unhide H5).1
    c1 := by rw [e1 _ _ (by omega) (by omega)]; exact (unhide H1).2.1
    c2 := by rw [e2 _ _ (by omega) (by omega)]; exact (unhide H2).2.1
    c3 := ⟨by rw [e3 _ _ (by omega) (by omega)]; exact (unhide H3).2.1.1, by rw [e3 _ _ (by omega) (by omega)]; exact (unhide H3).2.1.2⟩
    c4 := ⟨by rw [unhide HK5 _ _ (by omega) (by omega)]; exact (unhide H4).2.1.1, by rw [unhide HK5 _ _ (by omega) (by omega)]; exact (unhide H4).2.1.2⟩
    c5 := (unhide H5).2.1 }, (unhide H5).2.2⟩
end Go.Proofs.YtjjopdkbdebfoaaDoor
