/-
  Which floats are no numbers; a float made of a whole number is one.
-/
import Derived.Test.YthmgkabpcjkieaaVj01
import Derived.Laws.Externs
import Derived.Deep.MidRow
import Derived.Handy
namespace Go.Proofs.Ythmgkabpcjkieaa
open Go.RowKit

/-- The float is a NaN. -/
def nanB (x : Nat) : Bool := FloatKind.f64.format.order x x != some Ordering.eq
theorem read_rung (neg : Bool) (r : Nat) (h : r ≤ Ieee.double.infRung) : ¬ (Ieee.double.read (Ieee.double.word neg r)).isNaN = true := by
  have h1 : Ieee.double.infRung = 9218868437227405312 := by decide
  have h2 : Ieee.double.signWeight = 9223372036854775808 := by decide
  have hr : Ieee.double.word neg r % Ieee.double.signWeight = r := by
    unfold Ieee.Format.word
    cases neg <;> simp only [h2, if_true, if_false, Bool.false_eq_true] <;> omega
  unfold Ieee.Format.read
  simp only [hr]
  split
  · simp [Ieee.Datum.isNaN]
  · split
    · simp [Ieee.Datum.isNaN]
    · rw [if_pos (by omega)]; simp [Ieee.Datum.isNaN]
theorem datum_self (d : Ieee.Datum) (h : ¬ d.isNaN = true) : d.order d = some Ordering.eq := by
  cases d with
  | nan s f => simp [Ieee.Datum.isNaN] at h
  | infinity s => cases s <;> rfl
  | number s m i => simp [Ieee.Datum.order, Std.ReflCmp.compare_self]
theorem ofInt_order (n : Int) : FloatKind.f64.format.order (floatOfInt .f64 n) (floatOfInt .f64 n) = some Ordering.eq := by
  refine datum_self _ ?_
  show ¬ (Ieee.double.read (Ieee.double.nearest (n < 0) n.natAbs 0)).isNaN = true
  unfold Ieee.Format.nearest
  split
  · exact read_rung _ _ (Nat.zero_le _)
  · exact read_rung _ _ (Nat.min_le_right _ _)
end Go.Proofs.Ythmgkabpcjkieaa
namespace Go.Proofs.Ythmgkabpcjkieaa
open Go.RowKit

theorem fbits (x : Nat) (w : World) : (callFunc 85 #[.float .f64 x]).run Try.prog w = .ok (.value (.int .u64 x)) w := by
  rw [run_callFunc_extern (e := Extern.MathFloatBits.float64bits) Try.func85 (by kernel_rfl) (by kernel_rfl) (by kernel_rfl) (by kernel_rfl)]
  rfl
theorem isNaN_any (x : Nat) (w : World) :
    Calls Try.prog 84 #[.float .f64 x] w fun e w' => e = .returned (.bool (nanB x)) ∧ w' = w := by
  go_enter Try.func84, Try.ntmps84
  go_wp2
  go_ret
  exact ⟨rfl, rfl⟩
end Go.Proofs.Ythmgkabpcjkieaa
namespace Go.Proofs.Ythmgkabpcjkieaa
open Go.RowKit
set_option linter.unusedVariables false

theorem sub_one (W : World) : (binOp .sub 35 (.float .f64 4607182418800017408) (.float .f64 4607182418800017408)).run Try.prog W = .ok (.float .f64 0) W := by
  have h : FloatKind.f64.format.sub 4607182418800017408 4607182418800017408 = some 0 := by kernel_rfl
  simp [binOp, Op.floatArith, h]
theorem neg_zero (W : World) : (Op.unary .neg (.float .f64 0)).run Try.prog W = .ok (.float .f64 9223372036854775808) W := by
  kernel_rfl
theorem one_zero (W : World) : (binOp .quo 35 (.float .f64 4607182418800017408) (.float .f64 0)).run Try.prog W = .ok (.float .f64 9218868437227405312) W := by
  have h : FloatKind.f64.format.div 4607182418800017408 0 = some 9218868437227405312 := by kernel_rfl
  simp [binOp, Op.floatArith, h]
theorem less_zero (W : World) : (binOp .quo 35 (.float .f64 13830554455654793216) (.float .f64 0)).run Try.prog W = .ok (.float .f64 18442240474082181120) W := by
  have h : FloatKind.f64.format.div 13830554455654793216 0 = some 18442240474082181120 := by kernel_rfl
  simp [binOp, Op.floatArith, h]
/-- The bits that are drawn for a number that is none. -/
def nanOf (W : World) : Nat := (Question.nanBits .f64 0 0).cut (W.tape W.drawn (.nanBits .f64 0 0))
theorem zero_zero (W : World) : (binOp .quo 35 (.float .f64 0) (.float .f64 0)).run Try.prog W = .ok (.float .f64 (nanOf W)) W.drew := by
  have h : FloatKind.f64.format.div 0 0 = none := by kernel_rfl
  simp [binOp, Op.floatArith, h, nanOf, choose]
  rfl
theorem zero_any (w : World) : Calls Try.prog 21 #[] w fun e w' => e = .returned (.float .f64 0) ∧ w' = w := by
  have h := sub_one
  go_enter Try.func21, Try.ntmps21
  go_wp2_with fail
  go_ret
  exact ⟨rfl, rfl⟩
theorem size_any (B : Nat) (v : Value) (l : List Int) (m most : Int) (w : World) (h : Src B w v l m) (h0 : 1 ≤ most) (h1 : most ≤ 1000000) :
    Calls Try.prog 26 #[.pointer (some ⟨B, 0, none⟩), .int .i64 most] w fun e w' => ∃ y : Int, e = .returned (.int .i64 y) ∧ 1 ≤ y ∧ y ≤ most ∧ w' = w := by
  have c := h.code
  obtain ⟨a, cap, rfl, hl, _⟩ := h.rd
  clear h
  go_enter Try.func26, Try.ntmps26
  go_wp2_with fail
  all_goals go_ret
  all_goals exact ⟨_, rfl, by omega, by omega, rfl⟩
theorem frombitsS (n : Int) (w : World) : (callFunc 37 #[.int .u64 n]).run Try.prog w = .ok (.value (.float .f64 n.toNat)) w := by
  rw [run_callFunc_extern (e := Extern.MathFloatBits.float64frombits) Try.func37 (by kernel_rfl) (by kernel_rfl) (by kernel_rfl) (by kernel_rfl)]
  rfl
end Go.Proofs.Ythmgkabpcjkieaa
namespace Go.Proofs.Ythmgkabpcjkieaa
open Go.RowKit

theorem range_below {C : Nat} {w w' : World} {b o : Nat} {cs : List Value} (h : w.rangeAt b o cs) (hb : Below C w w') (hC : b < C) : w'.rangeAt b o cs :=
  fun j v hv => (hb.cell (p := ⟨b, o + j, none⟩) hC).trans (h j v hv)
theorem there_below {C : Nat} {w w' : World} {b o n : Nat} (h : w.there b o n) (hb : Below C w w') (hC : b < C) : w'.there b o n :=
  fun j hj => ⟨by rw [hb.cell (p := ⟨b, o + j, none⟩) hC]; exact (h j hj).1, by rw [hb.frozen (p := ⟨b, o + j, none⟩) hC]; exact (h j hj).2⟩
theorem range_grown {G : Option Nat} {w w' : World} {b o : Nat} {cs : List Value} (h : w.rangeAt b o cs) (hg : w.grownBy w' G) (hb : b < w.heap.size) (hne : some b ≠ G) : w'.rangeAt b o cs :=
  fun j v hv => (World.cell?_of_block (a := ⟨b, o + j, none⟩) (hg.block b hb hne)).trans (h j v hv)
theorem there_grown {G : Option Nat} {w w' : World} {b o n : Nat} (h : w.there b o n) (hg : w.grownBy w' G) (hb : b < w.heap.size) (hne : some b ≠ G) : w'.there b o n :=
  fun j hj => ⟨by rw [World.cell?_of_block (a := ⟨b, o + j, none⟩) (hg.block b hb hne)]; exact (h j hj).1, by rw [World.frozen?_of_block (a := ⟨b, o + j, none⟩) (hg.block b hb hne)]; exact (h j hj).2⟩
theorem below_gr {w w' : World} {B : Nat} {G : Option Nat} (h : Below B w w') (hB : w.heap.size ≤ B) : w.grownBy w' G :=
  ⟨h.os, h.tape, h.output, h.size, fun k hk _ => h.block k (by omega)⟩
theorem gr_below' {w w' : World} {G : Option Nat} {B : Nat} (h : w.grownBy w' G) (hG : ∀ g, G = some g → B ≤ g) (hs : B ≤ w.heap.size) : Below B w w' :=
  ⟨h.os, h.tape, h.output, h.size, fun k hk => h.block k (by omega) (fun e => by have := hG k e.symm; omega)⟩
section
variable {α : Type} (f : α → List Value) (sz : Nat)

/-- The slice v reads as the records l, of sz cells each. -/
def RdR (w : World) (v : Value) (l : List α) : Prop :=
  ∃ (a : Option Addr) (cap : Nat), v = .slice a l.length cap ∧ l.length ≤ 1073741824 ∧
    (l ≠ [] → ∃ b off, a = some ⟨b, off, none⟩ ∧ b < w.heap.size ∧ ∀ i c, l[i]? = some c → w.rangeAt b (off + i * sz) (f c))
/-- The slice v is a row in a block from B on, with the records l, and may be written. -/
def OwnR (B : Nat) (w : World) (v : Value) (l : List α) : Prop :=
  ∃ (a : Option Addr) (cap : Nat), v = .slice a l.length cap ∧ l.length ≤ 1073741824 ∧
    (l ≠ [] → ∃ g, a = some ⟨g, 0, none⟩ ∧ B ≤ g ∧ g < w.heap.size ∧ (∀ i c, l[i]? = some c → w.rangeAt g (0 + i * sz) (f c)) ∧ w.there g 0 (l.length * sz))
variable {f sz}

theorem ownR_rd {B : Nat} {w : World} {v : Value} {l : List α} (h : OwnR f sz B w v l) : RdR f sz w v l := by
  obtain ⟨a, cap, rfl, hl, h⟩ := h
  refine ⟨a, cap, rfl, hl, fun hne => ?_⟩
  obtain ⟨g, rfl, _, h2, h3, _⟩ := h hne
  exact ⟨g, 0, rfl, h2, h3⟩
theorem rdR_below {C : Nat} {w w' : World} {v : Value} {l : List α} (h : RdR f sz w v l) (hb : Below C w w') (hC : w.heap.size ≤ C) : RdR f sz w' v l := by
  obtain ⟨a, cap, rfl, hl, h⟩ := h
  refine ⟨a, cap, rfl, hl, fun hne => ?_⟩
  obtain ⟨b, off, rfl, h1, h2⟩ := h hne
  exact ⟨b, off, rfl, Nat.lt_of_lt_of_le h1 hb.size, fun i c hc => range_below (h2 i c hc) hb (Nat.lt_of_lt_of_le h1 hC)⟩
theorem rdR_grown {G : Option Nat} {w w' : World} {v : Value} {l : List α} (h : RdR f sz w v l) (hg : w.grownBy w' G) (hG : ∀ g, G = some g → w.heap.size ≤ g) : RdR f sz w' v l := by
  obtain ⟨a, cap, rfl, hl, h⟩ := h
  refine ⟨a, cap, rfl, hl, fun hne => ?_⟩
  obtain ⟨b, off, rfl, h1, h2⟩ := h hne
  exact ⟨b, off, rfl, Nat.lt_of_lt_of_le h1 hg.size, fun i c hc => range_grown (h2 i c hc) hg h1 (fun e => by have := hG b e.symm; omega)⟩
theorem below_setCells {B : Nat} {w : World} (b : Nat) (hb : B ≤ b) : ∀ (vs : List Value) (o : Nat) (wr : World), Below B w wr → Below B w (wr.setCells b o vs)
  | [], _, _, h => h
  | v :: r, o, wr, h => by rw [World.setCells]; exact below_setCells b hb r (o + 1) _ (h.setCell (show B ≤ (⟨b, o, none⟩ : Addr).block from hb) v)
theorem size_setCells (b : Nat) : ∀ (vs : List Value) (o : Nat) (wr : World), (wr.setCells b o vs).heap.size = wr.heap.size
  | [], _, _ => rfl
  | v :: r, o, wr => by rw [World.setCells, size_setCells b r (o + 1)]; simp [World.setCell]
theorem there_block {w : World} {g n t : Nat} {cur : Array Value} (hg : w.heap[g]? = some (.cells cur t (0, 0))) (hn : n ≤ cur.size) : w.there g 0 n := fun j hj =>
  ⟨by rw [cell_of_row w g (0 + j) cur t (0, 0) hg, Array.getElem?_eq_getElem (by omega)]; rfl, by simp [World.frozen?, hg]⟩
theorem flat_get (hf : ∀ c, (f c).length = sz) : ∀ (l : List α) (i j : Nat) (c : α), l[i]? = some c → j < sz → (l.flatMap f)[i * sz + j]? = (f c)[j]?
  | [], _, _, _, h, _ => by simp at h
  | a :: l, 0, j, c, h, hj => by
    simp at h; subst h
    rw [List.flatMap_cons, List.getElem?_append_left (by rw [hf]; omega)]; simp
  | a :: l, i + 1, j, c, h, hj => by
    simp at h
    rw [List.flatMap_cons, List.getElem?_append_right (by rw [hf, Nat.add_mul]; omega), hf, ← flat_get hf l i j c h hj]
    congr 1
    rw [Nat.add_mul]; omega
theorem flat_len (hf : ∀ c, (f c).length = sz) : ∀ (l : List α), (l.flatMap f).length = l.length * sz
  | [] => by simp
  | a :: l => by rw [List.flatMap_cons, List.length_append, hf, flat_len hf l, List.length_cons, Nat.add_mul]; omega
/-- A row that was appended to is a row of records. -/
theorem ownR_row {B e : Nat} {w : World} {v : Value} {l : List α} (hf : ∀ c, (f c).length = sz) (hl : l.length ≤ 1073741824) (h : w.ownsRow B e sz v l.length (l.flatMap f)) : OwnR f sz B w v l := by
  rcases h.2 with ⟨rfl, h0⟩ | ⟨g, cap, cur, rfl, hb, hg, hcap, _, hcur, htake⟩
  · exact ⟨none, 0, by rw [h0], hl, fun hne => absurd (List.length_eq_zero_iff.1 h0) hne⟩
  · have hle := Nat.mul_le_mul_right sz hcap
    refine ⟨_, cap, rfl, hl, fun _ => ⟨g, rfl, hb, (Array.getElem?_eq_some_iff.1 hg).1, fun i c hc j u hu => ?_, there_block hg (by omega)⟩⟩
    have hj : j < sz := by rw [← hf c]; exact (List.getElem?_eq_some_iff.1 hu).1
    have h2 := flat_get hf l i j c hc hj
    have hlt : i * sz + j < l.length * sz := by
      have := Nat.mul_le_mul_right sz (show i + 1 ≤ l.length from (List.getElem?_eq_some_iff.1 hc).1)
      rw [Nat.add_mul] at this; omega
    rw [← htake, List.getElem?_take, if_pos hlt] at h2
    rw [cell_of_row w g _ cur e (0, 0) hg, Nat.zero_add]
    simpa using h2.trans hu
end
end Go.Proofs.Ythmgkabpcjkieaa
namespace Go.Proofs.Ythmgkabpcjkieaa
open Go.RowKit
set_option linter.unusedVariables false

/-- A command. -/
structure Cm where
  k : Int
  s : Int
  t : Int
  l : Int
  q : Int
  i : Int
  p : Nat
  g : ByteArray
/-- Its cells. -/
def Cm.vs (c : Cm) : List Value := [.int .i64 c.k, .int .i64 c.s, .int .i64 c.t, .int .i64 c.l, .int .i64 c.q, .int .i64 c.i, .float .f64 c.p, .string c.g]
theorem Cm.len (c : Cm) : c.vs.length = 8 := rfl
/-- The cells of a command, told one by one. -/
theorem cm_cells {w : World} {b o : Nat} {c : Cm} (h : w.rangeAt b o c.vs) :
    w.cell? ⟨b, o, none⟩ = some (.int .i64 c.k) ∧ w.cell? ⟨b, o + 1, none⟩ = some (.int .i64 c.s) ∧ w.cell? ⟨b, o + 2, none⟩ = some (.int .i64 c.t) ∧ w.cell? ⟨b, o + 3, none⟩ = some (.int .i64 c.l) ∧
    w.cell? ⟨b, o + 4, none⟩ = some (.int .i64 c.q) ∧ w.cell? ⟨b, o + 5, none⟩ = some (.int .i64 c.i) ∧ w.cell? ⟨b, o + 6, none⟩ = some (.float .f64 c.p) ∧ w.cell? ⟨b, o + 7, none⟩ = some (.string c.g) :=
  ⟨h 0 _ rfl, h 1 _ rfl, h 2 _ rfl, h 3 _ rfl, h 4 _ rfl, h 5 _ rfl, h 6 _ rfl, h 7 _ rfl⟩
theorem sfl (a : Addr) (x : Nat) (m : Mode) (w : World) : (store a (.float .f64 x) m).run Try.prog w = stored Try.prog w a (.float .f64 x) m := run_store _ w a _ m rfl
end Go.Proofs.Ythmgkabpcjkieaa
namespace Go.Proofs.Ythmgkabpcjkieaa
open Go.RowKit

/-- The block b holds the values vs, and may be written. -/
structure Bx (W : World) (b : Nat) (vs : List Value) : Prop where
  r : W.rangeAt b 0 vs
  t : W.there b 0 vs.length
theorem bx_made (w : World) (vs : List Value) (t : TypeId) : Bx (w.alloc (Obj.cells vs.toArray t)) w.heap.size vs :=
  ⟨fun j u h => by
    rw [cell_of_row _ w.heap.size (0 + j) vs.toArray t (0, 0) (heap_alloc_new w _)]
    simpa using h, there_block (heap_alloc_new w _) (by simp)⟩
theorem bx_below {C b : Nat} {W V : World} {vs : List Value} (h : Bx W b vs) (hb : Below C W V) (hC : b < C) : Bx V b vs := ⟨range_below h.r hb hC, there_below h.t hb hC⟩
theorem bx_cell {W : World} {b : Nat} {vs : List Value} (h : Bx W b vs) (j : Nat) {u : Value} (hj : vs[j]? = some u) : W.cell? ⟨b, j, none⟩ = some u := by
  have := h.r j u hj; rwa [Nat.zero_add] at this
theorem bx_free {W : World} {b : Nat} {vs : List Value} (h : Bx W b vs) (j : Nat) (hj : j < vs.length) : W.frozen? ⟨b, j, none⟩ = false := by
  have := (h.t j hj).2; rwa [Nat.zero_add] at this
theorem bx_set {W : World} {b j : Nat} {vs : List Value} {u : Value} (h : Bx W b vs) (hj : j < vs.length) : Bx (W.setCell ⟨b, j, none⟩ u) b (vs.set j u) := by
  refine ⟨fun i v hi => ?_, by rw [List.length_set]; exact World.there_setCells (vs := [u]) h.t b j⟩
  rw [Nat.zero_add]
  by_cases hij : j = i
  · subst hij
    rw [List.getElem?_set_self hj] at hi
    cases hi
    have := h.r j _ (List.getElem?_eq_getElem hj)
    rw [Nat.zero_add] at this
    exact World.cell?_setCell_same _ _ _ this
  · rw [List.getElem?_set_ne hij] at hi
    have := h.r i v hi
    rw [Nat.zero_add] at this
    rw [World.cell?_setCell_other _ _ _ _ (addr_ne hij)]
    exact this
theorem bx_setCells {W : World} {b : Nat} {vs us : List Value} (h : Bx W b vs) (hl : us.length = vs.length) : Bx (W.setCells b 0 us) b us :=
  ⟨World.rangeAt_setCells_same W b 0 us (fun j hj => h.t j (by omega)), by rw [hl]; exact World.there_setCells h.t b 0 us⟩
theorem bx_blk {W V : World} {b : Nat} {vs : List Value} (h : Bx W b vs) (hb : V.heap[b]? = W.heap[b]?) : Bx V b vs :=
  ⟨fun j u hj => by rw [World.cell?_of_block (a := ⟨b, 0 + j, none⟩) hb]; exact h.r j u hj,
   fun j hj => by rw [World.cell?_of_block (a := ⟨b, 0 + j, none⟩) hb, World.frozen?_of_block (a := ⟨b, 0 + j, none⟩) hb]; exact h.t j hj⟩
theorem bx_other {W : World} {b c j : Nat} {vs : List Value} {u : Value} (h : Bx W b vs) (hc : b ≠ c) : Bx (W.setCell ⟨c, j, none⟩ u) b vs := bx_blk h (Below.heap_setCell _ _ _ _ hc)
/-- Two blocks from the size of w on, the first to be answered, the second being written. -/
structure Bx2 (w W : World) (r vs : List Value) : Prop where
  o : Bx W w.heap.size r
  k : Bx W (w.heap.size + 1) vs
  b : Below w.heap.size w W
  z : w.heap.size + 1 + 1 ≤ W.heap.size
theorem bx2_made (w : World) (r vs : List Value) (t u : TypeId) : Bx2 w ((w.alloc (Obj.cells r.toArray t)).alloc (Obj.cells vs.toArray u)) r vs := by
  have hs : (w.alloc (Obj.cells r.toArray t)).heap.size = w.heap.size + 1 := by simp
  have h1 := bx_made w r t
  have h2 := bx_made (w.alloc (Obj.cells r.toArray t)) vs u
  rw [hs] at h2
  have b1 : Below w.heap.size w (w.alloc (Obj.cells r.toArray t)) := (Below.refl _ _).alloc (Nat.le_refl _) _
  have b2 : Below (w.heap.size + 1) (w.alloc (Obj.cells r.toArray t)) ((w.alloc (Obj.cells r.toArray t)).alloc (Obj.cells vs.toArray u)) := (Below.refl _ _).alloc (by omega) _
  exact ⟨bx_below h1 b2 (by omega), h2, b1.trans (b2.mono (by omega)), by simp⟩
end Go.Proofs.Ythmgkabpcjkieaa
namespace Go.Proofs.Ythmgkabpcjkieaa
open Go.RowKit
set_option linter.unusedVariables false

set_option maxHeartbeats 400000 in
theorem pick_any (B g n : Nat) (v : Value) (l : List Int) (m : Int) (ts : List ByteArray) (w : World) (h : Src B w v l m) (hm : m ≤ 1000000000) (hg : g ≠ B) (hn : ts.length = n) (h1 : 1 ≤ n) (h2 : n ≤ 256) (hr : ∀ k s, ts[k]? = some s → w.cell? ⟨g, k, none⟩ = some (.string s)) :
    Calls Try.prog 56 #[.pointer (some ⟨B, 0, none⟩), .slice (some ⟨g, 0, none⟩) n n] w fun e w' => ∃ s, e = .returned (.string s) ∧ s ∈ ts ∧ SrcEnd B w v l (m + 3) w' := by
  have HS := hide h
  have HR := hide hr
  have hb : ((n : Int) == 0) = false := by simp; omega
  clear h hr
  go_enter Try.func56, Try.ntmps56
  go_wp2_with fail
  refine (next_any B v l m n _ (unhide HS) hm (by omega) (by omega)).mono ?_
  rintro e w1 ⟨y, rfl, hy0, hy1, hE⟩
  obtain ⟨k, rfl⟩ := Int.eq_ofNat_of_zero_le hy0
  have HE := hide hE
  have hk : k < n := by omega
  obtain ⟨s, hs⟩ : ∃ s, ts[k]? = some s := ⟨_, List.getElem?_eq_getElem (by omega)⟩
  have hc := hE.2.cell (unhide HR k s hs) (fun e => hg (Option.some.inj e))
  have HSS := hide (List.mem_of_getElem? hs)
  clear hE hs
  go_wp2_with fail
  go_ret
  exact ⟨s, rfl, unhide HSS, unhide HE⟩
def tags8 : List ByteArray := [⟨#[]⟩, ⟨#[97]⟩, ⟨#[100, 101, 115, 107, 32, 55]⟩, ⟨#[49, 50, 51, 52, 53, 54, 55, 56, 57, 48, 49, 50]⟩, ⟨#[49, 50, 51, 52, 53, 54, 55, 56, 57, 48, 49, 50, 51]⟩, ⟨#[49, 50, 51, 52, 53, 54, 55, 56, 57, 48, 49, 50, 51, 52, 53, 54, 55, 56, 57, 48]⟩, ⟨#[195, 169]⟩, ⟨#[120, 10]⟩]
theorem tags8_len : ∀ s ∈ tags8, s.size ≤ 20 := by decide +kernel
set_option maxHeartbeats 400000 in
theorem tag_drawn (B : Nat) (v : Value) (l : List Int) (m : Int) (w : World) (h : Src B w v l m) (hm : m ≤ 1000000000) :
    Calls Try.prog 79 #[.pointer (some ⟨B, 0, none⟩)] w fun e w' => ∃ s, e = .returned (.string s) ∧ s.size ≤ 20 ∧ SrcEnd B w v l (m + 3) w' := by
  have HS := hide h
  have hB := src_lt h
  clear h
  have HX := hide (bx_made w (tags8.map .string) 9)
  go_enter Try.func79, Try.ntmps79
  go_wp2_with fail
  refine (pick_any B w.heap.size 8 v l m tags8 _ (src_alloc (src_refl (unhide HS)) _).1 hm (by omega) rfl (by omega) (by omega) (fun k s hs => bx_cell (unhide HX) k (by rw [List.getElem?_map, hs]; rfl))).mono ?_
  rintro e w1 ⟨s, rfl, hs, hE⟩
  have HL := hide (tags8_len s hs)
  have HE := hide (show SrcEnd B w v l (m + 3) w1 from ⟨hE.1, gr_trans (gr_alloc w _ _) hE.2⟩)
  clear hE hs HX
  go_wp2_with fail
  go_ret
  exact ⟨s, rfl, unhide HL, unhide HE⟩
/-- What is left of the source and of the command's own block. -/
structure DrC (B b : Nat) (w : World) (v : Value) (l : List Int) (m : Int) (W : World) : Prop where
  e : SrcEnd B w v l m W
  t : W.there b 0 8
theorem drC_step {B : Nat} {w W W' : World} {v : Value} {l : List Int} {m m' : Int} (h : DrC B w.heap.size w v l m W) (hB : B < w.heap.size) (h' : SrcEnd B W v l m' W') (hW : w.heap.size < W.heap.size) : DrC B w.heap.size w v l m' W' :=
  ⟨⟨h'.1, gr_trans h.e.2 h'.2⟩, there_grown h.t h'.2 hW (fun e => by have := Option.some.inj e; omega)⟩
theorem src_far {B : Nat} {w : World} {v : Value} {l : List Int} {m : Int} (h : Src B w v l m) : l ≠ [] → ∃ k, v.ownBlock = some k ∧ k < w.heap.size := fun hne => by
  obtain ⟨a, cap, rfl, hl, hc⟩ := h.rd
  obtain ⟨b, off, rfl, hcell⟩ := hc hne
  exact ⟨b, rfl, World.block_lt_of_cell? w _ (hcell 0 (List.length_pos_iff.2 hne))⟩
theorem src_keep {B : Nat} {w w' : World} {v : Value} {l : List Int} {m : Int} {G : Option Nat} (h : Src B w v l m) (hg : w.grownBy w' G) (hB : some B ≠ G) (hv : l ≠ [] → v.ownBlock ≠ G) : Src B w' v l m := by
  have hb := hg.block B (src_lt h) hB
  obtain ⟨a, s, k1, k2, k3, k4, k5, k6⟩ := h.cells
  have e : ∀ i, w'.cell? ⟨B, i, none⟩ = w.cell? ⟨B, i, none⟩ := fun i => World.cell?_of_block (a := ⟨B, i, none⟩) hb
  have f : ∀ i, w'.frozen? ⟨B, i, none⟩ = w.frozen? ⟨B, i, none⟩ := fun i => World.frozen?_of_block (a := ⟨B, i, none⟩) hb
  refine ⟨?_, h.ne, h.bts, (e 0).trans h.code, ⟨a, s, k1, k2, k3, k4, (e 1).trans k5, (e 2).trans k6⟩, (f 1).trans h.free1, (f 2).trans h.free2⟩
  obtain ⟨a, cap, rfl, hl, hc⟩ := h.rd
  refine ⟨a, cap, rfl, hl, fun hne => ?_⟩
  obtain ⟨b, off, rfl, hcell⟩ := hc hne
  exact ⟨b, off, rfl, fun i hi => (World.cell?_of_block (a := ⟨b, off + i, none⟩) (hg.block b (World.block_lt_of_cell? w _ (hcell i hi)) (hv hne))).trans (hcell i hi)⟩
theorem gr_setsD (b : Nat) : ∀ (vs : List Value) (o : Nat) (w : World), w.grownBy (w.setCells b o vs) (some b)
  | [], o, w => by rw [World.setCells]; exact World.grownBy.refl _ _
  | v :: vs, o, w => by rw [World.setCells]; exact gr_trans (gr_set w ⟨b, o, none⟩ v) (gr_setsD b vs (o + 1) _)
theorem srcE_set {B b o : Nat} {w W : World} {v : Value} {l : List Int} {m : Int} (hv : l ≠ [] → ∃ k, v.ownBlock = some k ∧ k < w.heap.size) (h : SrcEnd B w v l m W) (hB : B < w.heap.size) (hb : w.heap.size ≤ b) (vs : List Value) : SrcEnd B w v l m (W.setCells b o vs) := by
  have g := gr_setsD b vs o W
  refine ⟨src_keep h.1 g (fun e => by have := Option.some.inj e; omega) (fun hne e => ?_), ?_⟩
  · obtain ⟨k, h1, h2⟩ := hv hne
    rw [h1] at e
    have := Option.some.inj e
    omega
  · exact ⟨g.os.trans h.2.os, g.tape.trans h.2.tape, g.output.trans h.2.output, Nat.le_trans h.2.size g.size, fun k hk hne => (g.block k (Nat.lt_of_lt_of_le hk h.2.size) (fun e => by have := Option.some.inj e; omega)).trans (h.2.block k hk hne)⟩
end Go.Proofs.Ythmgkabpcjkieaa
namespace Go.Proofs.Ythmgkabpcjkieaa
open Go.RowKit

/-- A float's bits; of every NaN the same. -/
def fbit (x : Nat) : Nat := if nanB x = true then 9221120237041090560 else x
theorem floatBits_any (x : Nat) (w : World) :
    Calls Try.prog 69 #[.float .f64 x] w fun e w' => e = .returned (.int .u64 (fbit x)) ∧ w' = w := by
  have hb := fbits
  cases h : nanB x
  case true =>
    have HX : Hid (fbit x = 9221120237041090560) := if_pos h
    go_enter Try.func69, Try.ntmps69
    go_wp2_with (go_at_call 84; refine (isNaN_any _ _).mono ?_; rintro e w' ⟨rfl, rfl⟩)
    go_ret
    exact ⟨by rw [unhide HX]; rfl, rfl⟩
  case false =>
    have HX : Hid (fbit x = x) := if_neg (by rw [h]; decide)
    go_enter Try.func69, Try.ntmps69
    go_wp2_with (go_at_call 84; refine (isNaN_any _ _).mono ?_; rintro e w' ⟨rfl, rfl⟩)
    go_ret
    exact ⟨by rw [unhide HX]; rfl, rfl⟩
end Go.Proofs.Ythmgkabpcjkieaa
