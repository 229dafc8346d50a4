/-
  The state of a reading, and one field of an event read: pure parts; no function walked.
-/
import Derived.Test.YtmeekcdoajbjdaaGreatDoorGj02
import Derived.Test.YtmeekcdoajbjdaaGreatDoorGj05
import Derived.Test.YtmeekcdoajbjdaaGreatDoorGj09
import Derived.Test.YtmeekcdoajbjdaaGreatDoorGj10
import Derived.WalkLawsBesides
namespace Go.Proofs.YtmeekcdoajbjdaaGreatDoor
open Go.RowKit
set_option linter.unusedVariables false

/-- The reader in block R stands at place k of the bytes l, which lie below it. -/
structure RS (wb : World) (R : Nat) (v : Value) (l : List Int) (k : Nat) (W : World) : Prop where
  rd : Rd wb v l
  cap : CapOk v
  le : wb.heap.size ≤ R
  bel : Below wb.heap.size wb W
  r : Rdr R W v k
  kk : k ≤ l.length
  ll : l.length ≤ 65536
  bb : Bts l
theorem RS.lt {wb : World} {R : Nat} {v : Value} {l : List Int} {k : Nat} {W : World} (h : RS wb R v l k W) : R < W.heap.size := World.block_lt_of_cell? W _ h.r.1
theorem RS.go {wb : World} {R : Nat} {v : Value} {l : List Int} {k n : Nat} {W W' : World} (h : RS wb R v l k W) (hg : W.grownBy W' (some R)) (hr : Rdr R W' v n) (hn : n ≤ l.length) : RS wb R v l n W' :=
  ⟨h.rd, h.cap, h.le, h.bel.trans (gr_below hg h.le h.bel.size), hr, hn, h.ll, h.bb⟩
theorem RS.keep {wb : World} {R : Nat} {v : Value} {l : List Int} {k : Nat} {W W' : World} (h : RS wb R v l k W) (hb : Below wb.heap.size wb W') (hr : Rdr R W' v k) : RS wb R v l k W' := ⟨h.rd, h.cap, h.le, hb, hr, h.kk, h.ll, h.bb⟩
theorem RS.below {wb : World} {R C : Nat} {v : Value} {l : List Int} {k : Nat} {W W' : World} (h : RS wb R v l k W) (hb : Below C W W') (hC : R < C) : RS wb R v l k W' :=
  h.keep (h.bel.trans (hb.mono (Nat.le_of_lt (Nat.lt_of_le_of_lt h.le hC)))) (rdr_below h.r hb hC)
theorem number_rs {wb : World} {R : Nat} {v : Value} {l : List Int} {k : Nat} {W : World} (h : RS wb R v l k W) : Calls Tryz.prog 89 #[.pointer (some ⟨R, 0, none⟩)] W fun e w' => NumEnd R v W (getU l k) e w' :=
  number_any R v l k wb W h.rd h.cap h.le h.bel h.r h.kk h.ll h.bb
theorem float_rs {wb : World} {R : Nat} {v : Value} {l : List Int} {k : Nat} {W : World} (h : RS wb R v l k W) : Calls Tryz.prog 91 #[.pointer (some ⟨R, 0, none⟩)] W fun e w' => FltEnd R v W (floatA l k) e w' :=
  float_any R v l k wb W h.rd h.cap h.le h.bel h.r h.kk h.ll h.bb
theorem text_rs {wb : World} {R : Nat} {v : Value} {l : List Int} {k : Nat} {W : World} (h : RS wb R v l k W) : Calls Tryz.prog 93 #[.pointer (some ⟨R, 0, none⟩)] W fun e w' => TxtEnd R v W (textA l k) e w' :=
  text_any R v l k wb W h.rd h.cap h.le h.bel h.r h.kk h.ll h.bb
theorem floatA_le {l : List Int} {k x n : Nat} (h : floatA l k = some (x, n)) : n ≤ l.length ∧ k ≤ n := by
  unfold floatA at h
  split at h
  · cases h
  · split at h
    · cases h
    · simp only [Option.some.injEq, Prod.mk.injEq] at h; omega
theorem textA_le {l : List Int} {k n : Nat} {s : ByteArray} (h : textA l k = some (s, n)) : n ≤ l.length ∧ k ≤ n := by
  unfold textA at h
  split at h
  · cases h
  · next u m hm =>
    have := getU_le 10 0 0 l k u m hm
    split at h
    · cases h
    · simp only [Option.some.injEq, Prod.mk.injEq] at h; omega
/-- A field read: its value, and the place behind it. -/
def rdF (o : Nat) (l : List Int) (k : Nat) : Option (Value × Nat) :=
  if o = 7 then (floatA l k).map fun x => (.float .f64 x.1, x.2) else if o = 8 then (textA l k).map fun x => (.string x.1, x.2) else (getU l k).map fun x => (.int .i64 (unz x.1), x.2)
/-- Fields read, one behind the other, into the cells vs. -/
def rdFs : List Nat → List Value → List Int → Nat → Option (List Value × Nat)
  | [], vs, _, k => some (vs, k)
  | o :: os, vs, l, k => match rdF o l k with | none => none | some (v, n) => rdFs os (vs.set o v) l n
theorem rdF_le {o k n : Nat} {l : List Int} {x : Value} (h : rdF o l k = some (x, n)) : n ≤ l.length ∧ k ≤ n := by
  unfold rdF at h
  split at h
  · obtain ⟨⟨a, b⟩, h1, h2⟩ := Option.map_eq_some_iff.1 h
    cases h2; exact floatA_le h1
  · split at h
    · obtain ⟨⟨a, b⟩, h1, h2⟩ := Option.map_eq_some_iff.1 h
      cases h2; exact textA_le h1
    · obtain ⟨⟨a, b⟩, h1, h2⟩ := Option.map_eq_some_iff.1 h
      cases h2; exact getU_le 10 0 0 l k _ _ h1
/-- Nothing is turned but the blocks R and E. -/
structure Gr2 (R E : Nat) (w w' : World) : Prop where
  os : w'.os = w.os
  tape : w'.tape = w.tape
  output : w'.output = w.output
  size : w.heap.size ≤ w'.heap.size
  block : ∀ i, i < w.heap.size → i ≠ R → i ≠ E → w'.heap[i]? = w.heap[i]?
theorem gr2_gr {R E : Nat} {w w' : World} (h : w.grownBy w' (some R)) : Gr2 R E w w' := ⟨h.os, h.tape, h.output, h.size, fun i hi hR _ => h.block i hi (by simpa using hR)⟩
theorem gr2_set {R E j : Nat} {u : Value} {w w' : World} (h : Gr2 R E w w') : Gr2 R E w (w'.setCell ⟨E, j, none⟩ u) :=
  ⟨h.os, h.tape, h.output, by have := h.size; simpa [World.setCell] using this, fun i hi hR hE => by rw [Below.heap_setCell _ _ _ _ (by show i ≠ E; exact hE)]; exact h.block i hi hR hE⟩
theorem gr2_on {R E : Nat} {w W W' : World} (h : w.grownBy W (some R)) (h2 : Gr2 R E W W') (hE : w.heap.size ≤ E) : w.grownBy W' (some R) :=
  ⟨h2.os.trans h.os, h2.tape.trans h.tape, h2.output.trans h.output, Nat.le_trans h.size h2.size, fun i hi hR => by
    rw [h2.block i (Nat.lt_of_lt_of_le hi h.size) (by simpa using hR) (by omega)]; exact h.block i hi hR⟩
/-- How the reading of a field ends. -/
def FdEnd (wb : World) (R E : Nat) (v : Value) (l : List Int) (o : Nat) (vs : List Value) (W : World) (r : Option (Value × Nat)) (e : Ending) (w' : World) : Prop :=
  Gr2 R E W w' ∧ (∀ x n, r = some (x, n) → e = .returned (.tuple #[]) ∧ RS wb R v l n w' ∧ Bx w' E (vs.set o x)) ∧ (r = none → ∃ p, e = .panicked (fault 3 p))
theorem fdEnd_fail {wb : World} {R E : Nat} {v : Value} {l : List Int} {o : Nat} {vs : List Value} {W w' : World} {r : Option (Value × Nat)} (hg : W.grownBy w' (some R)) (hr : r = none) (p : Int) : FdEnd wb R E v l o vs W r (.panicked (fault 3 p)) w' :=
  ⟨gr2_gr hg, (fun _ _ h => by rw [hr] at h; cases h), fun _ => ⟨p, rfl⟩⟩
theorem fdEnd_done {wb : World} {R E : Nat} {v : Value} {l : List Int} {o k : Nat} {vs : List Value} {W w' : World} {r : Option (Value × Nat)} {x : Value} {n : Nat} (hs : RS wb R v l k W) (hx : Bx W E vs) (hg : W.grownBy w' (some R)) (hE : R < E) (hr : r = some (x, n)) (hn : n ≤ l.length)
    (h : Rdr R w' v n) (ho : o < vs.length) : FdEnd wb R E v l o vs W r (.returned (.tuple #[])) (w'.setCell ⟨E, o, none⟩ x) := by
  have hEw : E < W.heap.size := by
    have := (hx.t 0 (by omega)).1
    obtain ⟨y, hy⟩ := Option.isSome_iff_exists.1 this
    exact World.block_lt_of_cell? W _ hy
  have hx' : Bx w' E vs := bx_blk hx (hg.block E hEw (by simp; omega))
  refine ⟨gr2_set (gr2_gr hg), (fun y m h' => ?_), (fun h' => by rw [hr] at h'; cases h')⟩
  rw [hr] at h'; cases h'
  have h1 := hs.go hg h hn
  refine ⟨rfl, h1.keep ?_ ?_, bx_set hx' ho⟩
  · exact h1.bel.setCell (p := ⟨E, o, none⟩) (show wb.heap.size ≤ E from Nat.le_of_lt (Nat.lt_of_le_of_lt hs.le hE)) _
  · exact rdr_grown h (gr_set w' ⟨E, o, none⟩ x) (by show R ≠ E; omega)
end Go.Proofs.YtmeekcdoajbjdaaGreatDoor
namespace Go.Proofs.YtmeekcdoajbjdaaGreatDoor
open Go.RowKit
set_option linter.unusedVariables false

/-- A command. -/
structure Cm where
  k : Int
  s : Int
  t : Int
  l : Int
  q : Int
  i : Int
  p : Nat
  g : ByteArray
/-- Its cells. -/
def Cm.vs (c : Cm) : List Value := [.int .i64 c.k, .int .i64 c.s, .int .i64 c.t, .int .i64 c.l, .int .i64 c.q, .int .i64 c.i, .float .f64 c.p, .string c.g]
theorem Cm.len (c : Cm) : c.vs.length = 8 := rfl
/-- The cells of a command, told one by one. -/
theorem cm_cells {w : World} {b o : Nat} {c : Cm} (h : w.rangeAt b o c.vs) :
    w.cell? ⟨b, o, none⟩ = some (.int .i64 c.k) ∧ w.cell? ⟨b, o + 1, none⟩ = some (.int .i64 c.s) ∧ w.cell? ⟨b, o + 2, none⟩ = some (.int .i64 c.t) ∧ w.cell? ⟨b, o + 3, none⟩ = some (.int .i64 c.l) ∧
    w.cell? ⟨b, o + 4, none⟩ = some (.int .i64 c.q) ∧ w.cell? ⟨b, o + 5, none⟩ = some (.int .i64 c.i) ∧ w.cell? ⟨b, o + 6, none⟩ = some (.float .f64 c.p) ∧ w.cell? ⟨b, o + 7, none⟩ = some (.string c.g) :=
  ⟨h 0 _ rfl, h 1 _ rfl, h 2 _ rfl, h 3 _ rfl, h 4 _ rfl, h 5 _ rfl, h 6 _ rfl, h 7 _ rfl⟩

theorem there1 {w : World} {b o n : Nat} (h : w.there b o n) (j : Nat) (hj : j < n) : ∃ v, w.cell? ⟨b, o + j, none⟩ = some v ∧ w.frozen? ⟨b, o + j, none⟩ = false := by
  obtain ⟨v, hv⟩ := Option.isSome_iff_exists.1 (h j hj).1
  exact ⟨v, hv, (h j hj).2⟩
/-- Eight cells that may be written, told one by one. -/
theorem there8 {w : World} {b o : Nat} (h : w.there b o 8) :
    (∃ v, w.cell? ⟨b, o, none⟩ = some v ∧ w.frozen? ⟨b, o, none⟩ = false) ∧ (∃ v, w.cell? ⟨b, o + 1, none⟩ = some v ∧ w.frozen? ⟨b, o + 1, none⟩ = false) ∧
    (∃ v, w.cell? ⟨b, o + 2, none⟩ = some v ∧ w.frozen? ⟨b, o + 2, none⟩ = false) ∧ (∃ v, w.cell? ⟨b, o + 3, none⟩ = some v ∧ w.frozen? ⟨b, o + 3, none⟩ = false) ∧
    (∃ v, w.cell? ⟨b, o + 4, none⟩ = some v ∧ w.frozen? ⟨b, o + 4, none⟩ = false) ∧ (∃ v, w.cell? ⟨b, o + 5, none⟩ = some v ∧ w.frozen? ⟨b, o + 5, none⟩ = false) ∧
    (∃ v, w.cell? ⟨b, o + 6, none⟩ = some v ∧ w.frozen? ⟨b, o + 6, none⟩ = false) ∧ (∃ v, w.cell? ⟨b, o + 7, none⟩ = some v ∧ w.frozen? ⟨b, o + 7, none⟩ = false) :=
  ⟨there1 h 0 (by omega), there1 h 1 (by omega), there1 h 2 (by omega), there1 h 3 (by omega), there1 h 4 (by omega), there1 h 5 (by omega), there1 h 6 (by omega), there1 h 7 (by omega)⟩

theorem sfl (a : Addr) (x : Nat) (m : Mode) (w : World) : (store a (.float .f64 x) m).run Tryz.prog w = stored Tryz.prog w a (.float .f64 x) m := run_store _ w a _ m rfl
end Go.Proofs.YtmeekcdoajbjdaaGreatDoor
