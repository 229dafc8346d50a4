/-
  A float's bits, as the program takes them: proved by walking the function.
-/
import Derived.Test.YthkdbjldlfahdaaGreatDoorTj15
import Derived.Test.YthkdbjldlfahdaaGreatDoorTj18
import Derived.Laws.Externs
import Derived.WalkLawsBesides
import Derived.WalkSpells
namespace Go.Proofs.YthkdbjldlfahdaaGreatDoor
open Go.RowKit

/-- A float's bits; of every NaN the same. -/
def fbit (x : Nat) : Nat := if nanB x = true then 9221120237041090560 else x
theorem floatBits_any (x : Nat) (w : World) :
    Calls Tryz.prog 42 #[.float .f64 x] w fun e w' => e = .returned (.int .u64 (fbit x)) ∧ w' = w := by
  have hb := fbits
  cases h : nanB x
  case true =>
    have HX : Hid (fbit x = 9221120237041090560) := if_pos h
    go_enter Tryz.func42, Tryz.ntmps42
    go_wp2_with (go_at_call 65; refine (isNaN_any _ _).mono ?_; rintro e w' ⟨rfl, rfl⟩)
    go_ret
    exact ⟨by rw [unhide HX]; rfl, rfl⟩
  case false =>
    have HX : Hid (fbit x = x) := if_neg (by rw [h]; decide)
    go_enter Tryz.func42, Tryz.ntmps42
    go_wp2_with (go_at_call 65; refine (isNaN_any _ _).mono ?_; rintro e w' ⟨rfl, rfl⟩)
    go_ret
    exact ⟨by rw [unhide HX]; rfl, rfl⟩
end Go.Proofs.YthkdbjldlfahdaaGreatDoor
namespace Go.Proofs.YthkdbjldlfahdaaGreatDoor
open Go.RowKit
set_option linter.unusedVariables false

/-- An event. -/
structure Ev where
  kind : Int
  cmd : Cm
  id : Int
  other : Int
  qty : Int
  price : Int
  reason : Int
def cmV (c : Cm) : Value := .agg #[.int .i64 c.k, .int .i64 c.s, .int .i64 c.t, .int .i64 c.l, .int .i64 c.q, .int .i64 c.i, .float .f64 c.p, .string c.g]
def evV (e : Ev) : Value := .agg #[.int .i64 e.kind, .int .i64 e.cmd.k, .int .i64 e.cmd.s, .int .i64 e.cmd.t, .int .i64 e.cmd.l, .int .i64 e.cmd.q, .int .i64 e.cmd.i, .float .f64 e.cmd.p, .string e.cmd.g, .int .i64 e.id, .int .i64 e.other, .int .i64 e.qty, .int .i64 e.price, .int .i64 e.reason]
/-- An event as a value without a float. -/
def vlV (e : Ev) : Value := .agg #[.int .i64 e.kind, .int .i64 e.id, .int .i64 e.other, .int .i64 e.qty, .int .i64 e.price, .int .i64 e.reason, .int .i64 e.cmd.k, .int .i64 e.cmd.s, .int .i64 e.cmd.t, .int .i64 e.cmd.l, .int .i64 e.cmd.q, .int .i64 e.cmd.i, .int .u64 (fbit e.cmd.p), .string e.cmd.g]
def Ev.vs (e : Ev) : List Value := [.int .i64 e.kind, .int .i64 e.cmd.k, .int .i64 e.cmd.s, .int .i64 e.cmd.t, .int .i64 e.cmd.l, .int .i64 e.cmd.q, .int .i64 e.cmd.i, .float .f64 e.cmd.p, .string e.cmd.g, .int .i64 e.id, .int .i64 e.other, .int .i64 e.qty, .int .i64 e.price, .int .i64 e.reason]
theorem Ev.len (e : Ev) : e.vs.length = 14 := rfl
def zCm : Cm := ⟨0, 0, 0, 0, 0, 0, 0, ⟨#[]⟩⟩
end Go.Proofs.YthkdbjldlfahdaaGreatDoor
namespace Go.Proofs.YthkdbjldlfahdaaGreatDoor
open Go.RowKit
set_option linter.unusedVariables false

/-- A cell of an event set. -/
def Ev.put (e : Ev) (o : Nat) (x : Value) : Ev := match o, x with
  | 1, .int _ z => { e with cmd := { e.cmd with k := z } }
  | 2, .int _ z => { e with cmd := { e.cmd with s := z } }
  | 3, .int _ z => { e with cmd := { e.cmd with t := z } }
  | 4, .int _ z => { e with cmd := { e.cmd with l := z } }
  | 5, .int _ z => { e with cmd := { e.cmd with q := z } }
  | 6, .int _ z => { e with cmd := { e.cmd with i := z } }
  | 7, .float _ p => { e with cmd := { e.cmd with p := p } }
  | 8, .string s => { e with cmd := { e.cmd with g := s } }
  | 9, .int _ z => { e with id := z }
  | 10, .int _ z => { e with other := z }
  | 11, .int _ z => { e with qty := z }
  | 12, .int _ z => { e with price := z }
  | 13, .int _ z => { e with reason := z }
  | _, _ => e
/-- The value is one of the cell's kind. -/
def TyO (o : Nat) (x : Value) : Prop := if o = 7 then ∃ p, x = .float .f64 p else if o = 8 then ∃ s, x = .string s else ∃ z, x = .int .i64 z
def EvO (o : Nat) : Prop := o = 7 ∨ o = 8 ∨ plcO o = true
theorem evs_put {o : Nat} {x : Value} (e : Ev) (ho : EvO o) (hx : TyO o x) : e.vs.set o x = (e.put o x).vs := by
  unfold EvO at ho
  unfold TyO at hx
  rcases (show o = 7 ∨ o = 8 ∨ o = 1 ∨ o = 2 ∨ o = 3 ∨ o = 4 ∨ o = 5 ∨ o = 6 ∨ o = 9 ∨ o = 10 ∨ o = 11 ∨ o = 12 ∨ o = 13 by simp [plcO] at ho; omega) with rfl | rfl | rfl | rfl | rfl | rfl | rfl | rfl | rfl | rfl | rfl | rfl | rfl
  all_goals
    obtain ⟨z, rfl⟩ := hx
    rfl
theorem rdF_ty {o k n : Nat} {l : List Int} {x : Value} (h : rdF o l k = some (x, n)) : TyO o x := by
  unfold rdF at h
  unfold TyO
  split at h
  · rw [if_pos ‹_›]
    obtain ⟨⟨a, b⟩, h1, h2⟩ := Option.map_eq_some_iff.1 h
    cases h2; exact ⟨_, rfl⟩
  · rw [if_neg ‹_›]
    split at h
    · rw [if_pos ‹_›]
      obtain ⟨⟨a, b⟩, h1, h2⟩ := Option.map_eq_some_iff.1 h
      cases h2; exact ⟨_, rfl⟩
    · rw [if_neg ‹_›]
      obtain ⟨⟨a, b⟩, h1, h2⟩ := Option.map_eq_some_iff.1 h
      cases h2; exact ⟨_, rfl⟩
/-- Fields read, one behind the other, into an event. -/
def rdEs : List Nat → Ev → List Int → Nat → Option (Ev × Nat)
  | [], e, _, k => some (e, k)
  | o :: os, e, l, k => match rdF o l k with | none => none | some (x, n) => rdEs os (e.put o x) l n
theorem rdEs_none {o k : Nat} {os : List Nat} {e : Ev} {l : List Int} (h : rdF o l k = none) : rdEs (o :: os) e l k = none := by rw [rdEs, h]
theorem rdEs_some {o k n : Nat} {os : List Nat} {e : Ev} {l : List Int} {x : Value} (h : rdF o l k = some (x, n)) : rdEs (o :: os) e l k = rdEs os (e.put o x) l n := by rw [rdEs, h]
/-- An event of a kind as it stands ahead of its fields. -/
def ev0 (k : Int) : Ev := ⟨k, ⟨shC k, 0, 0, 0, 0, 0, 0, ⟨#[]⟩⟩, 0, 0, 0, 0, 0⟩
/-- The event whose bytes begin at a place, and the place behind it. -/
def evA (l : List Int) (k : Nat) : Option (Ev × Nat) :=
  if l.length ≤ k then none else if shF (l.getD k 0) = [] then none else rdEs (shF (l.getD k 0)) (ev0 (l.getD k 0)) l (k + 1)
theorem evA_end {l : List Int} {k : Nat} (h : l.length ≤ k) : evA l k = none := if_pos h
theorem evA_no {l : List Int} {k : Nat} (h : k < l.length) (h1 : shF (l.getD k 0) = []) : evA l k = none := by unfold evA; rw [if_neg (by omega), if_pos h1]
theorem evA_yes {l : List Int} {k : Nat} (h : k < l.length) (h1 : shF (l.getD k 0) ≠ []) : evA l k = rdEs (shF (l.getD k 0)) (ev0 (l.getD k 0)) l (k + 1) := by unfold evA; rw [if_neg (by omega), if_neg h1]
theorem shF_evO (k : Int) : ∀ o ∈ shF k, EvO o := by
  intro o ho
  unfold shF at ho
  repeat' split at ho
  all_goals
    simp only [List.mem_cons, List.not_mem_nil, or_false] at ho
    try (rcases ho with rfl | rfl | rfl | rfl | rfl | rfl | rfl | rfl | rfl)
    try (rcases ho with rfl | rfl | rfl | rfl | rfl | rfl | rfl)
    try (rcases ho with rfl | rfl | rfl | rfl)
    try (rcases ho with rfl | rfl)
    try subst ho
    all_goals first | exact .inl rfl | exact .inr (.inl rfl) | exact .inr (.inr rfl) | exact ho.elim
theorem set14 (W : World) (b : Nat) (v0 v1 v2 v3 v4 v5 v6 v7 v8 v9 v10 v11 v12 v13 : Value) : ((((((((((((((W.setCell ⟨b, 0, none⟩ v0).setCell ⟨b, 1, none⟩ v1).setCell ⟨b, 2, none⟩ v2).setCell ⟨b, 3, none⟩ v3).setCell ⟨b, 4, none⟩ v4).setCell ⟨b, 5, none⟩ v5).setCell ⟨b, 6, none⟩ v6).setCell ⟨b, 7, none⟩ v7).setCell ⟨b, 8, none⟩ v8).setCell ⟨b, 9, none⟩ v9).setCell ⟨b, 10, none⟩ v10).setCell ⟨b, 11, none⟩ v11).setCell ⟨b, 12, none⟩ v12).setCell ⟨b, 13, none⟩ v13) = W.setCells b 0 [v0, v1, v2, v3, v4, v5, v6, v7, v8, v9, v10, v11, v12, v13] := by
  simp only [World.setCells]
theorem rdr_setCells {R b : Nat} {W : World} {v : Value} {n : Int} (us : List Value) (h : Rdr R W v n) (hb : R ≠ b) : Rdr R (W.setCells b 0 us) v n := by
  have hk := bx_heap b R hb us 0 W
  exact ⟨(World.cell?_of_block (a := ⟨R, 0, none⟩) hk).trans h.1, (World.cell?_of_block (a := ⟨R, 1, none⟩) hk).trans h.2, (World.frozen?_of_block (a := ⟨R, 1, none⟩) hk).trans h.3⟩
theorem gr_setCells {R b : Nat} {w W : World} (us : List Value) (h : w.grownBy W (some R)) (hb : w.heap.size ≤ b) : w.grownBy (W.setCells b 0 us) (some R) := by
  have h1 := below_setCells b (Nat.le_refl _) us 0 W (Below.refl b W)
  exact ⟨h1.os.trans h.os, h1.tape.trans h.tape, h1.output.trans h.output, Nat.le_trans h.size h1.size, fun i hi hR => by rw [bx_heap b i (by omega) us 0 W]; exact h.block i hi hR⟩
/-- How the reading of an event ends. -/
def EvEnd (R : Nat) (v : Value) (w : World) (r : Option (Ev × Nat)) (e : Ending) (w' : World) : Prop :=
  w.grownBy w' (some R) ∧ (∀ x n, r = some (x, n) → e = .returned (evV x) ∧ Rdr R w' v n) ∧ (r = none → ∃ p, e = .panicked (fault 3 p))
theorem evEnd_fail {R : Nat} {v : Value} {w w' : World} {r : Option (Ev × Nat)} (hg : w.grownBy w' (some R)) (hr : r = none) (p : Int) : EvEnd R v w r (.panicked (fault 3 p)) w' :=
  ⟨hg, (fun _ _ h => by rw [hr] at h; cases h), fun _ => ⟨p, rfl⟩⟩
theorem evEnd_done {R : Nat} {v : Value} {w w' : World} {r : Option (Ev × Nat)} {x : Ev} {n : Nat} (hg : w.grownBy w' (some R)) (hr : r = some (x, n)) (h : Rdr R w' v n) : EvEnd R v w r (.returned (evV x)) w' :=
  ⟨hg, (fun a b h' => by rw [hr] at h'; cases h'; exact ⟨rfl, h⟩), (fun h' => by rw [hr] at h'; cases h')⟩
theorem ffs_get {W : World} {B : Nat} : ∀ {os : List Nat} {fs : List Fc}, FFs W B os fs → os.length = fs.length ∧ ∀ (i : Nat) (c : Fc), fs[i]? = some c → ∃ o : Nat, os[i]? = some o ∧ FF W B o c
  | [], [], _ => ⟨rfl, fun i c h => by simp at h⟩
  | o :: os, c :: cs, h => by
    have ih := ffs_get h.2
    refine ⟨by simp [ih.1], fun i d hd => ?_⟩
    cases i with
    | zero => simp at hd; subst hd; exact ⟨o, rfl, h.1⟩
    | succ i => simpa using ih.2 i d (by simpa using hd)
  | [], c :: cs, h => h.elim
  | o :: os, [], h => h.elim
end Go.Proofs.YthkdbjldlfahdaaGreatDoor
