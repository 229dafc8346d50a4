/-
  An event read by the model, field by field: pure parts, and what stands while it is read; no function walked.
-/
import Derived.Test.YtfhjbhnfapdmmaaDoorNj20
import Derived.Test.YtfhjbhnfapdmmaaDoorNj21
import Derived.Test.YtfhjbhnfapdmmaaDoorNj33
import Derived.Test.YtfhjbhnfapdmmaaDoorNj34
namespace Go.Proofs.YtfhjbhnfapdmmaaDoor
open Go.RowKit
set_option linter.unusedVariables false

/-- What is read of a cell, and where the reader stands then. -/
def stV (o : Nat) (st : Option Nat) (l : List Int) : Value := if o = 7 then .float .f64 (fltV st l) else if o = 8 then .string (txtV st l) else .int .i64 (numV st l)
def stS (o : Nat) (st : Option Nat) (l : List Int) : Option Nat := if o = 7 then fltS st l else if o = 8 then txtS st l else numS st l
/-- One field read into an event. -/
def stp (o : Nat) (p : Ev × Option Nat) (l : List Int) : Ev × Option Nat := (p.1.put o (stV o p.2 l), stS o p.2 l)
theorem stV_ty (o : Nat) (st : Option Nat) (l : List Int) : TyO o (stV o st l) := by
  unfold TyO stV
  split
  · exact ⟨_, rfl⟩
  · split
    · exact ⟨_, rfl⟩
    · exact ⟨_, rfl⟩
theorem put_kind (e : Ev) (o : Nat) (x : Value) : (e.put o x).kind = e.kind := by
  unfold Ev.put
  split <;> rfl
def spF (os : List Nat) (p : Ev × Option Nat) (l : List Int) : Ev × Option Nat := os.foldl (fun p o => stp o p l) p
theorem st_some {o k n : Nat} {l : List Int} {x : Value} (h : rdF o l k = some (x, n)) : stV o (some k) l = x ∧ stS o (some k) l = some n := by
  unfold rdF at h
  unfold stV stS
  by_cases h7 : o = 7
  · simp only [if_pos h7] at h ⊢
    obtain ⟨⟨a, b⟩, h1, h2⟩ := Option.map_eq_some_iff.1 h
    cases h2
    simp [fltV, fltS, h1]
  · simp only [if_neg h7] at h ⊢
    by_cases h8 : o = 8
    · simp only [if_pos h8] at h ⊢
      obtain ⟨⟨a, b⟩, h1, h2⟩ := Option.map_eq_some_iff.1 h
      cases h2
      simp [txtV, txtS, h1]
    · simp only [if_neg h8] at h ⊢
      obtain ⟨⟨a, b⟩, h1, h2⟩ := Option.map_eq_some_iff.1 h
      cases h2
      simp [numV, numS, h1]
theorem st_none {o k : Nat} {l : List Int} (h : rdF o l k = none) : stS o (some k) l = none := by
  unfold rdF at h
  unfold stS
  by_cases h7 : o = 7
  · simp only [if_pos h7] at h ⊢
    have := Option.map_eq_none_iff.1 h
    simp [fltS, this]
  · simp only [if_neg h7] at h ⊢
    by_cases h8 : o = 8
    · simp only [if_pos h8] at h ⊢
      have := Option.map_eq_none_iff.1 h
      simp [txtS, this]
    · simp only [if_neg h8] at h ⊢
      have := Option.map_eq_none_iff.1 h
      simp [numS, this]
theorem st_bad (o : Nat) (l : List Int) : stS o none l = none := by
  unfold stS
  repeat' split
  all_goals rfl
theorem spF_bad (l : List Int) : ∀ (os : List Nat) (e : Ev), (spF os (e, none) l).2 = none
  | [], e => rfl
  | o :: os, e => by
    unfold spF
    rw [List.foldl_cons]
    have : stp o (e, none) l = (e.put o (stV o none l), none) := by unfold stp; rw [st_bad]
    rw [this]
    exact spF_bad l os _
theorem spF_some (l : List Int) : ∀ (os : List Nat) (e : Ev) (k : Nat) (x : Ev) (n : Nat), rdEs os e l k = some (x, n) → spF os (e, some k) l = (x, some n)
  | [], e, k, x, n, h => by simp only [rdEs, Option.some.injEq, Prod.mk.injEq] at h; obtain ⟨rfl, rfl⟩ := h; rfl
  | o :: os, e, k, x, n, h => by
    cases hr : rdF o l k with
    | none => rw [rdEs_none hr] at h; cases h
    | some y =>
      obtain ⟨y, m⟩ := y
      rw [rdEs_some hr] at h
      have ih := spF_some l os _ m x n h
      unfold spF at ih ⊢
      rw [List.foldl_cons]
      have e1 : stp o (e, some k) l = (e.put o y, some m) := by unfold stp; rw [(st_some hr).1, (st_some hr).2]
      rw [e1]
      exact ih
theorem spF_none (l : List Int) : ∀ (os : List Nat) (e : Ev) (k : Nat), rdEs os e l k = none → (spF os (e, some k) l).2 = none
  | [], e, k, h => by simp [rdEs] at h
  | o :: os, e, k, h => by
    cases hr : rdF o l k with
    | none =>
      unfold spF
      rw [List.foldl_cons]
      have e1 : stp o (e, some k) l = (e.put o (stV o (some k) l), none) := by unfold stp; rw [st_none hr]
      rw [e1]
      exact spF_bad l os _
    | some y =>
      obtain ⟨y, m⟩ := y
      rw [rdEs_some hr] at h
      have ih := spF_none l os _ m h
      unfold spF at ih ⊢
      rw [List.foldl_cons]
      have e1 : stp o (e, some k) l = (e.put o y, some m) := by unfold stp; rw [(st_some hr).1, (st_some hr).2]
      rw [e1]
      exact ih
/-- The five numbers read, as far as the kind has them. -/
def lpR (fs : List Bool) (l : List Int) (st : Option Nat) : Nat → List Int × Option Nat
  | 0 => ([0, 0, 0, 0, 0], st)
  | i + 1 => if fs.getD i false = true then ((lpR fs l st i).1.set i (numV (lpR fs l st i).2 l), numS (lpR fs l st i).2 l) else lpR fs l st i
theorem lpR_len (fs : List Bool) (l : List Int) (st : Option Nat) : ∀ i, (lpR fs l st i).1.length = 5
  | 0 => rfl
  | i + 1 => by
    rw [lpR]
    split
    · rw [List.length_set]; exact lpR_len fs l st i
    · exact lpR_len fs l st i
theorem lpR_yes {fs : List Bool} {l : List Int} {st : Option Nat} {i : Nat} (h : fs.getD i false = true) : lpR fs l st (i + 1) = ((lpR fs l st i).1.set i (numV (lpR fs l st i).2 l), numS (lpR fs l st i).2 l) := by rw [lpR, if_pos h]
theorem lpR_no {fs : List Bool} {l : List Int} {st : Option Nat} {i : Nat} (h : fs.getD i false = false) : lpR fs l st (i + 1) = lpR fs l st i := by rw [lpR, if_neg (by rw [h]; decide)]
/-- The event with the five numbers. -/
def finE (e : Ev) (ns : List Int) : Ev := { e with id := ns.getD 0 0, other := ns.getD 1 0, qty := ns.getD 2 0, price := ns.getD 3 0, reason := ns.getD 4 0 }
/-- The event ahead of the five numbers. -/
def preE (kd : Int) (k : Nat) (l : List Int) : Ev × Option Nat :=
  if kd = 1 then stp 8 (stp 7 (stp 5 (stp 4 (stp 3 (stp 2 (ev0 1, some k) l) l) l) l) l) l
  else if kd = 2 then stp 8 (stp 7 (stp 6 (stp 5 (stp 4 (stp 3 (stp 2 (stp 1 (ev0 2, some k) l) l) l) l) l) l) l) l
  else (ev0 kd, some k)
theorem fin_eq (kd : Int) (k : Nat) (l : List Int) (h : 1 ≤ kd ∧ kd ≤ 9) : (finE (preE kd k l).1 (lpR (fldK kd) l (preE kd k l).2 5).1, (lpR (fldK kd) l (preE kd k l).2 5).2) = spF (shF kd) (ev0 kd, some k) l := by
  rcases (show kd = 1 ∨ kd = 2 ∨ kd = 3 ∨ kd = 4 ∨ kd = 5 ∨ kd = 6 ∨ kd = 7 ∨ kd = 8 ∨ kd = 9 by omega) with rfl | rfl | rfl | rfl | rfl | rfl | rfl | rfl | rfl
  all_goals rfl
/-- What the model's decoding of an event answers. -/
def evT (r : Option (Ev × Nat)) : Value := match r with | none => .tuple #[evV zEv, .int .i64 0, .bool false] | some (x, n) => .tuple #[evV x, .int .i64 n, .bool true]
theorem evT_end {l : List Int} {k n : Nat} {e : Ev} (hk : k < l.length) (h : 1 ≤ l.getD k 0 ∧ l.getD k 0 ≤ 9) (hs : spF (shF (l.getD k 0)) (ev0 (l.getD k 0), some (k + 1)) l = (e, some n)) : evT (evA l k) = .tuple #[evV e, .int .i64 n, .bool true] := by
  rw [evA_yes hk ((shF_ne _).2 h)]
  cases hr : rdEs (shF (l.getD k 0)) (ev0 (l.getD k 0)) l (k + 1) with
  | none =>
    have := spF_none l _ _ _ hr
    rw [hs] at this
    cases this
  | some y =>
    obtain ⟨y, m⟩ := y
    have := spF_some l _ _ _ _ _ hr
    rw [hs] at this
    cases this
    rfl
theorem evT_bad {l : List Int} {k : Nat} (hk : k < l.length) (h : 1 ≤ l.getD k 0 ∧ l.getD k 0 ≤ 9) (hs : (spF (shF (l.getD k 0)) (ev0 (l.getD k 0), some (k + 1)) l).2 = none) : evT (evA l k) = .tuple #[evV zEv, .int .i64 0, .bool false] := by
  rw [evA_yes hk ((shF_ne _).2 h)]
  cases hr : rdEs (shF (l.getD k 0)) (ev0 (l.getD k 0)) l (k + 1) with
  | none => rfl
  | some y =>
    obtain ⟨y, m⟩ := y
    have := spF_some l _ _ _ _ _ hr
    rw [this] at hs
    cases hs
end Go.Proofs.YtfhjbhnfapdmmaaDoor
