/-
  One field of an event read, by the program: proved by walking the functions.
-/
import Derived.Test.YtmeekcdoajbjdaaGreatDoorGj09
import Derived.Test.YtmeekcdoajbjdaaGreatDoorGj11
import Derived.Laws.Externs
import Derived.WalkLawsBesides
import Derived.WalkSpells
namespace Go.Proofs.YtmeekcdoajbjdaaGreatDoor
open Go.RowKit
set_option linter.unusedVariables false

theorem rdF_num {o k : Nat} {l : List Int} (h : plcO o = true) : rdF o l k = (getU l k).map fun x => (.int .i64 (unz x.1), x.2) := by
  unfold plcO at h
  unfold rdF
  rw [if_neg (by intro e; subst e; simp at h), if_neg (by intro e; subst e; simp at h)]
theorem plc_enter (o : Nat) (h : plcO o = true) (args : Array Value) (W : World) : (callFunc (plc o) args).run Tryz.prog W = .ok (.enter (plc o) args) W := by
  rcases (show o = 1 ∨ o = 2 ∨ o = 3 ∨ o = 4 ∨ o = 5 ∨ o = 6 ∨ o = 9 ∨ o = 10 ∨ o = 11 ∨ o = 12 ∨ o = 13 by simp [plcO] at h; omega) with rfl | rfl | rfl | rfl | rfl | rfl | rfl | rfl | rfl | rfl | rfl
  all_goals kernel_rfl
set_option maxRecDepth 100000 in
set_option maxHeartbeats 800000 in
theorem readNum_any (wb : World) (R E b o : Nat) (v : Value) (l : List Int) (k : Nat) (vs : List Value) (W : World) (hs : RS wb R v l k W) (hx : Bx W E vs) (hE : R < E) (ho : plcO o = true) (hv : vs.length = 14) (hbR : R ≠ b) (hc : W.cell? ⟨b, 0, none⟩ = some (.func (.func (plc o)) #[] #[])) :
    Calls Tryz.prog 88 #[.pointer (some ⟨R, 0, none⟩), .pointer (some ⟨E, 0, none⟩), .pointer (some ⟨b, 0, none⟩)] W fun e w' => FdEnd wb R E v l o vs W (rdF o l k) e w' := by
  have ho14 : o < vs.length := by unfold plcO at ho; simp at ho; omega
  have HP := hide (fun W => plc_any o E W ho)
  have hpe := plc_enter o ho
  have HF := hide (rdF_num (l := l) (k := k) ho)
  have HS := hide hs
  have HX := hide hx
  have HV := hide hv
  clear hs hx ho hv
  generalize plc o = f at *
  go_enter Tryz.func88, Tryz.ntmps88
  go_wp2_with fail
  refine (unhide HP _).mono ?_
  rintro e w1 ⟨rfl, hw1⟩
  rw [hw1]
  clear hw1
  go_wp2_with fail
  refine (number_rs (unhide HS)).mono ?_
  rintro e w2 hN
  cases hg : getU l k with
  | none =>
    obtain ⟨p, rfl⟩ := hN.2.2 hg
    have HG := hide hN.1
    have HT : Hid (rdF o l k = none) := (unhide HF).trans (by simp [hg])
    clear hN hg
    go_wp2_with fail
    exact ⟨rfl, fdEnd_fail (unhide HG) (unhide HT) _⟩
  | some x =>
    obtain ⟨u, n⟩ := x
    obtain ⟨rfl, hrn⟩ := hN.2.1 u n hg
    have HG := hide hN.1
    have HRn := hide hrn
    have HN := hide (getU_le 10 0 0 l k u n hg).1
    have HT : Hid (rdF o l k = some (.int .i64 (unz u), n)) := (unhide HF).trans (by simp [hg])
    clear hN hrn hg
    have hx2 : Bx w2 E vs := bx_blk (unhide HX) ((unhide HG).block E (by
      obtain ⟨y, hy⟩ := Option.isSome_iff_exists.1 ((unhide HX).t 0 (by omega)).1
      exact World.block_lt_of_cell? W _ hy) (by simp; omega))
    have c0 := bx_cell hx2 o (List.getElem?_eq_getElem ho14)
    have f0 := bx_free hx2 o ho14
    clear hx2
    generalize unz u = z at *
    go_wp2_with fail
    go_end0
    exact fdEnd_done (unhide HS) (unhide HX) (unhide HG) hE (unhide HT) (unhide HN) (unhide HRn) ho14
set_option maxRecDepth 100000 in
set_option maxHeartbeats 800000 in
theorem readPrice_any (wb : World) (R E : Nat) (v : Value) (l : List Int) (k : Nat) (vs : List Value) (W : World) (hs : RS wb R v l k W) (hx : Bx W E vs) (hE : R < E) (hv : vs.length = 14) :
    Calls Tryz.prog 72 #[.pointer (some ⟨R, 0, none⟩), .pointer (some ⟨E, 0, none⟩)] W fun e w' => FdEnd wb R E v l 7 vs W (rdF 7 l k) e w' := by
  have ho14 : 7 < vs.length := by omega
  have HS := hide hs
  have HX := hide hx
  have HV := hide hv
  have hsf := sfl
  clear hs hx hv
  go_enter Tryz.func72, Tryz.ntmps72
  go_wp2_with fail
  refine (float_rs (unhide HS)).mono ?_
  rintro e w2 hN
  cases hg : floatA l k with
  | none =>
    obtain ⟨p, rfl⟩ := hN.2.2 hg
    have HG := hide hN.1
    have HT : Hid (rdF 7 l k = none) := by show rdF 7 l k = none; simp [rdF, hg]
    clear hN hg
    go_wp2_with fail
    exact ⟨rfl, fdEnd_fail (unhide HG) (unhide HT) _⟩
  | some x =>
    obtain ⟨u, n⟩ := x
    obtain ⟨rfl, hrn⟩ := hN.2.1 u n hg
    have HG := hide hN.1
    have HRn := hide hrn
    have HN := hide (floatA_le hg).1
    have HT : Hid (rdF 7 l k = some (.float .f64 u, n)) := by show rdF 7 l k = _; simp [rdF, hg]
    clear hN hrn hg
    have hx2 : Bx w2 E vs := bx_blk (unhide HX) ((unhide HG).block E (by
      obtain ⟨y, hy⟩ := Option.isSome_iff_exists.1 ((unhide HX).t 0 (by omega)).1
      exact World.block_lt_of_cell? W _ hy) (by simp; omega))
    have c0 := bx_cell hx2 7 (List.getElem?_eq_getElem ho14)
    have f0 := bx_free hx2 7 ho14
    clear hx2
    go_wp2_with fail
    go_end0
    exact fdEnd_done (unhide HS) (unhide HX) (unhide HG) hE (unhide HT) (unhide HN) (unhide HRn) ho14
set_option maxRecDepth 100000 in
set_option maxHeartbeats 800000 in
theorem readTag_any (wb : World) (R E : Nat) (v : Value) (l : List Int) (k : Nat) (vs : List Value) (W : World) (hs : RS wb R v l k W) (hx : Bx W E vs) (hE : R < E) (hv : vs.length = 14) :
    Calls Tryz.prog 74 #[.pointer (some ⟨R, 0, none⟩), .pointer (some ⟨E, 0, none⟩)] W fun e w' => FdEnd wb R E v l 8 vs W (rdF 8 l k) e w' := by
  have ho14 : 8 < vs.length := by omega
  have HS := hide hs
  have HX := hide hx
  have HV := hide hv
  
  clear hs hx hv
  go_enter Tryz.func74, Tryz.ntmps74
  go_wp2_with fail
  refine (text_rs (unhide HS)).mono ?_
  rintro e w2 hN
  cases hg : textA l k with
  | none =>
    obtain ⟨p, rfl⟩ := hN.2.2 hg
    have HG := hide hN.1
    have HT : Hid (rdF 8 l k = none) := by show rdF 8 l k = none; simp [rdF, hg]
    clear hN hg
    go_wp2_with fail
    exact ⟨rfl, fdEnd_fail (unhide HG) (unhide HT) _⟩
  | some x =>
    obtain ⟨u, n⟩ := x
    obtain ⟨rfl, hrn⟩ := hN.2.1 u n hg
    have HG := hide hN.1
    have HRn := hide hrn
    have HN := hide (textA_le hg).1
    have HT : Hid (rdF 8 l k = some (.string u, n)) := by show rdF 8 l k = _; simp [rdF, hg]
    clear hN hrn hg
    have hx2 : Bx w2 E vs := bx_blk (unhide HX) ((unhide HG).block E (by
      obtain ⟨y, hy⟩ := Option.isSome_iff_exists.1 ((unhide HX).t 0 (by omega)).1
      exact World.block_lt_of_cell? W _ hy) (by simp; omega))
    have c0 := bx_cell hx2 8 (List.getElem?_eq_getElem ho14)
    have f0 := bx_free hx2 8 ho14
    clear hx2
    go_wp2_with fail
    go_end0
    exact fdEnd_done (unhide HS) (unhide HX) (unhide HG) hE (unhide HT) (unhide HN) (unhide HRn) ho14
/-- A field is read by its reader, whichever cell it is of. -/
theorem readField_any (wb w0 : World) (F R E o : Nat) (c : Fc) (v : Value) (l : List Int) (k : Nat) (vs : List Value) (W : World) (hs : RS wb R v l k W) (hx : Bx W E vs) (hE : R < E) (hv : vs.length = 14) (ho : o = 7 ∨ o = 8 ∨ plcO o = true) (hf : FF W F o c) (hF : R < F) :
    Calls Tryz.prog c.n2 (#[.pointer (some ⟨R, 0, none⟩), .pointer (some ⟨E, 0, none⟩)] ++ c.l) W fun e w' => FdEnd wb R E v l o vs W (rdF o l k) e w' := by
  unfold FF at hf
  rcases ho with rfl | rfl | ho
  · rw [if_pos rfl] at hf
    subst hf
    exact readPrice_any wb R E v l k vs W hs hx hE hv
  · rw [if_neg (by decide), if_pos rfl] at hf
    subst hf
    exact readTag_any wb R E v l k vs W hs hx hE hv
  · rw [if_neg (by intro e; subst e; simp [plcO] at ho), if_neg (by intro e; subst e; simp [plcO] at ho)] at hf
    obtain ⟨b, rfl, h1, h2, h3⟩ := hf
    exact readNum_any wb R E b o v l k vs W hs hx hE ho hv (by omega) h3
theorem field_enter (F o : Nat) (c : Fc) (W : World) (hf : FF W F o c) (args : Array Value) (V : World) : (callFunc c.n2 args).run Tryz.prog V = .ok (.enter c.n2 args) V ∧ (callFunc c.n1 args).run Tryz.prog V = .ok (.enter c.n1 args) V := by
  unfold FF at hf
  split at hf
  · subst hf; exact ⟨by kernel_rfl, by kernel_rfl⟩
  · split at hf
    · subst hf; exact ⟨by kernel_rfl, by kernel_rfl⟩
    · obtain ⟨b, rfl, _⟩ := hf; exact ⟨by kernel_rfl, by kernel_rfl⟩
end Go.Proofs.YtmeekcdoajbjdaaGreatDoor
namespace Go.Proofs.YtmeekcdoajbjdaaGreatDoor
open Go.RowKit

/-- A float's bits; of every NaN the same. -/
def fbit (x : Nat) : Nat := if nanB x = true then 9221120237041090560 else x
theorem floatBits_any (x : Nat) (w : World) :
    Calls Tryz.prog 64 #[.float .f64 x] w fun e w' => e = .returned (.int .u64 (fbit x)) ∧ w' = w := by
  have hb := fbits
  cases h : nanB x
  case true =>
    have HX : Hid (fbit x = 9221120237041090560) := if_pos h
    go_enter Tryz.func64, Tryz.ntmps64
    go_wp2_with (go_at_call 86; refine (isNaN_any _ _).mono ?_; rintro e w' ⟨rfl, rfl⟩)
    go_ret
    exact ⟨by rw [unhide HX]; rfl, rfl⟩
  case false =>
    have HX : Hid (fbit x = x) := if_neg (by rw [h]; decide)
    go_enter Tryz.func64, Tryz.ntmps64
    go_wp2_with (go_at_call 86; refine (isNaN_any _ _).mono ?_; rintro e w' ⟨rfl, rfl⟩)
    go_ret
    exact ⟨by rw [unhide HX]; rfl, rfl⟩
end Go.Proofs.YtmeekcdoajbjdaaGreatDoor
namespace Go.Proofs.YtmeekcdoajbjdaaGreatDoor
open Go.RowKit
set_option linter.unusedVariables false

/-- An event. -/
structure Ev where
  kind : Int
  cmd : Cm
  id : Int
  other : Int
  qty : Int
  price : Int
  reason : Int
def cmV (c : Cm) : Value := .agg #[.int .i64 c.k, .int .i64 c.s, .int .i64 c.t, .int .i64 c.l, .int .i64 c.q, .int .i64 c.i, .float .f64 c.p, .string c.g]
def evV (e : Ev) : Value := .agg #[.int .i64 e.kind, .int .i64 e.cmd.k, .int .i64 e.cmd.s, .int .i64 e.cmd.t, .int .i64 e.cmd.l, .int .i64 e.cmd.q, .int .i64 e.cmd.i, .float .f64 e.cmd.p, .string e.cmd.g, .int .i64 e.id, .int .i64 e.other, .int .i64 e.qty, .int .i64 e.price, .int .i64 e.reason]
/-- An event as a value without a float. -/
def vlV (e : Ev) : Value := .agg #[.int .i64 e.kind, .int .i64 e.id, .int .i64 e.other, .int .i64 e.qty, .int .i64 e.price, .int .i64 e.reason, .int .i64 e.cmd.k, .int .i64 e.cmd.s, .int .i64 e.cmd.t, .int .i64 e.cmd.l, .int .i64 e.cmd.q, .int .i64 e.cmd.i, .int .u64 (fbit e.cmd.p), .string e.cmd.g]
def Ev.vs (e : Ev) : List Value := [.int .i64 e.kind, .int .i64 e.cmd.k, .int .i64 e.cmd.s, .int .i64 e.cmd.t, .int .i64 e.cmd.l, .int .i64 e.cmd.q, .int .i64 e.cmd.i, .float .f64 e.cmd.p, .string e.cmd.g, .int .i64 e.id, .int .i64 e.other, .int .i64 e.qty, .int .i64 e.price, .int .i64 e.reason]
theorem Ev.len (e : Ev) : e.vs.length = 14 := rfl
def zCm : Cm := ⟨0, 0, 0, 0, 0, 0, 0, ⟨#[]⟩⟩
end Go.Proofs.YtmeekcdoajbjdaaGreatDoor
