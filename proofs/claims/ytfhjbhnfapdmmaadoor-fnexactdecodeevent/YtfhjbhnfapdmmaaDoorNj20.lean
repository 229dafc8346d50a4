/-
  The model's reader of an event's fields: proved by walking its methods.
-/
import Derived.Test.YtfhjbhnfapdmmaaDoorNj16
import Derived.Test.YtfhjbhnfapdmmaaDoorNj17
import Derived.Test.YtfhjbhnfapdmmaaDoorNj19
import Derived.Deep.RegionWith
namespace Go.Proofs.YtfhjbhnfapdmmaaDoor
open Go.RowKit
set_option linter.unusedVariables false

/-- What the model's reader reads where it stands: a number, a float, a text; where it has failed it reads nothing. -/
def numV (st : Option Nat) (l : List Int) : Int := match st with | none => 0 | some k => match getU l k with | none => 0 | some (u, _) => unz u
def fltV (st : Option Nat) (l : List Int) : Nat := match st with | none => 0 | some k => match floatA l k with | none => 0 | some (u, _) => u
def txtV (st : Option Nat) (l : List Int) : ByteArray := match st with | none => ⟨#[]⟩ | some k => match textA l k with | none => ⟨#[]⟩ | some (u, _) => u
/-- Where it stands then. -/
def numS (st : Option Nat) (l : List Int) : Option Nat := match st with | none => none | some k => match getU l k with | none => none | some (_, n) => some n
def fltS (st : Option Nat) (l : List Int) : Option Nat := match st with | none => none | some k => match floatA l k with | none => none | some (_, n) => some n
def txtS (st : Option Nat) (l : List Int) : Option Nat := match st with | none => none | some k => match textA l k with | none => none | some (_, n) => some n
/-- The model's reader in block R, over the bytes l, which lie below it: where it stands, or that it has failed. -/
structure SS (wb : World) (R : Nat) (v : Value) (l : List Int) (st : Option Nat) (W : World) : Prop where
  rd : Rd wb v l
  cap : CapOk v
  le : wb.heap.size ≤ R
  bel : Below wb.heap.size wb W
  x : ∃ k : Int, Bx W R [v, .int .i64 k, .bool st.isNone] ∧ ∀ n, st = some n → k = (n : Int) ∧ n ≤ l.length
  ll : l.length ≤ 65536
  bb : Bts l
theorem SS.lt {wb : World} {R : Nat} {v : Value} {l : List Int} {st : Option Nat} {W : World} (h : SS wb R v l st W) : R < W.heap.size := by
  obtain ⟨k, hx, _⟩ := h.x
  exact World.block_lt_of_cell? W _ (bx_cell hx 0 rfl)
theorem SS.drew {wb : World} {R : Nat} {v : Value} {l : List Int} {st : Option Nat} {W : World} (h : SS wb R v l st W) : SS wb R v l st W.drew := by
  obtain ⟨k, hx, hk⟩ := h.x
  exact ⟨h.rd, h.cap, h.le, h.bel.drew, ⟨k, bx_drew hx, hk⟩, h.ll, h.bb⟩
theorem SS.below {wb : World} {R C : Nat} {v : Value} {l : List Int} {st : Option Nat} {W W' : World} (h : SS wb R v l st W) (hb : Below C W W') (hC : R < C) : SS wb R v l st W' := by
  obtain ⟨k, hx, hk⟩ := h.x
  exact ⟨h.rd, h.cap, h.le, h.bel.trans (hb.mono (Nat.le_of_lt (Nat.lt_of_le_of_lt h.le hC))), ⟨k, bx_below hx hb hC, hk⟩, h.ll, h.bb⟩
theorem SS.other {wb : World} {R b j : Nat} {v u : Value} {l : List Int} {st : Option Nat} {W : World} (h : SS wb R v l st W) (hb : R ≠ b) (hle : wb.heap.size ≤ b) : SS wb R v l st (W.setCell ⟨b, j, none⟩ u) := by
  obtain ⟨k, hx, hk⟩ := h.x
  exact ⟨h.rd, h.cap, h.le, h.bel.setCell (p := ⟨b, j, none⟩) hle _, ⟨k, bx_other hx hb, hk⟩, h.ll, h.bb⟩
theorem ss_bad {wb : World} {R m : Nat} {v : Value} {l : List Int} {W : World} (h : SS wb R v l (some m) W) : SS wb R v l none (W.setCell ⟨R, 2, none⟩ (.bool true)) := by
  obtain ⟨k, hx, hk⟩ := h.x
  exact ⟨h.rd, h.cap, h.le, h.bel.setCell (p := ⟨R, 2, none⟩) h.le _, ⟨k, bx_set (j := 2) (u := .bool true) hx (by simp), fun n hn => by cases hn⟩, h.ll, h.bb⟩
theorem ss_go {wb : World} {R m n : Nat} {v : Value} {l : List Int} {W : World} (h : SS wb R v l (some m) W) (hn : n ≤ l.length) : SS wb R v l (some n) (W.setCell ⟨R, 1, none⟩ (.int .i64 n)) := by
  obtain ⟨k, hx, hk⟩ := h.x
  exact ⟨h.rd, h.cap, h.le, h.bel.setCell (p := ⟨R, 1, none⟩) h.le _, ⟨n, bx_set (j := 1) (u := .int .i64 n) hx (by simp), fun i hi => by cases hi; exact ⟨rfl, hn⟩⟩, h.ll, h.bb⟩
theorem getU_le' {l : List Int} {k u n : Nat} (h : getU l k = some (u, n)) : n ≤ l.length ∧ k ≤ n := getU_le 10 0 0 l k u n h
set_option maxRecDepth 100000 in
set_option maxHeartbeats 1600000 in
theorem sNum_any (wb : World) (R : Nat) (v : Value) (l : List Int) (st : Option Nat) (W : World) (h : SS wb R v l st W) :
    Calls Tryd.prog 43 #[.pointer (some ⟨R, 0, none⟩)] W fun e w' => e = .returned (.int .i64 (numV st l)) ∧ SS wb R v l (numS st l) w' ∧ W.grownBy w' (some R) := by
  skip
  obtain ⟨k, hx, hk⟩ := h.x
  have HH := hide h
  have c0 := bx_cell hx 0 rfl
  have c1 := bx_cell hx 1 rfl
  have c2 := bx_cell hx 2 rfl
  have f1 := bx_free hx 1 (by simp)
  have f2 := bx_free hx 2 (by simp)
  have HX := hide hx
  obtain ⟨va, vc, hv⟩ := rd_len h.rd
  cases st with
  | none =>
    clear hk h hx
    simp only [Option.isNone_none] at c2
    subst hv
    go_enter Tryd.func43, Tryd.ntmps43
    go_wp2_with fail
    go_ret
    exact ⟨rfl, unhide HH, World.grownBy.refl _ _⟩
  | some m =>
    obtain ⟨rfl, hm⟩ := hk m rfl
    have HL := hide (fun W' hb => l01Get_any v l m W' (rd_below h.rd hb (Nat.le_refl _)) hm h.ll h.bb)
    simp only [Option.isNone_some] at c2
    cases hg : getU l m with
    | none =>
      have hL0 : Calls Tryd.prog 69 #[v, .int .i64 m] W.drew fun e w' => e = .returned (.tuple #[.int .i64 0, .int .i64 0, .bool false]) ∧ w' = W.drew := by
        have := unhide HL W.drew h.bel.drew
        rw [getT_none hg] at this
        exact this
      have HLL := hide hL0
      have HV : Hid (numV (some m) l = 0) := by show numV (some m) l = _; simp [numV, hg]
      have HQ : Hid (numS (some m) l = none) := by show numS (some m) l = none; simp [numS, hg]
      have HSS : Hid (SS wb R v l none (W.drew.setCell ⟨R, 2, none⟩ (.bool true))) := ss_bad h.drew
      clear hg hL0 h hx
      subst hv
      go_enter Tryd.func43, Tryd.ntmps43
      go_wp2_with fail
      go_region_with (go_at_call 69; refine (unhide HLL).mono ?_; rintro e w' ⟨rfl, rfl⟩)
      all_goals try go_wp2_with fail
      all_goals
        go_ret
        exact ⟨by rw [unhide HV]; rfl, by rw [unhide HQ]; exact unhide HSS, gr_trans (gr_drewN W 1 _) (gr_set _ _ _)⟩
    | some r =>
      obtain ⟨u, n⟩ := r
      have hL0 : Calls Tryd.prog 69 #[v, .int .i64 m] W.drew fun e w' => e = .returned (.tuple #[.int .i64 (unz u), .int .i64 n, .bool true]) ∧ w' = W.drew := by
        have := unhide HL W.drew h.bel.drew
        rw [getT_some hg] at this
        exact this
      have HLL := hide hL0
      have HV : Hid (numV (some m) l = unz u) := by show numV (some m) l = _; simp [numV, hg]
      have HQ : Hid (numS (some m) l = some n) := by show numS (some m) l = _; simp [numS, hg]
      have HSS : Hid (SS wb R v l (some n) (W.drew.setCell ⟨R, 1, none⟩ (.int .i64 n))) := ss_go h.drew (getU_le' hg).1
      clear hg hL0 h hx
      generalize unz u = z at *
      subst hv
      go_enter Tryd.func43, Tryd.ntmps43
      go_wp2_with fail
      go_region_with (go_at_call 69; refine (unhide HLL).mono ?_; rintro e w' ⟨rfl, rfl⟩)
      all_goals try go_wp2_with fail
      all_goals
        go_ret
        exact ⟨by rw [unhide HV]; rfl, by rw [unhide HQ]; exact unhide HSS, gr_trans (gr_drewN W 1 _) (gr_set _ _ _)⟩
set_option maxRecDepth 100000 in
set_option maxHeartbeats 1600000 in
theorem sFlt_any (wb : World) (R : Nat) (v : Value) (l : List Int) (st : Option Nat) (W : World) (h : SS wb R v l st W) :
    Calls Tryd.prog 44 #[.pointer (some ⟨R, 0, none⟩)] W fun e w' => e = .returned (.float .f64 (fltV st l)) ∧ SS wb R v l (fltS st l) w' ∧ W.grownBy w' (some R) := by
  skip
  obtain ⟨k, hx, hk⟩ := h.x
  have HH := hide h
  have c0 := bx_cell hx 0 rfl
  have c1 := bx_cell hx 1 rfl
  have c2 := bx_cell hx 2 rfl
  have f1 := bx_free hx 1 (by simp)
  have f2 := bx_free hx 2 (by simp)
  have HX := hide hx
  obtain ⟨va, vc, hv⟩ := rd_len h.rd
  cases st with
  | none =>
    clear hk h hx
    simp only [Option.isNone_none] at c2
    subst hv
    go_enter Tryd.func44, Tryd.ntmps44
    go_wp2_with fail
    go_ret
    exact ⟨rfl, unhide HH, World.grownBy.refl _ _⟩
  | some m =>
    obtain ⟨rfl, hm⟩ := hk m rfl
    have HL := hide (fun W' hb => l01GetFlt_any v l m W' (rd_below h.rd hb (Nat.le_refl _)) h.cap hm h.ll h.bb)
    simp only [Option.isNone_some] at c2
    cases hg : floatA l m with
    | none =>
      have hL0 : Calls Tryd.prog 70 #[v, .int .i64 m] W.drew fun e w' => e = .returned (.tuple #[.float .f64 0, .int .i64 0, .bool false]) ∧ w' = W.drew := by
        have := unhide HL W.drew h.bel.drew
        rw [fltT_none hg] at this
        exact this
      have HLL := hide hL0
      have HV : Hid (fltV (some m) l = 0) := by show fltV (some m) l = _; simp [fltV, hg]
      have HQ : Hid (fltS (some m) l = none) := by show fltS (some m) l = none; simp [fltS, hg]
      have HSS : Hid (SS wb R v l none (W.drew.setCell ⟨R, 2, none⟩ (.bool true))) := ss_bad h.drew
      clear hg hL0 h hx
      subst hv
      go_enter Tryd.func44, Tryd.ntmps44
      go_wp2_with fail
      go_region_with (go_at_call 70; refine (unhide HLL).mono ?_; rintro e w' ⟨rfl, rfl⟩)
      all_goals try go_wp2_with fail
      all_goals
        go_ret
        exact ⟨by rw [unhide HV]; rfl, by rw [unhide HQ]; exact unhide HSS, gr_trans (gr_drewN W 1 _) (gr_set _ _ _)⟩
    | some r =>
      obtain ⟨u, n⟩ := r
      have hL0 : Calls Tryd.prog 70 #[v, .int .i64 m] W.drew fun e w' => e = .returned (.tuple #[.float .f64 (u), .int .i64 n, .bool true]) ∧ w' = W.drew := by
        have := unhide HL W.drew h.bel.drew
        rw [fltT_some hg] at this
        exact this
      have HLL := hide hL0
      have HV : Hid (fltV (some m) l = u) := by show fltV (some m) l = _; simp [fltV, hg]
      have HQ : Hid (fltS (some m) l = some n) := by show fltS (some m) l = _; simp [fltS, hg]
      have HSS : Hid (SS wb R v l (some n) (W.drew.setCell ⟨R, 1, none⟩ (.int .i64 n))) := ss_go h.drew (floatA_le hg).1
      clear hg hL0 h hx
      skip
      subst hv
      go_enter Tryd.func44, Tryd.ntmps44
      go_wp2_with fail
      go_region_with (go_at_call 70; refine (unhide HLL).mono ?_; rintro e w' ⟨rfl, rfl⟩)
      all_goals try go_wp2_with fail
      all_goals
        go_ret
        exact ⟨by rw [unhide HV]; rfl, by rw [unhide HQ]; exact unhide HSS, gr_trans (gr_drewN W 1 _) (gr_set _ _ _)⟩
set_option maxRecDepth 100000 in
set_option maxHeartbeats 1600000 in
theorem sTxt_any (wb : World) (R : Nat) (v : Value) (l : List Int) (st : Option Nat) (W : World) (h : SS wb R v l st W) :
    Calls Tryd.prog 45 #[.pointer (some ⟨R, 0, none⟩)] W fun e w' => e = .returned (.string (txtV st l)) ∧ SS wb R v l (txtS st l) w' ∧ W.grownBy w' (some R) := by
  skip
  obtain ⟨k, hx, hk⟩ := h.x
  have HH := hide h
  have c0 := bx_cell hx 0 rfl
  have c1 := bx_cell hx 1 rfl
  have c2 := bx_cell hx 2 rfl
  have f1 := bx_free hx 1 (by simp)
  have f2 := bx_free hx 2 (by simp)
  have HX := hide hx
  obtain ⟨va, vc, hv⟩ := rd_len h.rd
  cases st with
  | none =>
    clear hk h hx
    simp only [Option.isNone_none] at c2
    subst hv
    go_enter Tryd.func45, Tryd.ntmps45
    go_wp2_with fail
    go_ret
    exact ⟨rfl, unhide HH, World.grownBy.refl _ _⟩
  | some m =>
    obtain ⟨rfl, hm⟩ := hk m rfl
    have HL := hide (fun W' hb => l01GetTxt_any v l m W' (rd_below h.rd hb (Nat.le_refl _)) h.cap hm h.ll h.bb)
    simp only [Option.isNone_some] at c2
    cases hg : textA l m with
    | none =>
      have hL0 : Calls Tryd.prog 71 #[v, .int .i64 m] W.drew fun e w' => e = .returned (.tuple #[.string ⟨#[]⟩, .int .i64 0, .bool false]) ∧ w' = W.drew := by
        have := unhide HL W.drew h.bel.drew
        rw [txtT_none hg] at this
        exact this
      have HLL := hide hL0
      have HV : Hid (txtV (some m) l = ⟨#[]⟩) := by show txtV (some m) l = _; simp [txtV, hg]
      have HQ : Hid (txtS (some m) l = none) := by show txtS (some m) l = none; simp [txtS, hg]
      have HSS : Hid (SS wb R v l none (W.drew.setCell ⟨R, 2, none⟩ (.bool true))) := ss_bad h.drew
      clear hg hL0 h hx
      subst hv
      go_enter Tryd.func45, Tryd.ntmps45
      go_wp2_with fail
      go_region_with (go_at_call 71; refine (unhide HLL).mono ?_; rintro e w' ⟨rfl, rfl⟩)
      all_goals try go_wp2_with fail
      all_goals
        go_ret
        exact ⟨by rw [unhide HV]; rfl, by rw [unhide HQ]; exact unhide HSS, gr_trans (gr_drewN W 1 _) (gr_set _ _ _)⟩
    | some r =>
      obtain ⟨u, n⟩ := r
      have hL0 : Calls Tryd.prog 71 #[v, .int .i64 m] W.drew fun e w' => e = .returned (.tuple #[.string (u), .int .i64 n, .bool true]) ∧ w' = W.drew := by
        have := unhide HL W.drew h.bel.drew
        rw [txtT_some hg] at this
        exact this
      have HLL := hide hL0
      have HV : Hid (txtV (some m) l = u) := by show txtV (some m) l = _; simp [txtV, hg]
      have HQ : Hid (txtS (some m) l = some n) := by show txtS (some m) l = _; simp [txtS, hg]
      have HSS : Hid (SS wb R v l (some n) (W.drew.setCell ⟨R, 1, none⟩ (.int .i64 n))) := ss_go h.drew (textA_le hg).1
      clear hg hL0 h hx
      skip
      subst hv
      go_enter Tryd.func45, Tryd.ntmps45
      go_wp2_with fail
      go_region_with (go_at_call 71; refine (unhide HLL).mono ?_; rintro e w' ⟨rfl, rfl⟩)
      all_goals try go_wp2_with fail
      all_goals
        go_ret
        exact ⟨by rw [unhide HV]; rfl, by rw [unhide HQ]; exact unhide HSS, gr_trans (gr_drewN W 1 _) (gr_set _ _ _)⟩
end Go.Proofs.YtfhjbhnfapdmmaaDoor
