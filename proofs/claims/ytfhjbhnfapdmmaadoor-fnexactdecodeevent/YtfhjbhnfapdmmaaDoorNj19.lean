/-
  What the model's reader of a text answers, proved by walking it.
-/
import Derived.Test.YtfhjbhnfapdmmaaDoorNj03
import Derived.Test.YtfhjbhnfapdmmaaDoorNj15
import Derived.Test.YtfhjbhnfapdmmaaDoorNj18
import Derived.WalkLawsBesides
namespace Go.Proofs.YtfhjbhnfapdmmaaDoor
open Go.RowKit
set_option linter.unusedVariables false

/-- What the other reader of a text answers. -/
def txtT (r : Option (ByteArray × Nat)) : Value :=
  .tuple #[.string ((r.map fun x => x.1).getD ⟨#[]⟩), .int .i64 ((r.map fun x => (x.2 : Int)).getD 0), .bool r.isSome]
theorem txtT_none {r : Option (ByteArray × Nat)} (h : r = none) : txtT r = .tuple #[.string ⟨#[]⟩, .int .i64 0, .bool false] := by subst h; rfl
theorem txtT_some {r : Option (ByteArray × Nat)} {s : ByteArray} {n : Nat} (h : r = some (s, n)) : txtT r = .tuple #[.string s, .int .i64 n, .bool true] := by subst h; rfl

set_option maxRecDepth 100000 in
set_option maxHeartbeats 1000000 in
theorem l01GetTxt_any (v : Value) (l : List Int) (k : Nat) (w : World) (hr : Rd w v l) (hcap : CapOk v) (hk : k ≤ l.length) (hl : l.length ≤ 65536) (hb : Bts l) :
    Calls Tryd.prog 71 #[v, .int .i64 k] w fun e w' => e = .returned (txtT (textA l k)) ∧ w' = w := by
  have HR := hide hr
  have HG := hide (fun w h => l01Get_any v l k w h hk hl hb)
  obtain ⟨a, cap, rfl, _, hc⟩ := hr
  have HC := hide hc
  have hcp := hcap _ _ _ rfl
  clear hc hcap hb
  cases hg : getU l k with
  | none =>
    have HT := hide (txtT_none (textA_no hg))
    have HT2 := hide (getT_none hg)
    clear hg
    go_enter Tryd.func71, Tryd.ntmps71
    go_wp2_with fail
    refine (unhide HG _ (unhide HR)).mono ?_
    rw [unhide HT2]
    rintro e w1 ⟨rfl, rfl⟩
    go_wp2_with fail
    go_ret3
    exact ⟨by rw [unhide HT]; rfl, rfl⟩
  | some x =>
    obtain ⟨u, n⟩ := x
    have hle := getU_le 10 0 0 l k u n hg
    have HT2 := hide (getT_some hg)
    have HBad := hide (fun h => txtT_none (textA_bad hg h))
    have HYes := hide (fun h => txtT_some (textA_yes hg h))
    clear hg
    generalize unz u = z at *
    obtain ⟨hn1, hn2⟩ := hle
    by_cases hbad : z < 0 ∨ 13 < z ∨ (l.length : Int) - n < z
    · have HT := hide (unhide HBad hbad)
      rcases (show z < 0 ∨ (0 ≤ z ∧ 13 < z) ∨ (0 ≤ z ∧ z ≤ 13 ∧ (l.length : Int) < n + z) by omega) with h1 | ⟨h1, h2⟩ | ⟨h1, h2, h3⟩
      all_goals
        clear hbad
        go_enter Tryd.func71, Tryd.ntmps71
        go_wp2_with fail
        refine (unhide HG _ (unhide HR)).mono ?_
        rw [unhide HT2]
        rintro e w1 ⟨rfl, rfl⟩
        go_wp2_with fail
        go_ret3
        exact ⟨by rw [unhide HT]; rfl, rfl⟩
    · obtain ⟨c, rfl⟩ := Int.eq_ofNat_of_zero_le (show 0 ≤ z by omega)
      have HT := hide (unhide HYes hbad)
      rw [Int.toNat_natCast] at HT
      have h2 : (c : Int) ≤ 13 := by omega
      have h3 : (n : Int) + c ≤ l.length := by omega
      have h4 : (n : Int) + c ≤ cap := by omega
      clear hbad
      by_cases hne : l = []
      · subst hne
        obtain rfl : n = 0 := by simpa using hn1
        obtain rfl : c = 0 := by simp at h3; omega
        have hcv := fun c' a' W => conv_text (.slice a' 0 c') [] W ⟨a', c', rfl, by simp, fun h => absurd rfl h⟩
        have HT' : Hid (txtT (textA [] k) = .tuple #[.string (strB []), .int .i64 0, .bool true]) := unhide HT
        generalize strB [] = s at *
        go_enter Tryd.func71, Tryd.ntmps71
        go_wp2_with fail
        refine (unhide HG _ (unhide HR)).mono ?_
        rw [unhide HT2]
        rintro e w1 ⟨rfl, rfl⟩
        go_wp2_with fail
        all_goals go_ret3
        all_goals exact ⟨by rw [unhide HT']; rfl, rfl⟩
      · obtain ⟨b, off, rfl, hcl⟩ := unhide HC hne
        by_cases hc0 : c = 0
        · subst hc0
          have hcv := fun c' a' W => conv_text (.slice a' 0 c') [] W ⟨a', c', rfl, by simp, fun h => absurd rfl h⟩
          have HT' : Hid (txtT (textA l k) = .tuple #[.string (strB []), .int .i64 n, .bool true]) := unhide HT
          generalize strB [] = s at *
          have h5 : (n : Int) ≤ cap := by omega
          have h6 : (n : Int) ≤ l.length := by omega
          clear hcl
          go_enter Tryd.func71, Tryd.ntmps71
          go_wp2_with fail
          refine (unhide HG _ (unhide HR)).mono ?_
          rw [unhide HT2]
          rintro e w1 ⟨rfl, rfl⟩
          go_wp2_with fail
          all_goals go_ret3
          all_goals exact ⟨by rw [unhide HT']; rfl, rfl⟩
        · have hcv := fun W h => conv_text _ _ W (piece_rd (w := W) (b := b) (off := off) (cap := cap - n) (n := n) (c := c) (l := l) h (by omega) hl)
          replace hcv := hcv w hcl
          generalize strB ((l.drop n).take c) = s at *
          have hne2 : ¬ cap = n := by omega
          clear hcl
          go_enter Tryd.func71, Tryd.ntmps71
          go_wp2_with fail
          refine (unhide HG _ (unhide HR)).mono ?_
          rw [unhide HT2]
          rintro e w1 ⟨rfl, rfl⟩
          go_wp2_with fail
          go_ret3
          exact ⟨by rw [unhide HT]; rfl, rfl⟩
end Go.Proofs.YtfhjbhnfapdmmaaDoor
namespace Go.Proofs.YtfhjbhnfapdmmaaDoor
open Go.RowKit
set_option linter.unusedVariables false

/-- A command. -/
structure Cm where
  k : Int
  s : Int
  t : Int
  l : Int
  q : Int
  i : Int
  p : Nat
  g : ByteArray
/-- Its cells. -/
def Cm.vs (c : Cm) : List Value := [.int .i64 c.k, .int .i64 c.s, .int .i64 c.t, .int .i64 c.l, .int .i64 c.q, .int .i64 c.i, .float .f64 c.p, .string c.g]
theorem Cm.len (c : Cm) : c.vs.length = 8 := rfl
/-- The cells of a command, told one by one. -/
theorem cm_cells {w : World} {b o : Nat} {c : Cm} (h : w.rangeAt b o c.vs) :
    w.cell? ⟨b, o, none⟩ = some (.int .i64 c.k) ∧ w.cell? ⟨b, o + 1, none⟩ = some (.int .i64 c.s) ∧ w.cell? ⟨b, o + 2, none⟩ = some (.int .i64 c.t) ∧ w.cell? ⟨b, o + 3, none⟩ = some (.int .i64 c.l) ∧
    w.cell? ⟨b, o + 4, none⟩ = some (.int .i64 c.q) ∧ w.cell? ⟨b, o + 5, none⟩ = some (.int .i64 c.i) ∧ w.cell? ⟨b, o + 6, none⟩ = some (.float .f64 c.p) ∧ w.cell? ⟨b, o + 7, none⟩ = some (.string c.g) :=
  ⟨h 0 _ rfl, h 1 _ rfl, h 2 _ rfl, h 3 _ rfl, h 4 _ rfl, h 5 _ rfl, h 6 _ rfl, h 7 _ rfl⟩

theorem there1 {w : World} {b o n : Nat} (h : w.there b o n) (j : Nat) (hj : j < n) : ∃ v, w.cell? ⟨b, o + j, none⟩ = some v ∧ w.frozen? ⟨b, o + j, none⟩ = false := by
  obtain ⟨v, hv⟩ := Option.isSome_iff_exists.1 (h j hj).1
  exact ⟨v, hv, (h j hj).2⟩
/-- Eight cells that may be written, told one by one. -/
theorem there8 {w : World} {b o : Nat} (h : w.there b o 8) :
    (∃ v, w.cell? ⟨b, o, none⟩ = some v ∧ w.frozen? ⟨b, o, none⟩ = false) ∧ (∃ v, w.cell? ⟨b, o + 1, none⟩ = some v ∧ w.frozen? ⟨b, o + 1, none⟩ = false) ∧
    (∃ v, w.cell? ⟨b, o + 2, none⟩ = some v ∧ w.frozen? ⟨b, o + 2, none⟩ = false) ∧ (∃ v, w.cell? ⟨b, o + 3, none⟩ = some v ∧ w.frozen? ⟨b, o + 3, none⟩ = false) ∧
    (∃ v, w.cell? ⟨b, o + 4, none⟩ = some v ∧ w.frozen? ⟨b, o + 4, none⟩ = false) ∧ (∃ v, w.cell? ⟨b, o + 5, none⟩ = some v ∧ w.frozen? ⟨b, o + 5, none⟩ = false) ∧
    (∃ v, w.cell? ⟨b, o + 6, none⟩ = some v ∧ w.frozen? ⟨b, o + 6, none⟩ = false) ∧ (∃ v, w.cell? ⟨b, o + 7, none⟩ = some v ∧ w.frozen? ⟨b, o + 7, none⟩ = false) :=
  ⟨there1 h 0 (by omega), there1 h 1 (by omega), there1 h 2 (by omega), there1 h 3 (by omega), there1 h 4 (by omega), there1 h 5 (by omega), there1 h 6 (by omega), there1 h 7 (by omega)⟩

theorem sfl (a : Addr) (x : Nat) (m : Mode) (w : World) : (store a (.float .f64 x) m).run Tryd.prog w = stored Tryd.prog w a (.float .f64 x) m := run_store _ w a _ m rfl
end Go.Proofs.YtfhjbhnfapdmmaaDoor
