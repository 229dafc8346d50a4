/-
  The readers of numbers, as the program has them: proved by walking the functions.
-/
import Derived.Test.YtjjopdkbdebfoaaDoorCmdX
import Derived.Laws.AppendOwnNone
import Derived.Deep.RegionWith
namespace Go.Proofs.YtjjopdkbdebfoaaDoor
open Go.RowKit
set_option linter.unusedVariables false

theorem infoI : (Tryd.prog.info? 3).map (fun i => (i.zero, i.size, i.bytes)) = some (some (.int .i64 0), 1, 8) := by kernel_rfl
/-- A row of numbers that the call made. -/
abbrev NRow (W : World) (B : Nat) (v : Value) (l : List Int) : Prop := W.ownsRow B 3 1 v l.length (l.map (Value.int .i64))
theorem nrow_cells {W : World} {B : Nat} {v : Value} {l : List Int} (h : NRow W B v l) (hne : l ≠ []) : ∃ g cap, v = .slice (some ⟨g, 0, none⟩) l.length cap ∧ B ≤ g ∧ g < W.heap.size ∧ ∀ i x, l[i]? = some x → W.cell? ⟨g, i, none⟩ = some (.int .i64 x) := by
  rcases h.2 with ⟨_, h0⟩ | ⟨g, cap, cur, rfl, hB, hg, hcap, hm, hcur, htake⟩
  · exact absurd (List.length_eq_zero_iff.1 h0) hne
  · refine ⟨g, cap, rfl, hB, (Array.getElem?_eq_some_iff.1 hg).1, fun i x hx => ?_⟩
    rw [cell_of_row W g i cur _ (0, 0) hg]
    have hi := (List.getElem?_eq_some_iff.1 hx).1
    have h2 : (l.map (Value.int .i64))[i]? = some (.int .i64 x) := by rw [List.getElem?_map, hx]; rfl
    rw [← htake, List.getElem?_take, if_pos (by omega)] at h2
    simpa using h2

set_option maxRecDepth 100000 in
theorem mk1_any (g cap : Nat) (x : Int) (w : World) (hg : g < w.heap.size) (h : w.cell? ⟨g, 0, none⟩ = some (.int .i64 x)) :
    Calls Tryd.prog 33 #[.slice (some ⟨g, 0, none⟩) 1 cap] w fun e w' => e = .returned (cmA ⟨2, 0, 0, 0, 0, x, 0, ⟨#[]⟩⟩) ∧ Below w.heap.size w w' := by
  have x0 : (w.alloc (Obj.cells #[.int .i64 0, .int .i64 0, .int .i64 0, .int .i64 0, .int .i64 0, .int .i64 0, .float .f64 0, .string ⟨#[]⟩] 24)).cell? ⟨g, 0, none⟩ = some (.int .i64 x) := by
    rw [World.cell?_alloc_old _ _ _ (Nat.ne_of_lt hg)]; exact h
  have hsf := sfl
  clear h
  go_enter Tryd.func33, Tryd.ntmps33
  go_wp2_with fail
  go_returns
  exact ⟨rfl, by go_grown⟩
set_option maxRecDepth 100000 in
theorem mk3_any (v : Value) (w : World) :
    Calls Tryd.prog 35 #[v] w fun e w' => e = .returned (cmA ⟨4, 0, 0, 0, 0, 0, 0, ⟨#[]⟩⟩) ∧ Below w.heap.size w w' := by
  have hsf := sfl
  go_enter Tryd.func35, Tryd.ntmps35
  go_wp2_with fail
  go_returns
  exact ⟨rfl, by go_grown⟩
set_option maxRecDepth 100000 in
set_option maxHeartbeats 1600000 in
theorem mk2_any (g cap : Nat) (x y : Int) (w : World) (hg : g < w.heap.size) (h : w.cell? ⟨g, 0, none⟩ = some (.int .i64 x)) (h1 : w.cell? ⟨g, 1, none⟩ = some (.int .i64 y)) :
    Calls Tryd.prog 34 #[.slice (some ⟨g, 0, none⟩) 2 cap] w fun e w' => e = .returned (cmA ⟨3, 0, 0, 0, y, x, 0, ⟨#[]⟩⟩) ∧ Below w.heap.size w w' := by
  have x0 : (w.alloc (Obj.cells #[.int .i64 0, .int .i64 0, .int .i64 0, .int .i64 0, .int .i64 0, .int .i64 0, .float .f64 0, .string ⟨#[]⟩] 24)).cell? ⟨g, 0, none⟩ = some (.int .i64 x) := by
    rw [World.cell?_alloc_old _ _ _ (Nat.ne_of_lt hg)]; exact h
  have x1 : (w.alloc (Obj.cells #[.int .i64 0, .int .i64 0, .int .i64 0, .int .i64 0, .int .i64 0, .int .i64 0, .float .f64 0, .string ⟨#[]⟩] 24)).cell? ⟨g, 1, none⟩ = some (.int .i64 y) := by
    rw [World.cell?_alloc_old _ _ _ (Nat.ne_of_lt hg)]; exact h1
  have hsf := sfl
  clear h h1
  go_enter Tryd.func34, Tryd.ntmps34
  go_wp2_with fail
  go_region_with (fail)
  all_goals go_wp2_with fail
  all_goals go_returns
  all_goals exact ⟨rfl, by go_grown⟩

theorem set8 (W : World) (b : Nat) (v0 v1 v2 v3 v4 v5 v6 v7 : Value) : ((((((((W.setCell ⟨b, 0, none⟩ v0).setCell ⟨b, 1, none⟩ v1).setCell ⟨b, 2, none⟩ v2).setCell ⟨b, 3, none⟩ v3).setCell ⟨b, 4, none⟩ v4).setCell ⟨b, 5, none⟩ v5).setCell ⟨b, 6, none⟩ v6).setCell ⟨b, 7, none⟩ v7) = W.setCells b 0 [v0, v1, v2, v3, v4, v5, v6, v7] := by
  simp only [World.setCells]
/-- Whether so many words behind the first are numbers' texts, and the numbers. -/
def nrK (n : Nat) (ws : List ByteArray) : Bool := decide (ws.length = n + 1) && (List.range n).all fun i => nmOk (wL ws (i + 1))
def nrV (k : Nat) (ws : List ByteArray) : List Int := (List.range k).map fun i => nmV (wL ws (i + 1))
theorem nrV_len (k : Nat) (ws : List ByteArray) : (nrV k ws).length = k := by simp [nrV]
theorem nrV_snoc (k : Nat) (ws : List ByteArray) : nrV (k + 1) ws = nrV k ws ++ [nmV (wL ws (k + 1))] := by simp [nrV, List.range_succ]

set_option maxRecDepth 100000 in
set_option maxHeartbeats 4000000 in
theorem numRd_any (ws : List ByteArray) (g cap b n f : Nat) (w : World) (hg : g < w.heap.size) (hbx : b + 1 < w.heap.size) (hcell : ∀ i, i < ws.length → w.cell? ⟨g, i, none⟩ = some (.string (wB ws i))) (hpos : 0 < ws.length)
    (hcs : (n = 1 ∧ wL ws 0 = kCan ∧ f = 33) ∨ (n = 2 ∧ wL ws 0 = kRed ∧ f = 34) ∨ (n = 0 ∧ wL ws 0 = kEnd ∧ f = 35))
    (hb0 : w.cell? ⟨b, 0, none⟩ = some (.int .i64 n)) (hb1 : w.cell? ⟨b + 1, 0, none⟩ = some (.func (.func f) #[] #[])) (hsz : ∀ i, (wB ws i).size ≤ 1048576) (a0 : Option Addr) (c0 : Nat) (ha : 2 ≤ ws.length → a0 = some ⟨g, 1, none⟩ ∧ c0 = cap - 1) :
    Calls Tryd.prog 43 #[.slice a0 (ws.length - 1) c0, .pointer (some ⟨b, 0, none⟩), .pointer (some ⟨b + 1, 0, none⟩)] w fun e w' => CmEnI ws w e w' := by
  have HK : Hid (cmK ws = nrK n ws) := by
    show _ = _
    rcases hcs with ⟨rfl, h0, _⟩ | ⟨rfl, h0, _⟩ | ⟨rfl, h0, _⟩
    · unfold cmK nrK; rw [if_neg (by rw [h0]; decide), if_pos h0]; simp [List.range_succ]
    · unfold cmK nrK; rw [if_neg (by rw [h0]; decide), if_neg (by rw [h0]; decide), if_pos h0]; simp [List.range_succ, Bool.and_assoc]
    · unfold cmK nrK; rw [if_pos h0]; simp
  have HC1 : Hid (n = 1 → wL ws 0 = kCan → cmC ws = ⟨2, 0, 0, 0, 0, nmV (wL ws 1), 0, ⟨#[]⟩⟩) := fun _ h0 => by unfold cmC; rw [if_neg (by rw [h0]; decide), if_pos h0]
  have HC2 : Hid (n = 2 → wL ws 0 = kRed → cmC ws = ⟨3, 0, 0, 0, nmV (wL ws 2), nmV (wL ws 1), 0, ⟨#[]⟩⟩) := fun _ h0 => by unfold cmC; rw [if_neg (by rw [h0]; decide), if_neg (by rw [h0]; decide), if_pos h0]
  have HC3 : Hid (n = 0 → wL ws 0 = kEnd → cmC ws = ⟨4, 0, 0, 0, 0, 0, 0, ⟨#[]⟩⟩) := fun _ h0 => by unfold cmC; rw [if_pos h0]
  have HZ : Hid (cmK ws = false → ∀ w', Below w.heap.size w w' → CmEnI ws w (.returned (.tuple #[cmA zC, .bool false])) w') := fun hK w' hb => by unfold CmEnI; exact ⟨zC, by rw [hK], (fun h => by rw [hK] at h; cases h), hb⟩
  have hsf := sfl
  have bx0 : (w.alloc (Obj.cells #[.int .i64 0, .int .i64 0, .int .i64 0, .int .i64 0, .int .i64 0, .int .i64 0, .float .f64 0, .string ⟨#[]⟩] 24)).cell? ⟨b, 0, none⟩ = some (.int .i64 n) := by
    rw [World.cell?_alloc_old _ _ _ (Nat.ne_of_lt (by show b < _; omega))]; exact hb0
  by_cases hl : ws.length = n + 1
  · obtain ⟨i0, hi0, hz0, hz1, hz2⟩ := info_parts infoI
    have HB0 : Hid (Below w.heap.size w (w.alloc (Obj.cells #[.int .i64 0, .int .i64 0, .int .i64 0, .int .i64 0, .int .i64 0, .int .i64 0, .float .f64 0, .string ⟨#[]⟩] 24))) := (Below.refl _ _).alloc (Nat.le_refl _) _
    have hn2 : n ≤ 2 := by rcases hcs with h | h | h <;> omega
    have HX0 : Hid (∀ W, Below (w.alloc (Obj.cells #[.int .i64 0, .int .i64 0, .int .i64 0, .int .i64 0, .int .i64 0, .int .i64 0, .float .f64 0, .string ⟨#[]⟩] 24)).heap.size (w.alloc (Obj.cells #[.int .i64 0, .int .i64 0, .int .i64 0, .int .i64 0, .int .i64 0, .int .i64 0, .float .f64 0, .string ⟨#[]⟩] 24)) W → (∀ i, i < ws.length → W.cell? ⟨g, i, none⟩ = some (.string (wB ws i))) ∧ W.cell? ⟨b + 1, 0, none⟩ = some (.func (.func f) #[] #[]) ∧ W.there w.heap.size 0 8) := fun W hW => by
      have hs : (w.alloc (Obj.cells #[.int .i64 0, .int .i64 0, .int .i64 0, .int .i64 0, .int .i64 0, .int .i64 0, .float .f64 0, .string ⟨#[]⟩] 24)).heap.size = w.heap.size + 1 := size_madeT _ _
      refine ⟨fun i hi => ?_, ?_, ?_⟩
      · rw [hW.cell (p := ⟨g, i, none⟩) (by show g < _; omega), World.cell?_alloc_old _ _ _ (Nat.ne_of_lt hg)]
        exact hcell i hi
      · rw [hW.cell (p := ⟨b + 1, 0, none⟩) (by show b + 1 < _; omega), World.cell?_alloc_old _ _ _ (Nat.ne_of_lt hbx)]
        exact hb1
      · exact there_below (there_block (heap_alloc_new w _) (by simp)) hW (by omega)
    have HNUM := hide (fun i W => numberOf_any (wB ws i) W (hsz i))
    unfold nmE at HNUM
    rw [hl, Nat.add_sub_cancel]
    have HA : Hid (0 < n → a0 = some ⟨g, 1, none⟩ ∧ c0 = cap - 1) := fun h => ha (by omega)
    clear ha hcell hb0 hb1
    go_enter Tryd.func43, Tryd.ntmps43
    go_wp2_with fail
    have hzs : (w.alloc (Obj.cells #[.int .i64 0, .int .i64 0, .int .i64 0, .int .i64 0, .int .i64 0, .int .i64 0, .float .f64 0, .string ⟨#[]⟩] 24)).heap.size = w.heap.size + 1 := size_madeT _ _
    generalize (w.alloc (Obj.cells #[.int .i64 0, .int .i64 0, .int .i64 0, .int .i64 0, .int .i64 0, .int .i64 0, .float .f64 0, .string ⟨#[]⟩] 24)) = W0 at HB0 HX0 bx0 hzs ⊢
    go_loopw [6, 18] (fun ov iv wr => ∃ k : Nat, k ≤ n ∧ iv = .int .i64 k ∧ Hid (∀ i, i < k → nmOk (wL ws (i + 1)) = true) ∧ NRow wr W0.heap.size ov (nrV k ws) ∧ Below W0.heap.size W0 wr) (fun _ iv _ => n - (intOf iv).toNat)
    case atStart => exact ⟨0, Nat.zero_le _, rfl, fun i hi => absurd hi (Nat.not_lt_zero _), World.ownsRow_nil _ _ _ _, Below.refl _ _⟩
    case round =>
      obtain ⟨k, hk, rfl, hpl, hown, hbel⟩ := hrel
      have HB := hide hbel
      have HO := hide hown
      have hsw := hbel.size
      clear hbel hown
      by_cases hlt : k < n
      · obtain ⟨rfl, rfl⟩ := unhide HA (by omega)
        have x1 := (unhide HX0 _ (unhide HB)).1 (1 + k) (by omega)
        have hlt' : (k : Int) < n := by omega
        have HNK := hide (unhide HNUM (1 + k))
        rw [show (wB ws (1 + k)).data.toList = wL ws (k + 1) by rw [Nat.add_comm]; rfl] at HNK
        cases hok : nmOk (wL ws (k + 1)) with
        | true =>
          rw [hok] at HNK
          have HPL : Hid (∀ i, i < k + 1 → nmOk (wL ws (i + 1)) = true) := fun i hi => by
            by_cases h : i < k
            · exact unhide hpl i h
            · obtain rfl : i = k := by omega
              exact hok
          have hvl := nrV_len k ws
          clear hpl hok
          go_wp2_with first
            | (go_at_call 41; refine (unhide HNK _).mono ?_; rintro e w1 ⟨rfl, hw1⟩; rw [hw1]; clear hw1)
            | (at_builtin; go_must (refine wpList_append_own _ rfl _ _ 62 rfl W0.heap.size 3 i0 _ 1 8 Tryd.underlying62 hi0 hz0 hz1 hz2 rfl (by decide) _ (nrV k ws).length ((nrV k ws).map (Value.int .i64)) rfl ((unhide HO).alloc _) ⟨wr.heap.size, 0, none⟩ 1 1 [.int .i64 (nmV (wL ws (k + 1)))] rfl rfl (cellsT wr _ _) (by simp [Value.oneCell']) (by unfold maxLen; omega) (by omega) (by simp; omega) ?_); intro v4 w4 hown4 hg4 _; have HO4 := hide hown4; have HB4 := hide (((unhide HB).alloc hsw _).grown hg4 (by rw [size_madeT]; omega) (fun k hk => ((unhide HO).lt k hk).1)); clear hown4 hg4)
          go_roundw
          case rel => exact ⟨k + 1, by omega, by go_num, unhide HPL, by show World.ownsRow _ _ _ _ _ _ _; rw [nrV_snoc]; simpa using unhide HO4, unhide HB4⟩
          case measure => simp [intOf]; omega
        | false =>
          rw [hok] at HNK
          have hK : cmK ws = false := by
            rw [unhide HK, nrK, Bool.and_eq_false_iff]
            right
            rw [List.all_eq_false]
            exact ⟨k, List.mem_range.2 hlt, by rw [hok]; decide⟩
          have HE := hide (unhide HZ hK)
          have HTH := hide (unhide HX0 _ (unhide HB)).2.2
          have HBW : Hid (Below w.heap.size w wr) := (unhide HB0).trans ((unhide HB).mono (unhide HB0).size)
          clear hpl hok hK HK HC1 HC2 HC3 HZ
          obtain ⟨⟨p0, q0, r0⟩, ⟨p1, q1, r1⟩, ⟨p2, q2, r2⟩, ⟨p3, q3, r3⟩, ⟨p4, q4, r4⟩, ⟨p5, q5, r5⟩, ⟨p6, q6, r6⟩, p7, q7, r7⟩ := there8 (unhide HTH)
          go_wp2_with (go_at_call 41; refine (unhide HNK _).mono ?_; rintro e w1 ⟨rfl, hw1⟩; rw [hw1]; clear hw1)
          rw [set8]
          have HSC : Hid ((wr.setCells w.heap.size 0 zC.vs).rangeAt w.heap.size 0 zC.vs) := World.rangeAt_setCells_same _ _ _ _ (unhide HTH)
          have HBC : Hid (Below w.heap.size w (wr.setCells w.heap.size 0 zC.vs)) := below_setCells w.heap.size (Nat.le_refl _) zC.vs 0 wr (unhide HBW)
          have hzv : zC.vs = [.int .i64 0, .int .i64 0, .int .i64 0, .int .i64 0, .int .i64 0, .int .i64 0, .float .f64 0, .string ⟨#[]⟩] := rfl
          rw [hzv] at HBC
          have HSC : Hid ((wr.setCells w.heap.size 0 [.int .i64 0, .int .i64 0, .int .i64 0, .int .i64 0, .int .i64 0, .int .i64 0, .float .f64 0, .string ⟨#[]⟩]).rangeAt w.heap.size 0 zC.vs) := unhide HSC
          clear hzv
          generalize (wr.setCells w.heap.size 0 [.int .i64 0, .int .i64 0, .int .i64 0, .int .i64 0, .int .i64 0, .int .i64 0, .float .f64 0, .string ⟨#[]⟩]) = WF at HSC HBC ⊢
          obtain ⟨d0, d1, d2, d3, d4, d5, d6, d7⟩ := cm_cells (unhide HSC)
          refine bodyPost_ret (by simp [results, Tryd.results43, go_sem, d0, d1, d2, d3, d4, d5, d6, d7]; try rfl) rfl ?_
          exact unhide HE _ (unhide HBC)
      · obtain rfl : k = n := by omega
        have hK : cmK ws = true := by
          rw [unhide HK, nrK, decide_eq_true hl, Bool.true_and, List.all_eq_true]
          exact fun i hi => unhide hpl i (List.mem_range.1 hi)
        have hbf := (unhide HX0 _ (unhide HB)).2.1
        have HTH := hide (unhide HX0 _ (unhide HB)).2.2
        have HBW : Hid (Below w.heap.size w wr) := (unhide HB0).trans ((unhide HB).mono (unhide HB0).size)
        have hnk : ¬ ((k : Int) < k) := by omega
        rcases hcs with ⟨rfl, h0, rfl⟩ | ⟨rfl, h0, rfl⟩ | ⟨rfl, h0, rfl⟩
        · have hcw := unhide HC1 rfl h0
          have HE : Hid (∀ w', Below w.heap.size w w' → CmEnI ws w (.returned (.tuple #[cmA ⟨2, 0, 0, 0, 0, nmV (wL ws 1), 0, ⟨#[]⟩⟩, .bool true])) w') := fun w' hb => by
            unfold CmEnI; exact ⟨_, by rw [hK], fun _ => hcw.symm, hb⟩
          obtain ⟨gi, ci, rfl, hBi, hgi, hci⟩ := nrow_cells (unhide HO) (by simp [nrV])
          rw [nrV_len]
          have z0 : wr.cell? ⟨gi, 0, none⟩ = some (.int .i64 (nmV (wL ws 1))) := hci 0 _ rfl
          clear hK hcw h0 HK HC1 HC2 HC3 HZ hpl HNUM HA hci
          generalize nmV (wL ws 1) = q0 at *
          go_wp2_with fail
          refine (mk1_any gi ci q0 wr hgi z0).mono ?_
          rintro e w2 ⟨rfl, hb2⟩
          have HTH2 := hide (there_below (unhide HTH) hb2 (by omega))
          have HBW2 : Hid (Below w.heap.size w w2) := (unhide HBW).trans (hb2.mono (unhide HBW).size)
          obtain ⟨⟨p0, q0', r0⟩, ⟨p1, q1', r1⟩, ⟨p2, q2, r2⟩, ⟨p3, q3, r3⟩, ⟨p4, q4, r4⟩, ⟨p5, q5, r5⟩, ⟨p6, q6, r6⟩, p7, q7, r7⟩ := there8 (unhide HTH2)
          clear hb2
          unfold cmA
          go_wp2_with fail
          rw [set8]
          have HSC : Hid ((w2.setCells w.heap.size 0 (Cm.vs ⟨2, 0, 0, 0, 0, q0, 0, ⟨#[]⟩⟩)).rangeAt w.heap.size 0 (Cm.vs ⟨2, 0, 0, 0, 0, q0, 0, ⟨#[]⟩⟩)) := World.rangeAt_setCells_same _ _ _ _ (unhide HTH2)
          have HBC : Hid (Below w.heap.size w (w2.setCells w.heap.size 0 (Cm.vs ⟨2, 0, 0, 0, 0, q0, 0, ⟨#[]⟩⟩))) := below_setCells w.heap.size (Nat.le_refl _) _ 0 w2 (unhide HBW2)
          unfold Cm.vs at HSC HBC
          generalize (w2.setCells w.heap.size 0 [.int .i64 2, .int .i64 0, .int .i64 0, .int .i64 0, .int .i64 0, .int .i64 q0, .float .f64 0, .string ⟨#[]⟩]) = WF at HSC HBC ⊢
          have d0 := unhide HSC 0 _ rfl
          have d1 := unhide HSC 1 _ rfl
          have d2 := unhide HSC 2 _ rfl
          have d3 := unhide HSC 3 _ rfl
          have d4 := unhide HSC 4 _ rfl
          have d5 := unhide HSC 5 _ rfl
          have d6 := unhide HSC 6 _ rfl
          have d7 := unhide HSC 7 _ rfl
          simp only [Nat.zero_add] at d0 d1 d2 d3 d4 d5 d6 d7
          refine bodyPost_ret (by simp [results, Tryd.results43, go_sem, d0, d1, d2, d3, d4, d5, d6, d7]; try rfl) rfl ?_
          exact unhide HE _ (unhide HBC)
        · have hcw := unhide HC2 rfl h0
          have HE : Hid (∀ w', Below w.heap.size w w' → CmEnI ws w (.returned (.tuple #[cmA ⟨3, 0, 0, 0, nmV (wL ws 2), nmV (wL ws 1), 0, ⟨#[]⟩⟩, .bool true])) w') := fun w' hb => by
            unfold CmEnI; exact ⟨_, by rw [hK], fun _ => hcw.symm, hb⟩
          obtain ⟨gi, ci, rfl, hBi, hgi, hci⟩ := nrow_cells (unhide HO) (by simp [nrV])
          rw [nrV_len]
          have z0 : wr.cell? ⟨gi, 0, none⟩ = some (.int .i64 (nmV (wL ws 1))) := hci 0 _ rfl
          have z1 : wr.cell? ⟨gi, 1, none⟩ = some (.int .i64 (nmV (wL ws 2))) := hci 1 _ rfl
          clear hK hcw h0 HK HC1 HC2 HC3 HZ hpl HNUM HA hci
          generalize nmV (wL ws 1) = q0 at *
          generalize nmV (wL ws 2) = q1 at *
          go_wp2_with fail
          refine (mk2_any gi ci q0 q1 wr hgi z0 z1).mono ?_
          rintro e w2 ⟨rfl, hb2⟩
          have HTH2 := hide (there_below (unhide HTH) hb2 (by omega))
          have HBW2 : Hid (Below w.heap.size w w2) := (unhide HBW).trans (hb2.mono (unhide HBW).size)
          obtain ⟨⟨p0, q0', r0⟩, ⟨p1, q1', r1⟩, ⟨p2, q2, r2⟩, ⟨p3, q3, r3⟩, ⟨p4, q4, r4⟩, ⟨p5, q5, r5⟩, ⟨p6, q6, r6⟩, p7, q7, r7⟩ := there8 (unhide HTH2)
          clear hb2
          unfold cmA
          go_wp2_with fail
          rw [set8]
          have HSC : Hid ((w2.setCells w.heap.size 0 (Cm.vs ⟨3, 0, 0, 0, q1, q0, 0, ⟨#[]⟩⟩)).rangeAt w.heap.size 0 (Cm.vs ⟨3, 0, 0, 0, q1, q0, 0, ⟨#[]⟩⟩)) := World.rangeAt_setCells_same _ _ _ _ (unhide HTH2)
          have HBC : Hid (Below w.heap.size w (w2.setCells w.heap.size 0 (Cm.vs ⟨3, 0, 0, 0, q1, q0, 0, ⟨#[]⟩⟩))) := below_setCells w.heap.size (Nat.le_refl _) _ 0 w2 (unhide HBW2)
          unfold Cm.vs at HSC HBC
          generalize (w2.setCells w.heap.size 0 [.int .i64 3, .int .i64 0, .int .i64 0, .int .i64 0, .int .i64 q1, .int .i64 q0, .float .f64 0, .string ⟨#[]⟩]) = WF at HSC HBC ⊢
          have d0 := unhide HSC 0 _ rfl
          have d1 := unhide HSC 1 _ rfl
          have d2 := unhide HSC 2 _ rfl
          have d3 := unhide HSC 3 _ rfl
          have d4 := unhide HSC 4 _ rfl
          have d5 := unhide HSC 5 _ rfl
          have d6 := unhide HSC 6 _ rfl
          have d7 := unhide HSC 7 _ rfl
          simp only [Nat.zero_add] at d0 d1 d2 d3 d4 d5 d6 d7
          refine bodyPost_ret (by simp [results, Tryd.results43, go_sem, d0, d1, d2, d3, d4, d5, d6, d7]; try rfl) rfl ?_
          exact unhide HE _ (unhide HBC)
        · have hcw := unhide HC3 rfl h0
          have HE : Hid (∀ w', Below w.heap.size w w' → CmEnI ws w (.returned (.tuple #[cmA ⟨4, 0, 0, 0, 0, 0, 0, ⟨#[]⟩⟩, .bool true])) w') := fun w' hb => by
            unfold CmEnI; exact ⟨_, by rw [hK], fun _ => hcw.symm, hb⟩
          clear hK hcw h0 HK HC1 HC2 HC3 HZ hpl HNUM HA
          go_wp2_with fail
          refine (mk3_any _ wr).mono ?_
          rintro e w2 ⟨rfl, hb2⟩
          have HTH2 := hide (there_below (unhide HTH) hb2 (by omega))
          have HBW2 : Hid (Below w.heap.size w w2) := (unhide HBW).trans (hb2.mono (unhide HBW).size)
          obtain ⟨⟨p0, q0', r0⟩, ⟨p1, q1', r1⟩, ⟨p2, q2, r2⟩, ⟨p3, q3, r3⟩, ⟨p4, q4, r4⟩, ⟨p5, q5, r5⟩, ⟨p6, q6, r6⟩, p7, q7, r7⟩ := there8 (unhide HTH2)
          clear hb2
          unfold cmA
          go_wp2_with fail
          rw [set8]
          have HSC : Hid ((w2.setCells w.heap.size 0 (Cm.vs ⟨4, 0, 0, 0, 0, 0, 0, ⟨#[]⟩⟩)).rangeAt w.heap.size 0 (Cm.vs ⟨4, 0, 0, 0, 0, 0, 0, ⟨#[]⟩⟩)) := World.rangeAt_setCells_same _ _ _ _ (unhide HTH2)
          have HBC : Hid (Below w.heap.size w (w2.setCells w.heap.size 0 (Cm.vs ⟨4, 0, 0, 0, 0, 0, 0, ⟨#[]⟩⟩))) := below_setCells w.heap.size (Nat.le_refl _) _ 0 w2 (unhide HBW2)
          unfold Cm.vs at HSC HBC
          generalize (w2.setCells w.heap.size 0 [.int .i64 4, .int .i64 0, .int .i64 0, .int .i64 0, .int .i64 0, .int .i64 0, .float .f64 0, .string ⟨#[]⟩]) = WF at HSC HBC ⊢
          have d0 := unhide HSC 0 _ rfl
          have d1 := unhide HSC 1 _ rfl
          have d2 := unhide HSC 2 _ rfl
          have d3 := unhide HSC 3 _ rfl
          have d4 := unhide HSC 4 _ rfl
          have d5 := unhide HSC 5 _ rfl
          have d6 := unhide HSC 6 _ rfl
          have d7 := unhide HSC 7 _ rfl
          simp only [Nat.zero_add] at d0 d1 d2 d3 d4 d5 d6 d7
          refine bodyPost_ret (by simp [results, Tryd.results43, go_sem, d0, d1, d2, d3, d4, d5, d6, d7]; try rfl) rfl ?_
          exact unhide HE _ (unhide HBC)
  · have hK : cmK ws = false := by rw [unhide HK, nrK, decide_eq_false hl]; rfl
    have HE := hide (unhide HZ hK)
    have hne : (((ws.length - 1 : Nat) : Int) == n) = false := beq_eq_false_iff_ne.2 (by omega)
    clear hK hcell HK HC1 HC2 HC3 HZ ha hl hcs
    generalize ws.length - 1 = m at *
    go_enter Tryd.func43, Tryd.ntmps43
    go_wp2_with fail
    go_returns
    exact unhide HE _ (by go_grown)
end Go.Proofs.YtjjopdkbdebfoaaDoor
