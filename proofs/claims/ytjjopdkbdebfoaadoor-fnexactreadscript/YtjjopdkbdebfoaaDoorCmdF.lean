/-
  The command of a line's words, as the program reads it: proved by walking the function.
-/
import Derived.Test.YtjjopdkbdebfoaaDoorCmdN1
import Derived.Test.YtjjopdkbdebfoaaDoorCmdM1
namespace Go.Proofs.YtjjopdkbdebfoaaDoor
open Go.RowKit
set_option linter.unusedVariables false

theorem look_run {W : World} {r clk : Nat} {es : Array MapEntry} (k : ByteArray) (a : Option (Nat × Value)) (hb : W.heap[r]? = some (.map es clk)) (hf : Instr.findNow .string (.string k) es.toList 0 = some a) :
    (Instr.lookup 51 (.map (some r)) (.string k) true).run Tryd.prog W = .ok (.tuple #[(a.map (·.2)).getD .nilFunc, .bool a.isSome]) W := by
  have hk := Tryd.underlying9
  have hc : ∀ e, (Instr.checkKey e 10000 9 (.string k)).run Tryd.prog W = .ok () W := fun e => MapKept.run_checkKey (k := .string k) hk (by simp [MapKept.IsKey]) e 9999
  have hz := Tryd.zeroValue49
  cases a with
  | none => simp [Instr.lookup, run_underlying Tryd.underlying51, MapKept.run_getObj_map hb, hc, MapKept.run_findKey hk hf, Result.andThen, hz]
  | some p => simp [Instr.lookup, run_underlying Tryd.underlying51, MapKept.run_getObj_map hb, hc, MapKept.run_findKey hk hf, Result.andThen]
theorem beq_no {a b : ByteArray} (h : ¬ a.data.toList = b.data.toList) : (a == b) = false := by
  cases hb : (a == b) with
  | false => rfl
  | true =>
    exfalso
    have h2 : (a.data == b.data) = true := hb
    exact h (by rw [eq_of_beq h2])
/-- What the map of readers has for a word. -/
def rdF (l : List UInt8) (b1 b2 b3 b4 b5 : Nat) : Option (Nat × Value) := if l = kBuy then some (0, rdN b1) else if l = kSel then some (1, rdN b2) else if l = kCan then some (2, rdM b3) else if l = kRed then some (3, rdM b4) else if l = kEnd then some (4, rdM b5) else none
theorem find5 (k : ByteArray) (b1 b2 b3 b4 b5 : Nat) : Instr.findNow .string (.string k) (#[mE wBuy (rdN b1) 0, mE wSel (rdN b2) 1, mE wCan (rdM b3) 2, mE wRed (rdM b4) 3, mE wEnd (rdM b5) 4] : Array MapEntry).toList 0 = some (rdF k.data.toList b1 b2 b3 b4 b5) := by
  unfold rdF
  by_cases h1 : k.data.toList = kBuy
  · obtain rfl : k = wBuy := byte_ext h1
    rfl
  have e1 : (k == wBuy) = false := beq_no h1
  by_cases h2 : k.data.toList = kSel
  · obtain rfl : k = wSel := byte_ext h2
    rfl
  have e2 : (k == wSel) = false := beq_no h2
  by_cases h3 : k.data.toList = kCan
  · obtain rfl : k = wCan := byte_ext h3
    rfl
  have e3 : (k == wCan) = false := beq_no h3
  by_cases h4 : k.data.toList = kRed
  · obtain rfl : k = wRed := byte_ext h4
    rfl
  have e4 : (k == wRed) = false := beq_no h4
  by_cases h5 : k.data.toList = kEnd
  · obtain rfl : k = wEnd := byte_ext h5
    rfl
  have e5 : (k == wEnd) = false := beq_no h5
  rw [if_neg h1, if_neg h2, if_neg h3, if_neg h4, if_neg h5]
  simp [Instr.findNow, Instr.sameNow, mE, e1, e2, e3, e4, e5]
theorem trow_wordsI {W : World} {B : Nat} {v : Value} {ws : List ByteArray} (h : TRow W B v ws) (hne : ws ≠ []) : ∃ g cap, v = .slice (some ⟨g, 0, none⟩) ws.length cap ∧ ws.length ≤ cap ∧ cap ≤ maxLen ∧ g < W.heap.size ∧ ∀ i, i < ws.length → W.cell? ⟨g, i, none⟩ = some (.string (wB ws i)) := by
  rcases h.2 with ⟨_, h0⟩ | ⟨g, cap, cur, rfl, _, hg, hcap, hm, hcur, htake⟩
  · exact absurd (List.length_eq_zero_iff.1 h0) hne
  · refine ⟨g, cap, rfl, hcap, hm, (Array.getElem?_eq_some_iff.1 hg).1, fun i hi => ?_⟩
    rw [cell_of_row W g i cur _ (0, 0) hg]
    have h2 : (ws.map Value.string)[i]? = some (.string (wB ws i)) := by rw [List.getElem?_map, wB_get hi]; rfl
    rw [← htake, List.getElem?_take, if_pos (by omega)] at h2
    simpa using h2

set_option maxRecDepth 100000 in
set_option maxHeartbeats 16000000 in
theorem cmdOf_any (v : Value) (ws : List ByteArray) (B : Nat) (w : World) (hr : TRow w B v ws) (hsz : ∀ i, (wB ws i).size ≤ 1048576) (ht : TabT w) :
    Calls Tryd.prog 15 #[v] w fun e w' => CmEnI ws w e w' := by
  have hsf := sfl
  by_cases hne : ws = []
  · subst hne
    have HE : Hid (∀ w', Below w.heap.size w w' → CmEnI [] w (.returned (.tuple #[cmA zC, .bool false])) w') := fun w' hb => by unfold CmEnI; exact ⟨zC, rfl, (fun h => by cases h), hb⟩
    obtain ⟨a, cap, rfl⟩ : ∃ a cap, v = .slice a 0 cap := by
      rcases hr.2 with ⟨h, _⟩ | ⟨g, cap, cur, h, _⟩
      · exact ⟨_, _, h⟩
      · exact ⟨_, _, h⟩
    clear hr hsz ht
    go_enter Tryd.func15, Tryd.ntmps15
    go_wp2_with fail
    go_returns
    exact unhide HE _ (by go_grown)
  obtain ⟨g, cap, rfl, hcap, hcm, hg, hcell⟩ := trow_wordsI hr hne
  have hpos : 0 < ws.length := List.length_pos_iff.2 hne
  have hpos' : (0 : Int) < ws.length := by omega
  have hne0 : ((ws.length : Int) == 0) = false := beq_eq_false_iff_ne.2 (by omega)
  have x0 : ((w.alloc (Obj.cells #[.int .i64 0, .int .i64 0, .int .i64 0, .int .i64 0, .int .i64 0, .int .i64 0, .float .f64 0, .string ⟨#[]⟩] 24)).drew).cell? ⟨g, 0, none⟩ = some (.string (wB ws 0)) := by
    show (w.alloc _).cell? _ = _
    rw [World.cell?_alloc_old _ _ _ (Nat.ne_of_lt hg)]; exact hcell 0 hpos
  have HB1 : Hid (Below w.heap.size w ((w.alloc (Obj.cells #[.int .i64 0, .int .i64 0, .int .i64 0, .int .i64 0, .int .i64 0, .int .i64 0, .float .f64 0, .string ⟨#[]⟩] 24)).drew)) := ((Below.refl _ _).alloc (Nat.le_refl _) _).drew
  have HT1 : Hid (((w.alloc (Obj.cells #[.int .i64 0, .int .i64 0, .int .i64 0, .int .i64 0, .int .i64 0, .int .i64 0, .float .f64 0, .string ⟨#[]⟩] 24)).drew).there w.heap.size 0 8) := there_block (heap_alloc_new w _) (by simp)
  have hs1 : ((w.alloc (Obj.cells #[.int .i64 0, .int .i64 0, .int .i64 0, .int .i64 0, .int .i64 0, .int .i64 0, .float .f64 0, .string ⟨#[]⟩] 24)).drew).heap.size = w.heap.size + 1 := size_madeT _ _
  have HCR := hide (fun W => cmdReaders_any W)
  go_enter Tryd.func15, Tryd.ntmps15
  go_wp2_with fail
  rename_i K hK
  have HK := hide hK
  clear hK
  have HT : ∀ (W2 : World) (r b1 b2 b3 b4 b5 : Nat), RdMap W2 r b1 b2 b3 b4 b5 → Below ((w.alloc (Obj.cells #[.int .i64 0, .int .i64 0, .int .i64 0, .int .i64 0, .int .i64 0, .int .i64 0, .float .f64 0, .string ⟨#[]⟩] 24)).drew).heap.size ((w.alloc (Obj.cells #[.int .i64 0, .int .i64 0, .int .i64 0, .int .i64 0, .int .i64 0, .int .i64 0, .float .f64 0, .string ⟨#[]⟩] 24)).drew) W2 → K { tmps := #[.slice (some ⟨g, 0, none⟩) ws.length cap, undef, .pointer (some ⟨w.heap.size, 0, none⟩), .bool false, (((rdF (wB ws 0).data.toList b1 b2 b3 b4 b5).map (fun x => x.snd)).getD .nilFunc), .bool (rdF (wB ws 0).data.toList b1 b2 b3 b4 b5).isSome, .slice (some ⟨g, 0, none⟩) ws.length cap, .int .i64 (ws.length : Int), .bool false, undef, .tuple #[((rdF (wB ws 0).data.toList b1 b2 b3 b4 b5).map (fun x => x.snd)).getD .nilFunc, .bool (rdF (wB ws 0).data.toList b1 b2 b3 b4 b5).isSome], .map (some r), .slice (some ⟨g, 0, none⟩) ws.length cap, .pointer (some ⟨g, 0, none⟩), .string (wB ws 0), .tuple #[((rdF (wB ws 0).data.toList b1 b2 b3 b4 b5).map (fun x => x.snd)).getD .nilFunc, .bool (rdF (wB ws 0).data.toList b1 b2 b3 b4 b5).isSome], (((rdF (wB ws 0).data.toList b1 b2 b3 b4 b5).map (fun x => x.snd)).getD .nilFunc), .bool (rdF (wB ws 0).data.toList b1 b2 b3 b4 b5).isSome, undef, undef, undef, undef, undef, undef, undef, undef, undef], defers := [] } W2 := by
    intro W2 r b1 b2 b3 b4 b5 hm hb2
    have HM := hide hm
    have HB2 := hide hb2
    clear hm hb2
    refine unhide HK _ _ ?_
    have HBW : Hid (Below w.heap.size w W2) := (unhide HB1).trans ((unhide HB2).mono (unhide HB1).size)
    have HTW : Hid (W2.there w.heap.size 0 8) := there_below (unhide HT1) (unhide HB2) (by omega)
    have hs2 := (unhide HB2).size
    have HTT : Hid (TabT W2) := ttab_below ht (unhide HBW) (Nat.le_refl _)
    have HCW : Hid (∀ i, i < ws.length → W2.cell? ⟨g, i, none⟩ = some (.string (wB ws i))) := fun i hi => ((unhide HBW).cell (p := ⟨g, i, none⟩) hg).trans (hcell i hi)
    by_cases hnot : rdF (wB ws 0).data.toList b1 b2 b3 b4 b5 = none
    · rw [hnot]
      have hK : cmK ws = false := by
        have hnot : rdF (wL ws 0) b1 b2 b3 b4 b5 = none := hnot
        unfold rdF at hnot
        by_cases h1 : wL ws 0 = kBuy
        · rw [if_pos h1] at hnot; cases hnot
        rw [if_neg h1] at hnot
        by_cases h2 : wL ws 0 = kSel
        · rw [if_pos h2] at hnot; cases hnot
        rw [if_neg h2] at hnot
        by_cases h3 : wL ws 0 = kCan
        · rw [if_pos h3] at hnot; cases hnot
        rw [if_neg h3] at hnot
        by_cases h4 : wL ws 0 = kRed
        · rw [if_pos h4] at hnot; cases hnot
        rw [if_neg h4] at hnot
        by_cases h5 : wL ws 0 = kEnd
        · rw [if_pos h5] at hnot; cases hnot
        unfold cmK
        rw [if_neg h5, if_neg h3, if_neg h4, if_neg (by unfold sdW; rw [if_neg h1, if_neg h2]; decide)]
      have HE : Hid (∀ w', Below w.heap.size w w' → CmEnI ws w (.returned (.tuple #[cmA zC, .bool false])) w') := fun w' hb => by unfold CmEnI; exact ⟨zC, by rw [hK], (fun h => by rw [hK] at h; cases h), hb⟩
      obtain ⟨⟨p0, q0, r0⟩, ⟨p1, q1, r1⟩, ⟨p2, q2, r2⟩, ⟨p3, q3, r3⟩, ⟨p4, q4, r4⟩, ⟨p5, q5, r5⟩, ⟨p6, q6, r6⟩, p7, q7, r7⟩ := there8 (unhide HTW)
      clear hK hnot
      go_wp2_with fail
      rw [set8]
      have HSC : Hid ((W2.setCells w.heap.size 0 zC.vs).rangeAt w.heap.size 0 zC.vs) := World.rangeAt_setCells_same _ _ _ _ (unhide HTW)
      have HBC : Hid (Below w.heap.size w (W2.setCells w.heap.size 0 zC.vs)) := below_setCells w.heap.size (Nat.le_refl _) zC.vs 0 W2 (unhide HBW)
      unfold zC Cm.vs at HSC HBC
      generalize (W2.setCells w.heap.size 0 [.int .i64 0, .int .i64 0, .int .i64 0, .int .i64 0, .int .i64 0, .int .i64 0, .float .f64 0, .string ⟨#[]⟩]) = WF at HSC HBC ⊢
      have d0 := unhide HSC 0 _ rfl
      have d1 := unhide HSC 1 _ rfl
      have d2 := unhide HSC 2 _ rfl
      have d3 := unhide HSC 3 _ rfl
      have d4 := unhide HSC 4 _ rfl
      have d5 := unhide HSC 5 _ rfl
      have d6 := unhide HSC 6 _ rfl
      have d7 := unhide HSC 7 _ rfl
      simp only [Nat.zero_add] at d0 d1 d2 d3 d4 d5 d6 d7
      refine bodyPost_ret (by simp [results, Tryd.results15, go_sem, d0, d1, d2, d3, d4, d5, d6, d7]; try rfl) rfl ?_
      exact unhide HE _ (unhide HBC)
    · have hex : wL ws 0 = kBuy ∨ wL ws 0 = kSel ∨ wL ws 0 = kCan ∨ wL ws 0 = kRed ∨ wL ws 0 = kEnd := by
        by_cases h1 : wL ws 0 = kBuy
        · exact .inl h1
        by_cases h2 : wL ws 0 = kSel
        · exact .inr (.inl h2)
        by_cases h3 : wL ws 0 = kCan
        · exact .inr (.inr (.inl h3))
        by_cases h4 : wL ws 0 = kRed
        · exact .inr (.inr (.inr (.inl h4)))
        by_cases h5 : wL ws 0 = kEnd
        · exact .inr (.inr (.inr (.inr h5)))
        exact absurd (show rdF (wL ws 0) b1 b2 b3 b4 b5 = none by unfold rdF; rw [if_neg h1, if_neg h2, if_neg h3, if_neg h4, if_neg h5]) hnot
      have hgW : g < W2.heap.size := Nat.lt_of_lt_of_le hg (unhide HBW).size
      have hs2' : w.heap.size + 1 ≤ W2.heap.size := by omega
      have HSZ := hide hsz
      have HPS := hide hpos
      clear x0 hcell ht hr hne HB1 HT1 hs1 hs2 HB2 hsz hne0 hg
      rcases hex with h0 | h0 | h0 | h0 | h0
      · have hrd : (rdF (wB ws 0).data.toList b1 b2 b3 b4 b5) = some (0, rdN b1) := by
          rw [show (wB ws 0).data.toList = kBuy from h0]; rfl
        rw [hrd]
        clear hrd hnot
        unfold rdN
        rcases Nat.lt_or_ge 1 cap with hc1 | hc1
        · have hc2 : ¬ cap = 1 := by omega
          have hc3 : (1 : Int) ≤ ws.length := by have := unhide HPS; omega
          go_wp2_with fail
          refine (newRd_any ws g cap b1 W2 (by omega) (World.block_lt_of_cell? _ _ (unhide HM).c1) hcap hcm (unhide HCW) (by rw [h0]; exact (unhide HM).c1) (unhide HTT) (unhide HPS) (by rw [h0]; decide) (unhide HSZ) _ _ (fun h => ⟨rfl, rfl⟩)).mono ?_
          intro e w3 h3
          unfold CmEnI at h3
          obtain ⟨⟨ck, cs, ct, cl, cq, ci, cp, cg⟩, rfl, hcc, hb3⟩ := h3
          have HE : Hid (∀ w', Below w.heap.size w w' → CmEnI ws w (.returned (.tuple #[cmA ⟨ck, cs, ct, cl, cq, ci, cp, cg⟩, .bool (cmK ws)])) w') := fun w' hb => by unfold CmEnI; exact ⟨_, rfl, hcc, hb⟩
          have HTH2 := hide (there_below (unhide HTW) hb3 (by omega))
          have HBW2 : Hid (Below w.heap.size w w3) := (unhide HBW).trans (hb3.mono (unhide HBW).size)
          clear hcc hb3
          generalize cmK ws = kk at *
          obtain ⟨⟨p0, q0, r0⟩, ⟨p1, q1, r1⟩, ⟨p2, q2, r2⟩, ⟨p3, q3, r3⟩, ⟨p4, q4, r4⟩, ⟨p5, q5, r5⟩, ⟨p6, q6, r6⟩, p7, q7, r7⟩ := there8 (unhide HTH2)
          unfold cmA
          go_wp2_with fail
          rw [set8]
          have HSC : Hid ((w3.setCells w.heap.size 0 (Cm.vs ⟨ck, cs, ct, cl, cq, ci, cp, cg⟩)).rangeAt w.heap.size 0 (Cm.vs ⟨ck, cs, ct, cl, cq, ci, cp, cg⟩)) := World.rangeAt_setCells_same _ _ _ _ (unhide HTH2)
          have HBC : Hid (Below w.heap.size w (w3.setCells w.heap.size 0 (Cm.vs ⟨ck, cs, ct, cl, cq, ci, cp, cg⟩))) := below_setCells w.heap.size (Nat.le_refl _) _ 0 w3 (unhide HBW2)
          unfold Cm.vs at HSC HBC
          generalize (w3.setCells w.heap.size 0 [.int .i64 ck, .int .i64 cs, .int .i64 ct, .int .i64 cl, .int .i64 cq, .int .i64 ci, .float .f64 cp, .string cg]) = WF at HSC HBC ⊢
          have d0 := unhide HSC 0 _ rfl
          have d1 := unhide HSC 1 _ rfl
          have d2 := unhide HSC 2 _ rfl
          have d3 := unhide HSC 3 _ rfl
          have d4 := unhide HSC 4 _ rfl
          have d5 := unhide HSC 5 _ rfl
          have d6 := unhide HSC 6 _ rfl
          have d7 := unhide HSC 7 _ rfl
          simp only [Nat.zero_add] at d0 d1 d2 d3 d4 d5 d6 d7
          refine bodyPost_ret (by simp [results, Tryd.results15, go_sem, d0, d1, d2, d3, d4, d5, d6, d7]; try rfl) rfl ?_
          exact unhide HE _ (unhide HBC)
        · obtain rfl : cap = 1 := by omega
          have HW1 : Hid (ws.length = 1) := by show _ = _; have := unhide HPS; omega
          have hc3 : (1 : Int) ≤ ws.length := by have := unhide HPS; omega
          have hz : ws.length - 1 = 0 := by have := unhide HW1; omega
          have HC0 := newRd_any ws g 1 b1 W2 (by omega) (World.block_lt_of_cell? _ _ (unhide HM).c1) hcap hcm (unhide HCW) (by rw [h0]; exact (unhide HM).c1) (unhide HTT) (unhide HPS) (by rw [h0]; decide) (unhide HSZ) (some ⟨g, 0, none⟩) 0 (fun h => absurd h (by have := unhide HW1; omega))
          rw [hz] at HC0
          have HC1 := hide HC0
          clear HC0 hz
          go_wp2_with fail
          refine (unhide HC1).mono ?_
          intro e w3 h3
          unfold CmEnI at h3
          obtain ⟨⟨ck, cs, ct, cl, cq, ci, cp, cg⟩, rfl, hcc, hb3⟩ := h3
          have HE : Hid (∀ w', Below w.heap.size w w' → CmEnI ws w (.returned (.tuple #[cmA ⟨ck, cs, ct, cl, cq, ci, cp, cg⟩, .bool (cmK ws)])) w') := fun w' hb => by unfold CmEnI; exact ⟨_, rfl, hcc, hb⟩
          have HTH2 := hide (there_below (unhide HTW) hb3 (by omega))
          have HBW2 : Hid (Below w.heap.size w w3) := (unhide HBW).trans (hb3.mono (unhide HBW).size)
          clear hcc hb3
          generalize cmK ws = kk at *
          obtain ⟨⟨p0, q0, r0⟩, ⟨p1, q1, r1⟩, ⟨p2, q2, r2⟩, ⟨p3, q3, r3⟩, ⟨p4, q4, r4⟩, ⟨p5, q5, r5⟩, ⟨p6, q6, r6⟩, p7, q7, r7⟩ := there8 (unhide HTH2)
          unfold cmA
          go_wp2_with fail
          rw [set8]
          have HSC : Hid ((w3.setCells w.heap.size 0 (Cm.vs ⟨ck, cs, ct, cl, cq, ci, cp, cg⟩)).rangeAt w.heap.size 0 (Cm.vs ⟨ck, cs, ct, cl, cq, ci, cp, cg⟩)) := World.rangeAt_setCells_same _ _ _ _ (unhide HTH2)
          have HBC : Hid (Below w.heap.size w (w3.setCells w.heap.size 0 (Cm.vs ⟨ck, cs, ct, cl, cq, ci, cp, cg⟩))) := below_setCells w.heap.size (Nat.le_refl _) _ 0 w3 (unhide HBW2)
          unfold Cm.vs at HSC HBC
          generalize (w3.setCells w.heap.size 0 [.int .i64 ck, .int .i64 cs, .int .i64 ct, .int .i64 cl, .int .i64 cq, .int .i64 ci, .float .f64 cp, .string cg]) = WF at HSC HBC ⊢
          have d0 := unhide HSC 0 _ rfl
          have d1 := unhide HSC 1 _ rfl
          have d2 := unhide HSC 2 _ rfl
          have d3 := unhide HSC 3 _ rfl
          have d4 := unhide HSC 4 _ rfl
          have d5 := unhide HSC 5 _ rfl
          have d6 := unhide HSC 6 _ rfl
          have d7 := unhide HSC 7 _ rfl
          simp only [Nat.zero_add] at d0 d1 d2 d3 d4 d5 d6 d7
          refine bodyPost_ret (by simp [results, Tryd.results15, go_sem, d0, d1, d2, d3, d4, d5, d6, d7]; try rfl) rfl ?_
          exact unhide HE _ (unhide HBC)
      · have hrd : (rdF (wB ws 0).data.toList b1 b2 b3 b4 b5) = some (1, rdN b2) := by
          rw [show (wB ws 0).data.toList = kSel from h0]; rfl
        rw [hrd]
        clear hrd hnot
        unfold rdN
        rcases Nat.lt_or_ge 1 cap with hc1 | hc1
        · have hc2 : ¬ cap = 1 := by omega
          have hc3 : (1 : Int) ≤ ws.length := by have := unhide HPS; omega
          go_wp2_with fail
          refine (newRd_any ws g cap b2 W2 (by omega) (World.block_lt_of_cell? _ _ (unhide HM).c2) hcap hcm (unhide HCW) (by rw [h0]; exact (unhide HM).c2) (unhide HTT) (unhide HPS) (by rw [h0]; decide) (unhide HSZ) _ _ (fun h => ⟨rfl, rfl⟩)).mono ?_
          intro e w3 h3
          unfold CmEnI at h3
          obtain ⟨⟨ck, cs, ct, cl, cq, ci, cp, cg⟩, rfl, hcc, hb3⟩ := h3
          have HE : Hid (∀ w', Below w.heap.size w w' → CmEnI ws w (.returned (.tuple #[cmA ⟨ck, cs, ct, cl, cq, ci, cp, cg⟩, .bool (cmK ws)])) w') := fun w' hb => by unfold CmEnI; exact ⟨_, rfl, hcc, hb⟩
          have HTH2 := hide (there_below (unhide HTW) hb3 (by omega))
          have HBW2 : Hid (Below w.heap.size w w3) := (unhide HBW).trans (hb3.mono (unhide HBW).size)
          clear hcc hb3
          generalize cmK ws = kk at *
          obtain ⟨⟨p0, q0, r0⟩, ⟨p1, q1, r1⟩, ⟨p2, q2, r2⟩, ⟨p3, q3, r3⟩, ⟨p4, q4, r4⟩, ⟨p5, q5, r5⟩, ⟨p6, q6, r6⟩, p7, q7, r7⟩ := there8 (unhide HTH2)
          unfold cmA
          go_wp2_with fail
          rw [set8]
          have HSC : Hid ((w3.setCells w.heap.size 0 (Cm.vs ⟨ck, cs, ct, cl, cq, ci, cp, cg⟩)).rangeAt w.heap.size 0 (Cm.vs ⟨ck, cs, ct, cl, cq, ci, cp, cg⟩)) := World.rangeAt_setCells_same _ _ _ _ (unhide HTH2)
          have HBC : Hid (Below w.heap.size w (w3.setCells w.heap.size 0 (Cm.vs ⟨ck, cs, ct, cl, cq, ci, cp, cg⟩))) := below_setCells w.heap.size (Nat.le_refl _) _ 0 w3 (unhide HBW2)
          unfold Cm.vs at HSC HBC
          generalize (w3.setCells w.heap.size 0 [.int .i64 ck, .int .i64 cs, .int .i64 ct, .int .i64 cl, .int .i64 cq, .int .i64 ci, .float .f64 cp, .string cg]) = WF at HSC HBC ⊢
          have d0 := unhide HSC 0 _ rfl
          have d1 := unhide HSC 1 _ rfl
          have d2 := unhide HSC 2 _ rfl
          have d3 := unhide HSC 3 _ rfl
          have d4 := unhide HSC 4 _ rfl
          have d5 := unhide HSC 5 _ rfl
          have d6 := unhide HSC 6 _ rfl
          have d7 := unhide HSC 7 _ rfl
          simp only [Nat.zero_add] at d0 d1 d2 d3 d4 d5 d6 d7
          refine bodyPost_ret (by simp [results, Tryd.results15, go_sem, d0, d1, d2, d3, d4, d5, d6, d7]; try rfl) rfl ?_
          exact unhide HE _ (unhide HBC)
        · obtain rfl : cap = 1 := by omega
          have HW1 : Hid (ws.length = 1) := by show _ = _; have := unhide HPS; omega
          have hc3 : (1 : Int) ≤ ws.length := by have := unhide HPS; omega
          have hz : ws.length - 1 = 0 := by have := unhide HW1; omega
          have HC0 := newRd_any ws g 1 b2 W2 (by omega) (World.block_lt_of_cell? _ _ (unhide HM).c2) hcap hcm (unhide HCW) (by rw [h0]; exact (unhide HM).c2) (unhide HTT) (unhide HPS) (by rw [h0]; decide) (unhide HSZ) (some ⟨g, 0, none⟩) 0 (fun h => absurd h (by have := unhide HW1; omega))
          rw [hz] at HC0
          have HC1 := hide HC0
          clear HC0 hz
          go_wp2_with fail
          refine (unhide HC1).mono ?_
          intro e w3 h3
          unfold CmEnI at h3
          obtain ⟨⟨ck, cs, ct, cl, cq, ci, cp, cg⟩, rfl, hcc, hb3⟩ := h3
          have HE : Hid (∀ w', Below w.heap.size w w' → CmEnI ws w (.returned (.tuple #[cmA ⟨ck, cs, ct, cl, cq, ci, cp, cg⟩, .bool (cmK ws)])) w') := fun w' hb => by unfold CmEnI; exact ⟨_, rfl, hcc, hb⟩
          have HTH2 := hide (there_below (unhide HTW) hb3 (by omega))
          have HBW2 : Hid (Below w.heap.size w w3) := (unhide HBW).trans (hb3.mono (unhide HBW).size)
          clear hcc hb3
          generalize cmK ws = kk at *
          obtain ⟨⟨p0, q0, r0⟩, ⟨p1, q1, r1⟩, ⟨p2, q2, r2⟩, ⟨p3, q3, r3⟩, ⟨p4, q4, r4⟩, ⟨p5, q5, r5⟩, ⟨p6, q6, r6⟩, p7, q7, r7⟩ := there8 (unhide HTH2)
          unfold cmA
          go_wp2_with fail
          rw [set8]
          have HSC : Hid ((w3.setCells w.heap.size 0 (Cm.vs ⟨ck, cs, ct, cl, cq, ci, cp, cg⟩)).rangeAt w.heap.size 0 (Cm.vs ⟨ck, cs, ct, cl, cq, ci, cp, cg⟩)) := World.rangeAt_setCells_same _ _ _ _ (unhide HTH2)
          have HBC : Hid (Below w.heap.size w (w3.setCells w.heap.size 0 (Cm.vs ⟨ck, cs, ct, cl, cq, ci, cp, cg⟩))) := below_setCells w.heap.size (Nat.le_refl _) _ 0 w3 (unhide HBW2)
          unfold Cm.vs at HSC HBC
          generalize (w3.setCells w.heap.size 0 [.int .i64 ck, .int .i64 cs, .int .i64 ct, .int .i64 cl, .int .i64 cq, .int .i64 ci, .float .f64 cp, .string cg]) = WF at HSC HBC ⊢
          have d0 := unhide HSC 0 _ rfl
          have d1 := unhide HSC 1 _ rfl
          have d2 := unhide HSC 2 _ rfl
          have d3 := unhide HSC 3 _ rfl
          have d4 := unhide HSC 4 _ rfl
          have d5 := unhide HSC 5 _ rfl
          have d6 := unhide HSC 6 _ rfl
          have d7 := unhide HSC 7 _ rfl
          simp only [Nat.zero_add] at d0 d1 d2 d3 d4 d5 d6 d7
          refine bodyPost_ret (by simp [results, Tryd.results15, go_sem, d0, d1, d2, d3, d4, d5, d6, d7]; try rfl) rfl ?_
          exact unhide HE _ (unhide HBC)
      · have hrd : (rdF (wB ws 0).data.toList b1 b2 b3 b4 b5) = some (2, rdM b3) := by
          rw [show (wB ws 0).data.toList = kCan from h0]; rfl
        rw [hrd]
        clear hrd hnot
        unfold rdM
        rcases Nat.lt_or_ge 1 cap with hc1 | hc1
        · have hc2 : ¬ cap = 1 := by omega
          have hc3 : (1 : Int) ≤ ws.length := by have := unhide HPS; omega
          go_wp2_with fail
          refine (numRd_any ws g cap b3 1 33 W2 (by omega) (World.block_lt_of_cell? _ _ (unhide HM).c3.2) (unhide HCW) (unhide HPS) (.inl ⟨rfl, h0, rfl⟩) (unhide HM).c3.1 (unhide HM).c3.2 (unhide HSZ) _ _ (fun h => ⟨rfl, rfl⟩)).mono ?_
          intro e w3 h3
          unfold CmEnI at h3
          obtain ⟨⟨ck, cs, ct, cl, cq, ci, cp, cg⟩, rfl, hcc, hb3⟩ := h3
          have HE : Hid (∀ w', Below w.heap.size w w' → CmEnI ws w (.returned (.tuple #[cmA ⟨ck, cs, ct, cl, cq, ci, cp, cg⟩, .bool (cmK ws)])) w') := fun w' hb => by unfold CmEnI; exact ⟨_, rfl, hcc, hb⟩
          have HTH2 := hide (there_below (unhide HTW) hb3 (by omega))
          have HBW2 : Hid (Below w.heap.size w w3) := (unhide HBW).trans (hb3.mono (unhide HBW).size)
          clear hcc hb3
          generalize cmK ws = kk at *
          obtain ⟨⟨p0, q0, r0⟩, ⟨p1, q1, r1⟩, ⟨p2, q2, r2⟩, ⟨p3, q3, r3⟩, ⟨p4, q4, r4⟩, ⟨p5, q5, r5⟩, ⟨p6, q6, r6⟩, p7, q7, r7⟩ := there8 (unhide HTH2)
          unfold cmA
          go_wp2_with fail
          rw [set8]
          have HSC : Hid ((w3.setCells w.heap.size 0 (Cm.vs ⟨ck, cs, ct, cl, cq, ci, cp, cg⟩)).rangeAt w.heap.size 0 (Cm.vs ⟨ck, cs, ct, cl, cq, ci, cp, cg⟩)) := World.rangeAt_setCells_same _ _ _ _ (unhide HTH2)
          have HBC : Hid (Below w.heap.size w (w3.setCells w.heap.size 0 (Cm.vs ⟨ck, cs, ct, cl, cq, ci, cp, cg⟩))) := below_setCells w.heap.size (Nat.le_refl _) _ 0 w3 (unhide HBW2)
          unfold Cm.vs at HSC HBC
          generalize (w3.setCells w.heap.size 0 [.int .i64 ck, .int .i64 cs, .int .i64 ct, .int .i64 cl, .int .i64 cq, .int .i64 ci, .float .f64 cp, .string cg]) = WF at HSC HBC ⊢
          have d0 := unhide HSC 0 _ rfl
          have d1 := unhide HSC 1 _ rfl
          have d2 := unhide HSC 2 _ rfl
          have d3 := unhide HSC 3 _ rfl
          have d4 := unhide HSC 4 _ rfl
          have d5 := unhide HSC 5 _ rfl
          have d6 := unhide HSC 6 _ rfl
          have d7 := unhide HSC 7 _ rfl
          simp only [Nat.zero_add] at d0 d1 d2 d3 d4 d5 d6 d7
          refine bodyPost_ret (by simp [results, Tryd.results15, go_sem, d0, d1, d2, d3, d4, d5, d6, d7]; try rfl) rfl ?_
          exact unhide HE _ (unhide HBC)
        · obtain rfl : cap = 1 := by omega
          have HW1 : Hid (ws.length = 1) := by show _ = _; have := unhide HPS; omega
          have hc3 : (1 : Int) ≤ ws.length := by have := unhide HPS; omega
          have hz : ws.length - 1 = 0 := by have := unhide HW1; omega
          have HC0 := numRd_any ws g 1 b3 1 33 W2 (by omega) (World.block_lt_of_cell? _ _ (unhide HM).c3.2) (unhide HCW) (unhide HPS) (.inl ⟨rfl, h0, rfl⟩) (unhide HM).c3.1 (unhide HM).c3.2 (unhide HSZ) (some ⟨g, 0, none⟩) 0 (fun h => absurd h (by have := unhide HW1; omega))
          rw [hz] at HC0
          have HC1 := hide HC0
          clear HC0 hz
          go_wp2_with fail
          refine (unhide HC1).mono ?_
          intro e w3 h3
          unfold CmEnI at h3
          obtain ⟨⟨ck, cs, ct, cl, cq, ci, cp, cg⟩, rfl, hcc, hb3⟩ := h3
          have HE : Hid (∀ w', Below w.heap.size w w' → CmEnI ws w (.returned (.tuple #[cmA ⟨ck, cs, ct, cl, cq, ci, cp, cg⟩, .bool (cmK ws)])) w') := fun w' hb => by unfold CmEnI; exact ⟨_, rfl, hcc, hb⟩
          have HTH2 := hide (there_below (unhide HTW) hb3 (by omega))
          have HBW2 : Hid (Below w.heap.size w w3) := (unhide HBW).trans (hb3.mono (unhide HBW).size)
          clear hcc hb3
          generalize cmK ws = kk at *
          obtain ⟨⟨p0, q0, r0⟩, ⟨p1, q1, r1⟩, ⟨p2, q2, r2⟩, ⟨p3, q3, r3⟩, ⟨p4, q4, r4⟩, ⟨p5, q5, r5⟩, ⟨p6, q6, r6⟩, p7, q7, r7⟩ := there8 (unhide HTH2)
          unfold cmA
          go_wp2_with fail
          rw [set8]
          have HSC : Hid ((w3.setCells w.heap.size 0 (Cm.vs ⟨ck, cs, ct, cl, cq, ci, cp, cg⟩)).rangeAt w.heap.size 0 (Cm.vs ⟨ck, cs, ct, cl, cq, ci, cp, cg⟩)) := World.rangeAt_setCells_same _ _ _ _ (unhide HTH2)
          have HBC : Hid (Below w.heap.size w (w3.setCells w.heap.size 0 (Cm.vs ⟨ck, cs, ct, cl, cq, ci, cp, cg⟩))) := below_setCells w.heap.size (Nat.le_refl _) _ 0 w3 (unhide HBW2)
          unfold Cm.vs at HSC HBC
          generalize (w3.setCells w.heap.size 0 [.int .i64 ck, .int .i64 cs, .int .i64 ct, .int .i64 cl, .int .i64 cq, .int .i64 ci, .float .f64 cp, .string cg]) = WF at HSC HBC ⊢
          have d0 := unhide HSC 0 _ rfl
          have d1 := unhide HSC 1 _ rfl
          have d2 := unhide HSC 2 _ rfl
          have d3 := unhide HSC 3 _ rfl
          have d4 := unhide HSC 4 _ rfl
          have d5 := unhide HSC 5 _ rfl
          have d6 := unhide HSC 6 _ rfl
          have d7 := unhide HSC 7 _ rfl
          simp only [Nat.zero_add] at d0 d1 d2 d3 d4 d5 d6 d7
          refine bodyPost_ret (by simp [results, Tryd.results15, go_sem, d0, d1, d2, d3, d4, d5, d6, d7]; try rfl) rfl ?_
          exact unhide HE _ (unhide HBC)
      · have hrd : (rdF (wB ws 0).data.toList b1 b2 b3 b4 b5) = some (3, rdM b4) := by
          rw [show (wB ws 0).data.toList = kRed from h0]; rfl
        rw [hrd]
        clear hrd hnot
        unfold rdM
        rcases Nat.lt_or_ge 1 cap with hc1 | hc1
        · have hc2 : ¬ cap = 1 := by omega
          have hc3 : (1 : Int) ≤ ws.length := by have := unhide HPS; omega
          go_wp2_with fail
          refine (numRd_any ws g cap b4 2 34 W2 (by omega) (World.block_lt_of_cell? _ _ (unhide HM).c4.2) (unhide HCW) (unhide HPS) (.inr (.inl ⟨rfl, h0, rfl⟩)) (unhide HM).c4.1 (unhide HM).c4.2 (unhide HSZ) _ _ (fun h => ⟨rfl, rfl⟩)).mono ?_
          intro e w3 h3
          unfold CmEnI at h3
          obtain ⟨⟨ck, cs, ct, cl, cq, ci, cp, cg⟩, rfl, hcc, hb3⟩ := h3
          have HE : Hid (∀ w', Below w.heap.size w w' → CmEnI ws w (.returned (.tuple #[cmA ⟨ck, cs, ct, cl, cq, ci, cp, cg⟩, .bool (cmK ws)])) w') := fun w' hb => by unfold CmEnI; exact ⟨_, rfl, hcc, hb⟩
          have HTH2 := hide (there_below (unhide HTW) hb3 (by omega))
          have HBW2 : Hid (Below w.heap.size w w3) := (unhide HBW).trans (hb3.mono (unhide HBW).size)
          clear hcc hb3
          generalize cmK ws = kk at *
          obtain ⟨⟨p0, q0, r0⟩, ⟨p1, q1, r1⟩, ⟨p2, q2, r2⟩, ⟨p3, q3, r3⟩, ⟨p4, q4, r4⟩, ⟨p5, q5, r5⟩, ⟨p6, q6, r6⟩, p7, q7, r7⟩ := there8 (unhide HTH2)
          unfold cmA
          go_wp2_with fail
          rw [set8]
          have HSC : Hid ((w3.setCells w.heap.size 0 (Cm.vs ⟨ck, cs, ct, cl, cq, ci, cp, cg⟩)).rangeAt w.heap.size 0 (Cm.vs ⟨ck, cs, ct, cl, cq, ci, cp, cg⟩)) := World.rangeAt_setCells_same _ _ _ _ (unhide HTH2)
          have HBC : Hid (Below w.heap.size w (w3.setCells w.heap.size 0 (Cm.vs ⟨ck, cs, ct, cl, cq, ci, cp, cg⟩))) := below_setCells w.heap.size (Nat.le_refl _) _ 0 w3 (unhide HBW2)
          unfold Cm.vs at HSC HBC
          generalize (w3.setCells w.heap.size 0 [.int .i64 ck, .int .i64 cs, .int .i64 ct, .int .i64 cl, .int .i64 cq, .int .i64 ci, .float .f64 cp, .string cg]) = WF at HSC HBC ⊢
          have d0 := unhide HSC 0 _ rfl
          have d1 := unhide HSC 1 _ rfl
          have d2 := unhide HSC 2 _ rfl
          have d3 := unhide HSC 3 _ rfl
          have d4 := unhide HSC 4 _ rfl
          have d5 := unhide HSC 5 _ rfl
          have d6 := unhide HSC 6 _ rfl
          have d7 := unhide HSC 7 _ rfl
          simp only [Nat.zero_add] at d0 d1 d2 d3 d4 d5 d6 d7
          refine bodyPost_ret (by simp [results, Tryd.results15, go_sem, d0, d1, d2, d3, d4, d5, d6, d7]; try rfl) rfl ?_
          exact unhide HE _ (unhide HBC)
        · obtain rfl : cap = 1 := by omega
          have HW1 : Hid (ws.length = 1) := by show _ = _; have := unhide HPS; omega
          have hc3 : (1 : Int) ≤ ws.length := by have := unhide HPS; omega
          have hz : ws.length - 1 = 0 := by have := unhide HW1; omega
          have HC0 := numRd_any ws g 1 b4 2 34 W2 (by omega) (World.block_lt_of_cell? _ _ (unhide HM).c4.2) (unhide HCW) (unhide HPS) (.inr (.inl ⟨rfl, h0, rfl⟩)) (unhide HM).c4.1 (unhide HM).c4.2 (unhide HSZ) (some ⟨g, 0, none⟩) 0 (fun h => absurd h (by have := unhide HW1; omega))
          rw [hz] at HC0
          have HC1 := hide HC0
          clear HC0 hz
          go_wp2_with fail
          refine (unhide HC1).mono ?_
          intro e w3 h3
          unfold CmEnI at h3
          obtain ⟨⟨ck, cs, ct, cl, cq, ci, cp, cg⟩, rfl, hcc, hb3⟩ := h3
          have HE : Hid (∀ w', Below w.heap.size w w' → CmEnI ws w (.returned (.tuple #[cmA ⟨ck, cs, ct, cl, cq, ci, cp, cg⟩, .bool (cmK ws)])) w') := fun w' hb => by unfold CmEnI; exact ⟨_, rfl, hcc, hb⟩
          have HTH2 := hide (there_below (unhide HTW) hb3 (by omega))
          have HBW2 : Hid (Below w.heap.size w w3) := (unhide HBW).trans (hb3.mono (unhide HBW).size)
          clear hcc hb3
          generalize cmK ws = kk at *
          obtain ⟨⟨p0, q0, r0⟩, ⟨p1, q1, r1⟩, ⟨p2, q2, r2⟩, ⟨p3, q3, r3⟩, ⟨p4, q4, r4⟩, ⟨p5, q5, r5⟩, ⟨p6, q6, r6⟩, p7, q7, r7⟩ := there8 (unhide HTH2)
          unfold cmA
          go_wp2_with fail
          rw [set8]
          have HSC : Hid ((w3.setCells w.heap.size 0 (Cm.vs ⟨ck, cs, ct, cl, cq, ci, cp, cg⟩)).rangeAt w.heap.size 0 (Cm.vs ⟨ck, cs, ct, cl, cq, ci, cp, cg⟩)) := World.rangeAt_setCells_same _ _ _ _ (unhide HTH2)
          have HBC : Hid (Below w.heap.size w (w3.setCells w.heap.size 0 (Cm.vs ⟨ck, cs, ct, cl, cq, ci, cp, cg⟩))) := below_setCells w.heap.size (Nat.le_refl _) _ 0 w3 (unhide HBW2)
          unfold Cm.vs at HSC HBC
          generalize (w3.setCells w.heap.size 0 [.int .i64 ck, .int .i64 cs, .int .i64 ct, .int .i64 cl, .int .i64 cq, .int .i64 ci, .float .f64 cp, .string cg]) = WF at HSC HBC ⊢
          have d0 := unhide HSC 0 _ rfl
          have d1 := unhide HSC 1 _ rfl
          have d2 := unhide HSC 2 _ rfl
          have d3 := unhide HSC 3 _ rfl
          have d4 := unhide HSC 4 _ rfl
          have d5 := unhide HSC 5 _ rfl
          have d6 := unhide HSC 6 _ rfl
          have d7 := unhide HSC 7 _ rfl
          simp only [Nat.zero_add] at d0 d1 d2 d3 d4 d5 d6 d7
          refine bodyPost_ret (by simp [results, Tryd.results15, go_sem, d0, d1, d2, d3, d4, d5, d6, d7]; try rfl) rfl ?_
          exact unhide HE _ (unhide HBC)
      · have hrd : (rdF (wB ws 0).data.toList b1 b2 b3 b4 b5) = some (4, rdM b5) := by
          rw [show (wB ws 0).data.toList = kEnd from h0]; rfl
        rw [hrd]
        clear hrd hnot
        unfold rdM
        rcases Nat.lt_or_ge 1 cap with hc1 | hc1
        · have hc2 : ¬ cap = 1 := by omega
          have hc3 : (1 : Int) ≤ ws.length := by have := unhide HPS; omega
          go_wp2_with fail
          refine (numRd_any ws g cap b5 0 35 W2 (by omega) (World.block_lt_of_cell? _ _ (unhide HM).c5.2) (unhide HCW) (unhide HPS) (.inr (.inr ⟨rfl, h0, rfl⟩)) (unhide HM).c5.1 (unhide HM).c5.2 (unhide HSZ) _ _ (fun h => ⟨rfl, rfl⟩)).mono ?_
          intro e w3 h3
          unfold CmEnI at h3
          obtain ⟨⟨ck, cs, ct, cl, cq, ci, cp, cg⟩, rfl, hcc, hb3⟩ := h3
          have HE : Hid (∀ w', Below w.heap.size w w' → CmEnI ws w (.returned (.tuple #[cmA ⟨ck, cs, ct, cl, cq, ci, cp, cg⟩, .bool (cmK ws)])) w') := fun w' hb => by unfold CmEnI; exact ⟨_, rfl, hcc, hb⟩
          have HTH2 := hide (there_below (unhide HTW) hb3 (by omega))
          have HBW2 : Hid (Below w.heap.size w w3) := (unhide HBW).trans (hb3.mono (unhide HBW).size)
          clear hcc hb3
          generalize cmK ws = kk at *
          obtain ⟨⟨p0, q0, r0⟩, ⟨p1, q1, r1⟩, ⟨p2, q2, r2⟩, ⟨p3, q3, r3⟩, ⟨p4, q4, r4⟩, ⟨p5, q5, r5⟩, ⟨p6, q6, r6⟩, p7, q7, r7⟩ := there8 (unhide HTH2)
          unfold cmA
          go_wp2_with fail
          rw [set8]
          have HSC : Hid ((w3.setCells w.heap.size 0 (Cm.vs ⟨ck, cs, ct, cl, cq, ci, cp, cg⟩)).rangeAt w.heap.size 0 (Cm.vs ⟨ck, cs, ct, cl, cq, ci, cp, cg⟩)) := World.rangeAt_setCells_same _ _ _ _ (unhide HTH2)
          have HBC : Hid (Below w.heap.size w (w3.setCells w.heap.size 0 (Cm.vs ⟨ck, cs, ct, cl, cq, ci, cp, cg⟩))) := below_setCells w.heap.size (Nat.le_refl _) _ 0 w3 (unhide HBW2)
          unfold Cm.vs at HSC HBC
          generalize (w3.setCells w.heap.size 0 [.int .i64 ck, .int .i64 cs, .int .i64 ct, .int .i64 cl, .int .i64 cq, .int .i64 ci, .float .f64 cp, .string cg]) = WF at HSC HBC ⊢
          have d0 := unhide HSC 0 _ rfl
          have d1 := unhide HSC 1 _ rfl
          have d2 := unhide HSC 2 _ rfl
          have d3 := unhide HSC 3 _ rfl
          have d4 := unhide HSC 4 _ rfl
          have d5 := unhide HSC 5 _ rfl
          have d6 := unhide HSC 6 _ rfl
          have d7 := unhide HSC 7 _ rfl
          simp only [Nat.zero_add] at d0 d1 d2 d3 d4 d5 d6 d7
          refine bodyPost_ret (by simp [results, Tryd.results15, go_sem, d0, d1, d2, d3, d4, d5, d6, d7]; try rfl) rfl ?_
          exact unhide HE _ (unhide HBC)
        · obtain rfl : cap = 1 := by omega
          have HW1 : Hid (ws.length = 1) := by show _ = _; have := unhide HPS; omega
          have hc3 : (1 : Int) ≤ ws.length := by have := unhide HPS; omega
          have hz : ws.length - 1 = 0 := by have := unhide HW1; omega
          have HC0 := numRd_any ws g 1 b5 0 35 W2 (by omega) (World.block_lt_of_cell? _ _ (unhide HM).c5.2) (unhide HCW) (unhide HPS) (.inr (.inr ⟨rfl, h0, rfl⟩)) (unhide HM).c5.1 (unhide HM).c5.2 (unhide HSZ) (some ⟨g, 0, none⟩) 0 (fun h => absurd h (by have := unhide HW1; omega))
          rw [hz] at HC0
          have HC1 := hide HC0
          clear HC0 hz
          go_wp2_with fail
          refine (unhide HC1).mono ?_
          intro e w3 h3
          unfold CmEnI at h3
          obtain ⟨⟨ck, cs, ct, cl, cq, ci, cp, cg⟩, rfl, hcc, hb3⟩ := h3
          have HE : Hid (∀ w', Below w.heap.size w w' → CmEnI ws w (.returned (.tuple #[cmA ⟨ck, cs, ct, cl, cq, ci, cp, cg⟩, .bool (cmK ws)])) w') := fun w' hb => by unfold CmEnI; exact ⟨_, rfl, hcc, hb⟩
          have HTH2 := hide (there_below (unhide HTW) hb3 (by omega))
          have HBW2 : Hid (Below w.heap.size w w3) := (unhide HBW).trans (hb3.mono (unhide HBW).size)
          clear hcc hb3
          generalize cmK ws = kk at *
          obtain ⟨⟨p0, q0, r0⟩, ⟨p1, q1, r1⟩, ⟨p2, q2, r2⟩, ⟨p3, q3, r3⟩, ⟨p4, q4, r4⟩, ⟨p5, q5, r5⟩, ⟨p6, q6, r6⟩, p7, q7, r7⟩ := there8 (unhide HTH2)
          unfold cmA
          go_wp2_with fail
          rw [set8]
          have HSC : Hid ((w3.setCells w.heap.size 0 (Cm.vs ⟨ck, cs, ct, cl, cq, ci, cp, cg⟩)).rangeAt w.heap.size 0 (Cm.vs ⟨ck, cs, ct, cl, cq, ci, cp, cg⟩)) := World.rangeAt_setCells_same _ _ _ _ (unhide HTH2)
          have HBC : Hid (Below w.heap.size w (w3.setCells w.heap.size 0 (Cm.vs ⟨ck, cs, ct, cl, cq, ci, cp, cg⟩))) := below_setCells w.heap.size (Nat.le_refl _) _ 0 w3 (unhide HBW2)
          unfold Cm.vs at HSC HBC
          generalize (w3.setCells w.heap.size 0 [.int .i64 ck, .int .i64 cs, .int .i64 ct, .int .i64 cl, .int .i64 cq, .int .i64 ci, .float .f64 cp, .string cg]) = WF at HSC HBC ⊢
          have d0 := unhide HSC 0 _ rfl
          have d1 := unhide HSC 1 _ rfl
          have d2 := unhide HSC 2 _ rfl
          have d3 := unhide HSC 3 _ rfl
          have d4 := unhide HSC 4 _ rfl
          have d5 := unhide HSC 5 _ rfl
          have d6 := unhide HSC 6 _ rfl
          have d7 := unhide HSC 7 _ rfl
          simp only [Nat.zero_add] at d0 d1 d2 d3 d4 d5 d6 d7
          refine bodyPost_ret (by simp [results, Tryd.results15, go_sem, d0, d1, d2, d3, d4, d5, d6, d7]; try rfl) rfl ?_
          exact unhide HE _ (unhide HBC)
  go_region_with (go_at_call 25; refine (unhide HCR _).mono ?_; rintro e W2 ⟨r, b1, b2, b3, b4, b5, rfl, hm, hb2⟩; have HM := hide hm; have HB2 := hide hb2; have hlk := look_run (wB ws 0) _ hm.obj (find5 _ b1 b2 b3 b4 b5); have y0 : W2.cell? ⟨g, 0, none⟩ = some (.string (wB ws 0)) := (hb2.cell (p := ⟨g, 0, none⟩) (by show g < _; omega)).trans x0; clear hm hb2)
  all_goals exact HT W2 r b1 b2 b3 b4 b5 (unhide HM) (unhide HB2)
end Go.Proofs.YtjjopdkbdebfoaaDoor
