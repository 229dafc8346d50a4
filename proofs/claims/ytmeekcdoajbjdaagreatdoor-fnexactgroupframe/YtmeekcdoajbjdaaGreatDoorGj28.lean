/-
  When an event is right, by the model: the function walked.
-/
import Derived.Test.YtmeekcdoajbjdaaGreatDoorGj27
namespace Go.Proofs.YtmeekcdoajbjdaaGreatDoor
open Go.RowKit
set_option linter.unusedVariables false

theorem fldK_len (k : Int) : fldK k = [] ∨ (fldK k).length = 5 := by
  unfold fldK
  repeat' split
  all_goals simp
theorem fldK_no (k : Int) (h : ¬ (1 ≤ k ∧ k ≤ 9)) : fldK k = [] := by unfold fldK; rw [if_neg (by omega), if_neg (by omega), if_neg (by omega), if_neg (by omega), if_neg (by omega)]
theorem restK_no {fs : List Bool} {ns : List Int} {i : Nat} (h : i < 5) (h1 : fs.getD i false = false) (h2 : (ns.getD i 0 == 0) = false) : restK fs ns = false := by
  unfold restK
  rw [List.all_eq_false]
  exact ⟨i, List.mem_range.2 h, by rw [h1, h2]; decide⟩
theorem restK_yes {fs : List Bool} {ns : List Int} (h : ∀ i, i < 5 → (fs.getD i false || (ns.getD i 0 == 0)) = true) : restK fs ns = true := by
  unfold restK
  rw [List.all_eq_true]
  exact fun i hi => h i (List.mem_range.1 hi)
set_option maxRecDepth 100000 in
set_option maxHeartbeats 3200000 in
theorem specOK_any (e : Ev) (w : World) (hg : e.cmd.g.size ≤ maxLen) : Calls Tryz.prog 25 #[evV e] w fun r w' => r = .returned (.bool (okE e)) ∧ Below w.heap.size w w' := by
  unfold maxLen at hg
  have hb0 : Below w.heap.size w (w.alloc (Obj.cells e.vs.toArray 46)) := (Below.refl _ _).alloc (Nat.le_refl _) _
  have HX1 := hide (bx_made w e.vs 46)
  have HZ1 : Hid ((w.alloc (Obj.cells e.vs.toArray 46)).heap.size = w.heap.size + 1) := by show _ = _; simp
  have HB1 := hide hb0
  have HNM := hide (fun W => numbers_any e W)
  have HPL := hide (fun W => plain_any e.cmd W)
  have HQ := hide (show okE e = if fldK e.kind = [] then false else if restK (fldK e.kind) (numsE e) = false then false else
    if e.kind = 1 then (e.cmd.k == 1) && ((e.cmd.i == 0) && decide (e.cmd.g.size ≤ 13)) else if e.kind = 2 then decide (e.cmd.g.size ≤ 13) else plainC e.cmd from rfl)
  generalize okE e = ok at *
  generalize hnl : numsE e = ns at *
  have hns : ns.length = 5 := by rw [← hnl]; rfl
  clear hb0 hnl
  generalize plainC e.cmd = pc at *
  obtain ⟨kind, ⟨ck, cs, ct, cl, cq, ci, cp, cg⟩, id, other, qty, price, reason⟩ := e
  unfold evV at HNM ⊢
  unfold cmV at HPL
  unfold Ev.vs at HX1 HZ1 HB1
  simp only at HNM HPL HX1 HZ1 HB1 HQ hg ⊢
  go_enter Tryz.func25, Tryz.ntmps25
  refine wp_seq_k fun K hK => ?_
  have HK1 := hide hK
  clear hK
  go_wp2_with fail
  refine unhide HK1 _ _ ?_
  clear HK1
  generalize (w.alloc (Obj.cells #[.int .i64 kind, .int .i64 ck, .int .i64 cs, .int .i64 ct, .int .i64 cl, .int .i64 cq, .int .i64 ci, .float .f64 cp, .string cg, .int .i64 id, .int .i64 other, .int .i64 qty, .int .i64 price, .int .i64 reason] 46)) = W1 at HX1 HZ1 HB1 ⊢
  have x0 := bx_cell (unhide HX1) 0 rfl
  go_wp2_with fail
  refine (fields_any kind W1).mono ?_
  rintro r W2 ⟨g1, rfl, hg1, hF, hb2⟩
  by_cases hk : fldK kind = []
  · have HQ0 : Hid (ok = false) := by rw [unhide HQ, if_pos hk]; exact rfl
    rw [hk]
    have HB2 := hide ((unhide HB1).trans (hb2.mono (unhide HB1).size))
    clear hF hb2
    go_wp2_with fail
    go_ret
    exact ⟨by rw [unhide HQ0]; rfl, unhide HB2⟩
  have hl5 : (fldK kind).length = 5 := (fldK_len kind).resolve_left hk
  rw [if_neg hk] at HQ
  have hk19 : 1 ≤ kind ∧ kind ≤ 9 := by
    rcases Classical.em (1 ≤ kind ∧ kind ≤ 9) with h | h
    · exact h
    · exact absurd (fldK_no kind h) hk
  rw [hl5]
  have hX2 := bx_below (unhide HX1) hb2 (by rw [unhide HZ1]; omega)
  have hz2 : w.heap.size < W2.heap.size := by have := hb2.size; rw [unhide HZ1] at this; omega
  have z0 := bx_cell (hX2) 0 rfl
  have z1 := bx_cell (hX2) 1 rfl
  have z2 := bx_cell (hX2) 2 rfl
  have z3 := bx_cell (hX2) 3 rfl
  have z4 := bx_cell (hX2) 4 rfl
  have z5 := bx_cell (hX2) 5 rfl
  have z6 := bx_cell (hX2) 6 rfl
  have z7 := bx_cell (hX2) 7 rfl
  have z8 := bx_cell (hX2) 8 rfl
  have z9 := bx_cell (hX2) 9 rfl
  have z10 := bx_cell (hX2) 10 rfl
  have z11 := bx_cell (hX2) 11 rfl
  have z12 := bx_cell (hX2) 12 rfl
  have z13 := bx_cell (hX2) 13 rfl
  have HX2 := hide hX2
  have HF2 := hide hF
  have HB2 := hide ((unhide HB1).trans (hb2.mono (unhide HB1).size))
  clear hX2 hF hb2 x0 HX1 HZ1 HB1
  generalize hfs : fldK kind = fs at *
  clear hfs
  go_wp2_with fail
  refine (unhide HNM W2).mono ?_
  rintro r W3 ⟨g2, rfl, hg2, hN, hb3⟩
  have hFg : g1 < W2.heap.size := by
    obtain ⟨y, hy⟩ := Option.isSome_iff_exists.1 ((unhide HF2).t 0 (by simp; omega)).1
    exact World.block_lt_of_cell? W2 _ hy
  have HF3 := hide (bx_below (unhide HF2) hb3 hFg)
  have hX3 := bx_below (unhide HX2) hb3 hz2
  have HB3 := hide ((unhide HB2).trans (hb3.mono (unhide HB2).size))
  have HN3 := hide hN
  have HX3 := hide hX3
  clear hN hb3 z0 z1 z2 z3 z4 z5 z6 z7 z8 z9 z10 z11 z12 z13 HX2 HF2 HB2 hX3
  go_wp2_with fail
  go_loop [5] (fun iv => ∃ i : Nat, i ≤ 5 ∧ iv = .int .i64 i ∧ ∀ j, j < i → (fs.getD j false || (ns.getD j 0 == 0)) = true) (fun iv => 5 - (intOf iv).toNat)
  case atStart => exact ⟨0, by omega, rfl, fun j hj => by omega⟩
  case round =>
    obtain ⟨i, hi, rfl, hall⟩ := hrel
    have HA := hide hall
    clear hall
    by_cases hlt : i < 5
    · have hf : W3.cell? ⟨g1, i, none⟩ = some (.bool (fs.getD i false)) := bx_cell (unhide HF3) i (by rw [List.getElem?_map, List.getElem?_eq_getElem (by omega)]; simp [List.getD, show i < fs.length by omega])
      have hn : W3.cell? ⟨g2, i, none⟩ = some (.int .i64 (ns.getD i 0)) := bx_cell (unhide HN3) i (by rw [List.getElem?_map, List.getElem?_eq_getElem (by omega)]; simp [List.getD, show i < ns.length by omega])
      have hlt' : (i : Int) < 5 := by omega
      have HS : Hid ((fs.getD i false || (ns.getD i 0 == 0)) = true → ∀ j, j < i + 1 → (fs.getD j false || (ns.getD j 0 == 0)) = true) := fun h j hj => by
        rcases Nat.lt_or_ge j i with h1 | h1
        · exact unhide HA j h1
        · obtain rfl : j = i := by omega
          exact h
      have HNo := hide (fun h1 h2 => restK_no (fs := fs) (ns := ns) (i := i) hlt h1 h2)
      generalize fs.getD i false = fb at *
      generalize ns.getD i 0 = nn at *
      cases fb with
      | true =>
        go_wp2_with fail
        go_round
        case rel => exact ⟨i + 1, by omega, by go_num, unhide HS rfl⟩
        case measure => simp [intOf]; omega
      | false =>
        cases hnn : nn == 0 with
        | true =>
          have hn2 : (nn != 0) = false := by rw [bne, hnn]; rfl
          have HSS := hide (unhide HS (by rw [hnn]; rfl))
          clear hnn HNo
          go_wp2_with fail
          go_round
          case rel => exact ⟨i + 1, by omega, by go_num, unhide HSS⟩
          case measure => simp [intOf]; omega
        | false =>
          have hn2 : (nn != 0) = true := by rw [bne, hnn]; rfl
          have HOK : Hid (ok = false) := by rw [unhide HQ, if_pos (unhide HNo rfl hnn)]; exact rfl
          clear hnn HNo HS
          go_wp2_with fail
          go_ret
          exact ⟨by rw [unhide HOK]; rfl, unhide HB3⟩
    · have hrest := restK_yes (fs := fs) (ns := ns) (fun j hj => unhide HA j (by omega))
      rw [hrest, if_neg (by decide)] at HQ
      have y0 := bx_cell (unhide HX3) 0 rfl
      have y1 := bx_cell (unhide HX3) 1 rfl
      have y2 := bx_cell (unhide HX3) 2 rfl
      have y3 := bx_cell (unhide HX3) 3 rfl
      have y4 := bx_cell (unhide HX3) 4 rfl
      have y5 := bx_cell (unhide HX3) 5 rfl
      have y6 := bx_cell (unhide HX3) 6 rfl
      have y7 := bx_cell (unhide HX3) 7 rfl
      have y8 := bx_cell (unhide HX3) 8 rfl
      have y9 := bx_cell (unhide HX3) 9 rfl
      have y10 := bx_cell (unhide HX3) 10 rfl
      have y11 := bx_cell (unhide HX3) 11 rfl
      have y12 := bx_cell (unhide HX3) 12 rfl
      have y13 := bx_cell (unhide HX3) 13 rfl
      clear hrest HA HF3 HN3
      have hdz : decide (cg.size ≤ 13) = decide ((cg.size : Int) ≤ 13) := by
        rw [decide_eq_decide]; omega
      by_cases hk1 : kind = 1
      · rw [if_pos hk1, hdz] at HQ
        have e1 : (kind == 1) = true := by rw [hk1]; rfl
        clear hk1 hk19
        cases h1 : ck == 1 with
        | false =>
          rw [h1, Bool.false_and] at HQ
          go_wp2_with fail
          go_ret
          exact ⟨by rw [unhide HQ]; rfl, unhide HB3⟩
        | true =>
          rw [h1, Bool.true_and] at HQ
          cases h2 : ci == 0 with
          | false =>
            rw [h2, Bool.false_and] at HQ
            go_wp2_with fail
            go_ret
            exact ⟨by rw [unhide HQ]; rfl, unhide HB3⟩
          | true =>
            rw [h2, Bool.true_and] at HQ
            go_wp2_with fail
            go_ret
            exact ⟨by rw [unhide HQ]; rfl, unhide HB3⟩
      · rw [if_neg hk1] at HQ
        have e1 : (kind == 1) = false := by simpa using hk1
        by_cases hk2 : kind = 2
        · rw [if_pos hk2, hdz] at HQ
          have e2 : (kind == 2) = true := by rw [hk2]; rfl
          clear hk1 hk2 hk19
          go_wp2_with fail
          go_ret
          exact ⟨by rw [unhide HQ]; rfl, unhide HB3⟩
        · rw [if_neg hk2] at HQ
          have e2 : (kind == 2) = false := by simpa using hk2
          clear hk1 hk2 hk19
          go_wp2_with fail
          refine (unhide HPL W3).mono ?_
          rintro r W4 ⟨rfl, hb4⟩
          have HB4 := hide ((unhide HB3).trans (hb4.mono (unhide HB3).size))
          clear hb4
          go_wp2_with fail
          go_ret
          exact ⟨by rw [unhide HQ]; rfl, unhide HB4⟩
end Go.Proofs.YtmeekcdoajbjdaaGreatDoor
