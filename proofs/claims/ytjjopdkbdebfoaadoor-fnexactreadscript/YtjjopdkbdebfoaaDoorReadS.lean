/-
  What the model's ReadCmd tells of a line: proved by walking it.
-/
import Derived.Test.YtjjopdkbdebfoaaDoorCmdSn
import Derived.Test.YtjjopdkbdebfoaaDoorCmdM1
import Derived.Test.YtjjopdkbdebfoaaDoorWrdS
namespace Go.Proofs.YtjjopdkbdebfoaaDoor
open Go.RowKit
set_option linter.unusedVariables false

theorem wds_small {ws : List ByteArray} {s : ByteArray} (h : bys ws = wds s.data.toList) (hs : s.size ≤ 1048576) : ∀ i, (wB ws i).size ≤ 1048576 := by
  intro i
  by_cases hi : i < ws.length
  · have h1 : (wB ws i).data.toList ∈ bys ws := by
      have h2 := List.mem_of_getElem? (wB_get hi)
      exact List.mem_map.2 ⟨_, h2, rfl⟩
    rw [h] at h1
    have h3 := goW_mem 32 _ _ _ h1
    rw [data_len, data_len] at h3
    simp at h3
    omega
  · have : wB ws i = ⟨#[]⟩ := by unfold wB; rw [List.getD_eq_getElem?_getD, List.getElem?_eq_none (by omega)]; rfl
    rw [this]; exact Nat.zero_le _
/-- What ReadCmd tells of a line: the command, and the code. -/
def rcC (l : List UInt8) (ws : List ByteArray) : Int := if 65536 < l.length then 2 else if cmK ws = true then 0 else 4
def rcV (l : List UInt8) (ws : List ByteArray) : Cm := if 65536 < l.length then zC else if cmK ws = true then cmC ws else zC
set_option maxRecDepth 100000 in
set_option maxHeartbeats 1600000 in
theorem l08Cmd_any (v : Value) (ws : List ByteArray) (B : Nat) (w : World) (hr : TRow w B v ws) (hne : ws ≠ []) (hsz : ∀ i, (wB ws i).size ≤ 1048576) :
    Calls Tryd.prog 14 #[v] w fun e w' => CmEnd ws w e w' := by
  obtain ⟨g, cap, rfl, hcap, hcm, hg, hcell⟩ := trow_words hr hne
  have hpos : 0 < ws.length := List.length_pos_iff.2 hne
  by_cases h4 : sdW (wL ws 0) = 0
  · by_cases h1 : wL ws 0 = kEnd ∧ ws.length = 1
    · exact l08Cmd_end ws g cap w hcap hcm hg hcell h1.1 h1.2 hsz
    by_cases h2 : wL ws 0 = kCan ∧ ws.length = 2
    · exact l08Cmd_can ws g cap w hcap hcm hg hcell h2.1 h2.2 hsz
    by_cases h3 : wL ws 0 = kRed ∧ ws.length = 3
    · exact l08Cmd_red ws g cap w hcap hcm hg hcell h3.1 h3.2 hsz
    exact l08Cmd_none ws g cap w hcap hcm hg hcell hpos h1 h2 h3 h4
  · exact l08Cmd_new ws g cap w hcap hcm hg hcell hpos h4 hsz

/-- What ReadCmd answers. -/
def RcEnd (l : List UInt8) (ws : List ByteArray) (w : World) (e : Ending) (w' : World) : Prop := e = .returned (.tuple #[cmA (rcV l ws), .int .i64 (rcC l ws)]) ∧ Below w.heap.size w w'
set_option maxRecDepth 100000 in
set_option maxHeartbeats 4000000 in
theorem specRead_any (s : ByteArray) (w : World) (hs : s.size ≤ 1048576) :
    Calls Tryd.prog 5 #[.string s] w fun e w' => ∃ ws, bys ws = wds s.data.toList ∧ RcEnd s.data.toList ws w e w' := by
  have hsf := sfl
  by_cases hl : 65536 < s.size
  · have HE : Hid (∀ ws w', Below w.heap.size w w' → RcEnd s.data.toList ws w (.returned (.tuple #[cmA zC, .int .i64 2])) w') := fun ws w' hb => by
      unfold RcEnd rcV rcC
      rw [data_len, if_pos hl, if_pos hl]
      exact ⟨rfl, hb⟩
    have hl' : (65536 : Int) < s.size := by omega
    have HW : Hid (∃ ws : List ByteArray, bys ws = wds s.data.toList) := ⟨(wds s.data.toList).map (fun x => ⟨x.toArray⟩), by simp [bys, Function.comp_def]⟩
    go_enter Tryd.func5, Tryd.ntmps5
    go_wp2_with fail
    go_returns
    obtain ⟨ws, h⟩ := unhide HW
    exact ⟨ws, h, unhide HE ws _ (by go_grown)⟩
  have hl' : ¬ ((65536 : Int) < s.size) := by omega
  have HWD := hide (fun W => specWords_any s W hs)
  have HB0 : Hid (Below w.heap.size w (w.alloc (Obj.cells #[.int .i64 0, .int .i64 0, .int .i64 0, .int .i64 0, .int .i64 0, .int .i64 0, .float .f64 0, .string ⟨#[]⟩] 24))) := (Below.refl _ _).alloc (Nat.le_refl _) _
  have HT0 : Hid ((w.alloc (Obj.cells #[.int .i64 0, .int .i64 0, .int .i64 0, .int .i64 0, .int .i64 0, .int .i64 0, .float .f64 0, .string ⟨#[]⟩] 24)).there w.heap.size 0 8) := there_block (heap_alloc_new w _) (by simp)
  have hs0 : (w.alloc (Obj.cells #[.int .i64 0, .int .i64 0, .int .i64 0, .int .i64 0, .int .i64 0, .int .i64 0, .float .f64 0, .string ⟨#[]⟩] 24)).heap.size = w.heap.size + 1 := size_madeT _ _
  go_enter Tryd.func5, Tryd.ntmps5
  go_wp2_with fail
  refine (unhide HWD _).mono ?_
  rintro e W1 ⟨v, ws, rfl, hrow, hws, hb1⟩
  have HR := hide hrow
  have HWS := hide hws
  have HB1 : Hid (Below w.heap.size w W1) := (unhide HB0).trans (hb1.mono (unhide HB0).size)
  have HT1 : Hid (W1.there w.heap.size 0 8) := there_below (unhide HT0) hb1 (by omega)
  have HSM := hide (wds_small hws hs)
  have hs1 := hb1.size
  have HE : Hid (∀ w', Below w.heap.size w w' → RcEnd s.data.toList ws w (.returned (.tuple #[cmA (if cmK ws = true then cmC ws else zC), .int .i64 (if cmK ws = true then 0 else 4)])) w') := fun w' hb => by
    unfold RcEnd rcV rcC
    rw [data_len, if_neg hl, if_neg hl]
    exact ⟨rfl, hb⟩
  clear hb1 hws HB0 HT0
  by_cases hne : ws = []
  · subst hne
    obtain ⟨a, cap, rfl⟩ : ∃ a cap, v = .slice a 0 cap := by
      rcases hrow.2 with ⟨h, _⟩ | ⟨g, cap, cur, h, _⟩
      · exact ⟨_, _, h⟩
      · exact ⟨_, _, h⟩
    clear hrow
    obtain ⟨⟨p0, q0, r0⟩, ⟨p1, q1, r1⟩, ⟨p2, q2, r2⟩, ⟨p3, q3, r3⟩, ⟨p4, q4, r4⟩, ⟨p5, q5, r5⟩, ⟨p6, q6, r6⟩, p7, q7, r7⟩ := there8 (unhide HT1)
    go_wp2_with fail
    rw [set8]
    have HSC : Hid ((W1.setCells w.heap.size 0 (Cm.vs ⟨0, 0, 0, 0, 0, 0, 0, ⟨#[]⟩⟩)).rangeAt w.heap.size 0 (Cm.vs ⟨0, 0, 0, 0, 0, 0, 0, ⟨#[]⟩⟩)) := World.rangeAt_setCells_same _ _ _ _ (unhide HT1)
    have HBC : Hid (Below w.heap.size w (W1.setCells w.heap.size 0 (Cm.vs ⟨0, 0, 0, 0, 0, 0, 0, ⟨#[]⟩⟩))) := below_setCells w.heap.size (Nat.le_refl _) _ 0 _ (unhide HB1)
    unfold Cm.vs at HSC HBC
    generalize (W1.setCells w.heap.size 0 [.int .i64 0, .int .i64 0, .int .i64 0, .int .i64 0, .int .i64 0, .int .i64 0, .float .f64 0, .string ⟨#[]⟩]) = WF at HSC HBC ⊢
    have d0 := unhide HSC 0 _ rfl
    have d1 := unhide HSC 1 _ rfl
    have d2 := unhide HSC 2 _ rfl
    have d3 := unhide HSC 3 _ rfl
    have d4 := unhide HSC 4 _ rfl
    have d5 := unhide HSC 5 _ rfl
    have d6 := unhide HSC 6 _ rfl
    have d7 := unhide HSC 7 _ rfl
    simp only [Nat.zero_add] at d0 d1 d2 d3 d4 d5 d6 d7
    refine bodyPost_ret (by simp [results, Tryd.results5, go_sem, d0, d1, d2, d3, d4, d5, d6, d7]; try rfl) rfl ?_
    exact ⟨[], unhide HWS, unhide HE _ (unhide HBC)⟩
  have hpos : 0 < ws.length := List.length_pos_iff.2 hne
  have hne0 : ((ws.length : Int) == 0) = false := beq_eq_false_iff_ne.2 (by omega)
  have HCM := hide (fun W h => l08Cmd_any v ws W1.heap.size W h hne (unhide HSM))
  obtain ⟨g, cap, rfl, hcap, hcm, hg, -⟩ := trow_words hrow hne
  clear hrow hcap hcm hg
  go_wp2_with fail
  refine (l08Cmd_any _ ws _ W1 (unhide HR) hne (unhide HSM)).mono ?_
  intro e W2 h2
  unfold CmEnd at h2
  obtain ⟨⟨ck, cs, ct, cl, cq, ci, cp, cg⟩, rfl, hcc, hb2⟩ := h2
  have HB2 : Hid (Below w.heap.size w W2) := (unhide HB1).trans (hb2.mono (unhide HB1).size)
  have HT2 : Hid (W2.there w.heap.size 0 8) := there_below (unhide HT1) hb2 (by omega)
  have HCC := hide hcc
  have hs2 := hb2.size
  clear hb2 hcc
  have HB3 : Hid (Below w.heap.size w (W2.alloc (Obj.cells #[.int .i64 ck, .int .i64 cs, .int .i64 ct, .int .i64 cl, .int .i64 cq, .int .i64 ci, .float .f64 cp, .string cg] 24))) := (unhide HB2).alloc (unhide HB2).size _
  have HT3 : Hid ((W2.alloc (Obj.cells #[.int .i64 ck, .int .i64 cs, .int .i64 ct, .int .i64 cl, .int .i64 cq, .int .i64 ci, .float .f64 cp, .string cg] 24)).there w.heap.size 0 8) := there_below (unhide HT2) ((Below.refl _ W2).alloc (Nat.le_refl _) _) (by omega)
  have HX3 : Hid ((W2.alloc (Obj.cells #[.int .i64 ck, .int .i64 cs, .int .i64 ct, .int .i64 cl, .int .i64 cq, .int .i64 ci, .float .f64 cp, .string cg] 24)).rangeAt W2.heap.size 0 [.int .i64 ck, .int .i64 cs, .int .i64 ct, .int .i64 cl, .int .i64 cq, .int .i64 ci, .float .f64 cp, .string cg]) := cells_madeT W2 _ _
  unfold cmA
  obtain ⟨⟨p0, q0, r0⟩, ⟨p1, q1, r1⟩, ⟨p2, q2, r2⟩, ⟨p3, q3, r3⟩, ⟨p4, q4, r4⟩, ⟨p5, q5, r5⟩, ⟨p6, q6, r6⟩, p7, q7, r7⟩ := there8 (unhide HT3)
  cases hK : cmK ws with
  | true =>
    have hce := unhide HCC hK
    rw [hK, if_pos rfl, if_pos rfl, ← hce] at HE
    go_wp2_with fail
    generalize (W2.alloc (Obj.cells #[.int .i64 ck, .int .i64 cs, .int .i64 ct, .int .i64 cl, .int .i64 cq, .int .i64 ci, .float .f64 cp, .string cg] 24)) = W3 at HB3 HT3 ⊢
    rw [set8]
    have HSC : Hid ((W3.setCells w.heap.size 0 (Cm.vs ⟨ck, cs, ct, cl, cq, ci, cp, cg⟩)).rangeAt w.heap.size 0 (Cm.vs ⟨ck, cs, ct, cl, cq, ci, cp, cg⟩)) := World.rangeAt_setCells_same _ _ _ _ (unhide HT3)
    have HBC : Hid (Below w.heap.size w (W3.setCells w.heap.size 0 (Cm.vs ⟨ck, cs, ct, cl, cq, ci, cp, cg⟩))) := below_setCells w.heap.size (Nat.le_refl _) _ 0 _ (unhide HB3)
    unfold Cm.vs at HSC HBC
    generalize (W3.setCells w.heap.size 0 [.int .i64 ck, .int .i64 cs, .int .i64 ct, .int .i64 cl, .int .i64 cq, .int .i64 ci, .float .f64 cp, .string cg]) = WF at HSC HBC ⊢
    have d0 := unhide HSC 0 _ rfl
    have d1 := unhide HSC 1 _ rfl
    have d2 := unhide HSC 2 _ rfl
    have d3 := unhide HSC 3 _ rfl
    have d4 := unhide HSC 4 _ rfl
    have d5 := unhide HSC 5 _ rfl
    have d6 := unhide HSC 6 _ rfl
    have d7 := unhide HSC 7 _ rfl
    simp only [Nat.zero_add] at d0 d1 d2 d3 d4 d5 d6 d7
    refine bodyPost_ret (by simp [results, Tryd.results5, go_sem, d0, d1, d2, d3, d4, d5, d6, d7]; try rfl) rfl ?_
    exact ⟨ws, unhide HWS, unhide HE _ (unhide HBC)⟩
  | false =>
    rw [hK] at HE
    go_wp2_with fail
    generalize (W2.alloc (Obj.cells #[.int .i64 ck, .int .i64 cs, .int .i64 ct, .int .i64 cl, .int .i64 cq, .int .i64 ci, .float .f64 cp, .string cg] 24)) = W3 at HB3 HT3 ⊢
    rw [set8]
    have HSC : Hid ((W3.setCells w.heap.size 0 (Cm.vs ⟨0, 0, 0, 0, 0, 0, 0, ⟨#[]⟩⟩)).rangeAt w.heap.size 0 (Cm.vs ⟨0, 0, 0, 0, 0, 0, 0, ⟨#[]⟩⟩)) := World.rangeAt_setCells_same _ _ _ _ (unhide HT3)
    have HBC : Hid (Below w.heap.size w (W3.setCells w.heap.size 0 (Cm.vs ⟨0, 0, 0, 0, 0, 0, 0, ⟨#[]⟩⟩))) := below_setCells w.heap.size (Nat.le_refl _) _ 0 _ (unhide HB3)
    unfold Cm.vs at HSC HBC
    generalize (W3.setCells w.heap.size 0 [.int .i64 0, .int .i64 0, .int .i64 0, .int .i64 0, .int .i64 0, .int .i64 0, .float .f64 0, .string ⟨#[]⟩]) = WF at HSC HBC ⊢
    have d0 := unhide HSC 0 _ rfl
    have d1 := unhide HSC 1 _ rfl
    have d2 := unhide HSC 2 _ rfl
    have d3 := unhide HSC 3 _ rfl
    have d4 := unhide HSC 4 _ rfl
    have d5 := unhide HSC 5 _ rfl
    have d6 := unhide HSC 6 _ rfl
    have d7 := unhide HSC 7 _ rfl
    simp only [Nat.zero_add] at d0 d1 d2 d3 d4 d5 d6 d7
    refine bodyPost_ret (by simp [results, Tryd.results5, go_sem, d0, d1, d2, d3, d4, d5, d6, d7]; try rfl) rfl ?_
    exact ⟨ws, unhide HWS, unhide HE _ (unhide HBC)⟩
end Go.Proofs.YtjjopdkbdebfoaaDoor
