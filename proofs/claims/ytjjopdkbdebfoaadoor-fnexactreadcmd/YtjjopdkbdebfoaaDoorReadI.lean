/-
  What the program's ReadCmd tells of a line: proved by walking it.
-/
import Derived.Test.YtjjopdkbdebfoaaDoorCmdF
import Derived.Test.YtjjopdkbdebfoaaDoorWrdI
import Derived.Test.YtjjopdkbdebfoaaDoorReadS
namespace Go.Proofs.YtjjopdkbdebfoaaDoor
open Go.RowKit
set_option linter.unusedVariables false

set_option maxRecDepth 100000 in
set_option maxHeartbeats 4000000 in
theorem implRead_any (s : ByteArray) (w : World) (hs : s.size ≤ 1048576) (ht : TabT w) :
    Calls Tryd.prog 6 #[.string s] w fun e w' => ∃ ws, bys ws = wds s.data.toList ∧ RcEnd s.data.toList ws w e w' := by
  have hsf := sfl
  by_cases hl : 65536 < s.size
  · have HE : Hid (∀ ws w', Below w.heap.size w w' → RcEnd s.data.toList ws w (.returned (.tuple #[cmA zC, .int .i64 2])) w') := fun ws w' hb => by
      unfold RcEnd rcV rcC
      rw [data_len, if_pos hl, if_pos hl]
      exact ⟨rfl, hb⟩
    have hl' : (65536 : Int) < s.size := by omega
    have HW : Hid (∃ ws : List ByteArray, bys ws = wds s.data.toList) := ⟨(wds s.data.toList).map (fun x => ⟨x.toArray⟩), by simp [bys, Function.comp_def]⟩
    clear ht
    go_enter Tryd.func6, Tryd.ntmps6
    go_wp2_with fail
    go_returns
    obtain ⟨ws, h⟩ := unhide HW
    exact ⟨ws, h, unhide HE ws _ (by go_grown)⟩
  have hl' : ¬ ((65536 : Int) < s.size) := by omega
  have HWD := hide (fun W => implWords_any s W hs)
  have HB0 : Hid (Below w.heap.size w (w.alloc (Obj.cells #[.int .i64 0, .int .i64 0, .int .i64 0, .int .i64 0, .int .i64 0, .int .i64 0, .float .f64 0, .string ⟨#[]⟩] 24))) := (Below.refl _ _).alloc (Nat.le_refl _) _
  have HT0 : Hid ((w.alloc (Obj.cells #[.int .i64 0, .int .i64 0, .int .i64 0, .int .i64 0, .int .i64 0, .int .i64 0, .float .f64 0, .string ⟨#[]⟩] 24)).there w.heap.size 0 8) := there_block (heap_alloc_new w _) (by simp)
  have hs0 : (w.alloc (Obj.cells #[.int .i64 0, .int .i64 0, .int .i64 0, .int .i64 0, .int .i64 0, .int .i64 0, .float .f64 0, .string ⟨#[]⟩] 24)).heap.size = w.heap.size + 1 := size_madeT _ _
  have HTT := hide ht
  clear ht
  go_enter Tryd.func6, Tryd.ntmps6
  go_wp2_with fail
  refine (unhide HWD _).mono ?_
  rintro e W1 ⟨v, ws, rfl, hrow, hws, hb1⟩
  have HWS := hide hws
  have HB1 : Hid (Below w.heap.size w W1) := (unhide HB0).trans (hb1.mono (unhide HB0).size)
  have HT1 : Hid (W1.there w.heap.size 0 8) := there_below (unhide HT0) hb1 (by omega)
  have HR := hide (cmdOf_any v ws _ W1 hrow (wds_small hws hs) (ttab_below (unhide HTT) (unhide HB1) (Nat.le_refl _)))
  have hs1 := hb1.size
  have HE : Hid (∀ w', Below w.heap.size w w' → RcEnd s.data.toList ws w (.returned (.tuple #[cmA (if cmK ws = true then cmC ws else zC), .int .i64 (if cmK ws = true then 0 else 4)])) w') := fun w' hb => by
    unfold RcEnd rcV rcC
    rw [data_len, if_neg hl, if_neg hl]
    exact ⟨rfl, hb⟩
  clear hb1 hws HB0 HT0 hrow
  go_wp2_with fail
  refine (unhide HR).mono ?_
  intro e W2 h2
  unfold CmEnI at h2
  obtain ⟨⟨ck, cs, ct, cl, cq, ci, cp, cg⟩, rfl, hcc, hb2⟩ := h2
  have HB2 : Hid (Below w.heap.size w W2) := (unhide HB1).trans (hb2.mono (unhide HB1).size)
  have HT2 : Hid (W2.there w.heap.size 0 8) := there_below (unhide HT1) hb2 (by omega)
  have HCC := hide hcc
  have hs2 := hb2.size
  clear hb2 hcc
  have HB3 : Hid (Below w.heap.size w (W2.alloc (Obj.cells #[.int .i64 ck, .int .i64 cs, .int .i64 ct, .int .i64 cl, .int .i64 cq, .int .i64 ci, .float .f64 cp, .string cg] 24))) := (unhide HB2).alloc (unhide HB2).size _
  have HT3 : Hid ((W2.alloc (Obj.cells #[.int .i64 ck, .int .i64 cs, .int .i64 ct, .int .i64 cl, .int .i64 cq, .int .i64 ci, .float .f64 cp, .string cg] 24)).there w.heap.size 0 8) := there_below (unhide HT2) ((Below.refl _ W2).alloc (Nat.le_refl _) _) (by omega)
  unfold cmA
  obtain ⟨⟨p0, q0, r0⟩, ⟨p1, q1, r1⟩, ⟨p2, q2, r2⟩, ⟨p3, q3, r3⟩, ⟨p4, q4, r4⟩, ⟨p5, q5, r5⟩, ⟨p6, q6, r6⟩, p7, q7, r7⟩ := there8 (unhide HT3)
  cases hK : cmK ws with
  | true =>
    have hce := unhide HCC hK
    rw [hK, if_pos rfl, if_pos rfl, ← hce] at HE
    go_wp2_with fail
    generalize (W2.alloc (Obj.cells #[.int .i64 ck, .int .i64 cs, .int .i64 ct, .int .i64 cl, .int .i64 cq, .int .i64 ci, .float .f64 cp, .string cg] 24)) = W3 at HB3 HT3 ⊢
    rw [set8]
    have HSC : Hid ((W3.setCells w.heap.size 0 (Cm.vs ⟨ck, cs, ct, cl, cq, ci, cp, cg⟩)).rangeAt w.heap.size 0 (Cm.vs ⟨ck, cs, ct, cl, cq, ci, cp, cg⟩)) := World.rangeAt_setCells_same _ _ _ _ (unhide HT3)
    have HBC : Hid (Below w.heap.size w (W3.setCells w.heap.size 0 (Cm.vs ⟨ck, cs, ct, cl, cq, ci, cp, cg⟩))) := below_setCells w.heap.size (Nat.le_refl _) _ 0 _ (unhide HB3)
    unfold Cm.vs at HSC HBC
    generalize (W3.setCells w.heap.size 0 [.int .i64 ck, .int .i64 cs, .int .i64 ct, .int .i64 cl, .int .i64 cq, .int .i64 ci, .float .f64 cp, .string cg]) = WF at HSC HBC ⊢
    have d0 := unhide HSC 0 _ rfl
    have d1 := unhide HSC 1 _ rfl
    have d2 := unhide HSC 2 _ rfl
    have d3 := unhide HSC 3 _ rfl
    have d4 := unhide HSC 4 _ rfl
    have d5 := unhide HSC 5 _ rfl
    have d6 := unhide HSC 6 _ rfl
    have d7 := unhide HSC 7 _ rfl
    simp only [Nat.zero_add] at d0 d1 d2 d3 d4 d5 d6 d7
    refine bodyPost_ret (by simp [results, Tryd.results6, go_sem, d0, d1, d2, d3, d4, d5, d6, d7]; try rfl) rfl ?_
    exact ⟨ws, unhide HWS, unhide HE _ (unhide HBC)⟩
  | false =>
    rw [hK] at HE
    go_wp2_with fail
    generalize (W2.alloc (Obj.cells #[.int .i64 ck, .int .i64 cs, .int .i64 ct, .int .i64 cl, .int .i64 cq, .int .i64 ci, .float .f64 cp, .string cg] 24)) = W3 at HB3 HT3 ⊢
    rw [set8]
    have HSC : Hid ((W3.setCells w.heap.size 0 (Cm.vs ⟨0, 0, 0, 0, 0, 0, 0, ⟨#[]⟩⟩)).rangeAt w.heap.size 0 (Cm.vs ⟨0, 0, 0, 0, 0, 0, 0, ⟨#[]⟩⟩)) := World.rangeAt_setCells_same _ _ _ _ (unhide HT3)
    have HBC : Hid (Below w.heap.size w (W3.setCells w.heap.size 0 (Cm.vs ⟨0, 0, 0, 0, 0, 0, 0, ⟨#[]⟩⟩))) := below_setCells w.heap.size (Nat.le_refl _) _ 0 _ (unhide HB3)
    unfold Cm.vs at HSC HBC
    generalize (W3.setCells w.heap.size 0 [.int .i64 0, .int .i64 0, .int .i64 0, .int .i64 0, .int .i64 0, .int .i64 0, .float .f64 0, .string ⟨#[]⟩]) = WF at HSC HBC ⊢
    have d0 := unhide HSC 0 _ rfl
    have d1 := unhide HSC 1 _ rfl
    have d2 := unhide HSC 2 _ rfl
    have d3 := unhide HSC 3 _ rfl
    have d4 := unhide HSC 4 _ rfl
    have d5 := unhide HSC 5 _ rfl
    have d6 := unhide HSC 6 _ rfl
    have d7 := unhide HSC 7 _ rfl
    simp only [Nat.zero_add] at d0 d1 d2 d3 d4 d5 d6 d7
    refine bodyPost_ret (by simp [results, Tryd.results6, go_sem, d0, d1, d2, d3, d4, d5, d6, d7]; try rfl) rfl ?_
    exact ⟨ws, unhide HWS, unhide HE _ (unhide HBC)⟩
end Go.Proofs.YtjjopdkbdebfoaaDoor
