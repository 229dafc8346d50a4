/-
  The law of ReadCmd, walked: it returns true, and nothing that was there is turned.
-/
import Derived.Test.YtjjopdkbdebfoaaDoorReadI
import Derived.Test.YtjjopdkbdebfoaaDoorCmdQ
namespace Go.Proofs.YtjjopdkbdebfoaaDoor
open Go.RowKit
set_option linter.unusedVariables false

set_option maxRecDepth 100000 in
set_option maxHeartbeats 1600000 in
theorem lawRead (s : ByteArray) (w : World) (hm : s.size ≤ maxLen) (ht : TabT w) :
    Calls Tryd.prog 3 #[.string s] w fun e w' => e = .returned (.bool true) ∧ Below w.heap.size w w' := by
  by_cases hl : 1048576 < s.size
  · have hl' : (1048576 : Int) < s.size := by omega
    clear ht
    go_enter Tryd.func3, Tryd.ntmps3
    go_wp2_with fail
    go_ret
    exact ⟨rfl, Below.refl _ _⟩
  have hl' : ¬ ((1048576 : Int) < s.size) := by omega
  have HS := hide (specRead_any s w (by omega))
  have hsf := sfl
  have HI := hide (fun W h => implRead_any s W (by omega) h)
  have HT := hide ht
  clear ht
  go_enter Tryd.func3, Tryd.ntmps3
  go_wp2_with fail
  refine (unhide HS).mono ?_
  rintro e W1 ⟨ws, hws, h⟩
  unfold RcEnd at h
  obtain ⟨rfl, hb1⟩ := h
  have HB1 := hide hb1
  have HWS := hide hws
  clear hb1 hws
  unfold cmA
  generalize hcv : rcV s.data.toList ws = c at *
  obtain ⟨ck, cs, ct, cl, cq, ci, cp, cg⟩ := c
  have HCV := hide hcv
  generalize hco : rcC s.data.toList ws = co at *
  have HCO := hide hco
  clear hcv hco
  simp only
  have HB2 : Hid (Below w.heap.size w (W1.alloc (Obj.cells #[.int .i64 ck, .int .i64 cs, .int .i64 ct, .int .i64 cl, .int .i64 cq, .int .i64 ci, .float .f64 cp, .string cg] 24))) := (unhide HB1).alloc (unhide HB1).size _
  have HX2 : Hid ((W1.alloc (Obj.cells #[.int .i64 ck, .int .i64 cs, .int .i64 ct, .int .i64 cl, .int .i64 cq, .int .i64 ci, .float .f64 cp, .string cg] 24)).rangeAt W1.heap.size 0 (Cm.vs ⟨ck, cs, ct, cl, cq, ci, cp, cg⟩)) := cells_madeT W1 _ _
  have hsz2 : (W1.alloc (Obj.cells #[.int .i64 ck, .int .i64 cs, .int .i64 ct, .int .i64 cl, .int .i64 cq, .int .i64 ci, .float .f64 cp, .string cg] 24)).heap.size = W1.heap.size + 1 := size_madeT _ _
  go_wp2_with fail
  generalize (W1.alloc (Obj.cells #[.int .i64 ck, .int .i64 cs, .int .i64 ct, .int .i64 cl, .int .i64 cq, .int .i64 ci, .float .f64 cp, .string cg] 24)) = W2 at HB2 HX2 hsz2 ⊢
  refine (unhide HI W2 (ttab_below (unhide HT) (unhide HB2) (Nat.le_refl _))).mono ?_
  rintro e W3 ⟨ws2, hws2, h⟩
  unfold RcEnd at h
  obtain ⟨rfl, hb3⟩ := h
  obtain rfl : ws2 = ws := bys_eq (hws2.trans (unhide HWS).symm)
  rw [unhide HCV, unhide HCO]
  have HB3 : Hid (Below w.heap.size w W3) := (unhide HB2).trans (hb3.mono (unhide HB2).size)
  have HX3 : Hid (W3.rangeAt W1.heap.size 0 (Cm.vs ⟨ck, cs, ct, cl, cq, ci, cp, cg⟩)) := range_below (unhide HX2) hb3 (by omega)
  have hs3 := hb3.size
  clear hb3 hws2
  unfold cmA
  simp only
  have HB4 : Hid (Below w.heap.size w (W3.alloc (Obj.cells #[.int .i64 ck, .int .i64 cs, .int .i64 ct, .int .i64 cl, .int .i64 cq, .int .i64 ci, .float .f64 cp, .string cg] 24))) := (unhide HB3).alloc (unhide HB3).size _
  have HX4 : Hid ((W3.alloc (Obj.cells #[.int .i64 ck, .int .i64 cs, .int .i64 ct, .int .i64 cl, .int .i64 cq, .int .i64 ci, .float .f64 cp, .string cg] 24)).rangeAt W1.heap.size 0 (Cm.vs ⟨ck, cs, ct, cl, cq, ci, cp, cg⟩)) := range_below (unhide HX3) ((Below.refl _ W3).alloc (Nat.le_refl _) _) (by omega)
  have HY4 : Hid ((W3.alloc (Obj.cells #[.int .i64 ck, .int .i64 cs, .int .i64 ct, .int .i64 cl, .int .i64 cq, .int .i64 ci, .float .f64 cp, .string cg] 24)).rangeAt W3.heap.size 0 (Cm.vs ⟨ck, cs, ct, cl, cq, ci, cp, cg⟩)) := cells_madeT W3 _ _
  obtain ⟨g0, g1, g2, g3, g4, g5, g6, g7⟩ := cm_cells (unhide HX4)
  obtain ⟨k0, k1, k2, k3, k4, k5, k6, k7⟩ := cm_cells (unhide HY4)
  simp only [Nat.zero_add] at g1 g2 g3 g4 g5 g6 g7 k1 k2 k3 k4 k5 k6 k7
  have HQ := hide (eqCmd_same ⟨ck, cs, ct, cl, cq, ci, cp, cg⟩)
  go_wp2_with fail
  generalize (W3.alloc (Obj.cells #[.int .i64 ck, .int .i64 cs, .int .i64 ct, .int .i64 cl, .int .i64 cq, .int .i64 ci, .float .f64 cp, .string cg] 24)) = W4 at HB4 HX4 HY4 g0 g1 g2 g3 g4 g5 g6 g7 k0 k1 k2 k3 k4 k5 k6 k7 ⊢
  refine (unhide HQ W4).mono ?_
  rintro e W5 ⟨rfl, hb5⟩
  have HB5 : Hid (Below w.heap.size w W5) := (unhide HB4).trans (hb5.mono (unhide HB4).size)
  clear hb5 g0 g1 g2 g3 g4 g5 g6 g7 k0 k1 k2 k3 k4 k5 k6 k7
  go_wp2_with fail
  go_ret
  exact ⟨rfl, unhide HB5⟩
end Go.Proofs.YtjjopdkbdebfoaaDoor
