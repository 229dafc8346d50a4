/-
  The exact law of DecodeEvent, walked: it returns true, and nothing that was there is turned.
-/
import Derived.Test.YtfhjbhnfapdmmaaDoorNj43
import Derived.Test.YtfhjbhnfapdmmaaDoorNj45
import Derived.Test.YtfhjbhnfapdmmaaDoorNj47
import Derived.Test.YtfhjbhnfapdmmaaDoorNj48
namespace Go.Proofs.YtfhjbhnfapdmmaaDoor
open Go.RowKit
set_option linter.unusedVariables false

set_option maxRecDepth 100000 in
set_option maxHeartbeats 6400000 in
theorem exactDec (v : Value) (l : List Int) (at_ : Int) (w : World) (hr : Rd w v l) (hb : Bts l) (hl : l.length ≤ 1048576) (hE : ErrT w) :
    Calls Tryd.prog 4 #[v, .int .i64 at_] w fun e w' => e = .returned (.bool true) ∧ Below w.heap.size w w' := by
  have hsf := sfl
  have HR := hide hr
  have HE := hide hE
  have HB := hide hb
  obtain ⟨a, cap, rfl⟩ := rd_len hr
  clear hr hE hb
  have hl' : (l.length : Int) ≤ 1048576 := by omega
  have HS := hide (fun v w h h2 => specDec_any v l at_ w h h2 (unhide HB))
  have HI := hide (fun v w h h2 h3 => implDecode_any v l at_ w h h2 (unhide HB) h3)
  have HQ := hide (fun W => eqEvent_same (evR l at_).1 W)
  generalize evR l at_ = r at *
  obtain ⟨⟨kind, ⟨ck, cs, ct, cl, cq, ci, cp, cg⟩, id, other, qty, price, reason⟩, r2, r3⟩ := r
  unfold tupE evV at HS HI
  unfold evV at HQ
  simp only at HS HI HQ
  go_enter Tryd.func4, Tryd.ntmps4
  go_wp2_with fail
  refine (toBytesT_any _ l _ (unhide HR)).mono ?_
  rintro e w1 ⟨v1, rfl, ho1, hb1⟩
  have HSS := hide (unhide HS v1 w1 (own_rd ho1.own) (capOk_own ho1))
  have B1 := hide hb1
  have R1 := hide (rd_below (unhide HR) hb1 (Nat.le_refl _))
  clear ho1 hb1
  go_wp2_with fail
  refine (unhide HSS).mono ?_
  rintro e w2 ⟨rfl, hb2⟩
  have hb3 : Below w2.heap.size w2 (w2.alloc (Obj.cells #[.int .i64 kind, .int .i64 ck, .int .i64 cs, .int .i64 ct, .int .i64 cl, .int .i64 cq, .int .i64 ci, .float .f64 cp, .string cg, .int .i64 id, .int .i64 other, .int .i64 qty, .int .i64 price, .int .i64 reason] 31)) := (Below.refl _ _).alloc (Nat.le_refl _) _
  have X3 : Hid (Bx (w2.alloc (Obj.cells #[.int .i64 kind, .int .i64 ck, .int .i64 cs, .int .i64 ct, .int .i64 cl, .int .i64 cq, .int .i64 ci, .float .f64 cp, .string cg, .int .i64 id, .int .i64 other, .int .i64 qty, .int .i64 price, .int .i64 reason] 31)) w2.heap.size [.int .i64 kind, .int .i64 ck, .int .i64 cs, .int .i64 ct, .int .i64 cl, .int .i64 cq, .int .i64 ci, .float .f64 cp, .string cg, .int .i64 id, .int .i64 other, .int .i64 qty, .int .i64 price, .int .i64 reason]) := bx_made w2 [.int .i64 kind, .int .i64 ck, .int .i64 cs, .int .i64 ct, .int .i64 cl, .int .i64 cq, .int .i64 ci, .float .f64 cp, .string cg, .int .i64 id, .int .i64 other, .int .i64 qty, .int .i64 price, .int .i64 reason] 31
  have B3 := hide (((unhide B1).trans (hb2.mono (unhide B1).size)).trans (hb3.mono (Nat.le_trans (unhide B1).size hb2.size)))
  have R3 := hide (rd_below (rd_below (unhide R1) hb2 (Nat.le_refl _)) hb3 (Nat.le_refl _))
  have Z3 : Hid (w2.heap.size < (w2.alloc (Obj.cells #[.int .i64 kind, .int .i64 ck, .int .i64 cs, .int .i64 ct, .int .i64 cl, .int .i64 cq, .int .i64 ci, .float .f64 cp, .string cg, .int .i64 id, .int .i64 other, .int .i64 qty, .int .i64 price, .int .i64 reason] 31)).heap.size) := by show _ < _; simp
  clear hb2 hb3 HSS R1 B1
  go_wp2_with fail
  generalize (w2.alloc (Obj.cells #[.int .i64 kind, .int .i64 ck, .int .i64 cs, .int .i64 ct, .int .i64 cl, .int .i64 cq, .int .i64 ci, .float .f64 cp, .string cg, .int .i64 id, .int .i64 other, .int .i64 qty, .int .i64 price, .int .i64 reason] 31)) = W3 at X3 B3 R3 Z3 ⊢
  refine (toBytesT_any _ l _ (unhide R3)).mono ?_
  rintro e w4 ⟨v2, rfl, ho4, hb4⟩
  have HE4 := hide (errT_below (errT_below (unhide HE) (unhide B3) (Nat.le_refl _)) hb4 (Nat.le_refl _))
  have HII := hide (unhide HI v2 w4 (own_rd ho4.own) (capOk_own ho4) (unhide HE4))
  have X4 := hide (bx_below (unhide X3) hb4 (unhide Z3))
  have B4 := hide ((unhide B3).trans (hb4.mono (unhide B3).size))
  have R4 := hide (rd_below (unhide R3) hb4 (Nat.le_refl _))
  have O4 := hide ho4
  have Z4 := hide (Nat.lt_of_lt_of_le (unhide Z3) hb4.size)
  clear ho4 hb4 X3 B3 R3 Z3 HE4
  go_wp2_with fail
  refine (unhide HII).mono ?_
  rintro e w5 ⟨rfl, hb5⟩
  have hb6 : Below w5.heap.size w5 (w5.alloc (Obj.cells #[.int .i64 kind, .int .i64 ck, .int .i64 cs, .int .i64 ct, .int .i64 cl, .int .i64 cq, .int .i64 ci, .float .f64 cp, .string cg, .int .i64 id, .int .i64 other, .int .i64 qty, .int .i64 price, .int .i64 reason] 31)) := (Below.refl _ _).alloc (Nat.le_refl _) _
  have Y6 : Hid (Bx (w5.alloc (Obj.cells #[.int .i64 kind, .int .i64 ck, .int .i64 cs, .int .i64 ct, .int .i64 cl, .int .i64 cq, .int .i64 ci, .float .f64 cp, .string cg, .int .i64 id, .int .i64 other, .int .i64 qty, .int .i64 price, .int .i64 reason] 31)) w5.heap.size [.int .i64 kind, .int .i64 ck, .int .i64 cs, .int .i64 ct, .int .i64 cl, .int .i64 cq, .int .i64 ci, .float .f64 cp, .string cg, .int .i64 id, .int .i64 other, .int .i64 qty, .int .i64 price, .int .i64 reason]) := bx_made w5 [.int .i64 kind, .int .i64 ck, .int .i64 cs, .int .i64 ct, .int .i64 cl, .int .i64 cq, .int .i64 ci, .float .f64 cp, .string cg, .int .i64 id, .int .i64 other, .int .i64 qty, .int .i64 price, .int .i64 reason] 31
  have z5 := Nat.lt_of_lt_of_le (unhide Z4) hb5.size
  have X6 := hide (bx_below (bx_below (unhide X4) hb5 (unhide Z4)) hb6 z5)
  have B6 := hide (((unhide B4).trans (hb5.mono (unhide B4).size)).trans (hb6.mono (Nat.le_trans (unhide B4).size hb5.size)))
  have R6 := hide (rd_below (rd_below (unhide R4) hb5 (Nat.le_refl _)) hb6 (Nat.le_refl _))
  have O6 := hide (own_below (own_below (unhide O4).own hb5 (Nat.le_refl _)) hb6 (Nat.le_refl _))
  clear hb5 hb6 HII X4 B4 R4 O4 Z4
  have y0 := bx_cell (unhide Y6) 0 rfl
  have y1 := bx_cell (unhide Y6) 1 rfl
  have y2 := bx_cell (unhide Y6) 2 rfl
  have y3 := bx_cell (unhide Y6) 3 rfl
  have y4 := bx_cell (unhide Y6) 4 rfl
  have y5 := bx_cell (unhide Y6) 5 rfl
  have y6 := bx_cell (unhide Y6) 6 rfl
  have y7 := bx_cell (unhide Y6) 7 rfl
  have y8 := bx_cell (unhide Y6) 8 rfl
  have y9 := bx_cell (unhide Y6) 9 rfl
  have y10 := bx_cell (unhide Y6) 10 rfl
  have y11 := bx_cell (unhide Y6) 11 rfl
  have y12 := bx_cell (unhide Y6) 12 rfl
  have y13 := bx_cell (unhide Y6) 13 rfl
  have x0 := bx_cell (unhide X6) 0 rfl
  have x1 := bx_cell (unhide X6) 1 rfl
  have x2 := bx_cell (unhide X6) 2 rfl
  have x3 := bx_cell (unhide X6) 3 rfl
  have x4 := bx_cell (unhide X6) 4 rfl
  have x5 := bx_cell (unhide X6) 5 rfl
  have x6 := bx_cell (unhide X6) 6 rfl
  have x7 := bx_cell (unhide X6) 7 rfl
  have x8 := bx_cell (unhide X6) 8 rfl
  have x9 := bx_cell (unhide X6) 9 rfl
  have x10 := bx_cell (unhide X6) 10 rfl
  have x11 := bx_cell (unhide X6) 11 rfl
  have x12 := bx_cell (unhide X6) 12 rfl
  have x13 := bx_cell (unhide X6) 13 rfl
  go_wp2_with fail
  clear x0 y0 x1 y1 x2 y2 x3 y3 x4 y4 x5 y5 x6 y6 x7 y7 x8 y8 x9 y9 x10 y10 x11 y11 x12 y12 x13 y13
  generalize (w5.alloc (Obj.cells #[.int .i64 kind, .int .i64 ck, .int .i64 cs, .int .i64 ct, .int .i64 cl, .int .i64 cq, .int .i64 ci, .float .f64 cp, .string cg, .int .i64 id, .int .i64 other, .int .i64 qty, .int .i64 price, .int .i64 reason] 31)) = W6 at Y6 X6 B6 R6 O6 ⊢
  refine (unhide HQ _).mono ?_
  rintro e w7 ⟨rfl, hb7⟩
  have B7 := hide ((unhide B6).trans (hb7.mono (unhide B6).size))
  have R7 := hide (rd_below (unhide R6) hb7 (Nat.le_refl _))
  have O7 := hide (own_below (unhide O6) hb7 (Nat.le_refl _))
  clear hb7 Y6 X6 B6 R6 O6
  go_wp2_with fail
  refine (toBytesT_any _ l _ (unhide R7)).mono ?_
  rintro e w8 ⟨v3, rfl, ho8, hb8⟩
  have HEQ := hide (eqBytes_same v2 v3 l w8 (own_rd (own_below (unhide O7) hb8 (Nat.le_refl _))) (own_rd ho8.own))
  have B8 := hide ((unhide B7).trans (hb8.mono (unhide B7).size))
  clear ho8 hb8
  go_wp2_with fail
  refine (unhide HEQ).mono ?_
  rintro e w9 ⟨rfl, n9, rfl⟩
  go_wp2_with fail
  go_ret
  exact ⟨rfl, below_drewN' (unhide B8) n9⟩

theorem lawDec (a : Option Addr) (len cap : Nat) (zs : List Int) (at_ : Int) (w : World)
    (h : (a = none ∧ len = 0 ∧ cap = 0 ∧ zs = []) ∨ ∃ x, a = some x ∧ len ≤ cap ∧ cap ≤ maxLen ∧ zs.length = cap ∧ (∀ i, i < zs.length → w.cell? (x.add i) = some (.int .u8 (zs.getD i 0))) ∧ ∀ n ∈ zs, (Lit.int .u8 n).wf = true) (hE : ErrT w) :
    Calls Tryd.prog 4 #[.slice a len cap, .int .i64 at_] w fun e w' => e = .returned (.bool true) ∧ Below w.heap.size w w' := by
  by_cases hl : len ≤ 1048576
  · obtain ⟨h1, h2, h3⟩ := rd_of_row h (by omega)
    exact exactDec _ _ at_ w h2 h3 (by omega) hE
  · have hl' : (1048576 : Int) < len := by omega
    clear h hE
    go_enter Tryd.func4, Tryd.ntmps4
    go_wp2_with fail
    go_ret
    exact ⟨rfl, Below.refl _ _⟩
end Go.Proofs.YtfhjbhnfapdmmaaDoor
