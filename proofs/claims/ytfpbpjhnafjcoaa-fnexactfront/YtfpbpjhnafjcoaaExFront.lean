/-
  The exact law of Front, walked: it returns true, and nothing that was there is turned.
-/
import Derived.Test.YtfpbpjhnafjcoaaFrontI
import Derived.Test.YtfpbpjhnafjcoaaOrdX
import Derived.Test.YtfpbpjhnafjcoaaFrontX
namespace Go.Proofs.Ytfpbpjhnafjcoaa
open Go.RowKit
set_option linter.unusedVariables false

theorem frRes_eq (next : Int) (l : List Od) (sd : Int) : ∃ (x : Od) (c : Int), frRes next l sd = .tuple #[.agg #[.int .i64 x.id, .int .i64 x.side, .int .i64 x.ticks, .int .i64 x.left, .int .i64 x.life, .string x.tag], .int .i64 c] := by
  unfold frRes
  split
  · split
    · next o _ => exact ⟨o, 0, rfl⟩
    · exact ⟨zOd, 6, rfl⟩
  · exact ⟨zOd, 1, rfl⟩

set_option maxRecDepth 100000 in
set_option maxHeartbeats 1600000 in
theorem exactFront (n : Int) (v : Value) (l : List Od) (sd : Int) (w : World) (hr : RdR Od.vs 6 w v l) (hl : l.length ≤ 1048576) (hg : ∀ c ∈ l, c.tag.size ≤ maxLen) :
    Calls Try.prog 7 #[.agg #[.int .i64 n, v], .int .i64 sd] w fun e w' => e = .returned (.bool true) ∧ Below w.heap.size w w' := by
  have HR := hide hr
  have HG := hide hg
  obtain ⟨a, cap, rfl, _, hc⟩ := hr
  obtain ⟨x, k, hfr⟩ := frRes_eq n l sd
  have HFR := hide hfr
  clear hg hc hfr
  have H0 : Hid (Below w.heap.size w (w.alloc (Obj.cells #[.int .i64 n, .slice a l.length cap] 42))) := (Below.refl _ _).alloc (Nat.le_refl _) _
  have HX : Hid (World.rangeAt (w.alloc (Obj.cells #[.int .i64 n, .slice a l.length cap] 42)) w.heap.size 0 [.int .i64 n, .slice a l.length cap] ∧ w.heap.size < (w.alloc (Obj.cells #[.int .i64 n, .slice a l.length cap] 42)).heap.size) := ⟨cells_made w [.int .i64 n, .slice a l.length cap] _, by rw [size_made]; omega⟩
  go_enter Try.func7, Try.ntmps7
  go_wp2_with fail
  generalize (w.alloc (Obj.cells #[.int .i64 n, .slice a l.length cap] 42)) = W1 at H0 HX ⊢
  have hsw := (unhide HX).2
  have HR1 := hide (rdR_below (unhide HR) (unhide H0) (Nat.le_refl _))
  refine (szBook_any n _ l W1 (unhide HR1) hl (unhide HG)).mono ?_
  rintro e w2 ⟨y, rfl, hy0, hy1, hb⟩
  have B2 := hide hb
  have c0 : w2.cell? ⟨w.heap.size, 0, none⟩ = some (.int .i64 n) := range_below (unhide HX).1 hb hsw 0 _ rfl
  have c1 : w2.cell? ⟨w.heap.size, 1, none⟩ = some (.slice a l.length cap) := range_below (unhide HX).1 hb hsw 1 _ rfl
  clear hb
  by_cases hy : y < 0
  · go_wp2_with fail
    go_ret
    exact ⟨rfl, (unhide H0).trans ((unhide B2).mono (unhide H0).size)⟩
  go_wp2_with fail
  refine (toBook_any n _ l w2 (rdR_below (unhide HR1) (unhide B2) (Nat.le_refl _))).mono ?_
  rintro e w3 ⟨v3, rfl, ho3, hb⟩
  have O3 := hide ho3
  have B3 := hide ((unhide B2).trans (hb.mono (unhide B2).size))
  obtain ⟨a3, cap3, rfl, -, -⟩ := ho3
  clear hb c0 c1
  go_wp2_with fail
  refine (specFront_any n _ l sd w3 (ownR_rd (unhide O3)) (unhide HG)).mono ?_
  rw [unhide HFR]
  rintro e w4 ⟨rfl, hb⟩
  have B4 := hide ((unhide B3).trans (hb.mono (unhide B3).size))
  clear hb
  have H5 : Hid (Below w4.heap.size w4 (w4.alloc (Obj.cells #[.int .i64 x.id, .int .i64 x.side, .int .i64 x.ticks, .int .i64 x.left, .int .i64 x.life, .string x.tag] 52))) := (Below.refl _ _).alloc (Nat.le_refl _) _
  have X5 : Hid (World.rangeAt (w4.alloc (Obj.cells #[.int .i64 x.id, .int .i64 x.side, .int .i64 x.ticks, .int .i64 x.left, .int .i64 x.life, .string x.tag] 52)) w4.heap.size 0 x.vs ∧ w4.heap.size < (w4.alloc (Obj.cells #[.int .i64 x.id, .int .i64 x.side, .int .i64 x.ticks, .int .i64 x.left, .int .i64 x.life, .string x.tag] 52)).heap.size) := ⟨cells_made w4 x.vs _, by rw [size_made]; omega⟩
  have c0 : (w4.alloc (Obj.cells #[.int .i64 x.id, .int .i64 x.side, .int .i64 x.ticks, .int .i64 x.left, .int .i64 x.life, .string x.tag] 52)).cell? ⟨w.heap.size, 0, none⟩ = some (.int .i64 n) := range_below (range_below (unhide HX).1 (unhide B4) hsw) (unhide H5) (Nat.lt_of_lt_of_le hsw (unhide B4).size) 0 _ rfl
  have c1 : (w4.alloc (Obj.cells #[.int .i64 x.id, .int .i64 x.side, .int .i64 x.ticks, .int .i64 x.left, .int .i64 x.life, .string x.tag] 52)).cell? ⟨w.heap.size, 1, none⟩ = some (.slice a l.length cap) := range_below (range_below (unhide HX).1 (unhide B4) hsw) (unhide H5) (Nat.lt_of_lt_of_le hsw (unhide B4).size) 1 _ rfl
  go_wp2_with fail
  generalize (w4.alloc (Obj.cells #[.int .i64 x.id, .int .i64 x.side, .int .i64 x.ticks, .int .i64 x.left, .int .i64 x.life, .string x.tag] 52)) = W5 at H5 X5 c0 c1 ⊢
  have hs5 := (unhide X5).2
  have B5 := hide ((unhide B4).trans ((unhide H5).mono (unhide B4).size))
  refine (toBook_any n _ l W5 (rdR_below (unhide HR1) (unhide B5) (Nat.le_refl _))).mono ?_
  rintro e w6 ⟨v6, rfl, ho6, hb⟩
  have O6 := hide ho6
  have B6 := hide ((unhide B5).trans (hb.mono (unhide B5).size))
  have X6 := hide (range_below (unhide X5).1 hb hs5)
  have hs56 : w4.heap.size < w6.heap.size := Nat.lt_of_lt_of_le hs5 hb.size
  obtain ⟨a6, cap6, rfl, -, -⟩ := ho6
  clear hb c0 c1
  have H7 : Hid (Below w6.heap.size w6 (w6.alloc (Obj.cells #[.int .i64 n, .slice a6 l.length cap6] 47))) := (Below.refl _ _).alloc (Nat.le_refl _) _
  have X7 : Hid (World.rangeAt (w6.alloc (Obj.cells #[.int .i64 n, .slice a6 l.length cap6] 47)) w6.heap.size 0 [.int .i64 n, .slice a6 l.length cap6] ∧ w6.heap.size < (w6.alloc (Obj.cells #[.int .i64 n, .slice a6 l.length cap6] 47)).heap.size) := ⟨cells_made w6 [.int .i64 n, .slice a6 l.length cap6] _, by rw [size_made]; omega⟩
  go_wp2_with fail
  generalize (w6.alloc (Obj.cells #[.int .i64 n, .slice a6 l.length cap6] 47)) = W7 at H7 X7 ⊢
  have hs7 := (unhide X7).2
  have B7 := hide ((unhide B6).trans ((unhide H7).mono (unhide B6).size))
  have O7 := hide (ownR_below (unhide O6) (unhide H7) (Nat.le_refl _))
  have XX7 := hide (range_below (unhide X6) (unhide H7) hs56)
  refine (implFront_any n _ l sd W7 (ownR_rd (unhide O7)) (unhide HG)).mono ?_
  rw [unhide HFR]
  rintro e w8 ⟨rfl, hb⟩
  have B8 := hide ((unhide B7).trans (hb.mono (unhide B7).size))
  have O8 := hide (ownR_below (unhide O7) hb (Nat.le_refl _))
  have X8 := hide (range_below (unhide X7).1 hb hs7)
  have XX8 := hide (range_below (unhide XX7) hb (Nat.lt_trans hs56 hs7))
  have hs78 : w6.heap.size < w8.heap.size := Nat.lt_of_lt_of_le hs7 hb.size
  clear hb
  have H9 : Hid (Below w8.heap.size w8 (w8.alloc (Obj.cells #[.int .i64 x.id, .int .i64 x.side, .int .i64 x.ticks, .int .i64 x.left, .int .i64 x.life, .string x.tag] 52))) := (Below.refl _ _).alloc (Nat.le_refl _) _
  have Y9 : Hid (World.rangeAt (w8.alloc (Obj.cells #[.int .i64 x.id, .int .i64 x.side, .int .i64 x.ticks, .int .i64 x.left, .int .i64 x.life, .string x.tag] 52)) w4.heap.size 0 x.vs ∧ World.rangeAt (w8.alloc (Obj.cells #[.int .i64 x.id, .int .i64 x.side, .int .i64 x.ticks, .int .i64 x.left, .int .i64 x.life, .string x.tag] 52)) w8.heap.size 0 x.vs) := ⟨range_below (unhide XX8) (unhide H9) (Nat.lt_trans hs56 hs78), cells_made w8 x.vs _⟩
  obtain ⟨g0, g1, g2, g3, g4, g5⟩ := od_cells (unhide Y9).1
  go_wp2_with fail
  generalize (w8.alloc (Obj.cells #[.int .i64 x.id, .int .i64 x.side, .int .i64 x.ticks, .int .i64 x.left, .int .i64 x.life, .string x.tag] 52)) = W9 at H9 Y9 g0 g1 g2 g3 g4 g5 ⊢
  have B9 := hide ((unhide B8).trans ((unhide H9).mono (unhide B8).size))
  have O9 := hide (ownR_below (unhide O8) (unhide H9) (Nat.le_refl _))
  have X9 := hide (range_below (unhide X8) (unhide H9) hs78)
  refine (eqOrder_same x W9).mono ?_
  rintro e wa ⟨rfl, hb⟩
  have B10 := hide ((unhide B9).trans (hb.mono (unhide B9).size))
  have O10 := hide (ownR_below (unhide O9) hb (Nat.le_refl _))
  have hs9 : w6.heap.size < W9.heap.size := Nat.lt_of_lt_of_le hs78 (unhide H9).size
  have X10 := hide (range_below (unhide X9) hb hs9)
  have c0 : wa.cell? ⟨w.heap.size, 0, none⟩ = some (.int .i64 n) := range_below (unhide HX).1 (unhide B10) hsw 0 _ rfl
  have c1 : wa.cell? ⟨w.heap.size, 1, none⟩ = some (.slice a l.length cap) := range_below (unhide HX).1 (unhide B10) hsw 1 _ rfl
  have d0 : wa.cell? ⟨w6.heap.size, 0, none⟩ = some (.int .i64 n) := unhide X10 0 _ rfl
  have d1 : wa.cell? ⟨w6.heap.size, 1, none⟩ = some (.slice a6 l.length cap6) := unhide X10 1 _ rfl
  have hsa : w6.heap.size < wa.heap.size := Nat.lt_of_lt_of_le hs9 hb.size
  clear hb g0 g1 g2 g3 g4 g5
  have O7d : Hid (OwnR Od.vs 6 W5.heap.size wa.drew (.slice a6 l.length cap6) l) := unhide O10
  have R7d : Hid (RdR Od.vs 6 wa.drew (.slice a l.length cap) l) := rdR_below (unhide HR1) (unhide B10).drew (Nat.le_refl _)
  have X7d : Hid (wa.drew.rangeAt w6.heap.size 0 [.int .i64 n, .slice a6 l.length cap6]) := unhide X10
  have hs7d : w6.heap.size < wa.drew.heap.size := hsa
  have B7d : Hid (Below W1.heap.size W1 wa.drew) := (unhide B10).drew
  go_wp2_with fail
  go_region_with (first
    | (go_at_call 23; refine (toBook_any n _ l wa.drew (unhide R7d)).mono ?_; rintro e wb ⟨v8, rfl, ho8, hb8⟩; have O8b := hide ho8; have O58 := hide (ownR_below (unhide O7d) hb8 (Nat.le_refl _)); have e0 := range_below (unhide X7d) hb8 hs7d 0 _ rfl; have e1 := range_below (unhide X7d) hb8 hs7d 1 _ rfl; have Bb := hide ((unhide B7d).trans (hb8.mono (unhide B7d).size)); obtain ⟨a8, cap8, rfl, ho8a, ho8b⟩ := ho8; clear hb8 ho8a ho8b)
    | (go_at_call 25; refine (eqBook_same n _ _ l wb (ownR_rd (unhide O58)) (ownR_rd (unhide O8b))).mono ?_; rintro e wc ⟨rfl, hb9⟩; have Bc := hide ((unhide Bb).trans (hb9.mono (unhide Bb).size)); clear hb9))
  all_goals go_wp2_with fail
  all_goals go_ret
  all_goals exact ⟨rfl, (unhide H0).trans ((unhide Bc).mono (unhide H0).size)⟩

theorem lawFront (n : Int) (a : Option Addr) (len cap : Nat) (sd : Int) (w : World) (h : (Lit.int .i64 n).wf = true ∧ IsOrders w a len cap) :
    Calls Try.prog 7 #[.agg #[.int .i64 n, .slice a len cap], .int .i64 sd] w fun e w' => e = .returned (.bool true) ∧ Below w.heap.size w w' := by
  by_cases hl : len ≤ 1048576
  · obtain ⟨l, rfl, hr, hok⟩ := h.2.2 (by omega)
    exact exactFront n _ l sd w hr hl (fun c hc => (hok c hc).tag)
  · have HZ := hide (fun W => szBook_long n a len cap W (by omega) h.2.1)
    have H0 : Hid (Below w.heap.size w (w.alloc (Obj.cells #[.int .i64 n, .slice a len cap] 42))) := (Below.refl _ _).alloc (Nat.le_refl _) _
    clear h
    go_enter Try.func7, Try.ntmps7
    go_wp2_with fail
    refine (unhide HZ _).mono ?_
    rintro e w1 ⟨rfl, hb⟩
    have B1 := hide ((unhide H0).trans (hb.mono (unhide H0).size))
    clear hb
    go_wp2_with fail
    go_ret
    exact ⟨rfl, unhide B1⟩
end Go.Proofs.Ytfpbpjhnafjcoaa
