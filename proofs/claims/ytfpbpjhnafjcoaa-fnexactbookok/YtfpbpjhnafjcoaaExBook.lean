/-
  The exact law of BookOK, walked: it returns true, and nothing that was there is turned.
-/
import Derived.Test.YtfpbpjhnafjcoaaSpecBw
import Derived.Test.YtfpbpjhnafjcoaaOrdX
import Derived.Test.YtfpbpjhnafjcoaaOkEq
import Derived.Test.YtfpbpjhnafjcoaaBookO
namespace Go.Proofs.Ytfpbpjhnafjcoaa
open Go.RowKit
set_option linter.unusedVariables false

set_option maxRecDepth 100000 in
set_option maxHeartbeats 800000 in
theorem exactBookOK (n : Int) (v : Value) (l : List Od) (w : World) (hr : RdR Od.vs 6 w v l) (hl : l.length ≤ 1048576) (hg : ∀ c ∈ l, c.tag.size ≤ maxLen) :
    Calls Try.prog 6 #[.agg #[.int .i64 n, v]] w fun e w' => e = .returned (.bool true) ∧ Below w.heap.size w w' := by
  have HR := hide hr
  have HG := hide hg
  obtain ⟨a, cap, rfl, _, hc⟩ := hr
  generalize hok : okS n l = ok
  have HOK := hide hok
  clear hg hc hok
  have H0 : Hid (Below w.heap.size w (w.alloc (Obj.cells #[.int .i64 n, .slice a l.length cap] 42))) := (Below.refl _ _).alloc (Nat.le_refl _) _
  have HX : Hid (World.rangeAt (w.alloc (Obj.cells #[.int .i64 n, .slice a l.length cap] 42)) w.heap.size 0 [.int .i64 n, .slice a l.length cap] ∧ w.heap.size < (w.alloc (Obj.cells #[.int .i64 n, .slice a l.length cap] 42)).heap.size) := ⟨cells_made w [.int .i64 n, .slice a l.length cap] _, by rw [size_made]; omega⟩
  go_enter Try.func6, Try.ntmps6
  go_wp2_with fail
  generalize (w.alloc (Obj.cells #[.int .i64 n, .slice a l.length cap] 42)) = W1 at H0 HX ⊢
  have hsw := (unhide HX).2
  have HR1 := hide (rdR_below (unhide HR) (unhide H0) (Nat.le_refl _))
  refine (szBook_any n _ l W1 (unhide HR1) hl (unhide HG)).mono ?_
  rintro e w2 ⟨y, rfl, hy0, hy1, hb⟩
  have B2 := hide hb
  have c0 : w2.cell? ⟨w.heap.size, 0, none⟩ = some (.int .i64 n) := range_below (unhide HX).1 hb hsw 0 _ rfl
  have c1 : w2.cell? ⟨w.heap.size, 1, none⟩ = some (.slice a l.length cap) := range_below (unhide HX).1 hb hsw 1 _ rfl
  clear hb
  by_cases hy : y < 0
  · go_wp2_with fail
    go_ret
    exact ⟨rfl, (unhide H0).trans ((unhide B2).mono (unhide H0).size)⟩
  go_wp2_with fail
  refine (toBook_any n _ l w2 (rdR_below (unhide HR1) (unhide B2) (Nat.le_refl _))).mono ?_
  rintro e w3 ⟨v3, rfl, ho3, hb⟩
  have O3 := hide ho3
  have B3 := hide ((unhide B2).trans (hb.mono (unhide B2).size))
  obtain ⟨a3, cap3, rfl, -, -⟩ := ho3
  clear hb c0 c1
  go_wp2_with fail
  refine (specBookOK_any n _ l w3 (ownR_rd (unhide O3)) (unhide HG)).mono ?_
  rw [unhide HOK]
  rintro e w4 ⟨rfl, hb⟩
  have B4 := hide ((unhide B3).trans (hb.mono (unhide B3).size))
  have c0 : w4.cell? ⟨w.heap.size, 0, none⟩ = some (.int .i64 n) := range_below (unhide HX).1 (unhide B4) hsw 0 _ rfl
  have c1 : w4.cell? ⟨w.heap.size, 1, none⟩ = some (.slice a l.length cap) := range_below (unhide HX).1 (unhide B4) hsw 1 _ rfl
  clear hb
  go_wp2_with fail
  refine (toBook_any n _ l w4 (rdR_below (unhide HR1) (unhide B4) (Nat.le_refl _))).mono ?_
  rintro e w5 ⟨v5, rfl, ho5, hb⟩
  have O5 := hide ho5
  have B5 := hide ((unhide B4).trans (hb.mono (unhide B4).size))
  obtain ⟨a5, cap5, rfl, -, -⟩ := ho5
  clear hb c0 c1
  have H6 : Hid (Below w5.heap.size w5 (w5.alloc (Obj.cells #[.int .i64 n, .slice a5 l.length cap5] 47))) := (Below.refl _ _).alloc (Nat.le_refl _) _
  have X6 : Hid (World.rangeAt (w5.alloc (Obj.cells #[.int .i64 n, .slice a5 l.length cap5] 47)) w5.heap.size 0 [.int .i64 n, .slice a5 l.length cap5] ∧ w5.heap.size < (w5.alloc (Obj.cells #[.int .i64 n, .slice a5 l.length cap5] 47)).heap.size) := ⟨cells_made w5 [.int .i64 n, .slice a5 l.length cap5] _, by rw [size_made]; omega⟩
  go_wp2_with fail
  generalize (w5.alloc (Obj.cells #[.int .i64 n, .slice a5 l.length cap5] 47)) = W6 at H6 X6 ⊢
  have hs6 := (unhide X6).2
  have B6 := hide ((unhide B5).trans ((unhide H6).mono (unhide B5).size))
  have O6 := hide (ownR_below (unhide O5) (unhide H6) (Nat.le_refl _))
  refine (implBookOK_any n _ l W6 (ownR_rd (unhide O6)) (unhide HG)).mono ?_
  rw [okI_eq, unhide HOK]
  rintro e w7 ⟨rfl, hb⟩
  have B7 := hide ((unhide B6).trans (hb.mono (unhide B6).size))
  have O7 := hide (ownR_below (unhide O6) hb (Nat.le_refl _))
  have X7 := hide (range_below (unhide X6).1 hb hs6)
  have H67 := hide hb
  have c0 : w7.cell? ⟨w.heap.size, 0, none⟩ = some (.int .i64 n) := range_below (unhide HX).1 (unhide B7) hsw 0 _ rfl
  have c1 : w7.cell? ⟨w.heap.size, 1, none⟩ = some (.slice a l.length cap) := range_below (unhide HX).1 (unhide B7) hsw 1 _ rfl
  have d0 : w7.cell? ⟨w5.heap.size, 0, none⟩ = some (.int .i64 n) := unhide X7 0 _ rfl
  have d1 : w7.cell? ⟨w5.heap.size, 1, none⟩ = some (.slice a5 l.length cap5) := unhide X7 1 _ rfl
  have hs7 : w5.heap.size < w7.heap.size := Nat.lt_of_lt_of_le hs6 hb.size
  clear hb
  have O7d : Hid (OwnR Od.vs 6 w4.heap.size w7.drew (.slice a5 l.length cap5) l) := unhide O7
  have R7d : Hid (RdR Od.vs 6 w7.drew (.slice a l.length cap) l) := rdR_below (unhide HR1) (unhide B7).drew (Nat.le_refl _)
  have X7d : Hid (w7.drew.rangeAt w5.heap.size 0 [.int .i64 n, .slice a5 l.length cap5]) := unhide X7
  have hs7d : w5.heap.size < w7.drew.heap.size := hs7
  have B7d : Hid (Below W1.heap.size W1 w7.drew) := (unhide B7).drew
  go_wp2_with fail
  go_region_with (first
    | (go_at_call 23; refine (toBook_any n _ l w7.drew (unhide R7d)).mono ?_; rintro e w8 ⟨v8, rfl, ho8, hb8⟩; have O8 := hide ho8; have O58 := hide (ownR_below (unhide O7d) hb8 (Nat.le_refl _)); have e0 := range_below (unhide X7d) hb8 hs7d 0 _ rfl; have e1 := range_below (unhide X7d) hb8 hs7d 1 _ rfl; have B8 := hide ((unhide B7d).trans (hb8.mono (unhide B7d).size)); obtain ⟨a8, cap8, rfl, ho8a, ho8b⟩ := ho8; clear hb8 ho8a ho8b)
    | (go_at_call 25; refine (eqBook_same n _ _ l w8 (ownR_rd (unhide O58)) (ownR_rd (unhide O8))).mono ?_; rintro e w9 ⟨rfl, hb9⟩; have B9 := hide ((unhide B8).trans (hb9.mono (unhide B8).size)); clear hb9))
  all_goals go_wp2_with fail
  all_goals go_ret
  all_goals exact ⟨rfl, (unhide H0).trans ((unhide B9).mono (unhide H0).size)⟩

theorem lawBookOK (n : Int) (a : Option Addr) (len cap : Nat) (w : World) (h : (Lit.int .i64 n).wf = true ∧ IsOrders w a len cap) :
    Calls Try.prog 6 #[.agg #[.int .i64 n, .slice a len cap]] w fun e w' => e = .returned (.bool true) ∧ Below w.heap.size w w' := by
  by_cases hl : len ≤ 1048576
  · obtain ⟨l, rfl, hr, hok⟩ := h.2.2 (by omega)
    exact exactBookOK n _ l w hr hl (fun c hc => (hok c hc).tag)
  · have HZ := hide (fun W => szBook_long n a len cap W (by omega) h.2.1)
    have H0 : Hid (Below w.heap.size w (w.alloc (Obj.cells #[.int .i64 n, .slice a len cap] 42))) := (Below.refl _ _).alloc (Nat.le_refl _) _
    clear h
    go_enter Try.func6, Try.ntmps6
    go_wp2_with fail
    refine (unhide HZ _).mono ?_
    rintro e w1 ⟨rfl, hb⟩
    have B1 := hide ((unhide H0).trans (hb.mono (unhide H0).size))
    clear hb
    go_wp2_with fail
    go_ret
    exact ⟨rfl, unhide B1⟩
end Go.Proofs.Ytfpbpjhnafjcoaa
