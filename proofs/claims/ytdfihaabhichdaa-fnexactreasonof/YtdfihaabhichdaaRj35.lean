/-
  The reasons of a new order, by the program: proved by walking the function.
-/
import Derived.Test.YtdfihaabhichdaaRj33
import Derived.Test.YtdfihaabhichdaaRj34
namespace Go.Proofs.Ytdfihaabhichdaa
open Go.RowKit
set_option linter.unusedVariables false

/-- Whether the lifetime of a new order is wrong. -/
def lifW (c : Cm) : Bool := !betB c.l 0 1 || (decide (c.l = 1) && !restB c.t)
/-- The reason of a new order. -/
def newR (next : Int) (l : List Od) (c : Cm) : Int :=
  if betB c.s 1 2 = false then 3 else if betB c.t 1 5 = false then 4 else if lifW c = true then 5 else if prcB c = false then 6 else if betB c.q 1 1000000 = false then 7 else if tagB c.g = false then 8 else matR next c (matL c next 21 l c.q [])
set_option maxRecDepth 100000 in
set_option maxHeartbeats 1600000 in
theorem newRefusal_any (next : Int) (vb : Value) (l : List Od) (c : Cm) (w : World) (hr : RdR Od.vs 6 w vb l) (hs : SlOk vb) (hg : GoodL l) (h0 : 0 ≤ next) (h1 : next ≤ 1000000) (ht : c.g.size ≤ maxLen) :
    Calls Try.prog 35 #[.agg #[.int .i64 next, vb], noV c] w fun e w' => e = .returned (.int .i64 (newR next l c)) ∧ Below w.heap.size w w' := by
  have HR := hide hr
  have HG := hide hg
  have HSL := hide hs
  have HNUM : Hid (0 ≤ next ∧ next ≤ 1000000) := ⟨h0, h1⟩
  have HTG := hide ht
  obtain ⟨a, cap, rfl, hlen, hc⟩ := hr
  clear hc hg hs h0 h1 ht hlen
  generalize hres : newR next l c = res
  have HN0 : Hid (_ = res) := hres
  clear hres
  obtain ⟨kk, s, ty, li, qt, ii, pr, tg⟩ := c
  unfold newR at HN0
  unfold noV
  simp only at *
  have hs1 : (w.alloc (Obj.cells #[.int .i64 next, .slice a l.length cap] 34)).heap.size = w.heap.size + 1 := size_made _ _
  have hs2 : ((w.alloc (Obj.cells #[.int .i64 next, .slice a l.length cap] 34)).alloc (Obj.cells #[.int .i64 s, .int .i64 ty, .int .i64 li, .int .i64 qt, .float .f64 pr, .string tg] 69)).heap.size = w.heap.size + 1 + 1 := by rw [size_made, hs1]
  have r1 := cells_made w [.int .i64 next, .slice a l.length cap] 34
  have r2 := cells_made (w.alloc (Obj.cells #[.int .i64 next, .slice a l.length cap] 34)) [.int .i64 s, .int .i64 ty, .int .i64 li, .int .i64 qt, .float .f64 pr, .string tg] 69
  rw [hs1] at r2
  have b12 : Below (w.heap.size + 1) (w.alloc (Obj.cells #[.int .i64 next, .slice a l.length cap] 34)) ((w.alloc (Obj.cells #[.int .i64 next, .slice a l.length cap] 34)).alloc (Obj.cells #[.int .i64 s, .int .i64 ty, .int .i64 li, .int .i64 qt, .float .f64 pr, .string tg] 69)) := (Below.refl _ _).alloc (by rw [hs1]; omega) _
  have HB2 : Hid (Below w.heap.size w ((w.alloc (Obj.cells #[.int .i64 next, .slice a l.length cap] 34)).alloc (Obj.cells #[.int .i64 s, .int .i64 ty, .int .i64 li, .int .i64 qt, .float .f64 pr, .string tg] 69))) := ((Below.refl _ _).alloc (Nat.le_refl _) _).alloc (by rw [hs1]; omega) _
  have HX : Hid (_ ∧ _) := ⟨range_below r1 b12 (by omega), r2⟩
  have HLT : Hid (w.heap.size < ((w.alloc (Obj.cells #[.int .i64 next, .slice a l.length cap] 34)).alloc (Obj.cells #[.int .i64 s, .int .i64 ty, .int .i64 li, .int .i64 qt, .float .f64 pr, .string tg] 69)).heap.size ∧ w.heap.size + 1 < ((w.alloc (Obj.cells #[.int .i64 next, .slice a l.length cap] 34)).alloc (Obj.cells #[.int .i64 s, .int .i64 ty, .int .i64 li, .int .i64 qt, .float .f64 pr, .string tg] 69)).heap.size) := ⟨by omega, by omega⟩
  clear hs1 hs2 r1 r2 b12
  go_enter Try.func35, Try.ntmps35
  refine wp_seq_k fun K hK => ?_
  have HK1 := hide hK
  clear hK
  go_wp2_with fail
  refine unhide HK1 _ _ ?_
  clear HK1
  generalize ((w.alloc (Obj.cells #[.int .i64 next, .slice a l.length cap] 34)).alloc (Obj.cells #[.int .i64 s, .int .i64 ty, .int .i64 li, .int .i64 qt, .float .f64 pr, .string tg] 69)) = X2 at HB2 HX HLT ⊢
  have HX : Hid (X2.rangeAt w.heap.size 0 [.int .i64 next, .slice a l.length cap] ∧ X2.rangeAt (w.heap.size + 1) 0 [.int .i64 s, .int .i64 ty, .int .i64 li, .int .i64 qt, .float .f64 pr, .string tg]) := unhide HX
  have k0 := range_below (unhide HX).1 (Below.refl _ _) (unhide HLT).1 0 _ rfl
  have k1 := range_below (unhide HX).1 (Below.refl _ _) (unhide HLT).1 1 _ rfl
  have o0 := range_below (unhide HX).2 (Below.refl _ _) (unhide HLT).2 0 _ rfl
  have o1 := range_below (unhide HX).2 (Below.refl _ _) (unhide HLT).2 1 _ rfl
  have o2 := range_below (unhide HX).2 (Below.refl _ _) (unhide HLT).2 2 _ rfl
  have o3 := range_below (unhide HX).2 (Below.refl _ _) (unhide HLT).2 3 _ rfl
  have o4 := range_below (unhide HX).2 (Below.refl _ _) (unhide HLT).2 4 _ rfl
  have o5 := range_below (unhide HX).2 (Below.refl _ _) (unhide HLT).2 5 _ rfl
  simp only [Nat.zero_add] at k0 k1 o0 o1 o2 o3 o4 o5
  go_wp2_with fail
  refine (isSide_any s X2).mono ?_
  rintro e w' ⟨rfl, rfl⟩
  cases h3 : betB s 1 2
  · have HK : Hid (3 = res) := by have := unhide HN0; rw [if_pos h3] at this; exact this
    clear h3
    go_wp2_with fail
    go_ret
    exact ⟨ret_int (unhide HK), unhide HB2⟩
  have HN1 : Hid (_ = res) := (if_neg (fun h => by rw [h3] at h; cases h)).symm.trans (unhide HN0)
  clear h3 HN0
  go_wp2_with fail
  refine (isType_any ty w').mono ?_
  rintro e w1 ⟨rfl, rfl⟩
  cases h4 : betB ty 1 5
  · have HK : Hid (4 = res) := by have := unhide HN1; rw [if_pos h4] at this; exact this
    clear h4
    go_wp2_with fail
    go_ret
    exact ⟨ret_int (unhide HK), unhide HB2⟩
  have HN2 : Hid (_ = res) := (if_neg (fun h => by rw [h4] at h; cases h)).symm.trans (unhide HN1)
  clear h4 HN1
  go_wp2_with fail
  refine (isLife_any li w1).mono ?_
  rintro e w2 ⟨rfl, rfl⟩
  cases h5 : betB li 0 1
  · have HK : Hid (5 = res) := by have := unhide HN2; rw [if_pos (by simp [lifW, h5])] at this; exact this
    clear h5
    go_wp2_with fail
    go_ret
    exact ⟨ret_int (unhide HK), unhide HB2⟩
  by_cases hli : li = 1
  · subst hli
    go_wp2_with fail
    refine (rests_any ⟨kk, s, ty, 1, qt, ii, pr, tg⟩ w2).mono ?_
    rintro e w3 ⟨rfl, hb3⟩
    dsimp only
    have HBV := hide hb3
    clear hb3 k0 k1 o0 o1 o2 o3 o4 o5
    cases h6 : restB ty
    · have HK : Hid (5 = res) := by have := unhide HN2; rw [if_pos (by simp [lifW, h6])] at this; exact this
      clear h6 h5
      go_wp2_with fail
      go_ret
      exact ⟨ret_int (unhide HK), (unhide HB2).trans ((unhide HBV).mono (unhide HB2).size)⟩
    have HN3 : Hid (_ = res) := (if_neg (by simp [lifW, h5, h6])).symm.trans (unhide HN2)
    clear h5 h6 HN2
    have k0 := range_below (unhide HX).1 (unhide HBV) (unhide HLT).1 0 _ rfl
    have k1 := range_below (unhide HX).1 (unhide HBV) (unhide HLT).1 1 _ rfl
    have o0 := range_below (unhide HX).2 (unhide HBV) (unhide HLT).2 0 _ rfl
    have o1 := range_below (unhide HX).2 (unhide HBV) (unhide HLT).2 1 _ rfl
    have o2 := range_below (unhide HX).2 (unhide HBV) (unhide HLT).2 2 _ rfl
    have o3 := range_below (unhide HX).2 (unhide HBV) (unhide HLT).2 3 _ rfl
    have o4 := range_below (unhide HX).2 (unhide HBV) (unhide HLT).2 4 _ rfl
    have o5 := range_below (unhide HX).2 (unhide HBV) (unhide HLT).2 5 _ rfl
    simp only [Nat.zero_add] at k0 k1 o0 o1 o2 o3 o4 o5
    go_wp2_with fail
    refine (hasPrice_any ⟨kk, s, ty, 1, qt, ii, pr, tg⟩ w3).mono ?_
    rintro e w4 ⟨rfl, hb4⟩
    have HB4 := hide ((unhide HBV).trans (hb4.mono (unhide HBV).size))
    clear hb4 k0 k1 o0 o1 o2 o3 o4 o5 HBV
    cases h7 : prcB ⟨kk, s, ty, 1, qt, ii, pr, tg⟩
    · have HK : Hid (6 = res) := by have := unhide HN3; rw [if_pos h7] at this; exact this
      clear h7
      go_wp2_with fail
      go_ret
      exact ⟨ret_int (unhide HK), (unhide HB2).trans ((unhide HB4).mono (unhide HB2).size)⟩
    have HN4 : Hid (_ = res) := (if_neg (fun h => by rw [h7] at h; cases h)).symm.trans (unhide HN3)
    clear h7 HN3
    have k0 := range_below (unhide HX).1 (unhide HB4) (unhide HLT).1 0 _ rfl
    have k1 := range_below (unhide HX).1 (unhide HB4) (unhide HLT).1 1 _ rfl
    have o0 := range_below (unhide HX).2 (unhide HB4) (unhide HLT).2 0 _ rfl
    have o1 := range_below (unhide HX).2 (unhide HB4) (unhide HLT).2 1 _ rfl
    have o2 := range_below (unhide HX).2 (unhide HB4) (unhide HLT).2 2 _ rfl
    have o3 := range_below (unhide HX).2 (unhide HB4) (unhide HLT).2 3 _ rfl
    have o4 := range_below (unhide HX).2 (unhide HB4) (unhide HLT).2 4 _ rfl
    have o5 := range_below (unhide HX).2 (unhide HB4) (unhide HLT).2 5 _ rfl
    simp only [Nat.zero_add] at k0 k1 o0 o1 o2 o3 o4 o5
    go_wp2_with fail
    refine (isQty_any qt w4).mono ?_
    rintro e w5 ⟨rfl, rfl⟩
    cases h8 : betB qt 1 1000000
    · have HK : Hid (7 = res) := by have := unhide HN4; rw [if_pos h8] at this; exact this
      clear h8
      go_wp2_with fail
      go_ret
      exact ⟨ret_int (unhide HK), (unhide HB2).trans ((unhide HB4).mono (unhide HB2).size)⟩
    have HN5 : Hid (_ = res) := (if_neg (fun h => by rw [h8] at h; cases h)).symm.trans (unhide HN4)
    have HQB : Hid (0 ≤ qt ∧ qt ≤ 1000000) := by
      simp only [betB, Bool.and_eq_true, decide_eq_true_eq] at h8
      exact ⟨by omega, h8.2⟩
    clear h8 HN4
    go_wp2_with fail
    refine (isTag_any tg w5 (unhide HTG)).mono ?_
    rintro e w6 ⟨rfl, rfl⟩
    cases h9 : tagB tg
    · have HK : Hid (8 = res) := by have := unhide HN5; rw [if_pos h9] at this; exact this
      clear h9
      go_wp2_with fail
      go_ret
      exact ⟨ret_int (unhide HK), (unhide HB2).trans ((unhide HB4).mono (unhide HB2).size)⟩
    have HN6 : Hid (_ = res) := (if_neg (fun h => by rw [h9] at h; cases h)).symm.trans (unhide HN5)
    clear h9 HN5
    go_wp2_with fail
    refine (matchRefusal_any next _ l ⟨kk, s, ty, 1, qt, ii, pr, tg⟩ w6 (rdR_below (unhide HR) ((unhide HB2).trans ((unhide HB4).mono (unhide HB2).size)) (Nat.le_refl _)) (unhide HSL) (unhide HG) (unhide HNUM).1 (unhide HNUM).2 (unhide HQB).1 (unhide HQB).2).mono ?_
    dsimp only
    rw [unhide HN6]
    rintro e w7 ⟨rfl, hb7⟩
    have HB7 := hide (((unhide HB2).trans ((unhide HB4).mono (unhide HB2).size)).trans (hb7.mono ((unhide HB2).trans ((unhide HB4).mono (unhide HB2).size)).size))
    clear hb7
    go_wp2_with fail
    go_ret
    exact ⟨rfl, unhide HB7⟩
  have hlb : (li == 1) = false := by rw [beq_eq_false_iff_ne]; exact hli
  have HN3 : Hid (_ = res) := (if_neg (by simp [lifW, h5, hli])).symm.trans (unhide HN2)
  have HBV : Hid (Below w2.heap.size w2 w2) := Below.refl _ _
  clear h5 hli HN2
  go_wp2_with fail
  refine (hasPrice_any ⟨kk, s, ty, li, qt, ii, pr, tg⟩ w2).mono ?_
  rintro e w4 ⟨rfl, hb4⟩
  have HB4 := hide ((unhide HBV).trans (hb4.mono (unhide HBV).size))
  clear hb4 k0 k1 o0 o1 o2 o3 o4 o5 HBV
  cases h7 : prcB ⟨kk, s, ty, li, qt, ii, pr, tg⟩
  · have HK : Hid (6 = res) := by have := unhide HN3; rw [if_pos h7] at this; exact this
    clear h7
    go_wp2_with fail
    go_ret
    exact ⟨ret_int (unhide HK), (unhide HB2).trans ((unhide HB4).mono (unhide HB2).size)⟩
  have HN4 : Hid (_ = res) := (if_neg (fun h => by rw [h7] at h; cases h)).symm.trans (unhide HN3)
  clear h7 HN3
  have k0 := range_below (unhide HX).1 (unhide HB4) (unhide HLT).1 0 _ rfl
  have k1 := range_below (unhide HX).1 (unhide HB4) (unhide HLT).1 1 _ rfl
  have o0 := range_below (unhide HX).2 (unhide HB4) (unhide HLT).2 0 _ rfl
  have o1 := range_below (unhide HX).2 (unhide HB4) (unhide HLT).2 1 _ rfl
  have o2 := range_below (unhide HX).2 (unhide HB4) (unhide HLT).2 2 _ rfl
  have o3 := range_below (unhide HX).2 (unhide HB4) (unhide HLT).2 3 _ rfl
  have o4 := range_below (unhide HX).2 (unhide HB4) (unhide HLT).2 4 _ rfl
  have o5 := range_below (unhide HX).2 (unhide HB4) (unhide HLT).2 5 _ rfl
  simp only [Nat.zero_add] at k0 k1 o0 o1 o2 o3 o4 o5
  go_wp2_with fail
  refine (isQty_any qt w4).mono ?_
  rintro e w5 ⟨rfl, rfl⟩
  cases h8 : betB qt 1 1000000
  · have HK : Hid (7 = res) := by have := unhide HN4; rw [if_pos h8] at this; exact this
    clear h8
    go_wp2_with fail
    go_ret
    exact ⟨ret_int (unhide HK), (unhide HB2).trans ((unhide HB4).mono (unhide HB2).size)⟩
  have HN5 : Hid (_ = res) := (if_neg (fun h => by rw [h8] at h; cases h)).symm.trans (unhide HN4)
  have HQB : Hid (0 ≤ qt ∧ qt ≤ 1000000) := by
    simp only [betB, Bool.and_eq_true, decide_eq_true_eq] at h8
    exact ⟨by omega, h8.2⟩
  clear h8 HN4
  go_wp2_with fail
  refine (isTag_any tg w5 (unhide HTG)).mono ?_
  rintro e w6 ⟨rfl, rfl⟩
  cases h9 : tagB tg
  · have HK : Hid (8 = res) := by have := unhide HN5; rw [if_pos h9] at this; exact this
    clear h9
    go_wp2_with fail
    go_ret
    exact ⟨ret_int (unhide HK), (unhide HB2).trans ((unhide HB4).mono (unhide HB2).size)⟩
  have HN6 : Hid (_ = res) := (if_neg (fun h => by rw [h9] at h; cases h)).symm.trans (unhide HN5)
  clear h9 HN5
  go_wp2_with fail
  refine (matchRefusal_any next _ l ⟨kk, s, ty, li, qt, ii, pr, tg⟩ w6 (rdR_below (unhide HR) ((unhide HB2).trans ((unhide HB4).mono (unhide HB2).size)) (Nat.le_refl _)) (unhide HSL) (unhide HG) (unhide HNUM).1 (unhide HNUM).2 (unhide HQB).1 (unhide HQB).2).mono ?_
  dsimp only
  rw [unhide HN6]
  rintro e w7 ⟨rfl, hb7⟩
  have HB7 := hide (((unhide HB2).trans ((unhide HB4).mono (unhide HB2).size)).trans (hb7.mono ((unhide HB2).trans ((unhide HB4).mono (unhide HB2).size)).size))
  clear hb7
  go_wp2_with fail
  go_ret
  exact ⟨rfl, unhide HB7⟩
end Go.Proofs.Ytdfihaabhichdaa
namespace Go.Proofs.Ytdfihaabhichdaa
open Go.RowKit
set_option linter.unusedVariables false

/-- The reason of an Id. -/
def idR (l : List Od) (id : Int) : Int := if plc l id < 0 then 9 else 0
/-- The reason of a reduction. -/
def redR (l : List Od) (id qty : Int) : Int := if betB qty 1 1000000 = true then (if plc l id < 0 then 9 else match l[(plc l id).toNat]? with | some o => if o.left ≤ qty then 10 else 0 | none => 0) else 7
theorem plc_cases (l : List Od) (id : Int) : plc l id = -1 ∨ ∃ (k : Nat) (o : Od), plc l id = k ∧ l[k]? = some o := by
  rcases plcF_spec id l 0 with ⟨h1, _⟩ | ⟨i, o, h1, h2, _⟩
  · exact .inl h1
  · exact .inr ⟨i, o, by rw [plc, h1]; congr 1; omega, h2⟩
set_option maxHeartbeats 400000 in
theorem idRefusal_any (next : Int) (v : Value) (l : List Od) (id : Int) (w : World) (hr : RdR Od.vs 6 w v l) :
    Calls Try.prog 36 #[.agg #[.int .i64 next, v], .int .i64 id] w fun e w' => e = .returned (.int .i64 (idR l id)) ∧ Below w.heap.size w w' := by
  have HR := hide hr
  obtain ⟨a, cap, rfl, hlen, hc⟩ := hr
  have HB0 : Hid (Below w.heap.size w (w.alloc (Obj.cells #[.int .i64 next, .slice a l.length cap] 34))) := (Below.refl _ _).alloc (Nat.le_refl _) _
  clear hc
  go_enter Try.func36, Try.ntmps36
  go_wp2_with fail
  refine (placeOf_any next _ l id _ (rdR_below (unhide HR) (unhide HB0) (Nat.le_refl _))).mono ?_
  rintro e w3 ⟨rfl, hb3⟩
  have HB3 := hide ((unhide HB0).trans (hb3.mono (unhide HB0).size))
  clear hb3
  by_cases hp : plc l id < 0
  · have HK : Hid (idR l id = 9) := if_pos hp
    go_wp2_with fail
    go_ret
    exact ⟨ret_int (unhide HK).symm, unhide HB3⟩
  · have HK : Hid (idR l id = 0) := if_neg hp
    go_wp2_with fail
    go_ret
    exact ⟨ret_int (unhide HK).symm, unhide HB3⟩
end Go.Proofs.Ytdfihaabhichdaa
