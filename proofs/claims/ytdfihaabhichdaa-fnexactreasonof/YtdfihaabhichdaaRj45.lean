/-
  Why a command is refused, by the model: proved by walking the functions.
-/
import Derived.Test.YtdfihaabhichdaaRj08
import Derived.Test.YtdfihaabhichdaaRj11
import Derived.Test.YtdfihaabhichdaaRj44
namespace Go.Proofs.Ytdfihaabhichdaa
open Go.RowKit
set_option linter.unusedVariables false

theorem okS_sides {next : Int} {l : List Od} (h : okS next l = true) : ∀ x ∈ l, x.side = 1 ∨ x.side = 2 := by
  simp only [okS, Bool.and_eq_true, decide_eq_true_eq] at h
  obtain ⟨⟨⟨h1, h2⟩, h4⟩, _⟩ := h
  intro o ho
  have := allR_sides h4 o ho
  simp [ordB, betB] at this
  omega
set_option maxRecDepth 100000 in
set_option maxHeartbeats 6400000 in
theorem l04Reason_any (next : Int) (vb : Value) (l : List Od) (c : Cm) (w : World) (hr : RdR Od.vs 6 w vb l) (hs : SlOk vb) (hg : GoodL l) (hsd : ∀ x ∈ l, x.side = 1 ∨ x.side = 2) (ht : c.g.size ≤ maxLen) :
    Calls Try.prog 13 #[.agg #[.int .i64 next, vb], cmV c] w fun e w' => e = .returned (.int .i64 (refS next l c)) ∧ Below w.heap.size w w' := by
  have HNW := hide (fun W hW => l04New_any next vb l c W hW hs hg hsd ht)
  have HFM := hide (fun W => l04Form_any c W)
  have hlen20 := hg.len
  generalize hre : refS next l c = res
  have HRE := hide hre.symm
  generalize hnr : newR next l c = nr at HNW
  have HNR := hide hnr
  clear hg hsd ht hre hnr
  obtain ⟨kk, s, ty, li, qt, ii, pr, tg⟩ := c
  unfold cmV at HNW HFM ⊢
  simp only at HNW HFM ⊢
  have HR := hide hr
  have HSL := hide hs
  obtain ⟨a, cap, rfl, hlen, hc⟩ := hr
  have hcell : ∀ (k : Nat) (c : Od), l[k]? = some c → ∃ b off, a = some ⟨b, off, none⟩ ∧ b < w.heap.size ∧ w.rangeAt b (off + k * 6) c.vs := by
    intro k c hk
    obtain ⟨b, off, h1, h2, h3⟩ := hc (by intro h; rw [h] at hk; simp at hk)
    exact ⟨b, off, h1, h2, h3 k c hk⟩
  have HC := hide hcell
  clear hcell hc hlen hs
  have hs1 : (w.alloc (Obj.cells #[.int .i64 next, .slice a l.length cap] 34)).heap.size = w.heap.size + 1 := size_made _ _
  have hs2 : ((w.alloc (Obj.cells #[.int .i64 next, .slice a l.length cap] 34)).alloc (Obj.cells #[.int .i64 kk, .int .i64 s, .int .i64 ty, .int .i64 li, .int .i64 qt, .int .i64 ii, .float .f64 pr, .string tg] 36)).heap.size = w.heap.size + 1 + 1 := by rw [size_made, hs1]
  have r1 := cells_made w [.int .i64 next, .slice a l.length cap] 34
  have r2 := cells_made (w.alloc (Obj.cells #[.int .i64 next, .slice a l.length cap] 34)) [.int .i64 kk, .int .i64 s, .int .i64 ty, .int .i64 li, .int .i64 qt, .int .i64 ii, .float .f64 pr, .string tg] 36
  rw [hs1] at r2
  have b12 : Below (w.heap.size + 1) (w.alloc (Obj.cells #[.int .i64 next, .slice a l.length cap] 34)) ((w.alloc (Obj.cells #[.int .i64 next, .slice a l.length cap] 34)).alloc (Obj.cells #[.int .i64 kk, .int .i64 s, .int .i64 ty, .int .i64 li, .int .i64 qt, .int .i64 ii, .float .f64 pr, .string tg] 36)) := (Below.refl _ _).alloc (by rw [hs1]; omega) _
  have HB2 : Hid (Below w.heap.size w ((w.alloc (Obj.cells #[.int .i64 next, .slice a l.length cap] 34)).alloc (Obj.cells #[.int .i64 kk, .int .i64 s, .int .i64 ty, .int .i64 li, .int .i64 qt, .int .i64 ii, .float .f64 pr, .string tg] 36))) := ((Below.refl _ _).alloc (Nat.le_refl _) _).alloc (by rw [hs1]; omega) _
  have HX : Hid (_ ∧ _) := ⟨range_below r1 b12 (by omega), r2⟩
  have HLT : Hid (w.heap.size + 1 < ((w.alloc (Obj.cells #[.int .i64 next, .slice a l.length cap] 34)).alloc (Obj.cells #[.int .i64 kk, .int .i64 s, .int .i64 ty, .int .i64 li, .int .i64 qt, .int .i64 ii, .float .f64 pr, .string tg] 36)).heap.size) := by show _ < _; omega
  clear hs1 hs2 r1 r2 b12
  go_enter Try.func13, Try.ntmps13
  refine wp_seq_k fun K hK => ?_
  have HK1 := hide hK
  clear hK
  go_wp2_with fail
  refine unhide HK1 _ _ ?_
  clear HK1
  generalize ((w.alloc (Obj.cells #[.int .i64 next, .slice a l.length cap] 34)).alloc (Obj.cells #[.int .i64 kk, .int .i64 s, .int .i64 ty, .int .i64 li, .int .i64 qt, .int .i64 ii, .float .f64 pr, .string tg] 36)) = X2 at HB2 HX HLT ⊢
  have HX : Hid (X2.rangeAt w.heap.size 0 [.int .i64 next, .slice a l.length cap] ∧ X2.rangeAt (w.heap.size + 1) 0 [.int .i64 kk, .int .i64 s, .int .i64 ty, .int .i64 li, .int .i64 qt, .int .i64 ii, .float .f64 pr, .string tg]) := unhide HX
  have k0 : X2.cell? ⟨w.heap.size, 0, none⟩ = some (.int .i64 next) := (unhide HX).1 0 _ rfl
  have k1 : X2.cell? ⟨w.heap.size, 1, none⟩ = some (.slice a l.length cap) := (unhide HX).1 1 _ rfl
  have o0 : X2.cell? ⟨w.heap.size + 1, 0, none⟩ = some (.int .i64 kk) := (unhide HX).2 0 _ rfl
  have o1 : X2.cell? ⟨w.heap.size + 1, 1, none⟩ = some (.int .i64 s) := (unhide HX).2 1 _ rfl
  have o2 : X2.cell? ⟨w.heap.size + 1, 2, none⟩ = some (.int .i64 ty) := (unhide HX).2 2 _ rfl
  have o3 : X2.cell? ⟨w.heap.size + 1, 3, none⟩ = some (.int .i64 li) := (unhide HX).2 3 _ rfl
  have o4 : X2.cell? ⟨w.heap.size + 1, 4, none⟩ = some (.int .i64 qt) := (unhide HX).2 4 _ rfl
  have o5 : X2.cell? ⟨w.heap.size + 1, 5, none⟩ = some (.int .i64 ii) := (unhide HX).2 5 _ rfl
  have o6 : X2.cell? ⟨w.heap.size + 1, 6, none⟩ = some (.float .f64 pr) := (unhide HX).2 6 _ rfl
  have o7 : X2.cell? ⟨w.heap.size + 1, 7, none⟩ = some (.string tg) := (unhide HX).2 7 _ rfl
  cases bk : betB kk 1 4
  · have HK : Hid (res = 1) := (unhide HRE).trans (by simp [refS, bk])
    go_wp2_with (first | (go_at_call 19; refine (specIn_any _ _ _ _).mono ?_; rintro e w' ⟨rfl, hw'⟩; rw [hw']; clear hw' w'))
    go_ret
    exact ⟨ret_int (unhide HK).symm, unhide HB2⟩
  go_wp2_with (first | (go_at_call 19; refine (specIn_any _ _ _ _).mono ?_; rintro e w' ⟨rfl, hw'⟩; rw [hw']; clear hw' w'))
  refine (unhide HFM _).mono ?_
  cases bf : formB ⟨kk, s, ty, li, qt, ii, pr, tg⟩
  · rintro e w3 ⟨rfl, hb3⟩
    have HB3 := hide ((unhide HB2).trans (hb3.mono (unhide HB2).size))
    have HK : Hid (res = 2) := (unhide HRE).trans (by simp [refS, bk, bf])
    clear hb3 bf bk
    go_wp2_with fail
    go_ret
    exact ⟨ret_int (unhide HK).symm, unhide HB3⟩
  rintro e w3 ⟨rfl, hb3⟩
  have HB3 := hide ((unhide HB2).trans (hb3.mono (unhide HB2).size))
  have HX3 : Hid (w3.rangeAt w.heap.size 0 [.int .i64 next, .slice a l.length cap] ∧ w3.rangeAt (w.heap.size + 1) 0 [.int .i64 kk, .int .i64 s, .int .i64 ty, .int .i64 li, .int .i64 qt, .int .i64 ii, .float .f64 pr, .string tg]) := ⟨range_below (unhide HX).1 hb3 (by have := unhide HLT; omega), range_below (unhide HX).2 hb3 (unhide HLT)⟩
  have hl3 : w.heap.size + 1 < w3.heap.size := Nat.lt_of_lt_of_le (unhide HLT) hb3.size
  clear hb3 HX HB2 HLT
  clear k0 k1 o0 o1 o2 o3 o4 o5 o6 o7
  have k0 : w3.cell? ⟨w.heap.size, 0, none⟩ = some (.int .i64 next) := (unhide HX3).1 0 _ rfl
  have k1 : w3.cell? ⟨w.heap.size, 1, none⟩ = some (.slice a l.length cap) := (unhide HX3).1 1 _ rfl
  have o0 : w3.cell? ⟨w.heap.size + 1, 0, none⟩ = some (.int .i64 kk) := (unhide HX3).2 0 _ rfl
  have o1 : w3.cell? ⟨w.heap.size + 1, 1, none⟩ = some (.int .i64 s) := (unhide HX3).2 1 _ rfl
  have o2 : w3.cell? ⟨w.heap.size + 1, 2, none⟩ = some (.int .i64 ty) := (unhide HX3).2 2 _ rfl
  have o3 : w3.cell? ⟨w.heap.size + 1, 3, none⟩ = some (.int .i64 li) := (unhide HX3).2 3 _ rfl
  have o4 : w3.cell? ⟨w.heap.size + 1, 4, none⟩ = some (.int .i64 qt) := (unhide HX3).2 4 _ rfl
  have o5 : w3.cell? ⟨w.heap.size + 1, 5, none⟩ = some (.int .i64 ii) := (unhide HX3).2 5 _ rfl
  have o6 : w3.cell? ⟨w.heap.size + 1, 6, none⟩ = some (.float .f64 pr) := (unhide HX3).2 6 _ rfl
  have o7 : w3.cell? ⟨w.heap.size + 1, 7, none⟩ = some (.string tg) := (unhide HX3).2 7 _ rfl
  by_cases h1 : kk = 1
  · subst h1
    have HK : Hid (res = nr) := (unhide HRE).trans (by rw [← unhide HNR]; simp [refS, bk, bf])
    clear bk bf HRE HNR
    go_wp2_with fail
    refine (unhide HNW w3 (rdR_below (unhide HR) (unhide HB3) (Nat.le_refl _))).mono ?_
    rintro e w4 ⟨rfl, hb4⟩
    have HB4 := hide ((unhide HB3).trans (hb4.mono (unhide HB3).size))
    clear hb4
    go_wp2_with fail
    go_ret
    exact ⟨ret_int (unhide HK).symm, unhide HB4⟩
  by_cases h4 : kk = 4
  · subst h4
    have HK : Hid (res = 0) := (unhide HRE).trans (by simp [refS, bk, bf])
    clear bk bf HRE HNR
    go_wp2_with fail
    go_ret
    exact ⟨ret_int (unhide HK).symm, unhide HB3⟩
  have b1 : (kk == 1) = false := by rw [beq_eq_false_iff_ne]; exact h1
  have b4 : (kk == 4) = false := by rw [beq_eq_false_iff_ne]; exact h4
  by_cases h3 : kk = 3
  · subst h3
    cases bq : betB qt 1 1000000
    · have HK : Hid (res = 7) := (unhide HRE).trans (by simp [refS, bk, bf, bq])
      clear bk bf HRE HNR
      go_wp2_with (first | (go_at_call 19; refine (specIn_any _ _ _ _).mono ?_; rintro e w' ⟨rfl, hw'⟩; rw [hw']; clear hw' w'))
      go_ret
      exact ⟨ret_int (unhide HK).symm, unhide HB3⟩
    have HRF : Hid (res = if plc l ii < 0 then 9 else match l[(plc l ii).toNat]? with | some o => if o.left ≤ qt then 10 else 0 | none => 0) := (unhide HRE).trans (by simp [refS, bk, bf, bq]; cases l[(plc l ii).toNat]? <;> rfl)
    clear bk bf HRE HNR h1 h4
    go_wp2_with (first | (go_at_call 19; refine (specIn_any _ _ _ _).mono ?_; rintro e w' ⟨rfl, hw'⟩; rw [hw']; clear hw' w'))
    refine (l04Find_any _ l ii w3 (rdR_below (unhide HR) (unhide HB3) (Nat.le_refl _))).mono ?_
    rintro e w4 ⟨rfl, hb4⟩
    have HB4 := hide ((unhide HB3).trans (hb4.mono (unhide HB3).size))
    have HX4 : Hid (w4.rangeAt w.heap.size 0 [.int .i64 next, .slice a l.length cap] ∧ w4.rangeAt (w.heap.size + 1) 0 [.int .i64 3, .int .i64 s, .int .i64 ty, .int .i64 li, .int .i64 qt, .int .i64 ii, .float .f64 pr, .string tg]) := ⟨range_below (unhide HX3).1 hb4 (by omega), range_below (unhide HX3).2 hb4 hl3⟩
    clear hb4
    clear k0 k1 o0 o1 o2 o3 o4 o5 o6 o7
    have k0 : w4.cell? ⟨w.heap.size, 0, none⟩ = some (.int .i64 next) := (unhide HX4).1 0 _ rfl
    have k1 : w4.cell? ⟨w.heap.size, 1, none⟩ = some (.slice a l.length cap) := (unhide HX4).1 1 _ rfl
    have o0 : w4.cell? ⟨w.heap.size + 1, 0, none⟩ = some (.int .i64 3) := (unhide HX4).2 0 _ rfl
    have o1 : w4.cell? ⟨w.heap.size + 1, 1, none⟩ = some (.int .i64 s) := (unhide HX4).2 1 _ rfl
    have o2 : w4.cell? ⟨w.heap.size + 1, 2, none⟩ = some (.int .i64 ty) := (unhide HX4).2 2 _ rfl
    have o3 : w4.cell? ⟨w.heap.size + 1, 3, none⟩ = some (.int .i64 li) := (unhide HX4).2 3 _ rfl
    have o4 : w4.cell? ⟨w.heap.size + 1, 4, none⟩ = some (.int .i64 qt) := (unhide HX4).2 4 _ rfl
    have o5 : w4.cell? ⟨w.heap.size + 1, 5, none⟩ = some (.int .i64 ii) := (unhide HX4).2 5 _ rfl
    have o6 : w4.cell? ⟨w.heap.size + 1, 6, none⟩ = some (.float .f64 pr) := (unhide HX4).2 6 _ rfl
    have o7 : w4.cell? ⟨w.heap.size + 1, 7, none⟩ = some (.string tg) := (unhide HX4).2 7 _ rfl
    rcases plc_cases l ii with e | ⟨k, o, e, ho⟩
    · have HK : Hid (res = 9) := (unhide HRF).trans (by rw [e]; rfl)
      rw [e]
      clear e
      go_wp2_with fail
      go_ret
      exact ⟨ret_int (unhide HK).symm, unhide HB4⟩
    · have HRF : Hid (res = if o.left ≤ qt then 10 else 0) := (unhide HRF).trans (by rw [e, if_neg (by omega)]; simp [ho])
      obtain ⟨b, off, rfl, hb, hcl⟩ := unhide HC k o ho
      have hkl := (List.getElem?_eq_some_iff.1 ho).1
      have c3 : w4.cell? ⟨b, off + k * 6 + 3, none⟩ = some (.int .i64 o.left) := range_below hcl (unhide HB4) hb 3 _ rfl
      have hk' : (k : Int) < l.length := by omega
      have hk0 : (0 : Int) ≤ k := by omega
      have hkn : ¬ (k : Int) < 0 := by omega
      rw [e]
      clear e ho hcl hb hkl
      by_cases hq : o.left ≤ qt
      · have HK : Hid (res = 10) := (unhide HRF).trans (if_pos hq)
        have hq' : decide (o.left ≤ qt) = true := by simpa using hq
        go_wp2_with fail
        go_quiet (fail)
        go_wp2_with fail
        go_ret
        exact ⟨ret_int (unhide HK).symm, below_drewN' (unhide HB4) _⟩
      · have HK : Hid (res = 0) := (unhide HRF).trans (if_neg hq)
        have hq' : decide (o.left ≤ qt) = false := by simpa using hq
        go_wp2_with fail
        go_quiet (fail)
        go_wp2_with fail
        go_ret
        exact ⟨ret_int (unhide HK).symm, below_drewN' (unhide HB4) _⟩
  · have b3 : (kk == 3) = false := by rw [beq_eq_false_iff_ne]; exact h3
    have HRF : Hid (res = if plc l ii < 0 then 9 else 0) := (unhide HRE).trans (by
      have hx : ¬ (kk = 3 ∧ betB qt 1 1000000 = false) := fun h => h3 h.1
      have hy : ∀ o : Od, ¬ (kk = 3 ∧ o.left ≤ qt) := fun o h => h3 h.1
      simp only [refS]
      rw [if_neg (by rw [bk]; simp), if_neg (by rw [bf]; simp), if_neg h1, if_neg h4, if_neg hx]
      by_cases hp : plc l ii < 0
      · rw [if_pos hp, if_pos hp]
      · rw [if_neg hp, if_neg hp]
        cases l[(plc l ii).toNat]? with
        | none => rfl
        | some o => exact if_neg (hy o))
    clear bk bf HRE HNR h1 h4 h3
    go_wp2_with fail
    refine (l04Find_any _ l ii w3 (rdR_below (unhide HR) (unhide HB3) (Nat.le_refl _))).mono ?_
    rintro e w4 ⟨rfl, hb4⟩
    have HB4 := hide ((unhide HB3).trans (hb4.mono (unhide HB3).size))
    have HX4 : Hid (w4.rangeAt w.heap.size 0 [.int .i64 next, .slice a l.length cap] ∧ w4.rangeAt (w.heap.size + 1) 0 [.int .i64 kk, .int .i64 s, .int .i64 ty, .int .i64 li, .int .i64 qt, .int .i64 ii, .float .f64 pr, .string tg]) := ⟨range_below (unhide HX3).1 hb4 (by omega), range_below (unhide HX3).2 hb4 hl3⟩
    clear hb4
    clear k0 k1 o0 o1 o2 o3 o4 o5 o6 o7
    have k0 : w4.cell? ⟨w.heap.size, 0, none⟩ = some (.int .i64 next) := (unhide HX4).1 0 _ rfl
    have k1 : w4.cell? ⟨w.heap.size, 1, none⟩ = some (.slice a l.length cap) := (unhide HX4).1 1 _ rfl
    have o0 : w4.cell? ⟨w.heap.size + 1, 0, none⟩ = some (.int .i64 kk) := (unhide HX4).2 0 _ rfl
    have o1 : w4.cell? ⟨w.heap.size + 1, 1, none⟩ = some (.int .i64 s) := (unhide HX4).2 1 _ rfl
    have o2 : w4.cell? ⟨w.heap.size + 1, 2, none⟩ = some (.int .i64 ty) := (unhide HX4).2 2 _ rfl
    have o3 : w4.cell? ⟨w.heap.size + 1, 3, none⟩ = some (.int .i64 li) := (unhide HX4).2 3 _ rfl
    have o4 : w4.cell? ⟨w.heap.size + 1, 4, none⟩ = some (.int .i64 qt) := (unhide HX4).2 4 _ rfl
    have o5 : w4.cell? ⟨w.heap.size + 1, 5, none⟩ = some (.int .i64 ii) := (unhide HX4).2 5 _ rfl
    have o6 : w4.cell? ⟨w.heap.size + 1, 6, none⟩ = some (.float .f64 pr) := (unhide HX4).2 6 _ rfl
    have o7 : w4.cell? ⟨w.heap.size + 1, 7, none⟩ = some (.string tg) := (unhide HX4).2 7 _ rfl
    by_cases hp : plc l ii < 0
    · have HK : Hid (res = 9) := (unhide HRF).trans (if_pos hp)
      go_wp2_with fail
      go_ret
      exact ⟨ret_int (unhide HK).symm, unhide HB4⟩
    · have HK : Hid (res = 0) := (unhide HRF).trans (if_neg hp)
      have hp' : decide (plc l ii < 0) = false := by simpa using hp
      go_wp2_with fail
      go_quiet (fail)
      go_wp2_with fail
      go_ret
      exact ⟨ret_int (unhide HK).symm, below_drewN' (unhide HB4) _⟩
end Go.Proofs.Ytdfihaabhichdaa
namespace Go.Proofs.Ytdfihaabhichdaa
open Go.RowKit
set_option linter.unusedVariables false

set_option maxRecDepth 100000 in
set_option maxHeartbeats 1600000 in
theorem specReasonOf_any (next : Int) (vb : Value) (l : List Od) (c : Cm) (w : World) (hr : RdR Od.vs 6 w vb l) (hs : SlOk vb) (hgt : ∀ o ∈ l, o.tag.size ≤ maxLen) (ht : c.g.size ≤ maxLen) :
    Calls Try.prog 6 #[.agg #[.int .i64 next, vb], cmV c] w fun e w' => e = .returned (.tuple #[.int .i64 (reaR next l c), .int .i64 (reaC next l)]) ∧ Below w.heap.size w w' := by
  have HGT := hide hgt
  have HRS : Hid (okS next l = true → ∀ W : World, RdR Od.vs 6 W vb l → Calls Try.prog 13 #[.agg #[.int .i64 next, vb], cmV c] W fun e w' => e = .returned (.int .i64 (refR next l c)) ∧ Below W.heap.size W w') := fun hok W hW => by
    rw [← ref_eq]
    exact l04Reason_any next vb l c W hW hs (okS_good hok).1 (okS_sides hok) ht
  generalize hra : reaR next l c = ra
  generalize hrc : reaC next l = rc
  have HRA := hide hra.symm
  have HRC := hide hrc.symm
  clear hra hrc hgt ht
  obtain ⟨kk, s, ty, li, qt, ii, pr, tg⟩ := c
  unfold cmV at HRS ⊢
  simp only at HRS ⊢
  have HR := hide hr
  have HSL := hide hs
  obtain ⟨a, cap, rfl, hlen, hc⟩ := hr
  have hcell : ∀ (k : Nat) (c : Od), l[k]? = some c → ∃ b off, a = some ⟨b, off, none⟩ ∧ b < w.heap.size ∧ w.rangeAt b (off + k * 6) c.vs := by
    intro k c hk
    obtain ⟨b, off, h1, h2, h3⟩ := hc (by intro h; rw [h] at hk; simp at hk)
    exact ⟨b, off, h1, h2, h3 k c hk⟩
  have HC := hide hcell
  clear hcell hc hlen hs
  have hs1 : (w.alloc (Obj.cells #[.int .i64 next, .slice a l.length cap] 34)).heap.size = w.heap.size + 1 := size_made _ _
  have hs2 : ((w.alloc (Obj.cells #[.int .i64 next, .slice a l.length cap] 34)).alloc (Obj.cells #[.int .i64 kk, .int .i64 s, .int .i64 ty, .int .i64 li, .int .i64 qt, .int .i64 ii, .float .f64 pr, .string tg] 36)).heap.size = w.heap.size + 1 + 1 := by rw [size_made, hs1]
  have r1 := cells_made w [.int .i64 next, .slice a l.length cap] 34
  have r2 := cells_made (w.alloc (Obj.cells #[.int .i64 next, .slice a l.length cap] 34)) [.int .i64 kk, .int .i64 s, .int .i64 ty, .int .i64 li, .int .i64 qt, .int .i64 ii, .float .f64 pr, .string tg] 36
  rw [hs1] at r2
  have b12 : Below (w.heap.size + 1) (w.alloc (Obj.cells #[.int .i64 next, .slice a l.length cap] 34)) ((w.alloc (Obj.cells #[.int .i64 next, .slice a l.length cap] 34)).alloc (Obj.cells #[.int .i64 kk, .int .i64 s, .int .i64 ty, .int .i64 li, .int .i64 qt, .int .i64 ii, .float .f64 pr, .string tg] 36)) := (Below.refl _ _).alloc (by rw [hs1]; omega) _
  have HB2 : Hid (Below w.heap.size w ((w.alloc (Obj.cells #[.int .i64 next, .slice a l.length cap] 34)).alloc (Obj.cells #[.int .i64 kk, .int .i64 s, .int .i64 ty, .int .i64 li, .int .i64 qt, .int .i64 ii, .float .f64 pr, .string tg] 36))) := ((Below.refl _ _).alloc (Nat.le_refl _) _).alloc (by rw [hs1]; omega) _
  have HX : Hid (_ ∧ _) := ⟨range_below r1 b12 (by omega), r2⟩
  have HLT : Hid (w.heap.size + 1 < ((w.alloc (Obj.cells #[.int .i64 next, .slice a l.length cap] 34)).alloc (Obj.cells #[.int .i64 kk, .int .i64 s, .int .i64 ty, .int .i64 li, .int .i64 qt, .int .i64 ii, .float .f64 pr, .string tg] 36)).heap.size) := by show _ < _; omega
  clear hs1 hs2 r1 r2 b12
  go_enter Try.func6, Try.ntmps6
  refine wp_seq_k fun K hK => ?_
  have HK1 := hide hK
  clear hK
  go_wp2_with fail
  refine unhide HK1 _ _ ?_
  clear HK1
  generalize ((w.alloc (Obj.cells #[.int .i64 next, .slice a l.length cap] 34)).alloc (Obj.cells #[.int .i64 kk, .int .i64 s, .int .i64 ty, .int .i64 li, .int .i64 qt, .int .i64 ii, .float .f64 pr, .string tg] 36)) = X2 at HB2 HX HLT ⊢
  have HX : Hid (X2.rangeAt w.heap.size 0 [.int .i64 next, .slice a l.length cap] ∧ X2.rangeAt (w.heap.size + 1) 0 [.int .i64 kk, .int .i64 s, .int .i64 ty, .int .i64 li, .int .i64 qt, .int .i64 ii, .float .f64 pr, .string tg]) := unhide HX
  have k0 : X2.cell? ⟨w.heap.size, 0, none⟩ = some (.int .i64 next) := (unhide HX).1 0 _ rfl
  have k1 : X2.cell? ⟨w.heap.size, 1, none⟩ = some (.slice a l.length cap) := (unhide HX).1 1 _ rfl
  have o0 : X2.cell? ⟨w.heap.size + 1, 0, none⟩ = some (.int .i64 kk) := (unhide HX).2 0 _ rfl
  have o1 : X2.cell? ⟨w.heap.size + 1, 1, none⟩ = some (.int .i64 s) := (unhide HX).2 1 _ rfl
  have o2 : X2.cell? ⟨w.heap.size + 1, 2, none⟩ = some (.int .i64 ty) := (unhide HX).2 2 _ rfl
  have o3 : X2.cell? ⟨w.heap.size + 1, 3, none⟩ = some (.int .i64 li) := (unhide HX).2 3 _ rfl
  have o4 : X2.cell? ⟨w.heap.size + 1, 4, none⟩ = some (.int .i64 qt) := (unhide HX).2 4 _ rfl
  have o5 : X2.cell? ⟨w.heap.size + 1, 5, none⟩ = some (.int .i64 ii) := (unhide HX).2 5 _ rfl
  have o6 : X2.cell? ⟨w.heap.size + 1, 6, none⟩ = some (.float .f64 pr) := (unhide HX).2 6 _ rfl
  have o7 : X2.cell? ⟨w.heap.size + 1, 7, none⟩ = some (.string tg) := (unhide HX).2 7 _ rfl
  go_wp2_with fail
  refine (specBookOK_any next _ l X2 (rdR_below (unhide HR) (unhide HB2) (Nat.le_refl _)) (unhide HGT)).mono ?_
  cases hok : okS next l
  · rintro e w3 ⟨rfl, hb3⟩
    have HB3 := hide ((unhide HB2).trans (hb3.mono (unhide HB2).size))
    have HK : Hid (ra = 0 ∧ rc = 1) := ⟨(unhide HRA).trans (by simp [reaR, hok]), (unhide HRC).trans (by simp [reaC, hok])⟩
    clear hb3 hok
    go_wp2_with fail
    go_ret2
    exact ⟨by rw [(unhide HK).1, (unhide HK).2]; rfl, unhide HB3⟩
  rintro e w3 ⟨rfl, hb3⟩
  have HB3 := hide ((unhide HB2).trans (hb3.mono (unhide HB2).size))
  have HX3 : Hid (w3.rangeAt w.heap.size 0 [.int .i64 next, .slice a l.length cap] ∧ w3.rangeAt (w.heap.size + 1) 0 [.int .i64 kk, .int .i64 s, .int .i64 ty, .int .i64 li, .int .i64 qt, .int .i64 ii, .float .f64 pr, .string tg]) := ⟨range_below (unhide HX).1 hb3 (by have := unhide HLT; omega), range_below (unhide HX).2 hb3 (unhide HLT)⟩
  have HK : Hid (ra = refR next l ⟨kk, s, ty, li, qt, ii, pr, tg⟩ ∧ rc = 0) := ⟨(unhide HRA).trans (by simp [reaR, hok]), (unhide HRC).trans (by simp [reaC, hok])⟩
  have HCL := hide (unhide HRS hok)
  generalize refR next l ⟨kk, s, ty, li, qt, ii, pr, tg⟩ = rr at HK HCL
  clear hb3 hok HX
  clear k0 k1 o0 o1 o2 o3 o4 o5 o6 o7
  have k0 : w3.cell? ⟨w.heap.size, 0, none⟩ = some (.int .i64 next) := (unhide HX3).1 0 _ rfl
  have k1 : w3.cell? ⟨w.heap.size, 1, none⟩ = some (.slice a l.length cap) := (unhide HX3).1 1 _ rfl
  have o0 : w3.cell? ⟨w.heap.size + 1, 0, none⟩ = some (.int .i64 kk) := (unhide HX3).2 0 _ rfl
  have o1 : w3.cell? ⟨w.heap.size + 1, 1, none⟩ = some (.int .i64 s) := (unhide HX3).2 1 _ rfl
  have o2 : w3.cell? ⟨w.heap.size + 1, 2, none⟩ = some (.int .i64 ty) := (unhide HX3).2 2 _ rfl
  have o3 : w3.cell? ⟨w.heap.size + 1, 3, none⟩ = some (.int .i64 li) := (unhide HX3).2 3 _ rfl
  have o4 : w3.cell? ⟨w.heap.size + 1, 4, none⟩ = some (.int .i64 qt) := (unhide HX3).2 4 _ rfl
  have o5 : w3.cell? ⟨w.heap.size + 1, 5, none⟩ = some (.int .i64 ii) := (unhide HX3).2 5 _ rfl
  have o6 : w3.cell? ⟨w.heap.size + 1, 6, none⟩ = some (.float .f64 pr) := (unhide HX3).2 6 _ rfl
  have o7 : w3.cell? ⟨w.heap.size + 1, 7, none⟩ = some (.string tg) := (unhide HX3).2 7 _ rfl
  go_wp2_with fail
  refine (unhide HCL w3 (rdR_below (unhide HR) (unhide HB3) (Nat.le_refl _))).mono ?_
  rintro e w4 ⟨rfl, hb4⟩
  have HB4 := hide ((unhide HB3).trans (hb4.mono (unhide HB3).size))
  clear hb4
  go_wp2_with fail
  go_ret2
  exact ⟨by rw [(unhide HK).1, (unhide HK).2]; rfl, unhide HB4⟩
end Go.Proofs.Ytdfihaabhichdaa
