/-
  The reason of a reduction, by the program: proved by walking the function.
-/
import Derived.Test.YtdfihaabhichdaaRj35
namespace Go.Proofs.Ytdfihaabhichdaa
open Go.RowKit
set_option linter.unusedVariables false

/-- What each operation has. -/
def DZ (b2 b3 b off cap k : Nat) (next id qty : Int) (l : List Od) (o : Od) (p : Prop) (V : World) : Nat → Value → Prop
  | 0, v => v = .pointer (some ⟨b3, 1, none⟩)
  | 1, v => v = .int .i64 qty
  | 2, v => v = .pointer (some ⟨b2, 1, none⟩)
  | 3, v => v = .slice (some ⟨b, off, none⟩) l.length cap
  | 4, v => v = .agg #[.int .i64 next, .slice (some ⟨b, off, none⟩) l.length cap]
  | 5, v => v = .pointer (some ⟨b3, 0, none⟩)
  | 6, v => v = .int .i64 id
  | 7, v => v = .int .i64 k
  | 8, v => v = .pointer (some ⟨b, off + k * 6, none⟩)
  | 9, v => v = .pointer (some ⟨b, off + k * 6 + 3, none⟩)
  | 10, v => v = .int .i64 o.left
  | 11, v => v = .bool (decide (o.left ≤ qty))
  | _, _ => True
set_option maxRecDepth 100000 in
set_option maxHeartbeats 1600000 in
theorem reduceRefusal_any (next : Int) (vb : Value) (l : List Od) (id qty : Int) (w : World) (hr : RdR Od.vs 6 w vb l) :
    Calls Try.prog 37 #[.agg #[.int .i64 next, vb], .agg #[.int .i64 id, .int .i64 qty]] w fun e w' => e = .returned (.int .i64 (redR l id qty)) ∧ Below w.heap.size w w' := by
  have HR := hide hr
  obtain ⟨a, cap, rfl, hlen, hc⟩ := hr
  have HCL := hide hc
  clear hc
  have hs1 : (w.alloc (Obj.cells #[.int .i64 next, .slice a l.length cap] 34)).heap.size = w.heap.size + 1 := size_made _ _
  have hs2 : ((w.alloc (Obj.cells #[.int .i64 next, .slice a l.length cap] 34)).alloc (Obj.cells #[.int .i64 id, .int .i64 qty] 75)).heap.size = w.heap.size + 1 + 1 := by rw [size_made, hs1]
  have r1 := cells_made w [.int .i64 next, .slice a l.length cap] 34
  have r2 := cells_made (w.alloc (Obj.cells #[.int .i64 next, .slice a l.length cap] 34)) [.int .i64 id, .int .i64 qty] 75
  rw [hs1] at r2
  have b12 : Below (w.heap.size + 1) (w.alloc (Obj.cells #[.int .i64 next, .slice a l.length cap] 34)) ((w.alloc (Obj.cells #[.int .i64 next, .slice a l.length cap] 34)).alloc (Obj.cells #[.int .i64 id, .int .i64 qty] 75)) := (Below.refl _ _).alloc (by rw [hs1]; omega) _
  have HB2 : Hid (Below w.heap.size w ((w.alloc (Obj.cells #[.int .i64 next, .slice a l.length cap] 34)).alloc (Obj.cells #[.int .i64 id, .int .i64 qty] 75))) := ((Below.refl _ _).alloc (Nat.le_refl _) _).alloc (by rw [hs1]; omega) _
  have HX : Hid (_ ∧ _) := ⟨range_below r1 b12 (by omega), r2⟩
  have HLT : Hid (w.heap.size < ((w.alloc (Obj.cells #[.int .i64 next, .slice a l.length cap] 34)).alloc (Obj.cells #[.int .i64 id, .int .i64 qty] 75)).heap.size ∧ w.heap.size + 1 < ((w.alloc (Obj.cells #[.int .i64 next, .slice a l.length cap] 34)).alloc (Obj.cells #[.int .i64 id, .int .i64 qty] 75)).heap.size) := ⟨by omega, by omega⟩
  clear hs1 hs2 r1 r2 b12
  go_enter Try.func37, Try.ntmps37
  refine wp_seq_k fun K hK => ?_
  have HK1 := hide hK
  clear hK
  go_wp2_with fail
  refine unhide HK1 _ _ ?_
  clear HK1
  generalize ((w.alloc (Obj.cells #[.int .i64 next, .slice a l.length cap] 34)).alloc (Obj.cells #[.int .i64 id, .int .i64 qty] 75)) = X2 at HB2 HX HLT ⊢
  have HX : Hid (X2.rangeAt w.heap.size 0 [.int .i64 next, .slice a l.length cap] ∧ X2.rangeAt (w.heap.size + 1) 0 [.int .i64 id, .int .i64 qty]) := unhide HX
  have k0 : X2.cell? ⟨w.heap.size, 0, none⟩ = some (.int .i64 next) := (unhide HX).1 0 _ rfl
  have k1 : X2.cell? ⟨w.heap.size, 1, none⟩ = some (.slice a l.length cap) := (unhide HX).1 1 _ rfl
  have o0 : X2.cell? ⟨w.heap.size + 1, 0, none⟩ = some (.int .i64 id) := (unhide HX).2 0 _ rfl
  have o1 : X2.cell? ⟨w.heap.size + 1, 1, none⟩ = some (.int .i64 qty) := (unhide HX).2 1 _ rfl
  go_wp2_with fail
  refine (isQty_any qty X2).mono ?_
  rintro e w3 ⟨rfl, rfl⟩
  cases hq : betB qty 1 1000000
  · have HK : Hid (redR l id qty = 7) := by show _ = _; rw [redR, if_neg (by rw [hq]; simp)]
    clear hq
    go_wp2_with fail
    go_ret
    exact ⟨ret_int (unhide HK).symm, unhide HB2⟩
  have HQ := hide hq
  clear hq
  go_wp2_with fail
  refine (idRefusal_any next _ l id w3 (rdR_below (unhide HR) (unhide HB2) (Nat.le_refl _))).mono ?_
  rcases plc_cases l id with hp | ⟨k, o, hp, hk⟩
  · have hid : idR l id = 9 := by rw [idR, if_pos (by omega)]
    rw [hid]
    have HK : Hid (redR l id qty = 9) := by show _ = _; rw [redR, if_pos (unhide HQ), if_pos (by omega)]
    clear hp hid
    rintro e w4 ⟨rfl, hb4⟩
    have HB4 := hide ((unhide HB2).trans (hb4.mono (unhide HB2).size))
    clear hb4
    go_wp2_with fail
    go_ret
    exact ⟨ret_int (unhide HK).symm, unhide HB4⟩
  have hid : idR l id = 0 := by rw [idR, if_neg (by omega)]
  rw [hid]
  have HPL := hide hp
  have HRE : Hid (redR l id qty = if o.left ≤ qty then 10 else 0) := by
    show _ = _
    rw [redR, if_pos (unhide HQ), if_neg (by omega), hp, Int.toNat_natCast, hk]
  have hkl := (List.getElem?_eq_some_iff.1 hk).1
  obtain ⟨b, off, rfl, hbw, hcl⟩ := unhide HCL (by intro h; rw [h] at hkl; simp at hkl)
  have HCE := hide (hcl k o hk)
  have hkl' : (k : Int) < l.length := by omega
  have hk0 : (0 : Int) ≤ k := by omega
  clear hp hid hcl hk
  rintro e w4 ⟨rfl, hb4⟩
  have HB4 := hide ((unhide HB2).trans (hb4.mono (unhide HB2).size))
  have HX4 : Hid (w4.rangeAt w.heap.size 0 [.int .i64 next, .slice (some ⟨b, off, none⟩) l.length cap] ∧ w4.rangeAt (w.heap.size + 1) 0 [.int .i64 id, .int .i64 qty] ∧ w.heap.size < w4.heap.size ∧ w.heap.size + 1 < w4.heap.size) := ⟨range_below (unhide HX).1 hb4 (unhide HLT).1, range_below (unhide HX).2 hb4 (unhide HLT).2, Nat.lt_of_lt_of_le (unhide HLT).1 hb4.size, Nat.lt_of_lt_of_le (unhide HLT).2 hb4.size⟩
  clear hb4 k0 k1 o0 o1
  go_wp2_with fail
  refine wp_region_inv2 (RG w4 (fun f => { tmps := #[.agg #[.int .i64 next, .slice (some ⟨b, off, none⟩) l.length cap], .agg #[.int .i64 id, .int .i64 qty], .pointer (some ⟨w.heap.size, 0, none⟩), .pointer (some ⟨w.heap.size + 1, 0, none⟩), .int .i64 0, .int .i64 0, .pointer (some ⟨w.heap.size + 1, 1, none⟩), .int .i64 qty, .bool true, .bool false, .agg #[.int .i64 next, .slice (some ⟨b, off, none⟩) l.length cap], .pointer (some ⟨w.heap.size + 1, 0, none⟩), .int .i64 id, .int .i64 0, .int .i64 0, .bool false, undef, f 0, f 1, f 2, f 3, f 4, f 5, f 6, f 7, f 8, f 9, f 10, f 11], defers := [] }) 99 (DZ w.heap.size (w.heap.size + 1) b off cap k next id qty l o)) (by kernel_rfl) ?_ ?_ ?_
  · exact ⟨fun _ => undef, rfl, ⟨rfl, rfl, rfl, Nat.le_refl _, fun _ _ => rfl⟩, fun j hj => by rw [List.getElem?_replicate] at hj; split at hj <;> simp at hj⟩
  · rintro x A V ⟨f, rfl, hbel, hD⟩ hx hrd
    have hallx := ready_allC hrd hx (by kernel_rfl)
    have e11 : f 11 = .bool (decide (o.left ≤ qty)) := hD 11 (hallx 11 (by simp))
    have HBV := hide ((unhide HB4).trans (hbel.mono (unhide HB4).size))
    simp only [e11]
    clear hD hallx e11 hrd hx hbel
    by_cases hle : o.left ≤ qty
    · have HK : Hid (redR l id qty = 10) := (unhide HRE).trans (if_pos hle)
      go_wp2_with fail
      go_ret
      exact ⟨ret_int (unhide HK).symm, unhide HBV⟩
    · have HK : Hid (redR l id qty = 0) := (unhide HRE).trans (if_neg hle)
      go_wp2_with fail
      go_ret
      exact ⟨ret_int (unhide HK).symm, unhide HBV⟩
  · rintro x A V i op ⟨f, rfl, hbel, hD⟩ hcl hx ho hxi hall
    clear hcl
    have HBV := hide hbel
    have HD := hide hD
    have z0 := range_below (unhide HX4).1 hbel (unhide HX4).2.2.1 0 _ rfl
    have z1 := range_below (unhide HX4).1 hbel (unhide HX4).2.2.1 1 _ rfl
    have u0 := range_below (unhide HX4).2.1 hbel (unhide HX4).2.2.2 0 _ rfl
    have u1 := range_below (unhide HX4).2.1 hbel (unhide HX4).2.2.2 1 _ rfl
    rw [Nat.zero_add] at z0 z1 u0 u1
    have HRD := hide (rdR_below (unhide HR) ((unhide HB4).trans (hbel.mono (unhide HB4).size)) (Nat.le_refl _))
    obtain ⟨-, -, -, y3, -⟩ := od_cells (range_below (unhide HCE) ((unhide HB4).trans (hbel.mono (unhide HB4).size)) hbw)
    match i, ho with
    | 0, ho =>
      simp only [List.getElem?_cons_zero, Option.some.injEq] at ho
      subst ho
      clear hall hD hbel
      rw [if_pos (by rfl)]
      unfold Oper.wp
      go_simp
      exact ⟨upd f 0 (.pointer (some ⟨w.heap.size + 1, 1, none⟩)), by simp [upd], rg_same (unhide HBV) (unhide HD) (by decide) rfl⟩
    | 1, ho =>
      simp only [List.getElem?_cons_succ, List.getElem?_cons_zero, Option.some.injEq] at ho
      subst ho
      have g : f 0 = .pointer (some ⟨w.heap.size + 1, 1, none⟩) := hD 0 (hall ⟨0, .data⟩ (by simp) rfl)
      clear hall hD hbel
      rw [if_pos (by rfl)]
      unfold Oper.wp
      go_simp
      exact ⟨upd f 1 (.int .i64 qty), by simp [upd, g], rg_same (unhide HBV) (unhide HD) (by decide) rfl⟩
    | 2, ho =>
      simp only [List.getElem?_cons_succ, List.getElem?_cons_zero, Option.some.injEq] at ho
      subst ho
      clear hall hD hbel
      rw [if_pos (by rfl)]
      unfold Oper.wp
      go_simp
      exact ⟨upd f 2 (.pointer (some ⟨w.heap.size, 1, none⟩)), by simp [upd], rg_same (unhide HBV) (unhide HD) (by decide) rfl⟩
    | 3, ho =>
      simp only [List.getElem?_cons_succ, List.getElem?_cons_zero, Option.some.injEq] at ho
      subst ho
      have g : f 2 = .pointer (some ⟨w.heap.size, 1, none⟩) := hD 2 (hall ⟨2, .data⟩ (by simp) rfl)
      clear hall hD hbel
      rw [if_pos (by rfl)]
      unfold Oper.wp
      go_simp
      exact ⟨upd f 3 (.slice (some ⟨b, off, none⟩) l.length cap), by simp [upd, g], rg_same (unhide HBV) (unhide HD) (by decide) rfl⟩
    | 4, ho =>
      simp only [List.getElem?_cons_succ, List.getElem?_cons_zero, Option.some.injEq] at ho
      subst ho
      clear hall hD hbel
      rw [if_pos (by rfl)]
      unfold Oper.wp
      go_simp
      exact ⟨upd f 4 (.agg #[.int .i64 next, .slice (some ⟨b, off, none⟩) l.length cap]), by simp [upd], rg_same (unhide HBV) (unhide HD) (by decide) rfl⟩
    | 5, ho =>
      simp only [List.getElem?_cons_succ, List.getElem?_cons_zero, Option.some.injEq] at ho
      subst ho
      clear hall hD hbel
      rw [if_pos (by rfl)]
      unfold Oper.wp
      go_simp
      exact ⟨upd f 5 (.pointer (some ⟨w.heap.size + 1, 0, none⟩)), by simp [upd], rg_same (unhide HBV) (unhide HD) (by decide) rfl⟩
    | 6, ho =>
      simp only [List.getElem?_cons_succ, List.getElem?_cons_zero, Option.some.injEq] at ho
      subst ho
      have g : f 5 = .pointer (some ⟨w.heap.size + 1, 0, none⟩) := hD 5 (hall ⟨5, .data⟩ (by simp) rfl)
      clear hall hD hbel
      rw [if_pos (by rfl)]
      unfold Oper.wp
      go_simp
      exact ⟨upd f 6 (.int .i64 id), by simp [upd, g], rg_same (unhide HBV) (unhide HD) (by decide) rfl⟩
    | 7, ho =>
      simp only [List.getElem?_cons_succ, List.getElem?_cons_zero, Option.some.injEq] at ho
      subst ho
      have g4 : f 4 = .agg #[.int .i64 next, .slice (some ⟨b, off, none⟩) l.length cap] := hD 4 (hall ⟨4, .data⟩ (by simp) rfl)
      have g6 : f 6 = .int .i64 id := hD 6 (hall ⟨6, .data⟩ (by simp) rfl)
      clear hall hD hbel
      rw [if_pos (by rfl)]
      unfold Oper.wp
      go_simp
      refine (placeOf_any next _ l id V (unhide HRD)).mono ?_
      rw [unhide HPL]
      rintro e w4 ⟨rfl, hb4⟩
      exact ⟨upd f 7 (.int .i64 k), by simp [upd, g4, g6], rgx_grow (unhide HBV) (unhide HD) hb4 (by decide) (fun j v h => h) rfl⟩
    | 8, ho =>
      simp only [List.getElem?_cons_succ, List.getElem?_cons_zero, Option.some.injEq] at ho
      subst ho
      have g3 : f 3 = .slice (some ⟨b, off, none⟩) l.length cap := hD 3 (hall ⟨3, .data⟩ (by simp) rfl)
      have g7 : f 7 = .int .i64 k := hD 7 (hall ⟨7, .data⟩ (by simp) rfl)
      clear hall hD hbel
      rw [if_pos (by rfl)]
      unfold Oper.wp
      go_simp
      exact ⟨upd f 8 (.pointer (some ⟨b, off + k * 6, none⟩)), by simp [upd, g3, g7], rg_same (unhide HBV) (unhide HD) (by decide) rfl⟩
    | 9, ho =>
      simp only [List.getElem?_cons_succ, List.getElem?_cons_zero, Option.some.injEq] at ho
      subst ho
      have g : f 8 = .pointer (some ⟨b, off + k * 6, none⟩) := hD 8 (hall ⟨8, .data⟩ (by simp) rfl)
      clear hall hD hbel
      rw [if_pos (by rfl)]
      unfold Oper.wp
      go_simp
      exact ⟨upd f 9 (.pointer (some ⟨b, off + k * 6 + 3, none⟩)), by simp [upd, g], rg_same (unhide HBV) (unhide HD) (by decide) rfl⟩
    | 10, ho =>
      simp only [List.getElem?_cons_succ, List.getElem?_cons_zero, Option.some.injEq] at ho
      subst ho
      have g : f 9 = .pointer (some ⟨b, off + k * 6 + 3, none⟩) := hD 9 (hall ⟨9, .data⟩ (by simp) rfl)
      clear hall hD hbel
      rw [if_pos (by rfl)]
      unfold Oper.wp
      go_simp
      exact ⟨upd f 10 (.int .i64 o.left), by simp [upd, g], rg_same (unhide HBV) (unhide HD) (by decide) rfl⟩
    | 11, ho =>
      simp only [List.getElem?_cons_succ, List.getElem?_cons_zero, Option.some.injEq] at ho
      subst ho
      have g1 : f 1 = .int .i64 qty := hD 1 (hall ⟨1, .data⟩ (by simp) rfl)
      have g : f 10 = .int .i64 o.left := hD 10 (hall ⟨10, .data⟩ (by simp) rfl)
      clear hall hD hbel
      rw [if_pos (by rfl)]
      unfold Oper.wp
      go_simp
      exact ⟨upd f 11 (.bool (decide (o.left ≤ qty))), by simp [upd, g, g1], rg_same (unhide HBV) (unhide HD) (by decide) rfl⟩
    | n + 12, ho => simp at ho
end Go.Proofs.Ytdfihaabhichdaa
