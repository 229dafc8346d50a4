/-
  The command of a line's words, as the model reads it: a new order, and all of it; proved by walking the function.
-/
import Derived.Test.YtjjopdkbdebfoaaDoorCmdS
namespace Go.Proofs.YtjjopdkbdebfoaaDoor
open Go.RowKit
set_option linter.unusedVariables false

theorem sd_ix {l : List UInt8} (h : sdW l ≠ 0) : idxW l sdWs 0 = sdW l := by
  unfold sdW at h ⊢
  by_cases hb : l = kBuy
  · subst hb; rfl
  · rw [if_neg hb] at h ⊢
    by_cases hs : l = kSel
    · subst hs; rfl
    · rw [if_neg hs] at h; exact absurd rfl h
theorem ty_ix (l : List UInt8) : (tyN l ≠ 0 → idxW l tyWs 0 = tyN l) ∧ (tyN l = 0 → idxW l tyWs 0 < 1) := by
  unfold tyN
  by_cases h0 : ([] : List UInt8) = l
  · subst h0; exact ⟨fun h => absurd rfl h, fun _ => by decide⟩
  by_cases h1 : ([108, 105, 109, 105, 116] : List UInt8) = l
  · subst h1; exact ⟨fun _ => rfl, fun h => by cases h⟩
  by_cases h2 : ([109, 97, 114, 107, 101, 116] : List UInt8) = l
  · subst h2; exact ⟨fun _ => rfl, fun h => by cases h⟩
  by_cases h3 : ([105, 111, 99] : List UInt8) = l
  · subst h3; exact ⟨fun _ => rfl, fun h => by cases h⟩
  by_cases h4 : ([102, 111, 107] : List UInt8) = l
  · subst h4; exact ⟨fun _ => rfl, fun h => by cases h⟩
  by_cases h5 : ([112, 111, 115, 116] : List UInt8) = l
  · subst h5; exact ⟨fun _ => rfl, fun h => by cases h⟩
  have e1 : tyF l 5 1 = 0 := by
    rw [tyF, if_neg (show ¬ (tyWAt 1).data.toList = l from h1), tyF, if_neg (show ¬ (tyWAt (1 + 1)).data.toList = l from h2), tyF, if_neg (show ¬ (tyWAt (1 + 1 + 1)).data.toList = l from h3), tyF, if_neg (show ¬ (tyWAt (1 + 1 + 1 + 1)).data.toList = l from h4), tyF, if_neg (show ¬ (tyWAt (1 + 1 + 1 + 1 + 1)).data.toList = l from h5), tyF]
  have e2 : idxW l tyWs 0 = -1 := by
    simp only [tyWs, idxW]
    rw [if_neg h0, if_neg h1, if_neg h2, if_neg h3, if_neg h4, if_neg h5]
  rw [e1, e2]
  exact ⟨fun h => absurd rfl h, fun _ => by decide⟩

set_option maxRecDepth 100000 in
set_option maxHeartbeats 3200000 in
/-- A new order. -/
theorem l08Cmd_new (ws : List ByteArray) (g cap : Nat) (w : World) (hcap : ws.length ≤ cap) (hcm : cap ≤ maxLen) (hg : g < w.heap.size) (hcell : ∀ i, i < ws.length → w.cell? ⟨g, i, none⟩ = some (.string (wB ws i))) (hpos : 0 < ws.length) (h4 : sdW (wL ws 0) ≠ 0) (hsz : ∀ i, (wB ws i).size ≤ 1048576) :
    Calls Tryd.prog 14 #[.slice (some ⟨g, 0, none⟩) ws.length cap] w fun e w' => CmEnd ws w e w' := by
  have hn1 : ¬ wL ws 0 = kEnd := fun h => by rw [h] at h4; exact h4 (by decide)
  have hn2 : ¬ wL ws 0 = kCan := fun h => by rw [h] at h4; exact h4 (by decide)
  have hn3 : ¬ wL ws 0 = kRed := fun h => by rw [h] at h4; exact h4 (by decide)
  have HK : Hid (cmK ws = newK ws) := by show _ = _; unfold cmK; rw [if_neg hn1, if_neg hn2, if_neg hn3, if_pos h4]
  have HC : Hid (cmC ws = newC ws) := by show _ = _; unfold cmC; rw [if_neg hn1, if_neg hn2, if_neg hn3]
  have e1 := str_no (s := wB ws 0) (l := [101, 110, 100]) hn1
  have e2 := str_no (s := wB ws 0) (l := [99, 97, 110, 99, 101, 108]) hn2
  have e3 := str_no (s := wB ws 0) (l := [114, 101, 100, 117, 99, 101]) hn3
  have hix := sd_ix h4
  have hsd : sdW (wL ws 0) = 1 ∨ sdW (wL ws 0) = 2 := by
    unfold sdW at h4 ⊢
    by_cases hb : wL ws 0 = kBuy
    · rw [if_pos hb]; exact .inl rfl
    · rw [if_neg hb] at h4 ⊢
      by_cases hs : wL ws 0 = kSel
      · rw [if_pos hs]; exact .inr rfl
      · rw [if_neg hs] at h4; exact absurd rfl h4
  have HW := hide (fun W v (h : RdR tx1 1 W v sdWs) => l08Word_any v sdWs (wB ws 0) W h)
  rw [show (wB ws 0).data.toList = wL ws 0 from rfl, hix] at HW
  have HR1 : Hid (RdR tx1 1 ((w.alloc (Obj.cells #[.int .i64 0, .int .i64 0, .int .i64 0, .int .i64 0, .int .i64 0, .int .i64 0, .float .f64 0, .string ⟨#[]⟩] 24)).alloc (Obj.cells #[.string ⟨#[]⟩, .string ⟨#[98, 117, 121]⟩, .string ⟨#[115, 101, 108, 108]⟩] 9)) (.slice (some ⟨w.heap.size + 1, 0, none⟩) 3 3) sdWs) := by
    have h := cells_madeT (w.alloc (Obj.cells #[.int .i64 0, .int .i64 0, .int .i64 0, .int .i64 0, .int .i64 0, .int .i64 0, .float .f64 0, .string ⟨#[]⟩] 24)) [.string ⟨#[]⟩, .string ⟨#[98, 117, 121]⟩, .string ⟨#[115, 101, 108, 108]⟩] 9
    rw [size_madeT] at h
    exact rd_lit (l := sdWs) (by rw [size_madeT, size_madeT]; omega) (by decide) h
  have hpos' : (0 : Int) < ws.length := by omega
  have x0 : (w.alloc (Obj.cells #[.int .i64 0, .int .i64 0, .int .i64 0, .int .i64 0, .int .i64 0, .int .i64 0, .float .f64 0, .string ⟨#[]⟩] 24)).cell? ⟨g, 0, none⟩ = some (.string (wB ws 0)) := by
    rw [World.cell?_alloc_old _ _ _ (Nat.ne_of_lt hg)]
    exact hcell 0 (by omega)
  have hsf := sfl
  have HNC : Hid (newC ws = ⟨1, sdW (wL ws 0), tyN (wL ws 1), if dayW ws = true then 1 else 0, nmV (wL ws 2), 0, prV (wL ws 3), if tagW ws = true then wB ws (dayP ws + 1) else ⟨#[]⟩⟩) := rfl
  have HNK : Hid (newK ws = (decide (4 ≤ ws.length) && decide (tyN (wL ws 1) ≠ 0) && nmOk (wL ws 2) && prK (wL ws 3) && (decide (ws.length = dayP ws) || tagW ws))) := rfl
  have HSD := hide hsd
  clear hn1 hn2 hn3 h4 hix
  generalize hsv : sdW (wL ws 0) = sd at *
  have hsd1 : ¬ (sd < 1) := by rcases hsd with h | h <;> omega
  clear hsd hsv
  by_cases hl : ws.length < 4
  · have hK : cmK ws = false := by rw [unhide HK, unhide HNK, decide_eq_false (by omega)]; rfl
    have HE : Hid (∀ w', Below w.heap.size w w' → CmEnd ws w (.returned (.tuple #[cmA zC, .bool false])) w') := fun w' hb => by unfold CmEnd; exact ⟨zC, by rw [hK], (fun h => by rw [hK] at h; cases h), hb⟩
    have hl' : (ws.length : Int) < 4 := by omega
    clear hK hcell HNC HNK HK HC hcap hcm
    generalize wB ws 0 = s0 at *
    go_enter Tryd.func14, Tryd.ntmps14
    go_wp2_with fail
    refine (unhide HW _ _ (unhide HR1)).mono ?_
    rintro e w1 ⟨rfl, rfl⟩
    go_wp2_with fail
    go_returns
    exact unhide HE _ (by go_grown)
  have hl' : ¬ ((ws.length : Int) < 4) := by omega
  have HT := hide (fun W v (h : RdR tx1 1 W v tyWs) => l08Word_any v tyWs (wB ws 1) W h)
  have HTI := hide (ty_ix (wL ws 1))
  have HTB := hide (tyF_bound (wL ws 1) 5 1)
  have HN := hide (fun W => l00Number_any (wB ws 2) W (hsz 2))
  have HP := hide (fun W => l08Price_any (wB ws 3) W (hsz 3))
  unfold nmE at HN
  unfold prE at HP
  rw [show (wB ws 1).data.toList = wL ws 1 from rfl] at HT
  rw [show (wB ws 2).data.toList = wL ws 2 from rfl] at HN
  rw [show (wB ws 3).data.toList = wL ws 3 from rfl] at HP
  have HTB : Hid (tyN (wL ws 1) = 0 ∨ 1 ≤ tyN (wL ws 1)) := (unhide HTB).imp id (fun h => h.1)
  generalize tyN (wL ws 1) = ty at *
  generalize idxW (wL ws 1) tyWs 0 = tix at *
  generalize nmV (wL ws 2) = v2 at *
  generalize nmOk (wL ws 2) = o2 at *
  generalize prV (wL ws 3) = v3 at *
  generalize prK (wL ws 3) = o3 at *
  -- FROM HERE
  have hsz2 : (((w.alloc (Obj.cells #[.int .i64 0, .int .i64 0, .int .i64 0, .int .i64 0, .int .i64 0, .int .i64 0, .float .f64 0, .string ⟨#[]⟩] 24)).alloc (Obj.cells #[.string ⟨#[]⟩, .string ⟨#[98, 117, 121]⟩, .string ⟨#[115, 101, 108, 108]⟩] 9)).alloc (Obj.cells #[.string ⟨#[]⟩, .string ⟨#[108, 105, 109, 105, 116]⟩, .string ⟨#[109, 97, 114, 107, 101, 116]⟩, .string ⟨#[105, 111, 99]⟩, .string ⟨#[102, 111, 107]⟩, .string ⟨#[112, 111, 115, 116]⟩] 9)).heap.size = w.heap.size + 3 := by simp
  have hold : ∀ i, i < ws.length → (((w.alloc (Obj.cells #[.int .i64 0, .int .i64 0, .int .i64 0, .int .i64 0, .int .i64 0, .int .i64 0, .float .f64 0, .string ⟨#[]⟩] 24)).alloc (Obj.cells #[.string ⟨#[]⟩, .string ⟨#[98, 117, 121]⟩, .string ⟨#[115, 101, 108, 108]⟩] 9)).alloc (Obj.cells #[.string ⟨#[]⟩, .string ⟨#[108, 105, 109, 105, 116]⟩, .string ⟨#[109, 97, 114, 107, 101, 116]⟩, .string ⟨#[105, 111, 99]⟩, .string ⟨#[102, 111, 107]⟩, .string ⟨#[112, 111, 115, 116]⟩] 9)).cell? ⟨g, i, none⟩ = some (.string (wB ws i)) := fun i hi => by
    rw [World.cell?_alloc_old _ _ _ (Nat.ne_of_lt (by simp; omega)), World.cell?_alloc_old _ _ _ (Nat.ne_of_lt (by simp; omega)), World.cell?_alloc_old _ _ _ (Nat.ne_of_lt hg)]
    exact hcell i hi
  have HR2 : Hid (RdR tx1 1 (((w.alloc (Obj.cells #[.int .i64 0, .int .i64 0, .int .i64 0, .int .i64 0, .int .i64 0, .int .i64 0, .float .f64 0, .string ⟨#[]⟩] 24)).alloc (Obj.cells #[.string ⟨#[]⟩, .string ⟨#[98, 117, 121]⟩, .string ⟨#[115, 101, 108, 108]⟩] 9)).alloc (Obj.cells #[.string ⟨#[]⟩, .string ⟨#[108, 105, 109, 105, 116]⟩, .string ⟨#[109, 97, 114, 107, 101, 116]⟩, .string ⟨#[105, 111, 99]⟩, .string ⟨#[102, 111, 107]⟩, .string ⟨#[112, 111, 115, 116]⟩] 9)) (.slice (some ⟨w.heap.size + 1 + 1, 0, none⟩) 6 6) tyWs) := by
    have h := cells_madeT ((w.alloc (Obj.cells #[.int .i64 0, .int .i64 0, .int .i64 0, .int .i64 0, .int .i64 0, .int .i64 0, .float .f64 0, .string ⟨#[]⟩] 24)).alloc (Obj.cells #[.string ⟨#[]⟩, .string ⟨#[98, 117, 121]⟩, .string ⟨#[115, 101, 108, 108]⟩] 9)) [.string ⟨#[]⟩, .string ⟨#[108, 105, 109, 105, 116]⟩, .string ⟨#[109, 97, 114, 107, 101, 116]⟩, .string ⟨#[105, 111, 99]⟩, .string ⟨#[102, 111, 107]⟩, .string ⟨#[112, 111, 115, 116]⟩] 9
    rw [size_madeT, size_madeT] at h
    exact rd_lit (l := tyWs) (by simp) (by decide) h
  have x1 := hold 1 (by omega)
  have x2 := hold 2 (by omega)
  have x3 := hold 3 (by omega)
  have hl4 : (4 : Int) ≤ ws.length := by omega
  by_cases hbad : ty = 0 ∨ o2 = false ∨ o3 = false
  · have hK : cmK ws = false := by
      rw [unhide HK, unhide HNK]
      rcases hbad with rfl | rfl | rfl
      · simp
      · simp
      · simp
    have HE : Hid (∀ w', Below w.heap.size w w' → CmEnd ws w (.returned (.tuple #[cmA zC, .bool false])) w') := fun w' hb => by unfold CmEnd; exact ⟨zC, by rw [hK], (fun h => by rw [hK] at h; cases h), hb⟩
    have hcs : (tix < 1) ∨ (¬ (tix < 1) ∧ o2 = false) ∨ (¬ (tix < 1) ∧ o2 = true ∧ o3 = false) := by
      by_cases h : tix < 1
      · exact .inl h
      · cases o2 with
        | false => exact .inr (.inl ⟨h, rfl⟩)
        | true =>
          refine .inr (.inr ⟨h, rfl, ?_⟩)
          rcases hbad with hb | hb | hb
          · exact absurd ((unhide HTI).2 hb) h
          · cases hb
          · exact hb
    clear hK HNC HNK HK HC hcap hcm hbad hold hcell HTI HTB
    generalize wB ws 0 = s0 at *
    generalize wB ws 1 = s1 at *
    generalize wB ws 2 = s2 at *
    generalize wB ws 3 = s3 at *
    rcases hcs with ht | ⟨ht, rfl⟩ | ⟨ht, rfl, rfl⟩
    all_goals go_enter Tryd.func14, Tryd.ntmps14
    all_goals go_wp2_with fail
    all_goals refine (unhide HW _ _ (unhide HR1)).mono ?_
    all_goals rintro e w1 ⟨rfl, rfl⟩
    all_goals go_wp2_with fail
    all_goals refine (unhide HT _ _ (unhide HR2)).mono ?_
    all_goals rintro e w1 ⟨rfl, rfl⟩
    all_goals go_wp2_with fail
    all_goals refine (unhide HN _).mono ?_
    all_goals rintro e w1 ⟨rfl, rfl⟩
    all_goals go_wp2_with fail
    all_goals refine (unhide HP _).mono ?_
    all_goals rintro e w1 ⟨rfl, rfl⟩
    all_goals go_wp2_with fail
    all_goals go_returns
    all_goals exact unhide HE _ (by go_grown)
  obtain ⟨hty, rfl, rfl⟩ : ty ≠ 0 ∧ o2 = true ∧ o3 = true := by
    refine ⟨fun h => hbad (.inl h), ?_, ?_⟩
    · cases o2 with
      | false => exact absurd (.inr (.inl rfl)) hbad
      | true => rfl
    · cases o3 with
      | false => exact absurd (.inr (.inr rfl)) hbad
      | true => rfl
  obtain rfl : ty = tix := ((unhide HTI).1 hty).symm
  have ht1 : ¬ (ty < 1) := by rcases unhide HTB with h | h <;> omega
  rw [decide_eq_true hty, decide_eq_true (show 4 ≤ ws.length by omega)] at HNK
  clear hbad hty HTI HTB
  by_cases hN : ws.length = 4
  · have hdw : dayW ws = false := by unfold dayW; rw [decide_eq_false (by omega)]; rfl
    have hdp : dayP ws = 4 := by unfold dayP; rw [hdw]; rfl
    have htg : tagW ws = false := by unfold tagW; rw [hdp, decide_eq_false (by omega)]; rfl
    have hK : cmK ws = true := by
      rw [unhide HK, unhide HNK]
      rw [hdp, decide_eq_true hN]; rfl
    have HE : Hid (∀ w', Below w.heap.size w w' → CmEnd ws w (.returned (.tuple #[cmA ⟨1, sd, ty, 0, v2, 0, v3, ⟨#[]⟩⟩, .bool true])) w') := fun w' hb => by
      unfold CmEnd; exact ⟨_, by rw [hK], (fun _ => by rw [unhide HC, unhide HNC]; rw [hdw, htg]; rfl), hb⟩
    clear hK HNC HNK HK HC hold hcell hsz hl4 hl hl' hpos hpos' HSD
    generalize wB ws 0 = s0 at *
    generalize wB ws 1 = s1 at *
    generalize wB ws 2 = s2 at *
    generalize wB ws 3 = s3 at *
    generalize ws.length = N at *
    obtain rfl : N = 4 := hN
    obtain ⟨k, rfl⟩ : ∃ k, cap = k + (4) := ⟨cap - (4), by omega⟩
    clear hcap hcm
    go_enter Tryd.func14, Tryd.ntmps14
    go_wp2_with fail
    refine (unhide HW _ _ (unhide HR1)).mono ?_
    rintro e w1 ⟨rfl, rfl⟩
    go_wp2_with fail
    refine (unhide HT _ _ (unhide HR2)).mono ?_
    rintro e w1 ⟨rfl, rfl⟩
    go_wp2_with fail
    refine (unhide HN _).mono ?_
    rintro e w1 ⟨rfl, rfl⟩
    go_wp2_with fail
    refine (unhide HP _).mono ?_
    rintro e w1 ⟨rfl, rfl⟩
    go_wp2_with fail
    all_goals go_returns
    all_goals exact unhide HE _ (by go_grown)
  have h5 : 5 ≤ ws.length := by omega
  by_cases hd : wL ws 4 = kDay
  · have ed := str_yes (s := wB ws 4) (l := [100, 97, 121]) hd
    have hdw : dayW ws = true := by unfold dayW; rw [decide_eq_true (by omega), hd]; rfl
    have hdp : dayP ws = 5 := by unfold dayP; rw [hdw]; rfl
    clear hN
    by_cases hN : ws.length = 5
    · have htg : tagW ws = false := by unfold tagW; rw [hdp, decide_eq_false (by omega)]; rfl
      have hK : cmK ws = true := by
        rw [unhide HK, unhide HNK]
        rw [hdp, decide_eq_true hN]; rfl
      have HE : Hid (∀ w', Below w.heap.size w w' → CmEnd ws w (.returned (.tuple #[cmA ⟨1, sd, ty, 1, v2, 0, v3, ⟨#[]⟩⟩, .bool true])) w') := fun w' hb => by
        unfold CmEnd; exact ⟨_, by rw [hK], (fun _ => by rw [unhide HC, unhide HNC]; rw [hdw, htg]; rfl), hb⟩
      have y4 : ((((w.alloc (Obj.cells #[.int .i64 0, .int .i64 0, .int .i64 0, .int .i64 0, .int .i64 0, .int .i64 0, .float .f64 0, .string ⟨#[]⟩] 24)).alloc (Obj.cells #[.string ⟨#[]⟩, .string ⟨#[98, 117, 121]⟩, .string ⟨#[115, 101, 108, 108]⟩] 9)).alloc (Obj.cells #[.string ⟨#[]⟩, .string ⟨#[108, 105, 109, 105, 116]⟩, .string ⟨#[109, 97, 114, 107, 101, 116]⟩, .string ⟨#[105, 111, 99]⟩, .string ⟨#[102, 111, 107]⟩, .string ⟨#[112, 111, 115, 116]⟩] 9)).alloc (Obj.cells #[.int .i64 1, .int .i64 sd, .int .i64 ty, .int .i64 0, .int .i64 v2, .int .i64 0, .float .f64 v3, .string ⟨#[]⟩] 24)).cell? ⟨g, 4, none⟩ = some (.string (wB ws 4)) := by
        rw [World.cell?_alloc_old _ _ _ (Nat.ne_of_lt (by show g < _; rw [hsz2]; omega))]
        exact hold 4 (by omega)
      clear hK HNC HNK HK HC hold hcell hsz hl4 hl hl' h5 hdw hdp htg hd hpos hpos' HSD
      generalize wB ws 0 = s0 at *
      generalize wB ws 1 = s1 at *
      generalize wB ws 2 = s2 at *
      generalize wB ws 3 = s3 at *
      generalize wB ws 4 = s4 at *
      generalize ws.length = N at *
      obtain rfl : N = 5 := hN
      obtain ⟨k, rfl⟩ : ∃ k, cap = k + (5) := ⟨cap - (5), by omega⟩
      clear hcap hcm
      go_enter Tryd.func14, Tryd.ntmps14
      go_wp2_with fail
      refine (unhide HW _ _ (unhide HR1)).mono ?_
      rintro e w1 ⟨rfl, rfl⟩
      go_wp2_with fail
      refine (unhide HT _ _ (unhide HR2)).mono ?_
      rintro e w1 ⟨rfl, rfl⟩
      go_wp2_with fail
      refine (unhide HN _).mono ?_
      rintro e w1 ⟨rfl, rfl⟩
      go_wp2_with fail
      refine (unhide HP _).mono ?_
      rintro e w1 ⟨rfl, rfl⟩
      go_wp2_with fail
      all_goals go_returns
      all_goals exact unhide HE _ (by go_grown)
    have h6 : 6 ≤ ws.length := by omega
    clear hN
    by_cases hN : ws.length = 7
    · by_cases ht : wL ws 5 = kTag
      · have et := str_yes (s := wB ws 5) (l := [116, 97, 103]) ht
        have htg : tagW ws = true := by unfold tagW; rw [hdp, decide_eq_true hN, ht]; rfl
        have hK : cmK ws = true := by
          rw [unhide HK, unhide HNK]
          rw [htg]; simp
        have HE : Hid (∀ w', Below w.heap.size w w' → CmEnd ws w (.returned (.tuple #[cmA ⟨1, sd, ty, 1, v2, 0, v3, wB ws 6⟩, .bool true])) w') := fun w' hb => by
          unfold CmEnd; exact ⟨_, by rw [hK], (fun _ => by rw [unhide HC, unhide HNC]; rw [hdw, htg, hdp]; rfl), hb⟩
        have y4 : ((((w.alloc (Obj.cells #[.int .i64 0, .int .i64 0, .int .i64 0, .int .i64 0, .int .i64 0, .int .i64 0, .float .f64 0, .string ⟨#[]⟩] 24)).alloc (Obj.cells #[.string ⟨#[]⟩, .string ⟨#[98, 117, 121]⟩, .string ⟨#[115, 101, 108, 108]⟩] 9)).alloc (Obj.cells #[.string ⟨#[]⟩, .string ⟨#[108, 105, 109, 105, 116]⟩, .string ⟨#[109, 97, 114, 107, 101, 116]⟩, .string ⟨#[105, 111, 99]⟩, .string ⟨#[102, 111, 107]⟩, .string ⟨#[112, 111, 115, 116]⟩] 9)).alloc (Obj.cells #[.int .i64 1, .int .i64 sd, .int .i64 ty, .int .i64 0, .int .i64 v2, .int .i64 0, .float .f64 v3, .string ⟨#[]⟩] 24)).cell? ⟨g, 4, none⟩ = some (.string (wB ws 4)) := by
          rw [World.cell?_alloc_old _ _ _ (Nat.ne_of_lt (by show g < _; rw [hsz2]; omega))]
          exact hold 4 (by omega)
        have y5 : ((((w.alloc (Obj.cells #[.int .i64 0, .int .i64 0, .int .i64 0, .int .i64 0, .int .i64 0, .int .i64 0, .float .f64 0, .string ⟨#[]⟩] 24)).alloc (Obj.cells #[.string ⟨#[]⟩, .string ⟨#[98, 117, 121]⟩, .string ⟨#[115, 101, 108, 108]⟩] 9)).alloc (Obj.cells #[.string ⟨#[]⟩, .string ⟨#[108, 105, 109, 105, 116]⟩, .string ⟨#[109, 97, 114, 107, 101, 116]⟩, .string ⟨#[105, 111, 99]⟩, .string ⟨#[102, 111, 107]⟩, .string ⟨#[112, 111, 115, 116]⟩] 9)).alloc (Obj.cells #[.int .i64 1, .int .i64 sd, .int .i64 ty, .int .i64 1, .int .i64 v2, .int .i64 0, .float .f64 v3, .string ⟨#[]⟩] 24)).cell? ⟨g, 5, none⟩ = some (.string (wB ws 5)) := by
          rw [World.cell?_alloc_old _ _ _ (Nat.ne_of_lt (by show g < _; rw [hsz2]; omega))]
          exact hold 5 (by omega)
        have y6 : ((((w.alloc (Obj.cells #[.int .i64 0, .int .i64 0, .int .i64 0, .int .i64 0, .int .i64 0, .int .i64 0, .float .f64 0, .string ⟨#[]⟩] 24)).alloc (Obj.cells #[.string ⟨#[]⟩, .string ⟨#[98, 117, 121]⟩, .string ⟨#[115, 101, 108, 108]⟩] 9)).alloc (Obj.cells #[.string ⟨#[]⟩, .string ⟨#[108, 105, 109, 105, 116]⟩, .string ⟨#[109, 97, 114, 107, 101, 116]⟩, .string ⟨#[105, 111, 99]⟩, .string ⟨#[102, 111, 107]⟩, .string ⟨#[112, 111, 115, 116]⟩] 9)).alloc (Obj.cells #[.int .i64 1, .int .i64 sd, .int .i64 ty, .int .i64 1, .int .i64 v2, .int .i64 0, .float .f64 v3, .string ⟨#[]⟩] 24)).cell? ⟨g, 6, none⟩ = some (.string (wB ws 6)) := by
          rw [World.cell?_alloc_old _ _ _ (Nat.ne_of_lt (by show g < _; rw [hsz2]; omega))]
          exact hold 6 (by omega)
        clear hK HNC HNK HK HC hold hcell hsz hl4 hl hl' h5 h6 hdw hdp htg hd ht hpos hpos' HSD
        generalize wB ws 0 = s0 at *
        generalize wB ws 1 = s1 at *
        generalize wB ws 2 = s2 at *
        generalize wB ws 3 = s3 at *
        generalize wB ws 4 = s4 at *
        generalize wB ws 5 = s5 at *
        generalize wB ws 6 = s6 at *
        generalize ws.length = N at *
        obtain rfl : N = 7 := hN
        obtain ⟨k, rfl⟩ : ∃ k, cap = k + (7) := ⟨cap - (7), by omega⟩
        clear hcap hcm
        go_enter Tryd.func14, Tryd.ntmps14
        go_wp2_with fail
        refine (unhide HW _ _ (unhide HR1)).mono ?_
        rintro e w1 ⟨rfl, rfl⟩
        go_wp2_with fail
        refine (unhide HT _ _ (unhide HR2)).mono ?_
        rintro e w1 ⟨rfl, rfl⟩
        go_wp2_with fail
        refine (unhide HN _).mono ?_
        rintro e w1 ⟨rfl, rfl⟩
        go_wp2_with fail
        refine (unhide HP _).mono ?_
        rintro e w1 ⟨rfl, rfl⟩
        go_wp2_with fail
        all_goals go_returns
        all_goals exact unhide HE _ (by go_grown)
      · have et := str_no (s := wB ws 5) (l := [116, 97, 103]) ht
        have htg : tagW ws = false := by unfold tagW; rw [hdp, decide_eq_true hN, show (wL ws 5 == kTag) = false by simpa using ht]; rfl
        have hK : cmK ws = false := by
          rw [unhide HK, unhide HNK]
          rw [htg, hdp, decide_eq_false (by omega)]; rfl
        have HE : Hid (∀ w' c, Below w.heap.size w w' → CmEnd ws w (.returned (.tuple #[cmA c, .bool false])) w') := fun w' c hb => by
          unfold CmEnd; exact ⟨c, by rw [hK], (fun h => by rw [hK] at h; cases h), hb⟩
        have y4 : ((((w.alloc (Obj.cells #[.int .i64 0, .int .i64 0, .int .i64 0, .int .i64 0, .int .i64 0, .int .i64 0, .float .f64 0, .string ⟨#[]⟩] 24)).alloc (Obj.cells #[.string ⟨#[]⟩, .string ⟨#[98, 117, 121]⟩, .string ⟨#[115, 101, 108, 108]⟩] 9)).alloc (Obj.cells #[.string ⟨#[]⟩, .string ⟨#[108, 105, 109, 105, 116]⟩, .string ⟨#[109, 97, 114, 107, 101, 116]⟩, .string ⟨#[105, 111, 99]⟩, .string ⟨#[102, 111, 107]⟩, .string ⟨#[112, 111, 115, 116]⟩] 9)).alloc (Obj.cells #[.int .i64 1, .int .i64 sd, .int .i64 ty, .int .i64 0, .int .i64 v2, .int .i64 0, .float .f64 v3, .string ⟨#[]⟩] 24)).cell? ⟨g, 4, none⟩ = some (.string (wB ws 4)) := by
          rw [World.cell?_alloc_old _ _ _ (Nat.ne_of_lt (by show g < _; rw [hsz2]; omega))]
          exact hold 4 (by omega)
        have y5 : ((((w.alloc (Obj.cells #[.int .i64 0, .int .i64 0, .int .i64 0, .int .i64 0, .int .i64 0, .int .i64 0, .float .f64 0, .string ⟨#[]⟩] 24)).alloc (Obj.cells #[.string ⟨#[]⟩, .string ⟨#[98, 117, 121]⟩, .string ⟨#[115, 101, 108, 108]⟩] 9)).alloc (Obj.cells #[.string ⟨#[]⟩, .string ⟨#[108, 105, 109, 105, 116]⟩, .string ⟨#[109, 97, 114, 107, 101, 116]⟩, .string ⟨#[105, 111, 99]⟩, .string ⟨#[102, 111, 107]⟩, .string ⟨#[112, 111, 115, 116]⟩] 9)).alloc (Obj.cells #[.int .i64 1, .int .i64 sd, .int .i64 ty, .int .i64 1, .int .i64 v2, .int .i64 0, .float .f64 v3, .string ⟨#[]⟩] 24)).cell? ⟨g, 5, none⟩ = some (.string (wB ws 5)) := by
          rw [World.cell?_alloc_old _ _ _ (Nat.ne_of_lt (by show g < _; rw [hsz2]; omega))]
          exact hold 5 (by omega)
        clear hK HNC HNK HK HC hold hcell hsz hl4 hl hl' h5 h6 hdw hdp htg hd ht hpos hpos' HSD
        generalize wB ws 0 = s0 at *
        generalize wB ws 1 = s1 at *
        generalize wB ws 2 = s2 at *
        generalize wB ws 3 = s3 at *
        generalize wB ws 4 = s4 at *
        generalize wB ws 5 = s5 at *
        generalize ws.length = N at *
        obtain rfl : N = 7 := hN
        obtain ⟨k, rfl⟩ : ∃ k, cap = k + (7) := ⟨cap - (7), by omega⟩
        clear hcap hcm
        go_enter Tryd.func14, Tryd.ntmps14
        go_wp2_with fail
        refine (unhide HW _ _ (unhide HR1)).mono ?_
        rintro e w1 ⟨rfl, rfl⟩
        go_wp2_with fail
        refine (unhide HT _ _ (unhide HR2)).mono ?_
        rintro e w1 ⟨rfl, rfl⟩
        go_wp2_with fail
        refine (unhide HN _).mono ?_
        rintro e w1 ⟨rfl, rfl⟩
        go_wp2_with fail
        refine (unhide HP _).mono ?_
        rintro e w1 ⟨rfl, rfl⟩
        go_wp2_with fail
        all_goals go_returns
        all_goals exact unhide HE _ ⟨_, _, _, _, _, _, _, _⟩ (by go_grown)
    · have htg : tagW ws = false := by unfold tagW; rw [hdp, decide_eq_false (by omega)]; rfl
      obtain ⟨m, hm⟩ : ∃ m, ws.length = m + 6 := ⟨ws.length - 6, by omega⟩
      have hm1 : ¬ m = 1 := by omega
      have hm2 : ((m : Int) + 1 == 2) = false := beq_eq_false_iff_ne.2 (by omega)
      have hm3 : ((m : Int) + 1 == 0) = false := beq_eq_false_iff_ne.2 (by omega)
      have hK : cmK ws = false := by
        rw [unhide HK, unhide HNK]
        rw [htg, hdp, decide_eq_false (by omega)]; rfl
      have HE : Hid (∀ w' c, Below w.heap.size w w' → CmEnd ws w (.returned (.tuple #[cmA c, .bool false])) w') := fun w' c hb => by
        unfold CmEnd; exact ⟨c, by rw [hK], (fun h => by rw [hK] at h; cases h), hb⟩
      have y4 : ((((w.alloc (Obj.cells #[.int .i64 0, .int .i64 0, .int .i64 0, .int .i64 0, .int .i64 0, .int .i64 0, .float .f64 0, .string ⟨#[]⟩] 24)).alloc (Obj.cells #[.string ⟨#[]⟩, .string ⟨#[98, 117, 121]⟩, .string ⟨#[115, 101, 108, 108]⟩] 9)).alloc (Obj.cells #[.string ⟨#[]⟩, .string ⟨#[108, 105, 109, 105, 116]⟩, .string ⟨#[109, 97, 114, 107, 101, 116]⟩, .string ⟨#[105, 111, 99]⟩, .string ⟨#[102, 111, 107]⟩, .string ⟨#[112, 111, 115, 116]⟩] 9)).alloc (Obj.cells #[.int .i64 1, .int .i64 sd, .int .i64 ty, .int .i64 0, .int .i64 v2, .int .i64 0, .float .f64 v3, .string ⟨#[]⟩] 24)).cell? ⟨g, 4, none⟩ = some (.string (wB ws 4)) := by
        rw [World.cell?_alloc_old _ _ _ (Nat.ne_of_lt (by show g < _; rw [hsz2]; omega))]
        exact hold 4 (by omega)
      clear hK HNC HNK HK HC hold hcell hsz hl4 hl hl' h5 h6 hdw hdp htg hd hN hpos hpos' HSD
      generalize wB ws 0 = s0 at *
      generalize wB ws 1 = s1 at *
      generalize wB ws 2 = s2 at *
      generalize wB ws 3 = s3 at *
      generalize wB ws 4 = s4 at *
      generalize ws.length = N at *
      obtain rfl : N = m + 6 := hm
      obtain ⟨k, rfl⟩ : ∃ k, cap = k + (m + 6) := ⟨cap - (m + 6), by omega⟩
      clear hcap hcm
      go_enter Tryd.func14, Tryd.ntmps14
      go_wp2_with fail
      refine (unhide HW _ _ (unhide HR1)).mono ?_
      rintro e w1 ⟨rfl, rfl⟩
      go_wp2_with fail
      refine (unhide HT _ _ (unhide HR2)).mono ?_
      rintro e w1 ⟨rfl, rfl⟩
      go_wp2_with fail
      refine (unhide HN _).mono ?_
      rintro e w1 ⟨rfl, rfl⟩
      go_wp2_with fail
      refine (unhide HP _).mono ?_
      rintro e w1 ⟨rfl, rfl⟩
      go_wp2_with fail
      all_goals go_returns
      all_goals exact unhide HE _ ⟨_, _, _, _, _, _, _, _⟩ (by go_grown)
  · have ed := str_no (s := wB ws 4) (l := [100, 97, 121]) hd
    have hdw : dayW ws = false := by unfold dayW; rw [show (wL ws 4 == kDay) = false by simpa using hd]; simp
    have hdp : dayP ws = 4 := by unfold dayP; rw [hdw]; rfl
    clear hN
    by_cases hN : ws.length = 6
    · by_cases ht : wL ws 4 = kTag
      · have et := str_yes (s := wB ws 4) (l := [116, 97, 103]) ht
        have htg : tagW ws = true := by unfold tagW; rw [hdp, decide_eq_true hN, ht]; rfl
        have hK : cmK ws = true := by
          rw [unhide HK, unhide HNK]
          rw [htg]; simp
        have HE : Hid (∀ w', Below w.heap.size w w' → CmEnd ws w (.returned (.tuple #[cmA ⟨1, sd, ty, 0, v2, 0, v3, wB ws 5⟩, .bool true])) w') := fun w' hb => by
          unfold CmEnd; exact ⟨_, by rw [hK], (fun _ => by rw [unhide HC, unhide HNC]; rw [hdw, htg, hdp]; rfl), hb⟩
        have y4 : ((((w.alloc (Obj.cells #[.int .i64 0, .int .i64 0, .int .i64 0, .int .i64 0, .int .i64 0, .int .i64 0, .float .f64 0, .string ⟨#[]⟩] 24)).alloc (Obj.cells #[.string ⟨#[]⟩, .string ⟨#[98, 117, 121]⟩, .string ⟨#[115, 101, 108, 108]⟩] 9)).alloc (Obj.cells #[.string ⟨#[]⟩, .string ⟨#[108, 105, 109, 105, 116]⟩, .string ⟨#[109, 97, 114, 107, 101, 116]⟩, .string ⟨#[105, 111, 99]⟩, .string ⟨#[102, 111, 107]⟩, .string ⟨#[112, 111, 115, 116]⟩] 9)).alloc (Obj.cells #[.int .i64 1, .int .i64 sd, .int .i64 ty, .int .i64 0, .int .i64 v2, .int .i64 0, .float .f64 v3, .string ⟨#[]⟩] 24)).cell? ⟨g, 4, none⟩ = some (.string (wB ws 4)) := by
          rw [World.cell?_alloc_old _ _ _ (Nat.ne_of_lt (by show g < _; rw [hsz2]; omega))]
          exact hold 4 (by omega)
        have y5 : ((((w.alloc (Obj.cells #[.int .i64 0, .int .i64 0, .int .i64 0, .int .i64 0, .int .i64 0, .int .i64 0, .float .f64 0, .string ⟨#[]⟩] 24)).alloc (Obj.cells #[.string ⟨#[]⟩, .string ⟨#[98, 117, 121]⟩, .string ⟨#[115, 101, 108, 108]⟩] 9)).alloc (Obj.cells #[.string ⟨#[]⟩, .string ⟨#[108, 105, 109, 105, 116]⟩, .string ⟨#[109, 97, 114, 107, 101, 116]⟩, .string ⟨#[105, 111, 99]⟩, .string ⟨#[102, 111, 107]⟩, .string ⟨#[112, 111, 115, 116]⟩] 9)).alloc (Obj.cells #[.int .i64 1, .int .i64 sd, .int .i64 ty, .int .i64 0, .int .i64 v2, .int .i64 0, .float .f64 v3, .string ⟨#[]⟩] 24)).cell? ⟨g, 5, none⟩ = some (.string (wB ws 5)) := by
          rw [World.cell?_alloc_old _ _ _ (Nat.ne_of_lt (by show g < _; rw [hsz2]; omega))]
          exact hold 5 (by omega)
        clear hK HNC HNK HK HC hold hcell hsz hl4 hl hl' h5 hdw hdp htg hd ht hpos hpos' HSD
        generalize wB ws 0 = s0 at *
        generalize wB ws 1 = s1 at *
        generalize wB ws 2 = s2 at *
        generalize wB ws 3 = s3 at *
        generalize wB ws 4 = s4 at *
        generalize wB ws 5 = s5 at *
        generalize ws.length = N at *
        obtain rfl : N = 6 := hN
        obtain ⟨k, rfl⟩ : ∃ k, cap = k + (6) := ⟨cap - (6), by omega⟩
        clear hcap hcm
        go_enter Tryd.func14, Tryd.ntmps14
        go_wp2_with fail
        refine (unhide HW _ _ (unhide HR1)).mono ?_
        rintro e w1 ⟨rfl, rfl⟩
        go_wp2_with fail
        refine (unhide HT _ _ (unhide HR2)).mono ?_
        rintro e w1 ⟨rfl, rfl⟩
        go_wp2_with fail
        refine (unhide HN _).mono ?_
        rintro e w1 ⟨rfl, rfl⟩
        go_wp2_with fail
        refine (unhide HP _).mono ?_
        rintro e w1 ⟨rfl, rfl⟩
        go_wp2_with fail
        all_goals go_returns
        all_goals exact unhide HE _ (by go_grown)
      · have et := str_no (s := wB ws 4) (l := [116, 97, 103]) ht
        have htg : tagW ws = false := by unfold tagW; rw [hdp, decide_eq_true hN, show (wL ws 4 == kTag) = false by simpa using ht]; rfl
        have hK : cmK ws = false := by
          rw [unhide HK, unhide HNK]
          rw [htg, hdp, decide_eq_false (by omega)]; rfl
        have HE : Hid (∀ w' c, Below w.heap.size w w' → CmEnd ws w (.returned (.tuple #[cmA c, .bool false])) w') := fun w' c hb => by
          unfold CmEnd; exact ⟨c, by rw [hK], (fun h => by rw [hK] at h; cases h), hb⟩
        have y4 : ((((w.alloc (Obj.cells #[.int .i64 0, .int .i64 0, .int .i64 0, .int .i64 0, .int .i64 0, .int .i64 0, .float .f64 0, .string ⟨#[]⟩] 24)).alloc (Obj.cells #[.string ⟨#[]⟩, .string ⟨#[98, 117, 121]⟩, .string ⟨#[115, 101, 108, 108]⟩] 9)).alloc (Obj.cells #[.string ⟨#[]⟩, .string ⟨#[108, 105, 109, 105, 116]⟩, .string ⟨#[109, 97, 114, 107, 101, 116]⟩, .string ⟨#[105, 111, 99]⟩, .string ⟨#[102, 111, 107]⟩, .string ⟨#[112, 111, 115, 116]⟩] 9)).alloc (Obj.cells #[.int .i64 1, .int .i64 sd, .int .i64 ty, .int .i64 0, .int .i64 v2, .int .i64 0, .float .f64 v3, .string ⟨#[]⟩] 24)).cell? ⟨g, 4, none⟩ = some (.string (wB ws 4)) := by
          rw [World.cell?_alloc_old _ _ _ (Nat.ne_of_lt (by show g < _; rw [hsz2]; omega))]
          exact hold 4 (by omega)
        clear hK HNC HNK HK HC hold hcell hsz hl4 hl hl' h5 hdw hdp htg hd ht hpos hpos' HSD
        generalize wB ws 0 = s0 at *
        generalize wB ws 1 = s1 at *
        generalize wB ws 2 = s2 at *
        generalize wB ws 3 = s3 at *
        generalize wB ws 4 = s4 at *
        generalize ws.length = N at *
        obtain rfl : N = 6 := hN
        obtain ⟨k, rfl⟩ : ∃ k, cap = k + (6) := ⟨cap - (6), by omega⟩
        clear hcap hcm
        go_enter Tryd.func14, Tryd.ntmps14
        go_wp2_with fail
        refine (unhide HW _ _ (unhide HR1)).mono ?_
        rintro e w1 ⟨rfl, rfl⟩
        go_wp2_with fail
        refine (unhide HT _ _ (unhide HR2)).mono ?_
        rintro e w1 ⟨rfl, rfl⟩
        go_wp2_with fail
        refine (unhide HN _).mono ?_
        rintro e w1 ⟨rfl, rfl⟩
        go_wp2_with fail
        refine (unhide HP _).mono ?_
        rintro e w1 ⟨rfl, rfl⟩
        go_wp2_with fail
        all_goals go_returns
        all_goals exact unhide HE _ ⟨_, _, _, _, _, _, _, _⟩ (by go_grown)
    · have htg : tagW ws = false := by unfold tagW; rw [hdp, decide_eq_false (by omega)]; rfl
      obtain ⟨m, hm⟩ : ∃ m, ws.length = m + 5 := ⟨ws.length - 5, by omega⟩
      have hm1 : ¬ m = 1 := by omega
      have hm2 : ((m : Int) + 1 == 2) = false := beq_eq_false_iff_ne.2 (by omega)
      have hm3 : ((m : Int) + 1 == 0) = false := beq_eq_false_iff_ne.2 (by omega)
      have hK : cmK ws = false := by
        rw [unhide HK, unhide HNK]
        rw [htg, hdp, decide_eq_false (by omega)]; rfl
      have HE : Hid (∀ w' c, Below w.heap.size w w' → CmEnd ws w (.returned (.tuple #[cmA c, .bool false])) w') := fun w' c hb => by
        unfold CmEnd; exact ⟨c, by rw [hK], (fun h => by rw [hK] at h; cases h), hb⟩
      have y4 : ((((w.alloc (Obj.cells #[.int .i64 0, .int .i64 0, .int .i64 0, .int .i64 0, .int .i64 0, .int .i64 0, .float .f64 0, .string ⟨#[]⟩] 24)).alloc (Obj.cells #[.string ⟨#[]⟩, .string ⟨#[98, 117, 121]⟩, .string ⟨#[115, 101, 108, 108]⟩] 9)).alloc (Obj.cells #[.string ⟨#[]⟩, .string ⟨#[108, 105, 109, 105, 116]⟩, .string ⟨#[109, 97, 114, 107, 101, 116]⟩, .string ⟨#[105, 111, 99]⟩, .string ⟨#[102, 111, 107]⟩, .string ⟨#[112, 111, 115, 116]⟩] 9)).alloc (Obj.cells #[.int .i64 1, .int .i64 sd, .int .i64 ty, .int .i64 0, .int .i64 v2, .int .i64 0, .float .f64 v3, .string ⟨#[]⟩] 24)).cell? ⟨g, 4, none⟩ = some (.string (wB ws 4)) := by
        rw [World.cell?_alloc_old _ _ _ (Nat.ne_of_lt (by show g < _; rw [hsz2]; omega))]
        exact hold 4 (by omega)
      clear hK HNC HNK HK HC hold hcell hsz hl4 hl hl' h5 hdw hdp htg hd hN hpos hpos' HSD
      generalize wB ws 0 = s0 at *
      generalize wB ws 1 = s1 at *
      generalize wB ws 2 = s2 at *
      generalize wB ws 3 = s3 at *
      generalize wB ws 4 = s4 at *
      generalize ws.length = N at *
      obtain rfl : N = m + 5 := hm
      obtain ⟨k, rfl⟩ : ∃ k, cap = k + (m + 5) := ⟨cap - (m + 5), by omega⟩
      clear hcap hcm
      go_enter Tryd.func14, Tryd.ntmps14
      go_wp2_with fail
      refine (unhide HW _ _ (unhide HR1)).mono ?_
      rintro e w1 ⟨rfl, rfl⟩
      go_wp2_with fail
      refine (unhide HT _ _ (unhide HR2)).mono ?_
      rintro e w1 ⟨rfl, rfl⟩
      go_wp2_with fail
      refine (unhide HN _).mono ?_
      rintro e w1 ⟨rfl, rfl⟩
      go_wp2_with fail
      refine (unhide HP _).mono ?_
      rintro e w1 ⟨rfl, rfl⟩
      go_wp2_with fail
      all_goals go_returns
      all_goals exact unhide HE _ ⟨_, _, _, _, _, _, _, _⟩ (by go_grown)
end Go.Proofs.YtjjopdkbdebfoaaDoor
