/-
  The reader of new orders, as the program has it: proved by walking the function.
-/
import Derived.Test.YtjjopdkbdebfoaaDoorCmdX
namespace Go.Proofs.YtjjopdkbdebfoaaDoor
open Go.RowKit
set_option linter.unusedVariables false

set_option maxRecDepth 100000 in
set_option maxHeartbeats 4000000 in
theorem newRd_any (ws : List ByteArray) (g cap b : Nat) (w : World) (hg : g < w.heap.size) (hbx : b < w.heap.size) (hcap : ws.length ≤ cap) (hcm : cap ≤ maxLen) (hcell : ∀ i, i < ws.length → w.cell? ⟨g, i, none⟩ = some (.string (wB ws i))) (hbc : w.cell? ⟨b, 0, none⟩ = some (.int .i64 (sdW (wL ws 0)))) (ht : TabT w) (hpos : 0 < ws.length) (h4 : sdW (wL ws 0) ≠ 0) (hsz : ∀ i, (wB ws i).size ≤ 1048576) (a0 : Option Addr) (c0 : Nat) (ha : 2 ≤ ws.length → a0 = some ⟨g, 1, none⟩ ∧ c0 = cap - 1) :
    Calls Tryd.prog 39 #[.slice a0 (ws.length - 1) c0, .pointer (some ⟨b, 0, none⟩)] w fun e w' => CmEnI ws w e w' := by
  have hn1 : ¬ wL ws 0 = kEnd := fun h => by rw [h] at h4; exact h4 (by decide)
  have hn2 : ¬ wL ws 0 = kCan := fun h => by rw [h] at h4; exact h4 (by decide)
  have hn3 : ¬ wL ws 0 = kRed := fun h => by rw [h] at h4; exact h4 (by decide)
  have HK : Hid (cmK ws = newK ws) := by show _ = _; unfold cmK; rw [if_neg hn1, if_neg hn2, if_neg hn3, if_pos h4]
  have HC : Hid (cmC ws = newC ws) := by show _ = _; unfold cmC; rw [if_neg hn1, if_neg hn2, if_neg hn3]
  have HNC : Hid (newC ws = ⟨1, sdW (wL ws 0), tyN (wL ws 1), if dayW ws = true then 1 else 0, nmV (wL ws 2), 0, prV (wL ws 3), if tagW ws = true then wB ws (dayP ws + 1) else ⟨#[]⟩⟩) := rfl
  have HNK : Hid (newK ws = (decide (4 ≤ ws.length) && decide (tyN (wL ws 1) ≠ 0) && nmOk (wL ws 2) && prK (wL ws 3) && (decide (ws.length = dayP ws) || tagW ws))) := rfl
  have hsf := sfl
  clear hn1 hn2 hn3 h4
  generalize sdW (wL ws 0) = sd at *
  by_cases hl : ws.length < 4
  · have hK : cmK ws = false := by rw [unhide HK, unhide HNK, decide_eq_false (by omega)]; rfl
    have HE : Hid (∀ w', Below w.heap.size w w' → CmEnI ws w (.returned (.tuple #[cmA zC, .bool false])) w') := fun w' hb => by unfold CmEnI; exact ⟨zC, by rw [hK], (fun h => by rw [hK] at h; cases h), hb⟩
    have hl' : ((ws.length - 1 : Nat) : Int) < 3 := by omega
    clear hK hcell HNC HNK HK HC hcap hcm ha
    generalize ws.length - 1 = n at *
    go_enter Tryd.func39, Tryd.ntmps39
    go_wp2_with fail
    go_returns
    exact unhide HE _ (by go_grown)
  obtain ⟨rfl, rfl⟩ := ha (by omega)
  have HTY := hide (fun W (h : TabT W) => typeOf_any (wB ws 1) W h)
  have HN := hide (fun W => numberOf_any (wB ws 2) W (hsz 2))
  have HP := hide (fun W => priceOf_any (wB ws 3) W (hsz 3))
  have HTB := hide ht
  unfold nmE at HN
  unfold prE at HP
  rw [show (wB ws 1).data.toList = wL ws 1 from rfl] at HTY
  rw [show (wB ws 2).data.toList = wL ws 2 from rfl] at HN
  rw [show (wB ws 3).data.toList = wL ws 3 from rfl] at HP
  generalize tyN (wL ws 1) = ty at *
  generalize decide (ty ≠ 0) = tb at *
  generalize nmV (wL ws 2) = v2 at *
  generalize nmOk (wL ws 2) = o2 at *
  generalize prV (wL ws 3) = v3 at *
  generalize prK (wL ws 3) = o3 at *
  have bx : (w.alloc (Obj.cells #[.int .i64 0, .int .i64 0, .int .i64 0, .int .i64 0, .int .i64 0, .int .i64 0, .float .f64 0, .string ⟨#[]⟩] 24)).cell? ⟨b, 0, none⟩ = some (.int .i64 sd) := by
    rw [World.cell?_alloc_old _ _ _ (Nat.ne_of_lt hbx)]
    exact hbc
  have hold : ∀ (cs : Array Value) i, i < ws.length → ((w.alloc (Obj.cells #[.int .i64 0, .int .i64 0, .int .i64 0, .int .i64 0, .int .i64 0, .int .i64 0, .float .f64 0, .string ⟨#[]⟩] 24)).alloc (Obj.cells cs 24)).cell? ⟨g, i, none⟩ = some (.string (wB ws i)) := fun cs i hi => by
    rw [World.cell?_alloc_old _ _ _ (Nat.ne_of_lt (by show g < _; rw [size_madeC]; omega)), World.cell?_alloc_old _ _ _ (Nat.ne_of_lt hg)]
    exact hcell i hi
  have HTW : Hid (∀ (cs : Array Value), TabT ((w.alloc (Obj.cells #[.int .i64 0, .int .i64 0, .int .i64 0, .int .i64 0, .int .i64 0, .int .i64 0, .float .f64 0, .string ⟨#[]⟩] 24)).alloc (Obj.cells cs 24))) := fun cs => ttab_below ht (((Below.refl _ _).alloc (Nat.le_refl _) _).alloc (by rw [size_madeC]; omega) _) (Nat.le_refl _)
  have x1 := fun cs => hold cs 1 (by omega)
  have x2 := fun cs => hold cs 2 (by omega)
  have x3 := fun cs => hold cs 3 (by omega)
  clear ht
  by_cases hN : ws.length = 4
  · have hdw : dayW ws = false := by unfold dayW; rw [decide_eq_false (by omega)]; rfl
    have hdp : dayP ws = 4 := by unfold dayP; rw [hdw]; rfl
    have htg : tagW ws = false := by unfold tagW; rw [hdp, decide_eq_false (by omega)]; rfl
    have hK : cmK ws = (tb && o2 && o3) := by
      rw [unhide HK, unhide HNK, decide_eq_true (show 4 ≤ ws.length by omega), hdp, decide_eq_true hN]
      simp
    have HE : Hid (∀ w' bb, Below w.heap.size w w' → bb = (tb && o2 && o3) → CmEnI ws w (.returned (.tuple #[cmA ⟨1, sd, ty, 0, v2, 0, v3, ⟨#[]⟩⟩, .bool bb])) w') := fun w' bb hb hbb => by
      unfold CmEnI; exact ⟨_, by rw [hK, hbb], (fun _ => by rw [unhide HC, unhide HNC]; rw [hdw, htg]; rfl), hb⟩
    clear hK HNC HNK HK HC hpos hl hdw hdp htg
    generalize ws.length = N at *
    obtain rfl : N = 4 := hN
    obtain ⟨k, rfl⟩ : ∃ k, cap = k + (4) := ⟨cap - (4), by omega⟩
    clear hcap hcm
    go_enter Tryd.func39, Tryd.ntmps39
    go_wp2_with fail
    refine (unhide HTY _ (unhide HTW _)).mono ?_
    rintro e w1 ⟨rfl, rfl⟩
    go_wp2_with fail
    refine (unhide HN _).mono ?_
    rintro e w1 ⟨rfl, rfl⟩
    go_wp2_with fail
    refine (unhide HP _).mono ?_
    rintro e w1 ⟨nd, rfl, hw1⟩
    obtain rfl : w1 = ((w.drewN nd).alloc (Obj.cells #[.int .i64 0, .int .i64 0, .int .i64 0, .int .i64 0, .int .i64 0, .int .i64 0, .float .f64 0, .string ⟨#[]⟩] 24)).alloc (Obj.cells #[.int .i64 1, .int .i64 sd, .int .i64 ty, .int .i64 0, .int .i64 v2, .int .i64 0, .float .f64 0, .string ⟨#[]⟩] 24) := hw1
    have hs5 : (w.drewN nd).heap.size = w.heap.size := rfl
    have HB5 := hide (drewN_below (B := w.heap.size) (w := w) nd)
    have hold5 : ∀ (cs : Array Value) i, i < 4 → (((w.drewN nd).alloc (Obj.cells #[.int .i64 0, .int .i64 0, .int .i64 0, .int .i64 0, .int .i64 0, .int .i64 0, .float .f64 0, .string ⟨#[]⟩] 24)).alloc (Obj.cells cs 24)).cell? ⟨g, i, none⟩ = some (.string (wB ws i)) := fun cs i hi => hold cs i hi
    clear hold5 hold x1 x2 x3 bx hcell hbc
    generalize w.drewN nd = w5 at *
    rw [← hs5]
    have HS5 := hide hs5
    clear hs5 hg hbx hsz HTW HTB HTY HN HP
    go_wp2_with fail
    all_goals go_returns
    all_goals exact unhide HE _ _ ((unhide HB5).trans ((by go_grown : Below w5.heap.size w5 _).mono (unhide HB5).size)) (by simp_all <;> omega)
  have h5 : 5 ≤ ws.length := by omega
  by_cases hd : wL ws 4 = kDay
  · have ed := str_yesI (s := wB ws 4) (l := [100, 97, 121]) hd
    have hdw : dayW ws = true := by unfold dayW; rw [decide_eq_true (by omega), hd]; rfl
    have hdp : dayP ws = 5 := by unfold dayP; rw [hdw]; rfl
    clear hN
    by_cases hN : ws.length = 5
    · have htg : tagW ws = false := by unfold tagW; rw [hdp, decide_eq_false (by omega)]; rfl
      have hK : cmK ws = (tb && o2 && o3) := by
        rw [unhide HK, unhide HNK, decide_eq_true (show 4 ≤ ws.length by omega), hdp, decide_eq_true hN]
        simp
      have HE : Hid (∀ w' bb, Below w.heap.size w w' → bb = (tb && o2 && o3) → CmEnI ws w (.returned (.tuple #[cmA ⟨1, sd, ty, 1, v2, 0, v3, ⟨#[]⟩⟩, .bool bb])) w') := fun w' bb hb hbb => by
        unfold CmEnI; exact ⟨_, by rw [hK, hbb], (fun _ => by rw [unhide HC, unhide HNC]; rw [hdw, htg]; rfl), hb⟩
      clear hK HNC HNK HK HC hpos hl hdw hdp htg hd h5
      generalize ws.length = N at *
      obtain rfl : N = 5 := hN
      obtain ⟨k, rfl⟩ : ∃ k, cap = k + (5) := ⟨cap - (5), by omega⟩
      clear hcap hcm
      go_enter Tryd.func39, Tryd.ntmps39
      go_wp2_with fail
      refine (unhide HTY _ (unhide HTW _)).mono ?_
      rintro e w1 ⟨rfl, rfl⟩
      go_wp2_with fail
      refine (unhide HN _).mono ?_
      rintro e w1 ⟨rfl, rfl⟩
      go_wp2_with fail
      refine (unhide HP _).mono ?_
      rintro e w1 ⟨nd, rfl, hw1⟩
      obtain rfl : w1 = ((w.drewN nd).alloc (Obj.cells #[.int .i64 0, .int .i64 0, .int .i64 0, .int .i64 0, .int .i64 0, .int .i64 0, .float .f64 0, .string ⟨#[]⟩] 24)).alloc (Obj.cells #[.int .i64 1, .int .i64 sd, .int .i64 ty, .int .i64 0, .int .i64 v2, .int .i64 0, .float .f64 0, .string ⟨#[]⟩] 24) := hw1
      have hs5 : (w.drewN nd).heap.size = w.heap.size := rfl
      have HB5 := hide (drewN_below (B := w.heap.size) (w := w) nd)
      have hold5 : ∀ (cs : Array Value) i, i < 5 → (((w.drewN nd).alloc (Obj.cells #[.int .i64 0, .int .i64 0, .int .i64 0, .int .i64 0, .int .i64 0, .int .i64 0, .float .f64 0, .string ⟨#[]⟩] 24)).alloc (Obj.cells cs 24)).cell? ⟨g, i, none⟩ = some (.string (wB ws i)) := fun cs i hi => hold cs i hi
      have y4 := fun cs => hold5 cs 4 (by omega)
      clear hold5 hold x1 x2 x3 bx hcell hbc
      generalize w.drewN nd = w5 at *
      rw [← hs5]
      have HS5 := hide hs5
      clear hs5 hg hbx hsz HTW HTB HTY HN HP
      go_wp2_with fail
      all_goals go_returns
      all_goals exact unhide HE _ _ ((unhide HB5).trans ((by go_grown : Below w5.heap.size w5 _).mono (unhide HB5).size)) (by simp_all <;> omega)
    have h6 : 6 ≤ ws.length := by omega
    clear hN
    by_cases ht : wL ws 5 = kTag
    · have et := str_yesI (s := wB ws 5) (l := [116, 97, 103]) ht
      by_cases hN : ws.length = 7
      · have htg : tagW ws = true := by unfold tagW; rw [hdp, decide_eq_true hN, ht]; rfl
        have hK : cmK ws = (tb && o2 && o3) := by
          rw [unhide HK, unhide HNK, decide_eq_true (show 4 ≤ ws.length by omega), htg]
          simp
        have HE : Hid (∀ w' bb, Below w.heap.size w w' → bb = (tb && o2 && o3) → CmEnI ws w (.returned (.tuple #[cmA ⟨1, sd, ty, 1, v2, 0, v3, wB ws 6⟩, .bool bb])) w') := fun w' bb hb hbb => by
          unfold CmEnI; exact ⟨_, by rw [hK, hbb], (fun _ => by rw [unhide HC, unhide HNC]; rw [hdw, htg, hdp]; rfl), hb⟩
        clear hK HNC HNK HK HC hpos hl hdw hdp htg hd h5 h6 ht
        generalize ws.length = N at *
        obtain rfl : N = 7 := hN
        obtain ⟨k, rfl⟩ : ∃ k, cap = k + (7) := ⟨cap - (7), by omega⟩
        clear hcap hcm
        go_enter Tryd.func39, Tryd.ntmps39
        go_wp2_with fail
        refine (unhide HTY _ (unhide HTW _)).mono ?_
        rintro e w1 ⟨rfl, rfl⟩
        go_wp2_with fail
        refine (unhide HN _).mono ?_
        rintro e w1 ⟨rfl, rfl⟩
        go_wp2_with fail
        refine (unhide HP _).mono ?_
        rintro e w1 ⟨nd, rfl, hw1⟩
        obtain rfl : w1 = ((w.drewN nd).alloc (Obj.cells #[.int .i64 0, .int .i64 0, .int .i64 0, .int .i64 0, .int .i64 0, .int .i64 0, .float .f64 0, .string ⟨#[]⟩] 24)).alloc (Obj.cells #[.int .i64 1, .int .i64 sd, .int .i64 ty, .int .i64 0, .int .i64 v2, .int .i64 0, .float .f64 0, .string ⟨#[]⟩] 24) := hw1
        have hs5 : (w.drewN nd).heap.size = w.heap.size := rfl
        have HB5 := hide (drewN_below (B := w.heap.size) (w := w) nd)
        have hold5 : ∀ (cs : Array Value) i, i < 7 → (((w.drewN nd).alloc (Obj.cells #[.int .i64 0, .int .i64 0, .int .i64 0, .int .i64 0, .int .i64 0, .int .i64 0, .float .f64 0, .string ⟨#[]⟩] 24)).alloc (Obj.cells cs 24)).cell? ⟨g, i, none⟩ = some (.string (wB ws i)) := fun cs i hi => hold cs i hi
        have y4 := fun cs => hold5 cs 4 (by omega)
        have y5 := fun cs => hold5 cs 5 (by omega)
        have y6 := fun cs => hold5 cs 6 (by omega)
        clear hold5 hold x1 x2 x3 bx hcell hbc
        generalize w.drewN nd = w5 at *
        rw [← hs5]
        have HS5 := hide hs5
        clear hs5 hg hbx hsz HTW HTB HTY HN HP
        go_wp2_with fail
        all_goals go_returns
        all_goals exact unhide HE _ _ ((unhide HB5).trans ((by go_grown : Below w5.heap.size w5 _).mono (unhide HB5).size)) (by simp_all <;> omega)
      · have htg : tagW ws = false := by unfold tagW; rw [hdp, decide_eq_false (by omega)]; rfl
        by_cases hM : ws.length = 6
        · have hK : cmK ws = false := by
            rw [unhide HK, unhide HNK, decide_eq_true (show 4 ≤ ws.length by omega), htg, hdp, decide_eq_false (show ¬ ws.length = 5 by omega)]
            simp
          have HE : Hid (∀ w' c bb, Below w.heap.size w w' → bb = false → CmEnI ws w (.returned (.tuple #[cmA c, .bool bb])) w') := fun w' c bb hb hbb => by
            unfold CmEnI; exact ⟨c, by rw [hK, hbb], (fun h => by rw [hK] at h; cases h), hb⟩
          clear hK HNC HNK HK HC hpos hl hdw hdp htg hd h5 h6 ht hN
          generalize ws.length = N at *
          obtain rfl : N = 6 := hM
          obtain ⟨k, rfl⟩ : ∃ k, cap = k + (6) := ⟨cap - (6), by omega⟩
          clear hcap hcm
          go_enter Tryd.func39, Tryd.ntmps39
          go_wp2_with fail
          refine (unhide HTY _ (unhide HTW _)).mono ?_
          rintro e w1 ⟨rfl, rfl⟩
          go_wp2_with fail
          refine (unhide HN _).mono ?_
          rintro e w1 ⟨rfl, rfl⟩
          go_wp2_with fail
          refine (unhide HP _).mono ?_
          rintro e w1 ⟨nd, rfl, hw1⟩
          obtain rfl : w1 = ((w.drewN nd).alloc (Obj.cells #[.int .i64 0, .int .i64 0, .int .i64 0, .int .i64 0, .int .i64 0, .int .i64 0, .float .f64 0, .string ⟨#[]⟩] 24)).alloc (Obj.cells #[.int .i64 1, .int .i64 sd, .int .i64 ty, .int .i64 0, .int .i64 v2, .int .i64 0, .float .f64 0, .string ⟨#[]⟩] 24) := hw1
          have hs5 : (w.drewN nd).heap.size = w.heap.size := rfl
          have HB5 := hide (drewN_below (B := w.heap.size) (w := w) nd)
          have hold5 : ∀ (cs : Array Value) i, i < 6 → (((w.drewN nd).alloc (Obj.cells #[.int .i64 0, .int .i64 0, .int .i64 0, .int .i64 0, .int .i64 0, .int .i64 0, .float .f64 0, .string ⟨#[]⟩] 24)).alloc (Obj.cells cs 24)).cell? ⟨g, i, none⟩ = some (.string (wB ws i)) := fun cs i hi => hold cs i hi
          have y4 := fun cs => hold5 cs 4 (by omega)
          have y5 := fun cs => hold5 cs 5 (by omega)
          clear hold5 hold x1 x2 x3 bx hcell hbc
          generalize w.drewN nd = w5 at *
          rw [← hs5]
          have HS5 := hide hs5
          clear hs5 hg hbx hsz HTW HTB HTY HN HP
          go_wp2_with fail
          all_goals go_returns
          all_goals exact unhide HE _ ⟨_, _, _, _, _, _, _, _⟩ _ ((unhide HB5).trans ((by go_grown : Below w5.heap.size w5 _).mono (unhide HB5).size)) (by simp_all <;> omega)
        · obtain ⟨m, hm⟩ : ∃ m, ws.length = m + 8 := ⟨ws.length - 8, by omega⟩
          have hK : cmK ws = false := by
            rw [unhide HK, unhide HNK, decide_eq_true (show 4 ≤ ws.length by omega), htg, hdp, decide_eq_false (show ¬ ws.length = 5 by omega)]
            simp
          have HE : Hid (∀ w' c bb, Below w.heap.size w w' → bb = false → CmEnI ws w (.returned (.tuple #[cmA c, .bool bb])) w') := fun w' c bb hb hbb => by
            unfold CmEnI; exact ⟨c, by rw [hK, hbb], (fun h => by rw [hK] at h; cases h), hb⟩
          clear hK HNC HNK HK HC hpos hl hdw hdp htg hd h5 h6 ht hN hM
          generalize ws.length = N at *
          obtain rfl : N = m + 8 := hm
          obtain ⟨k, rfl⟩ : ∃ k, cap = k + (m + 8) := ⟨cap - (m + 8), by omega⟩
          clear hcap hcm
          go_enter Tryd.func39, Tryd.ntmps39
          go_wp2_with fail
          refine (unhide HTY _ (unhide HTW _)).mono ?_
          rintro e w1 ⟨rfl, rfl⟩
          go_wp2_with fail
          refine (unhide HN _).mono ?_
          rintro e w1 ⟨rfl, rfl⟩
          go_wp2_with fail
          refine (unhide HP _).mono ?_
          rintro e w1 ⟨nd, rfl, hw1⟩
          obtain rfl : w1 = ((w.drewN nd).alloc (Obj.cells #[.int .i64 0, .int .i64 0, .int .i64 0, .int .i64 0, .int .i64 0, .int .i64 0, .float .f64 0, .string ⟨#[]⟩] 24)).alloc (Obj.cells #[.int .i64 1, .int .i64 sd, .int .i64 ty, .int .i64 0, .int .i64 v2, .int .i64 0, .float .f64 0, .string ⟨#[]⟩] 24) := hw1
          have hs5 : (w.drewN nd).heap.size = w.heap.size := rfl
          have HB5 := hide (drewN_below (B := w.heap.size) (w := w) nd)
          have hold5 : ∀ (cs : Array Value) i, i < m + 8 → (((w.drewN nd).alloc (Obj.cells #[.int .i64 0, .int .i64 0, .int .i64 0, .int .i64 0, .int .i64 0, .int .i64 0, .float .f64 0, .string ⟨#[]⟩] 24)).alloc (Obj.cells cs 24)).cell? ⟨g, i, none⟩ = some (.string (wB ws i)) := fun cs i hi => hold cs i hi
          have y4 := fun cs => hold5 cs 4 (by omega)
          have y5 := fun cs => hold5 cs 5 (by omega)
          have y6 := fun cs => hold5 cs 6 (by omega)
          clear hold5 hold x1 x2 x3 bx hcell hbc
          generalize w.drewN nd = w5 at *
          rw [← hs5]
          have HS5 := hide hs5
          clear hs5 hg hbx hsz HTW HTB HTY HN HP
          go_wp2_with fail
          all_goals go_returns
          all_goals exact unhide HE _ ⟨_, _, _, _, _, _, _, _⟩ _ ((unhide HB5).trans ((by go_grown : Below w5.heap.size w5 _).mono (unhide HB5).size)) (by simp_all <;> omega)
    · have et := str_noI (s := wB ws 5) (l := [116, 97, 103]) ht
      have htg : tagW ws = false := by unfold tagW; rw [hdp, show (wL ws 5 == kTag) = false by simpa using ht]; simp
      obtain ⟨m, hm⟩ : ∃ m, ws.length = m + 6 := ⟨ws.length - 6, by omega⟩
      rcases Nat.eq_zero_or_pos m with rfl | hm0
      · have hK : cmK ws = false := by
          rw [unhide HK, unhide HNK, decide_eq_true (show 4 ≤ ws.length by omega), htg, hdp, decide_eq_false (show ¬ ws.length = 5 by omega)]
          simp
        have HE : Hid (∀ w' c bb, Below w.heap.size w w' → bb = false → CmEnI ws w (.returned (.tuple #[cmA c, .bool bb])) w') := fun w' c bb hb hbb => by
          unfold CmEnI; exact ⟨c, by rw [hK, hbb], (fun h => by rw [hK] at h; cases h), hb⟩
        clear hK HNC HNK HK HC hpos hl hdw hdp htg hd h5 h6 ht
        generalize ws.length = N at *
        obtain rfl : N = 6 := hm
        obtain ⟨k, rfl⟩ : ∃ k, cap = k + (6) := ⟨cap - (6), by omega⟩
        clear hcap hcm
        go_enter Tryd.func39, Tryd.ntmps39
        go_wp2_with fail
        refine (unhide HTY _ (unhide HTW _)).mono ?_
        rintro e w1 ⟨rfl, rfl⟩
        go_wp2_with fail
        refine (unhide HN _).mono ?_
        rintro e w1 ⟨rfl, rfl⟩
        go_wp2_with fail
        refine (unhide HP _).mono ?_
        rintro e w1 ⟨nd, rfl, hw1⟩
        obtain rfl : w1 = ((w.drewN nd).alloc (Obj.cells #[.int .i64 0, .int .i64 0, .int .i64 0, .int .i64 0, .int .i64 0, .int .i64 0, .float .f64 0, .string ⟨#[]⟩] 24)).alloc (Obj.cells #[.int .i64 1, .int .i64 sd, .int .i64 ty, .int .i64 0, .int .i64 v2, .int .i64 0, .float .f64 0, .string ⟨#[]⟩] 24) := hw1
        have hs5 : (w.drewN nd).heap.size = w.heap.size := rfl
        have HB5 := hide (drewN_below (B := w.heap.size) (w := w) nd)
        have hold5 : ∀ (cs : Array Value) i, i < 6 → (((w.drewN nd).alloc (Obj.cells #[.int .i64 0, .int .i64 0, .int .i64 0, .int .i64 0, .int .i64 0, .int .i64 0, .float .f64 0, .string ⟨#[]⟩] 24)).alloc (Obj.cells cs 24)).cell? ⟨g, i, none⟩ = some (.string (wB ws i)) := fun cs i hi => hold cs i hi
        have y4 := fun cs => hold5 cs 4 (by omega)
        have y5 := fun cs => hold5 cs 5 (by omega)
        clear hold5 hold x1 x2 x3 bx hcell hbc
        generalize w.drewN nd = w5 at *
        rw [← hs5]
        have HS5 := hide hs5
        clear hs5 hg hbx hsz HTW HTB HTY HN HP
        go_wp2_with fail
        all_goals go_returns
        all_goals exact unhide HE _ ⟨_, _, _, _, _, _, _, _⟩ _ ((unhide HB5).trans ((by go_grown : Below w5.heap.size w5 _).mono (unhide HB5).size)) (by simp_all <;> omega)
      · obtain ⟨m, rfl⟩ : ∃ j, m = j + 1 := ⟨m - 1, by omega⟩
        have hK : cmK ws = false := by
          rw [unhide HK, unhide HNK, decide_eq_true (show 4 ≤ ws.length by omega), htg, hdp, decide_eq_false (show ¬ ws.length = 5 by omega)]
          simp
        have HE : Hid (∀ w' c bb, Below w.heap.size w w' → bb = false → CmEnI ws w (.returned (.tuple #[cmA c, .bool bb])) w') := fun w' c bb hb hbb => by
          unfold CmEnI; exact ⟨c, by rw [hK, hbb], (fun h => by rw [hK] at h; cases h), hb⟩
        clear hK HNC HNK HK HC hpos hl hdw hdp htg hd h5 h6 ht
        generalize ws.length = N at *
        obtain rfl : N = m + 1 + 6 := hm
        obtain ⟨k, rfl⟩ : ∃ k, cap = k + (m + 1 + 6) := ⟨cap - (m + 1 + 6), by omega⟩
        clear hcap hcm
        go_enter Tryd.func39, Tryd.ntmps39
        go_wp2_with fail
        refine (unhide HTY _ (unhide HTW _)).mono ?_
        rintro e w1 ⟨rfl, rfl⟩
        go_wp2_with fail
        refine (unhide HN _).mono ?_
        rintro e w1 ⟨rfl, rfl⟩
        go_wp2_with fail
        refine (unhide HP _).mono ?_
        rintro e w1 ⟨nd, rfl, hw1⟩
        obtain rfl : w1 = ((w.drewN nd).alloc (Obj.cells #[.int .i64 0, .int .i64 0, .int .i64 0, .int .i64 0, .int .i64 0, .int .i64 0, .float .f64 0, .string ⟨#[]⟩] 24)).alloc (Obj.cells #[.int .i64 1, .int .i64 sd, .int .i64 ty, .int .i64 0, .int .i64 v2, .int .i64 0, .float .f64 0, .string ⟨#[]⟩] 24) := hw1
        have hs5 : (w.drewN nd).heap.size = w.heap.size := rfl
        have HB5 := hide (drewN_below (B := w.heap.size) (w := w) nd)
        have hold5 : ∀ (cs : Array Value) i, i < m + 1 + 6 → (((w.drewN nd).alloc (Obj.cells #[.int .i64 0, .int .i64 0, .int .i64 0, .int .i64 0, .int .i64 0, .int .i64 0, .float .f64 0, .string ⟨#[]⟩] 24)).alloc (Obj.cells cs 24)).cell? ⟨g, i, none⟩ = some (.string (wB ws i)) := fun cs i hi => hold cs i hi
        have y4 := fun cs => hold5 cs 4 (by omega)
        have y5 := fun cs => hold5 cs 5 (by omega)
        clear hold5 hold x1 x2 x3 bx hcell hbc
        generalize w.drewN nd = w5 at *
        rw [← hs5]
        have HS5 := hide hs5
        clear hs5 hg hbx hsz HTW HTB HTY HN HP
        go_wp2_with fail
        all_goals go_returns
        all_goals exact unhide HE _ ⟨_, _, _, _, _, _, _, _⟩ _ ((unhide HB5).trans ((by go_grown : Below w5.heap.size w5 _).mono (unhide HB5).size)) (by simp_all <;> omega)
  · have ed := str_noI (s := wB ws 4) (l := [100, 97, 121]) hd
    have hdw : dayW ws = false := by unfold dayW; rw [show (wL ws 4 == kDay) = false by simpa using hd]; simp
    have hdp : dayP ws = 4 := by unfold dayP; rw [hdw]; rfl
    clear hN
    by_cases ht : wL ws 4 = kTag
    · have et := str_yesI (s := wB ws 4) (l := [116, 97, 103]) ht
      by_cases hN : ws.length = 6
      · have htg : tagW ws = true := by unfold tagW; rw [hdp, decide_eq_true hN, ht]; rfl
        have hK : cmK ws = (tb && o2 && o3) := by
          rw [unhide HK, unhide HNK, decide_eq_true (show 4 ≤ ws.length by omega), htg]
          simp
        have HE : Hid (∀ w' bb, Below w.heap.size w w' → bb = (tb && o2 && o3) → CmEnI ws w (.returned (.tuple #[cmA ⟨1, sd, ty, 0, v2, 0, v3, wB ws 5⟩, .bool bb])) w') := fun w' bb hb hbb => by
          unfold CmEnI; exact ⟨_, by rw [hK, hbb], (fun _ => by rw [unhide HC, unhide HNC]; rw [hdw, htg, hdp]; rfl), hb⟩
        clear hK HNC HNK HK HC hpos hl hdw hdp htg hd h5 ht
        generalize ws.length = N at *
        obtain rfl : N = 6 := hN
        obtain ⟨k, rfl⟩ : ∃ k, cap = k + (6) := ⟨cap - (6), by omega⟩
        clear hcap hcm
        go_enter Tryd.func39, Tryd.ntmps39
        go_wp2_with fail
        refine (unhide HTY _ (unhide HTW _)).mono ?_
        rintro e w1 ⟨rfl, rfl⟩
        go_wp2_with fail
        refine (unhide HN _).mono ?_
        rintro e w1 ⟨rfl, rfl⟩
        go_wp2_with fail
        refine (unhide HP _).mono ?_
        rintro e w1 ⟨nd, rfl, hw1⟩
        obtain rfl : w1 = ((w.drewN nd).alloc (Obj.cells #[.int .i64 0, .int .i64 0, .int .i64 0, .int .i64 0, .int .i64 0, .int .i64 0, .float .f64 0, .string ⟨#[]⟩] 24)).alloc (Obj.cells #[.int .i64 1, .int .i64 sd, .int .i64 ty, .int .i64 0, .int .i64 v2, .int .i64 0, .float .f64 0, .string ⟨#[]⟩] 24) := hw1
        have hs5 : (w.drewN nd).heap.size = w.heap.size := rfl
        have HB5 := hide (drewN_below (B := w.heap.size) (w := w) nd)
        have hold5 : ∀ (cs : Array Value) i, i < 6 → (((w.drewN nd).alloc (Obj.cells #[.int .i64 0, .int .i64 0, .int .i64 0, .int .i64 0, .int .i64 0, .int .i64 0, .float .f64 0, .string ⟨#[]⟩] 24)).alloc (Obj.cells cs 24)).cell? ⟨g, i, none⟩ = some (.string (wB ws i)) := fun cs i hi => hold cs i hi
        have y4 := fun cs => hold5 cs 4 (by omega)
        have y5 := fun cs => hold5 cs 5 (by omega)
        clear hold5 hold x1 x2 x3 bx hcell hbc
        generalize w.drewN nd = w5 at *
        rw [← hs5]
        have HS5 := hide hs5
        clear hs5 hg hbx hsz HTW HTB HTY HN HP
        go_wp2_with fail
        all_goals go_returns
        all_goals exact unhide HE _ _ ((unhide HB5).trans ((by go_grown : Below w5.heap.size w5 _).mono (unhide HB5).size)) (by simp_all <;> omega)
      · have htg : tagW ws = false := by unfold tagW; rw [hdp, decide_eq_false (by omega)]; rfl
        by_cases hM : ws.length = 5
        · have hK : cmK ws = false := by
            rw [unhide HK, unhide HNK, decide_eq_true (show 4 ≤ ws.length by omega), htg, hdp, decide_eq_false (show ¬ ws.length = 4 by omega)]
            simp
          have HE : Hid (∀ w' c bb, Below w.heap.size w w' → bb = false → CmEnI ws w (.returned (.tuple #[cmA c, .bool bb])) w') := fun w' c bb hb hbb => by
            unfold CmEnI; exact ⟨c, by rw [hK, hbb], (fun h => by rw [hK] at h; cases h), hb⟩
          clear hK HNC HNK HK HC hpos hl hdw hdp htg hd h5 ht hN
          generalize ws.length = N at *
          obtain rfl : N = 5 := hM
          obtain ⟨k, rfl⟩ : ∃ k, cap = k + (5) := ⟨cap - (5), by omega⟩
          clear hcap hcm
          go_enter Tryd.func39, Tryd.ntmps39
          go_wp2_with fail
          refine (unhide HTY _ (unhide HTW _)).mono ?_
          rintro e w1 ⟨rfl, rfl⟩
          go_wp2_with fail
          refine (unhide HN _).mono ?_
          rintro e w1 ⟨rfl, rfl⟩
          go_wp2_with fail
          refine (unhide HP _).mono ?_
          rintro e w1 ⟨nd, rfl, hw1⟩
          obtain rfl : w1 = ((w.drewN nd).alloc (Obj.cells #[.int .i64 0, .int .i64 0, .int .i64 0, .int .i64 0, .int .i64 0, .int .i64 0, .float .f64 0, .string ⟨#[]⟩] 24)).alloc (Obj.cells #[.int .i64 1, .int .i64 sd, .int .i64 ty, .int .i64 0, .int .i64 v2, .int .i64 0, .float .f64 0, .string ⟨#[]⟩] 24) := hw1
          have hs5 : (w.drewN nd).heap.size = w.heap.size := rfl
          have HB5 := hide (drewN_below (B := w.heap.size) (w := w) nd)
          have hold5 : ∀ (cs : Array Value) i, i < 5 → (((w.drewN nd).alloc (Obj.cells #[.int .i64 0, .int .i64 0, .int .i64 0, .int .i64 0, .int .i64 0, .int .i64 0, .float .f64 0, .string ⟨#[]⟩] 24)).alloc (Obj.cells cs 24)).cell? ⟨g, i, none⟩ = some (.string (wB ws i)) := fun cs i hi => hold cs i hi
          have y4 := fun cs => hold5 cs 4 (by omega)
          clear hold5 hold x1 x2 x3 bx hcell hbc
          generalize w.drewN nd = w5 at *
          rw [← hs5]
          have HS5 := hide hs5
          clear hs5 hg hbx hsz HTW HTB HTY HN HP
          go_wp2_with fail
          all_goals go_returns
          all_goals exact unhide HE _ ⟨_, _, _, _, _, _, _, _⟩ _ ((unhide HB5).trans ((by go_grown : Below w5.heap.size w5 _).mono (unhide HB5).size)) (by simp_all <;> omega)
        · obtain ⟨m, hm⟩ : ∃ m, ws.length = m + 7 := ⟨ws.length - 7, by omega⟩
          have hK : cmK ws = false := by
            rw [unhide HK, unhide HNK, decide_eq_true (show 4 ≤ ws.length by omega), htg, hdp, decide_eq_false (show ¬ ws.length = 4 by omega)]
            simp
          have HE : Hid (∀ w' c bb, Below w.heap.size w w' → bb = false → CmEnI ws w (.returned (.tuple #[cmA c, .bool bb])) w') := fun w' c bb hb hbb => by
            unfold CmEnI; exact ⟨c, by rw [hK, hbb], (fun h => by rw [hK] at h; cases h), hb⟩
          clear hK HNC HNK HK HC hpos hl hdw hdp htg hd h5 ht hN hM
          generalize ws.length = N at *
          obtain rfl : N = m + 7 := hm
          obtain ⟨k, rfl⟩ : ∃ k, cap = k + (m + 7) := ⟨cap - (m + 7), by omega⟩
          clear hcap hcm
          go_enter Tryd.func39, Tryd.ntmps39
          go_wp2_with fail
          refine (unhide HTY _ (unhide HTW _)).mono ?_
          rintro e w1 ⟨rfl, rfl⟩
          go_wp2_with fail
          refine (unhide HN _).mono ?_
          rintro e w1 ⟨rfl, rfl⟩
          go_wp2_with fail
          refine (unhide HP _).mono ?_
          rintro e w1 ⟨nd, rfl, hw1⟩
          obtain rfl : w1 = ((w.drewN nd).alloc (Obj.cells #[.int .i64 0, .int .i64 0, .int .i64 0, .int .i64 0, .int .i64 0, .int .i64 0, .float .f64 0, .string ⟨#[]⟩] 24)).alloc (Obj.cells #[.int .i64 1, .int .i64 sd, .int .i64 ty, .int .i64 0, .int .i64 v2, .int .i64 0, .float .f64 0, .string ⟨#[]⟩] 24) := hw1
          have hs5 : (w.drewN nd).heap.size = w.heap.size := rfl
          have HB5 := hide (drewN_below (B := w.heap.size) (w := w) nd)
          have hold5 : ∀ (cs : Array Value) i, i < m + 7 → (((w.drewN nd).alloc (Obj.cells #[.int .i64 0, .int .i64 0, .int .i64 0, .int .i64 0, .int .i64 0, .int .i64 0, .float .f64 0, .string ⟨#[]⟩] 24)).alloc (Obj.cells cs 24)).cell? ⟨g, i, none⟩ = some (.string (wB ws i)) := fun cs i hi => hold cs i hi
          have y4 := fun cs => hold5 cs 4 (by omega)
          have y5 := fun cs => hold5 cs 5 (by omega)
          clear hold5 hold x1 x2 x3 bx hcell hbc
          generalize w.drewN nd = w5 at *
          rw [← hs5]
          have HS5 := hide hs5
          clear hs5 hg hbx hsz HTW HTB HTY HN HP
          go_wp2_with fail
          all_goals go_returns
          all_goals exact unhide HE _ ⟨_, _, _, _, _, _, _, _⟩ _ ((unhide HB5).trans ((by go_grown : Below w5.heap.size w5 _).mono (unhide HB5).size)) (by simp_all <;> omega)
    · have et := str_noI (s := wB ws 4) (l := [116, 97, 103]) ht
      have htg : tagW ws = false := by unfold tagW; rw [hdp, show (wL ws 4 == kTag) = false by simpa using ht]; simp
      obtain ⟨m, hm⟩ : ∃ m, ws.length = m + 5 := ⟨ws.length - 5, by omega⟩
      rcases Nat.eq_zero_or_pos m with rfl | hm0
      · have hK : cmK ws = false := by
          rw [unhide HK, unhide HNK, decide_eq_true (show 4 ≤ ws.length by omega), htg, hdp, decide_eq_false (show ¬ ws.length = 4 by omega)]
          simp
        have HE : Hid (∀ w' c bb, Below w.heap.size w w' → bb = false → CmEnI ws w (.returned (.tuple #[cmA c, .bool bb])) w') := fun w' c bb hb hbb => by
          unfold CmEnI; exact ⟨c, by rw [hK, hbb], (fun h => by rw [hK] at h; cases h), hb⟩
        clear hK HNC HNK HK HC hpos hl hdw hdp htg hd h5 ht
        generalize ws.length = N at *
        obtain rfl : N = 5 := hm
        obtain ⟨k, rfl⟩ : ∃ k, cap = k + (5) := ⟨cap - (5), by omega⟩
        clear hcap hcm
        go_enter Tryd.func39, Tryd.ntmps39
        go_wp2_with fail
        refine (unhide HTY _ (unhide HTW _)).mono ?_
        rintro e w1 ⟨rfl, rfl⟩
        go_wp2_with fail
        refine (unhide HN _).mono ?_
        rintro e w1 ⟨rfl, rfl⟩
        go_wp2_with fail
        refine (unhide HP _).mono ?_
        rintro e w1 ⟨nd, rfl, hw1⟩
        obtain rfl : w1 = ((w.drewN nd).alloc (Obj.cells #[.int .i64 0, .int .i64 0, .int .i64 0, .int .i64 0, .int .i64 0, .int .i64 0, .float .f64 0, .string ⟨#[]⟩] 24)).alloc (Obj.cells #[.int .i64 1, .int .i64 sd, .int .i64 ty, .int .i64 0, .int .i64 v2, .int .i64 0, .float .f64 0, .string ⟨#[]⟩] 24) := hw1
        have hs5 : (w.drewN nd).heap.size = w.heap.size := rfl
        have HB5 := hide (drewN_below (B := w.heap.size) (w := w) nd)
        have hold5 : ∀ (cs : Array Value) i, i < 5 → (((w.drewN nd).alloc (Obj.cells #[.int .i64 0, .int .i64 0, .int .i64 0, .int .i64 0, .int .i64 0, .int .i64 0, .float .f64 0, .string ⟨#[]⟩] 24)).alloc (Obj.cells cs 24)).cell? ⟨g, i, none⟩ = some (.string (wB ws i)) := fun cs i hi => hold cs i hi
        have y4 := fun cs => hold5 cs 4 (by omega)
        clear hold5 hold x1 x2 x3 bx hcell hbc
        generalize w.drewN nd = w5 at *
        rw [← hs5]
        have HS5 := hide hs5
        clear hs5 hg hbx hsz HTW HTB HTY HN HP
        go_wp2_with fail
        all_goals go_returns
        all_goals exact unhide HE _ ⟨_, _, _, _, _, _, _, _⟩ _ ((unhide HB5).trans ((by go_grown : Below w5.heap.size w5 _).mono (unhide HB5).size)) (by simp_all <;> omega)
      · obtain ⟨m, rfl⟩ : ∃ j, m = j + 1 := ⟨m - 1, by omega⟩
        have hK : cmK ws = false := by
          rw [unhide HK, unhide HNK, decide_eq_true (show 4 ≤ ws.length by omega), htg, hdp, decide_eq_false (show ¬ ws.length = 4 by omega)]
          simp
        have HE : Hid (∀ w' c bb, Below w.heap.size w w' → bb = false → CmEnI ws w (.returned (.tuple #[cmA c, .bool bb])) w') := fun w' c bb hb hbb => by
          unfold CmEnI; exact ⟨c, by rw [hK, hbb], (fun h => by rw [hK] at h; cases h), hb⟩
        clear hK HNC HNK HK HC hpos hl hdw hdp htg hd h5 ht
        generalize ws.length = N at *
        obtain rfl : N = m + 1 + 5 := hm
        obtain ⟨k, rfl⟩ : ∃ k, cap = k + (m + 1 + 5) := ⟨cap - (m + 1 + 5), by omega⟩
        clear hcap hcm
        go_enter Tryd.func39, Tryd.ntmps39
        go_wp2_with fail
        refine (unhide HTY _ (unhide HTW _)).mono ?_
        rintro e w1 ⟨rfl, rfl⟩
        go_wp2_with fail
        refine (unhide HN _).mono ?_
        rintro e w1 ⟨rfl, rfl⟩
        go_wp2_with fail
        refine (unhide HP _).mono ?_
        rintro e w1 ⟨nd, rfl, hw1⟩
        obtain rfl : w1 = ((w.drewN nd).alloc (Obj.cells #[.int .i64 0, .int .i64 0, .int .i64 0, .int .i64 0, .int .i64 0, .int .i64 0, .float .f64 0, .string ⟨#[]⟩] 24)).alloc (Obj.cells #[.int .i64 1, .int .i64 sd, .int .i64 ty, .int .i64 0, .int .i64 v2, .int .i64 0, .float .f64 0, .string ⟨#[]⟩] 24) := hw1
        have hs5 : (w.drewN nd).heap.size = w.heap.size := rfl
        have HB5 := hide (drewN_below (B := w.heap.size) (w := w) nd)
        have hold5 : ∀ (cs : Array Value) i, i < m + 1 + 5 → (((w.drewN nd).alloc (Obj.cells #[.int .i64 0, .int .i64 0, .int .i64 0, .int .i64 0, .int .i64 0, .int .i64 0, .float .f64 0, .string ⟨#[]⟩] 24)).alloc (Obj.cells cs 24)).cell? ⟨g, i, none⟩ = some (.string (wB ws i)) := fun cs i hi => hold cs i hi
        have y4 := fun cs => hold5 cs 4 (by omega)
        clear hold5 hold x1 x2 x3 bx hcell hbc
        generalize w.drewN nd = w5 at *
        rw [← hs5]
        have HS5 := hide hs5
        clear hs5 hg hbx hsz HTW HTB HTY HN HP
        go_wp2_with fail
        all_goals go_returns
        all_goals exact unhide HE _ ⟨_, _, _, _, _, _, _, _⟩ _ ((unhide HB5).trans ((by go_grown : Below w5.heap.size w5 _).mono (unhide HB5).size)) (by simp_all <;> omega)
end Go.Proofs.YtjjopdkbdebfoaaDoor
