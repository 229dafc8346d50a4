/-
  The frame of a group, by the program and by the model: the functions walked.
-/
import Derived.Test.YtmeekcdoajbjdaaGreatDoorGj34
import Derived.Test.YtmeekcdoajbjdaaGreatDoorGj37
namespace Go.Proofs.YtmeekcdoajbjdaaGreatDoor
open Go.RowKit
set_option linter.unusedVariables false

theorem okE_kd (e : Ev) (h : okE e = true) : 1 ≤ e.kind ∧ e.kind ≤ 9 := by
  by_cases hk : 1 ≤ e.kind ∧ e.kind ≤ 9
  · exact hk
  · unfold okE at h
    rw [if_pos (fldK_no e.kind hk)] at h
    cases h
theorem payE_bts (l : List Ev) (h : ∀ e ∈ l, 1 ≤ e.kind ∧ e.kind ≤ 9) : Bts (payE l) := by
  intro x hx
  unfold payE at hx
  obtain ⟨e, he, hx⟩ := List.mem_flatMap.1 hx
  exact evL_bts e (h e he) x hx
theorem row0 (W : World) (B : Nat) (h : B ≤ W.heap.size) : BRow (W.alloc (Obj.cells #[] 5)) B (.slice (some ⟨W.heap.size, 0, none⟩) 0 0) [] := World.ownsRow_made (base := B) (e := 5) (size := 1) W #[] 0 h (by decide) rfl
/-- What GroupFrame answers. -/
def gC (l : List Ev) (s : Int) : Int := if 4096 < l.length then 2 else if l.all okE = false then 1 else if s < 0 ∨ 65520 < s then 5 else if 8192 < (payE l).length then 7 else 0
def gL (l : List Ev) (s : Int) : List Int := if gC l s = 0 then frL 71 (payE l) s else []
def gS (l : List Ev) (s : Int) : Int := if gC l s = 0 then frS 71 (payE l) s else 0
theorem gs_not {l : List Ev} {s c : Int} (h : gC l s = c) (hc : c ≠ 0) : gL l s = [] ∧ gS l s = 0 ∧ gC l s = c := ⟨if_neg (by rw [h]; exact hc), if_neg (by rw [h]; exact hc), h⟩
theorem gC_long {l : List Ev} {s : Int} (h : 4096 < l.length) : gC l s = 2 := if_pos h
theorem gC_bad {l : List Ev} {s : Int} (h : ¬ 4096 < l.length) (h1 : l.all okE = false) : gC l s = 1 := by rw [gC, if_neg h, if_pos h1]
theorem gC_range {l : List Ev} {s : Int} (h : ¬ 4096 < l.length) (h1 : l.all okE = true) (h2 : s < 0 ∨ 65520 < s) : gC l s = 5 := by rw [gC, if_neg h, if_neg (by rw [h1]; decide), if_pos h2]
theorem gC_many {l : List Ev} {s : Int} (h : ¬ 4096 < l.length) (h1 : l.all okE = true) (h2 : ¬ (s < 0 ∨ 65520 < s)) (h3 : 8192 < (payE l).length) : gC l s = 7 := by rw [gC, if_neg h, if_neg (by rw [h1]; decide), if_neg h2, if_pos h3]
theorem gC_ok {l : List Ev} {s : Int} (h : ¬ 4096 < l.length) (h1 : l.all okE = true) (h2 : ¬ (s < 0 ∨ 65520 < s)) (h3 : ¬ 8192 < (payE l).length) : gL l s = frL 71 (payE l) s ∧ gS l s = frS 71 (payE l) s ∧ gC l s = 0 := by
  have hc : gC l s = 0 := by rw [gC, if_neg h, if_neg (by rw [h1]; decide), if_neg h2, if_neg h3]
  exact ⟨if_pos hc, if_pos hc, hc⟩
theorem isSum_y (s : Int) (w : World) (h : ¬ (s < 0 ∨ 65520 < s)) : Calls Tryz.prog 19 #[.int .i64 s] w fun e w' => e = .returned (.bool true) ∧ w' = w := by
  have h0 : 0 ≤ s := by omega
  have h1 : s ≤ 65520 := by omega
  clear h
  go_enter Tryz.func19, Tryz.ntmps19
  go_wp2
  go_ret
  exact ⟨rfl, rfl⟩
theorem isSum_n (s : Int) (w : World) (h : s < 0 ∨ 65520 < s) : Calls Tryz.prog 19 #[.int .i64 s] w fun e w' => e = .returned (.bool false) ∧ w' = w := by
  by_cases h0 : 0 ≤ s
  · have h1 : ¬ s ≤ 65520 := by omega
    clear h
    go_enter Tryz.func19, Tryz.ntmps19
    go_wp2
    go_ret
    exact ⟨rfl, rfl⟩
  · clear h
    go_enter Tryz.func19, Tryz.ntmps19
    go_wp2
    go_ret
    exact ⟨rfl, rfl⟩
set_option maxRecDepth 100000 in
set_option maxHeartbeats 3200000 in
theorem implGroup_any (v : Value) (l : List Ev) (s : Int) (w : World) (hr : RdR Ev.vs 14 w v l) (hf : ∀ e ∈ l, e.fit) (hE : ErrT w) : Calls Tryz.prog 7 #[v, .int .i64 s] w fun r w' => ∃ v', r = .returned (.tuple #[v', .int .i64 (gS l s), .int .i64 (gC l s)]) ∧ BRow w' w.heap.size v' (gL l s) ∧ Below w.heap.size w w' := by
  have hsf := sfl
  have HR := hide hr
  have HF := hide hf
  have HE := hide hE
  obtain ⟨a, cap, rfl, hl, -⟩ := hr
  clear hf hE
  by_cases hlong : 4096 < l.length
  · have HK := hide (gs_not (gC_long (s := s) hlong) (by decide))
    generalize gL l s = rL at HK ⊢
    generalize gS l s = rS at HK ⊢
    generalize gC l s = rC at HK ⊢
    have hlong' : 4096 < (l.length : Int) := by omega
    clear hlong HR HF
    go_enter Tryz.func7, Tryz.ntmps7
    go_wp2_with fail
    go_ret3
    obtain ⟨rfl, rfl, rfl⟩ := unhide HK
    exact ⟨_, rfl, World.ownsRow_nil _ _ _ _, by go_grown⟩
  have hshort : ¬ 4096 < (l.length : Int) := by omega
  have HAL := hide (allRight_any _ l w (unhide HR) (unhide HF) (unhide HE))
  by_cases hall : l.all okE = false
  · have HK := hide (gs_not (gC_bad (s := s) hlong hall) (by decide))
    rw [hall] at HAL
    clear hall
    generalize gL l s = rL at HK ⊢
    generalize gS l s = rS at HK ⊢
    generalize gC l s = rC at HK ⊢
    go_enter Tryz.func7, Tryz.ntmps7
    go_wp2_with fail
    refine (unhide HAL).mono ?_
    rintro r W1 ⟨rfl, hb1⟩
    have HB1 := hide hb1
    clear hb1
    go_wp2_with fail
    go_ret3
    obtain ⟨rfl, rfl, rfl⟩ := unhide HK
    exact ⟨_, rfl, World.ownsRow_nil _ _ _ _, unhide HB1⟩
  have hall : l.all okE = true := by simpa using hall
  have HK9 := hide (fun e he => okE_kd e (List.all_eq_true.1 hall e he))
  have HBT := hide (payE_bts l (unhide HK9))
  by_cases hs : s < 0 ∨ 65520 < s
  · have HK := hide (gs_not (gC_range (s := s) hlong hall hs) (by decide))
    rw [hall] at HAL
    clear hall HK9 HBT
    generalize gL l s = rL at HK ⊢
    generalize gS l s = rS at HK ⊢
    generalize gC l s = rC at HK ⊢
    go_enter Tryz.func7, Tryz.ntmps7
    go_wp2_with fail
    refine (unhide HAL).mono ?_
    rintro r W1 ⟨rfl, hb1⟩
    have HB1 := hide hb1
    clear hb1
    go_wp2_with fail
    refine (isSum_n s W1 hs).mono ?_
    rintro r W2 ⟨rfl, rfl⟩
    go_wp2_with fail
    go_ret3
    obtain ⟨rfl, rfl, rfl⟩ := unhide HK
    exact ⟨_, rfl, World.ownsRow_nil _ _ _ _, unhide HB1⟩
  have HOK := hide (fun h => gC_ok (s := s) hlong hall hs h)
  have HMA := hide (fun h => gs_not (gC_many (s := s) hlong hall hs h) (by decide))
  rw [hall] at HAL
  clear hall
  have HPL := hide (fun W hb => groupPayload_any (.slice a l.length cap) l W (rdR_below (unhide HR) hb (Nat.le_refl _)) (unhide HF) (unhide HK9) (by omega))
  generalize gL l s = rL at HOK HMA ⊢
  generalize gS l s = rS at HOK HMA ⊢
  generalize gC l s = rC at HOK HMA ⊢
  generalize payE l = p at *
  go_enter Tryz.func7, Tryz.ntmps7
  go_wp2_with fail
  refine (unhide HAL).mono ?_
  rintro r W1 ⟨rfl, hb1⟩
  have HB1 := hide hb1
  clear hb1
  go_wp2_with fail
  refine (isSum_y s W1 hs).mono ?_
  rintro r W2 ⟨rfl, hw2⟩
  rw [hw2]
  clear hw2 W2
  go_wp2_with fail
  refine (unhide HPL W1 (unhide HB1)).mono ?_
  rintro r W2 ⟨v2, rfl, hr2, hb2⟩
  have HR2 := hide hr2
  obtain ⟨ap, cp, rfl⟩ := bRow_form hr2
  have HB2 := hide ((unhide HB1).trans (hb2.mono (unhide HB1).size))
  clear hr2 hb2
  by_cases hm : 8192 < p.length
  · have HK := hide (unhide HMA hm)
    have hm' : 8192 < (p.length : Int) := by omega
    clear HOK HMA
    go_wp2_with fail
    go_ret3
    obtain ⟨rfl, rfl, rfl⟩ := unhide HK
    exact ⟨_, rfl, World.ownsRow_nil _ _ _ _, unhide HB2⟩
  have HK := hide (unhide HOK hm)
  have hm' : ¬ 8192 < (p.length : Int) := by omega
  clear HOK HMA
  go_wp2_with fail
  refine (frameG_any 71 (by decide) _ p s W1.heap.size W2 (unhide HR2) (by omega) (unhide HBT) (by omega) (by omega)).mono ?_
  rintro r W3 ⟨v3, rfl, hr3, hb3⟩
  have HR3 := hide (bRow_base hr3 (unhide HB2).size)
  have HB3 := hide ((unhide HB2).trans (hb3.mono (unhide HB2).size))
  clear hr3 hb3
  go_wp2_with fail
  go_ret3
  obtain ⟨rfl, rfl, rfl⟩ := unhide HK
  exact ⟨_, rfl, unhide HR3, unhide HB3⟩
set_option maxRecDepth 100000 in
set_option maxHeartbeats 3200000 in
theorem specGroup_any (v : Value) (l : List Ev) (s : Int) (w : World) (hr : RdR Ev.vs 14 w v l) (hf : ∀ e ∈ l, e.fit) : Calls Tryz.prog 5 #[v, .int .i64 s] w fun r w' => ∃ v', r = .returned (.tuple #[v', .int .i64 (gS l s), .int .i64 (gC l s)]) ∧ BRow w' w.heap.size v' (gL l s) ∧ Below w.heap.size w w' := by
  have hsf := sfl
  have HR := hide hr
  have HF := hide hf
  obtain ⟨a, cap, rfl, hl, -⟩ := hr
  clear hf
  by_cases hlong : 4096 < l.length
  · have HK := hide (gs_not (gC_long (s := s) hlong) (by decide))
    generalize gL l s = rL at HK ⊢
    generalize gS l s = rS at HK ⊢
    generalize gC l s = rC at HK ⊢
    have hlong' : 4096 < (l.length : Int) := by omega
    clear hlong HR HF
    go_enter Tryz.func5, Tryz.ntmps5
    go_wp2_with fail
    go_ret3
    obtain ⟨rfl, rfl, rfl⟩ := unhide HK
    exact ⟨_, rfl, row0 _ _ (Nat.le_refl _), by go_grown⟩
  have hshort : ¬ 4096 < (l.length : Int) := by omega
  have HAL := hide (l05Events_any _ l w (unhide HR) (unhide HF))
  by_cases hall : l.all okE = false
  · have HK := hide (gs_not (gC_bad (s := s) hlong hall) (by decide))
    rw [hall] at HAL
    clear hall
    generalize gL l s = rL at HK ⊢
    generalize gS l s = rS at HK ⊢
    generalize gC l s = rC at HK ⊢
    go_enter Tryz.func5, Tryz.ntmps5
    go_wp2_with fail
    refine (unhide HAL).mono ?_
    rintro r W1 ⟨rfl, hb1⟩
    have HB1 := hide hb1
    clear hb1
    go_wp2_with fail
    go_ret3
    obtain ⟨rfl, rfl, rfl⟩ := unhide HK
    exact ⟨_, rfl, row0 _ _ (unhide HB1).size, (unhide HB1).trans (((Below.refl _ _).alloc (Nat.le_refl _) _).mono (unhide HB1).size)⟩
  have hall : l.all okE = true := by simpa using hall
  have HK9 := hide (fun e he => okE_kd e (List.all_eq_true.1 hall e he))
  have HBT := hide (payE_bts l (unhide HK9))
  by_cases hs : s < 0 ∨ 65520 < s
  · have HK := hide (gs_not (gC_range (s := s) hlong hall hs) (by decide))
    rw [hall] at HAL
    clear hall HK9 HBT
    generalize gL l s = rL at HK ⊢
    generalize gS l s = rS at HK ⊢
    generalize gC l s = rC at HK ⊢
    by_cases hn : s < 0
    · clear hs
      go_enter Tryz.func5, Tryz.ntmps5
      go_wp2_with fail
      refine (unhide HAL).mono ?_
      rintro r W1 ⟨rfl, hb1⟩
      have HB1 := hide hb1
      clear hb1
      go_wp2_with fail
      go_ret3
      obtain ⟨rfl, rfl, rfl⟩ := unhide HK
      exact ⟨_, rfl, row0 _ _ (unhide HB1).size, (unhide HB1).trans (((Below.refl _ _).alloc (Nat.le_refl _) _).mono (unhide HB1).size)⟩
    · have hx : 65521 ≤ s := by omega
      clear hs
      go_enter Tryz.func5, Tryz.ntmps5
      go_wp2_with fail
      refine (unhide HAL).mono ?_
      rintro r W1 ⟨rfl, hb1⟩
      have HB1 := hide hb1
      clear hb1
      go_wp2_with fail
      go_ret3
      obtain ⟨rfl, rfl, rfl⟩ := unhide HK
      exact ⟨_, rfl, row0 _ _ (unhide HB1).size, (unhide HB1).trans (((Below.refl _ _).alloc (Nat.le_refl _) _).mono (unhide HB1).size)⟩
  have HOK := hide (fun h => gC_ok (s := s) hlong hall hs h)
  have HMA := hide (fun h => gs_not (gC_many (s := s) hlong hall hs h) (by decide))
  rw [hall] at HAL
  clear hall
  have HPL := hide (fun W hb => l06Payload_any (.slice a l.length cap) l W (rdR_below (unhide HR) hb (Nat.le_refl _)) (unhide HF) (unhide HK9) (by omega))
  generalize gL l s = rL at HOK HMA ⊢
  generalize gS l s = rS at HOK HMA ⊢
  generalize gC l s = rC at HOK HMA ⊢
  generalize payE l = p at *
  go_enter Tryz.func5, Tryz.ntmps5
  have hx0 : ¬ s < 0 := by omega
  have hx1 : ¬ 65521 ≤ s := by omega
  go_wp2_with fail
  refine (unhide HAL).mono ?_
  rintro r W1 ⟨rfl, hb1⟩
  have HB1 := hide hb1
  clear hb1
  go_wp2_with fail
  refine (unhide HPL W1 (unhide HB1)).mono ?_
  rintro r W2 ⟨v2, rfl, hr2, hb2⟩
  have HR2 := hide hr2
  obtain ⟨ap, cp, rfl⟩ := bRow_form hr2
  have HB2 := hide ((unhide HB1).trans (hb2.mono (unhide HB1).size))
  clear hr2 hb2
  by_cases hm : 8192 < p.length
  · have HK := hide (unhide HMA hm)
    have hm' : 8192 < (p.length : Int) := by omega
    clear HOK HMA
    go_wp2_with fail
    go_ret3
    obtain ⟨rfl, rfl, rfl⟩ := unhide HK
    exact ⟨_, rfl, row0 _ _ (unhide HB2).size, (unhide HB2).trans (((Below.refl _ _).alloc (Nat.le_refl _) _).mono (unhide HB2).size)⟩
  have HK := hide (unhide HOK hm)
  have hm' : ¬ 8192 < (p.length : Int) := by omega
  clear HOK HMA
  go_wp2_with fail
  refine (l06FrameG_any 71 (by decide) _ p s W1.heap.size W2 (unhide HR2) (by omega) (unhide HBT) (by omega) (by omega)).mono ?_
  rintro r W3 ⟨v3, rfl, hr3, hb3⟩
  have HR3 := hide (bRow_base hr3 (unhide HB2).size)
  have HB3 := hide ((unhide HB2).trans (hb3.mono (unhide HB2).size))
  clear hr3 hb3
  go_wp2_with fail
  go_ret3
  obtain ⟨rfl, rfl, rfl⟩ := unhide HK
  exact ⟨_, rfl, unhide HR3, unhide HB3⟩
end Go.Proofs.YtmeekcdoajbjdaaGreatDoor
