/-
  Groups of events, by the model: whether all are right, and their bytes; proved by walking the functions.
-/
import Derived.Test.YtmeekcdoajbjdaaGreatDoorGj26
import Derived.Test.YtmeekcdoajbjdaaGreatDoorGj28
import Derived.Test.YtmeekcdoajbjdaaGreatDoorGj31
import Derived.Test.YtmeekcdoajbjdaaGreatDoorGj32
import Derived.Test.YtmeekcdoajbjdaaGreatDoorGj33
namespace Go.Proofs.YtmeekcdoajbjdaaGreatDoor
open Go.RowKit
set_option linter.unusedVariables false

theorem enc_any (e : Ev) (w : World) (he : e.fit) (hk : 1 ≤ e.kind ∧ e.kind ≤ 9) : Calls Tryz.prog 26 #[evV e] w fun r w' => ∃ v, r = .returned v ∧ OwnT w.heap.size w' v (evL e) ∧ Below w.heap.size w w' := by
  by_cases h1 : e.kind = 1
  · exact enc1_any e w he h1
  · by_cases h2 : e.kind = 2
    · exact enc2_any e w he h2
    · exact encN_any e w he (by omega)
set_option maxRecDepth 100000 in
set_option maxHeartbeats 1600000 in
theorem l05Events_any (v : Value) (l : List Ev) (w : World) (hr : RdR Ev.vs 14 w v l) (hf : ∀ e ∈ l, e.fit) : Calls Tryz.prog 14 #[v] w fun r w' => r = .returned (.bool (l.all okE)) ∧ Below w.heap.size w w' := by
  have hsf := sfl
  obtain ⟨a, cap, rfl, hl, hc⟩ := hr
  have HC := hide hc
  have HF := hide hf
  clear hc hf
  go_enter Tryz.func14, Tryz.ntmps14
  go_wp2_with fail
  go_loopw [3] (fun iv wr => ∃ k : Nat, k ≤ l.length ∧ iv = .int .i64 k ∧ (l.take k).all okE = true ∧ Below w.heap.size w wr) (fun iv _ => l.length - (intOf iv).toNat)
  case atStart => exact ⟨0, Nat.zero_le _, rfl, rfl, Below.refl _ _⟩
  case round =>
    obtain ⟨k, hk, rfl, hall, hb⟩ := hrel
    have HB := hide hb
    have HA := hide hall
    clear hb hall
    by_cases hlt : k < l.length
    · obtain ⟨e, hke⟩ : ∃ e, l[k]? = some e := ⟨_, List.getElem?_eq_getElem hlt⟩
      obtain ⟨b, off, rfl, hbw, hcells⟩ := unhide HC (by intro h; rw [h] at hlt; simp at hlt)
      have hcl := range_below (hcells k e hke) (unhide HB) hbw
      have hlt' : (k : Int) < l.length := by omega
      have hfit := unhide HF e (List.mem_of_getElem? hke)
      have HO := hide (specOK_any e wr hfit.g)
      have HT : Hid ((l.take (k + 1)).all okE = ((l.take k).all okE && okE e)) := by
        show (l.take (k + 1)).all okE = _
        rw [List.take_add_one, hke]
        simp
      have HNo : Hid (okE e = false → l.all okE = false) := fun h => List.all_eq_false.2 ⟨e, List.mem_of_getElem? hke, by rw [h]; decide⟩
      generalize okE e = ok at *
      obtain ⟨kind, ⟨ck, cs, ct, cl, cq, ci, cp, cg⟩, id, other, qty, price, reason⟩ := e
      unfold evV at HO
      simp only at HO
      have x0 : wr.cell? ⟨b, off + k * 14, none⟩ = _ := hcl 0 _ rfl
      have x1 := hcl 1 _ rfl
      have x2 := hcl 2 _ rfl
      have x3 := hcl 3 _ rfl
      have x4 := hcl 4 _ rfl
      have x5 := hcl 5 _ rfl
      have x6 := hcl 6 _ rfl
      have x7 := hcl 7 _ rfl
      have x8 := hcl 8 _ rfl
      have x9 := hcl 9 _ rfl
      have x10 := hcl 10 _ rfl
      have x11 := hcl 11 _ rfl
      have x12 := hcl 12 _ rfl
      have x13 := hcl 13 _ rfl
      clear hcl hcells hke hfit
      go_wp2_with fail
      refine (unhide HO).mono ?_
      rintro r W3 ⟨rfl, hb3⟩
      have HB3 := hide ((unhide HB).trans (hb3.mono (unhide HB).size))
      clear hb3 x0 x1 x2 x3 x4 x5 x6 x7 x8 x9 x10 x11 x12 x13
      cases ok with
      | true =>
        go_wp2_with fail
        go_roundw
        case rel => exact ⟨k + 1, by omega, by go_num, by rw [unhide HT, unhide HA]; rfl, unhide HB3⟩
        case measure => simp [intOf]; omega
      | false =>
        have HNN := hide (unhide HNo rfl)
        go_wp2_with fail
        go_ret
        exact ⟨by rw [unhide HNN]; rfl, unhide HB3⟩
    · have hk' : k = l.length := by omega
      have HY : Hid (l.all okE = true) := by
        have := unhide HA
        rwa [hk', List.take_length] at this
      go_wp2_with fail
      go_ret
      exact ⟨by rw [unhide HY]; rfl, unhide HB⟩
set_option maxRecDepth 100000 in
set_option maxHeartbeats 1600000 in
theorem l06Payload_any (v : Value) (l : List Ev) (w : World) (hr : RdR Ev.vs 14 w v l) (hf : ∀ e ∈ l, e.fit) (hk9 : ∀ e ∈ l, 1 ≤ e.kind ∧ e.kind ≤ 9) (hl4 : l.length ≤ 4096) : Calls Tryz.prog 15 #[v] w fun r w' => ∃ v', r = .returned v' ∧ BRow w' w.heap.size v' (payE l) ∧ Below w.heap.size w w' := by
  have hsf := sfl
  obtain ⟨i0, hi0, hz0, hz1, hz2⟩ := info_parts Tryz.infoByte
  have HK9 := hide hk9
  obtain ⟨a, cap, rfl, hl, hc⟩ := hr
  have HC := hide hc
  have HF := hide hf
  clear hc hf hk9
  have HBR : Hid (BRow (w.alloc (Obj.cells #[] 5)) w.heap.size (.slice (some ⟨w.heap.size, 0, none⟩) 0 0) []) := World.ownsRow_made (base := w.heap.size) (e := 5) (size := 1) w #[] 0 (Nat.le_refl _) (by decide) rfl
  go_enter Tryz.func15, Tryz.ntmps15
  go_wp2_with fail
  go_loopw [3, 4] (fun ov iv wr => ∃ k : Nat, k ≤ l.length ∧ iv = .int .i64 k ∧ Hid (BRow wr w.heap.size ov (payE (l.take k)) ∧ Below w.heap.size w wr)) (fun _ iv _ => l.length - (intOf iv).toNat)
  case atStart => exact ⟨0, Nat.zero_le _, rfl, unhide HBR, by go_grown⟩
  case round =>
    obtain ⟨k, hk, rfl, hin⟩ := hrel
    obtain ⟨hrow, hb⟩ := unhide hin
    have HB := hide hb
    have HRW := hide hrow
    by_cases hlt : k < l.length
    · obtain ⟨e, hke⟩ : ∃ e, l[k]? = some e := ⟨_, List.getElem?_eq_getElem hlt⟩
      obtain ⟨b, off, rfl, hbw, hcells⟩ := unhide HC (by intro h; rw [h] at hlt; simp at hlt)
      have hcl := range_below (hcells k e hke) hb hbw
      have hlt' : (k : Int) < l.length := by omega
      have hmem := List.mem_of_getElem? hke
      have hlen := payE_len (l.take k) (fun x hx => unhide HF x (List.mem_of_mem_take hx))
      have hlen2 : (payE (l.take k)).length ≤ 1048576 := by
        have : (l.take k).length ≤ 4096 := Nat.le_trans (List.length_take_le _ _) (by omega)
        omega
      have HAD := hide (enc_any e wr (unhide HF e hmem) (unhide HK9 e hmem))
      have hel := (evL_len e (unhide HF e hmem)).2
      have HM := hide (payE_more l k e hke)
      generalize payE (l.take k) = L at *
      generalize evL e = EL at *
      obtain ⟨kind, ⟨ck, cs, ct, cl, cq, ci, cp, cg⟩, id, other, qty, price, reason⟩ := e
      unfold evV at HAD
      simp only at HAD
      have x0 : wr.cell? ⟨b, off + k * 14, none⟩ = _ := hcl 0 _ rfl
      have x1 := hcl 1 _ rfl
      have x2 := hcl 2 _ rfl
      have x3 := hcl 3 _ rfl
      have x4 := hcl 4 _ rfl
      have x5 := hcl 5 _ rfl
      have x6 := hcl 6 _ rfl
      have x7 := hcl 7 _ rfl
      have x8 := hcl 8 _ rfl
      have x9 := hcl 9 _ rfl
      have x10 := hcl 10 _ rfl
      have x11 := hcl 11 _ rfl
      have x12 := hcl 12 _ rfl
      have x13 := hcl 13 _ rfl
      clear hcl hcells hke hmem hb hrow hin hlen
      go_wp2_with fail
      refine (unhide HAD).mono ?_
      rintro r W3 ⟨v3, rfl, ho3, hb3⟩
      have HO3 := hide ho3
      have HR3 := hide (bRow_below (unhide HRW) hb3)
      have HB3 := hide ((unhide HB).trans (hb3.mono (unhide HB).size))
      clear hb3 ho3 x0 x1 x2 x3 x4 x5 x6 x7 x8 x9 x10 x11 x12 x13 HRW HB
      go_wp2_with (at_builtin; go_must (refine wpList_append_ot _ rfl _ _ 24 rfl w.heap.size i0 Tryz.underlying24 hi0 hz0 hz1 hz2 _ _ rfl (unhide HR3) _ _ _ rfl (unhide HO3) (by omega) (unhide HB3).size ?_); intro ov W4 hr4 hg4 ha4; have HR4 := hide hr4; have HB4 := hide ((unhide HB3).grown hg4 (unhide HB3).size (fun q hq => ((unhide HR3).lt q hq).1)); clear hr4 hg4 ha4)
      go_roundw
      case rel => exact ⟨k + 1, by omega, by go_num, by rw [unhide HM]; exact unhide HR4, unhide HB4⟩
      case measure => simp [intOf]; omega
    · have hk' : k = l.length := by omega
      rw [hk', List.take_length] at hrow
      have HR := hide hrow
      clear hrow hb hin
      go_wp2_with fail
      go_ret
      exact ⟨_, rfl, unhide HR, unhide HB⟩
end Go.Proofs.YtmeekcdoajbjdaaGreatDoor
