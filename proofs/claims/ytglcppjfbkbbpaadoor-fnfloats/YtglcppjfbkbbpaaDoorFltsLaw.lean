/-
  The law of the floats, walked: it returns true, and nothing that was there is turned.
-/
import Derived.Test.YtglcppjfbkbbpaaDoorSrcFs
import Derived.Test.YtglcppjfbkbbpaaDoorFltB
import Derived.Test.YtglcppjfbkbbpaaDoorSameW
import Derived.Test.YtglcppjfbkbbpaaDoorAppRd
import Derived.Test.YtglcppjfbkbbpaaDoorErrTab
import Derived.Deep.RegionWith
namespace Go.Proofs.YtglcppjfbkbbpaaDoor
open Go.RowKit
set_option linter.unusedVariables false

theorem row_mono {B C n : Nat} {e : TypeId} {w : World} {v : Value} {xs : List Value} (h : w.ownsRow C e 1 v n xs) (hB : B ≤ C) : w.ownsRow B e 1 v n xs := by
  obtain ⟨h1, h2 | ⟨g, cap, cur, h3, h4, h5⟩⟩ := h
  · exact ⟨h1, .inl h2⟩
  · exact ⟨h1, .inr ⟨g, cap, cur, h3, Nat.le_trans hB h4, h5⟩⟩
theorem row_below {B C n : Nat} {e : TypeId} {w w' : World} {v : Value} {xs : List Value} (h : w.ownsRow B e 1 v n xs) (hb : Below C w w') (hC : w.heap.size ≤ C) : w'.ownsRow B e 1 v n xs := by
  obtain ⟨h1, h2 | ⟨g, cap, cur, h3, h4, h5, h6⟩⟩ := h
  · exact ⟨h1, .inl h2⟩
  · exact ⟨h1, .inr ⟨g, cap, cur, h3, h4, (hb.block g (Nat.lt_of_lt_of_le (Array.getElem?_eq_some_iff.1 h5).1 hC)).trans h5, h6⟩⟩

/-- The slice o reads as the floats xs. -/
def RdF (w : World) (o : Value) (xs : List Nat) : Prop :=
  ∃ a cap, o = .slice a xs.length cap ∧ ∀ i, i < xs.length → ∃ g, a = some ⟨g, 0, none⟩ ∧ w.cell? ⟨g, i, none⟩ = some (.float .f64 (xs.getD i 0))
theorem rdF_row {B : Nat} {e : TypeId} {w : World} {o : Value} {xs : List Nat} (h : w.ownsRow B e 1 o xs.length (xs.map (Value.float .f64))) : RdF w o xs := by
  obtain ⟨h1, ⟨h2, h0⟩ | ⟨g, cap, cur, h3, h4, h5, h6, h7, h8, h9⟩⟩ := h
  · exact ⟨none, 0, by rw [h2, h0], fun i hi => by omega⟩
  · refine ⟨_, cap, h3, fun i hi => ⟨g, rfl, ?_⟩⟩
    rw [cell_of_row w g i cur e (0, 0) h5]
    have h10 : (cur.toList.take (xs.length * 1))[i]? = (xs.map (Value.float .f64))[i]? := by rw [h9]
    rw [List.getElem?_take, if_pos (by omega), List.getElem?_map, List.getElem?_eq_getElem hi] at h10
    simpa [hi] using h10
theorem rdF_below {C : Nat} {w w' : World} {o : Value} {xs : List Nat} (h : RdF w o xs) (hb : Below C w w') (hC : w.heap.size ≤ C) : RdF w' o xs := by
  obtain ⟨a, cap, rfl, hc⟩ := h
  refine ⟨a, cap, rfl, fun i hi => ?_⟩
  obtain ⟨g, rfl, hcell⟩ := hc i hi
  exact ⟨g, rfl, (hb.cell (p := ⟨g, i, none⟩) (Nat.lt_of_lt_of_le (World.block_lt_of_cell? w _ hcell) hC)).trans hcell⟩

theorem floatsOf_any (v : Value) (l : List Int) (w : World) (h : Rd w v l) (hb : Bts l) :
    Calls Tryd.prog 8 #[v] w fun e w' => ∃ (o : Value) (xs : List Nat), e = .returned o ∧ (∀ x ∈ xs, x < 18446744073709551616) ∧ xs.length ≤ 10 ∧ RdF w' o xs ∧ Below w.heap.size w w' := by
  have HR := hide h
  have HB := hide hb
  obtain ⟨a, cap, rfl, hl, _⟩ := h
  clear hb
  go_enter Tryd.func8, Tryd.ntmps8
  go_wp2_with fail
  refine (source_any _ l _ (unhide HR) (unhide HB)).mono ?_
  rintro e w1 ⟨rfl, hS, hb1⟩
  have HS := hide hS
  have HB1 := hide hb1
  have HV : Hid (l ≠ [] → ∀ k, (Value.slice a l.length cap).ownBlock = some k → k < w1.heap.size) := by
    intro hne k hk
    obtain ⟨a2, cap2, e2, _, hc⟩ := hS.rd
    obtain ⟨b, off, e3, hcell⟩ := hc hne
    have := World.block_lt_of_cell? w1 _ (hcell 0 (List.length_pos_iff.2 hne))
    simp only [Value.slice.injEq, true_and] at e2
    rw [e2.1, e3] at hk
    have hk' : b = k := Option.some.inj hk
    simp only at this
    omega
  clear hS hb1
  go_wp2_with fail
  refine (floats_drawn _ _ l _ _ (unhide HS) (by omega) (unhide HV)).mono ?_
  rintro e w2 ⟨o, xs, rfl, hxs, hlen, hown, hE⟩
  have H1 := hide hxs
  have H2 := hide hown
  have HE := hide hE
  clear hxs hown hE
  go_wp2_with fail
  go_ret
  exact ⟨_, xs, rfl, unhide H1, hlen, rdF_row (unhide H2), own_below_grown (unhide HB1) (Nat.le_refl _) (unhide HE)⟩

theorem enc_take (xs : List Nat) (i : Nat) (h : i < xs.length) : enc (xs.take (i + 1)) = enc (xs.take i) ++ fl8 (fbit (xs.getD i 0)) := by
  rw [List.take_succ_eq_append_getElem h, enc_snoc]; simp [h]
theorem rd_row {B : Nat} {e : TypeId} {w : World} {v : Value} {l : List Int} (h : w.ownsRow B e 1 v l.length (l.map (Value.int .u8))) (hl : l.length ≤ 1073741824) : Rd w v l ∧ CapOk v := by
  obtain ⟨h1, ⟨h2, h0⟩ | ⟨g, cap, cur, h3, h4, h5, h6, h7, h8, h9⟩⟩ := h
  · refine ⟨⟨none, 0, by rw [h2, h0], hl, fun hne => absurd (List.length_eq_zero_iff.1 h0) hne⟩, ?_⟩
    intro a n c e'
    rw [h2] at e'
    simp only [Value.slice.injEq] at e'
    omega
  · refine ⟨⟨_, cap, h3, hl, fun _ => ⟨g, 0, rfl, fun i hi => ?_⟩⟩, ?_⟩
    · rw [Nat.zero_add]; exact cell_head h5 (by simpa using h9) hi
    · intro a n c e'
      rw [h3] at e'
      simp only [Value.slice.injEq] at e'
      omega
theorem same_fbit (x : Nat) (w : World) : Calls Tryd.prog 11 #[.float .f64 (fbit x), .float .f64 x] w fun e w' => e = .returned (.bool true) ∧ w' = w := by
  by_cases h : nanB x = true
  · rw [show fbit x = 9221120237041090560 from if_pos h]; exact sameFloat_nan _ _ w nan_bits h
  · rw [show fbit x = x from if_neg h]; exact sameFloat_any x w

theorem made_ge (w : World) : ∀ k, Value.ownBlock (.slice (some ⟨w.heap.size, 0, none⟩) 0 0) = some k → w.heap.size ≤ k := by
  intro k hk; simp [Value.ownBlock] at hk; omega

set_option maxRecDepth 100000 in
set_option maxHeartbeats 1000000 in
theorem fltsBoth (vc : Value) (lc : List Int) (w : World) (hrc : Rd w vc lc) (hbc : Bts lc) (h1 : lc.length ≤ 1048576) (hE : ErrT w) :
    Calls Tryd.prog 4 #[vc] w fun e w' => e = .returned (.bool true) ∧ Below w.heap.size w w' := by
  obtain ⟨i0, hi, hz0, hz1, hz2⟩ := info_parts Tryd.infoByte
  have HC := hide hrc
  have HE := hide hE
  have HBC := hide hbc
  obtain ⟨ac, cc, rfl, -, -⟩ := hrc
  have h1' : (lc.length : Int) ≤ 1048576 := by omega
  clear hE hbc
  go_enter Tryd.func4, Tryd.ntmps4
  go_wp2_with fail
  refine (floatsOf_any _ lc _ (unhide HC) (unhide HBC)).mono ?_
  rintro e w2 ⟨o, xs, rfl, hxs, hlen, hrf, hb2⟩
  have HX := hide hxs
  have B2 := hide hb2
  have HE2 := hide (errT_below (unhide HE) hb2 (Nat.le_refl _))
  obtain ⟨a, cap, rfl, hcf⟩ := hrf
  have HF := hide hcf
  clear hb2 HC HBC HE hxs hcf
  go_wp2_with fail
  go_loopw [4, 5] (fun av iv wr => ∃ i : Nat, iv = .int .i64 i ∧ i ≤ xs.length ∧ wr.ownsRow w2.heap.size 5 1 av (8 * i) ((enc (xs.take i)).map (Value.int .u8)) ∧ Below w2.heap.size w2 wr ∧ w2.heap.size ≤ wr.heap.size) (fun _ iv _ => xs.length - (intOf iv).toNat)
  case atStart => exact ⟨0, rfl, by omega, by simpa [enc] using World.ownsRow_made (base := w2.heap.size) (e := 5) (size := 1) w2 #[] 0 (Nat.le_refl _) (by decide) rfl, (Below.refl _ _).alloc (Nat.le_refl _) _, by simp⟩
  case round =>
    obtain ⟨i, rfl, hin, hown, hbel, hsz⟩ := hrel
    have HOW := hide hown
    have HBL := hide hbel
    clear hown hbel
    by_cases hi' : i < xs.length
    · have hi'' : (i : Int) < xs.length := by omega
      obtain ⟨g, hag, hcell⟩ := unhide HF i hi'
      subst hag
      have hcr := (unhide HBL).cell (p := ⟨g, i, none⟩) (World.block_lt_of_cell? w2 _ hcell) |>.trans hcell
      have HXE := hide (enc_take xs i hi')
      clear hcell
      generalize xs.getD i 0 = x at *
      go_wp2_with fail
      refine (implFloat_any x _).mono ?_
      rintro e w3 ⟨vb, rfl, ho3, hb3⟩
      have O3 := hide ho3
      have B3 := hide (show Below w2.heap.size w2 w3 from (unhide HBL).trans (hb3.mono hsz))
      have R3 := hide (row_below (unhide HOW) hb3 (Nat.le_refl _))
      have hsz3 := (unhide B3).size
      clear ho3 hb3
      generalize fbit x = u at *
      go_wp2_with (at_builtin; go_must (refine wpList_append_rd _ rfl _ _ 22 rfl w2.heap.size 5 i0 Tryd.underlying22 hi hz0 hz1 hz2 _ _ _ rfl (unhide R3) _ (fl8 u) rfl (own_rd (unhide O3).own) (nilOk_own (unhide O3).own) (by rw [fl8_len]; omega) hsz3 ?_); intro v4 w4 hown4 hg4)
      go_roundw
      case rel =>
        refine ⟨i + 1, by go_num, by omega, ?_, (unhide B3).grown hg4 hsz3 (fun k hk => ((unhide R3).lt k hk).1), Nat.le_trans hsz3 hg4.size⟩
        rw [unhide HXE, List.map_append]
        exact hown4
      case measure => simp [intOf]; omega
    · have hi'' : (xs.length : Int) ≤ i := by omega
      obtain rfl : i = xs.length := by omega
      obtain ⟨a4, cap4, rfl⟩ : ∃ a cap, u4 = .slice a (8 * xs.length) cap := by
        rcases (unhide HOW).2 with ⟨h2, h3⟩ | ⟨g, cap, _, h3, _⟩
        · exact ⟨none, 0, by rw [h2, h3]⟩
        · exact ⟨_, _, h3⟩
      rw [List.take_length] at HOW
      have HRC : Hid (Rd wr (.slice a4 (8 * xs.length) cap4) (enc xs) ∧ CapOk (.slice a4 (8 * xs.length) cap4)) := rd_row (B := w2.heap.size) (e := 5) (by rw [enc_len]; exact unhide HOW) (by rw [enc_len]; omega)
      have HEW := hide (errT_below (unhide HE2) (unhide HBL) (Nat.le_refl _))
      have HFW : Hid (∀ i, i < xs.length → ∃ g, a = some ⟨g, 0, none⟩ ∧ wr.cell? ⟨g, i, none⟩ = some (.float .f64 (xs.getD i 0))) := fun i hi => by
        obtain ⟨g, h1, h2⟩ := unhide HF i hi
        exact ⟨g, h1, ((unhide HBL).cell (p := ⟨g, i, none⟩) (World.block_lt_of_cell? w2 _ h2)).trans h2⟩
      have HBW := hide (show Below w.heap.size w wr from (unhide B2).trans ((unhide HBL).mono (unhide B2).size))
      have HT := hide (fun i hi => enc_read xs i hi (unhide HX) (by omega))
      clear HOW HBL HF HE2 HX
      go_wp2_with fail
      go_loopw [6] (fun iv wx => ∃ i : Nat, iv = .int .i64 i ∧ i ≤ xs.length ∧ Below wr.heap.size wr wx) (fun iv _ => xs.length - (intOf iv).toNat)
      case atStart => exact ⟨0, rfl, by omega, Below.refl _ _⟩
      case round =>
        obtain ⟨i, rfl, hin, hbel⟩ := hrel
        have HBL := hide hbel
        clear hbel
        by_cases hi' : i < xs.length
        · have hi3 : (i : Int) < xs.length := by omega
          obtain ⟨g, hag, hcell⟩ := unhide HFW i hi'
          subst hag
          have hT : Hid (floatR (enc xs) (8 * (i : Int)) = (fbit (xs.getD i 0), 8 * (i : Int) + 8, 0)) := by
            have := unhide HT i hi'
            rw [show ((8 * i : Nat) : Int) = 8 * (i : Int) by omega, show ((8 * i + 8 : Nat) : Int) = 8 * (i : Int) + 8 by omega] at this
            exact this
          have hcr := (unhide HBL).cell (p := ⟨g, i, none⟩) (World.block_lt_of_cell? _ _ hcell) |>.trans hcell
          clear hcell
          generalize xs.getD i 0 = x at *
          go_wp2_with fail
          refine (implGetFlt_any _ (enc xs) _ _ (rd_below (unhide HRC).1 (unhide HBL) (Nat.le_refl _)) (unhide HRC).2 (enc_bts xs) (errT_below (unhide HEW) (unhide HBL) (Nat.le_refl _))).mono ?_
          rw [unhide hT]
          rintro e w3 ⟨rfl, hb3⟩
          have hc3 := hb3.cell (p := ⟨g, i, none⟩) (World.block_lt_of_cell? _ _ hcr) |>.trans hcr
          have HB3 := hide ((unhide HBL).trans (hb3.mono (unhide HBL).size))
          have HSM := hide (fun w => same_fbit x w)
          clear hb3 hcr
          unfold tupF
          go_wp2_with fail
          refine (unhide HSM _).mono ?_
          rintro e w4 ⟨rfl, rfl⟩
          go_wp2_with fail
          go_roundw
          case rel => exact ⟨i + 1, by go_num, by omega, unhide HB3⟩
          case measure => simp [intOf]; omega
        · have hi3 : (xs.length : Int) ≤ i := by omega
          go_wp2_with fail
          go_ret
          exact ⟨rfl, (unhide HBW).trans ((unhide HBL).mono (unhide HBW).size)⟩

theorem lawFlts (a0 : Option Addr) (len0 cap0 : Nat) (z0 : List Int) (w : World)
    (w0 : (a0 = none ∧ len0 = 0 ∧ cap0 = 0 ∧ z0 = []) ∨ ∃ x, a0 = some x ∧ len0 ≤ cap0 ∧ cap0 ≤ maxLen ∧ z0.length = cap0 ∧ (∀ i, i < z0.length → w.cell? (x.add i) = some (.int .u8 (z0.getD i 0))) ∧ ∀ n ∈ z0, (Lit.int .u8 n).wf = true)
    (hE : ErrT w) :
    Calls Tryd.prog 4 #[.slice a0 len0 cap0] w fun e w' => e = .returned (.bool true) ∧ Below w.heap.size w w' := by
  by_cases h0 : 1048576 < len0
  · have h0' : (1048576 : Int) < len0 := by omega
    clear w0 hE
    go_enter Tryd.func4, Tryd.ntmps4
    go_wp2_with fail
    go_ret
    exact ⟨rfl, Below.refl _ _⟩
  obtain ⟨e0, r0, b0⟩ := rd_of_row w0 (by omega)
  exact fltsBoth _ _ w r0 b0 (by omega) hE
end Go.Proofs.YtglcppjfbkbbpaaDoor
