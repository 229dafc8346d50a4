/-
  The script of a text's lines, as the model reads it: proved by walking the function.
-/
import Derived.Test.YtjjopdkbdebfoaaDoorScrS
import Derived.Test.YtjjopdkbdebfoaaDoorReadS
namespace Go.Proofs.YtjjopdkbdebfoaaDoor
open Go.RowKit
set_option linter.unusedVariables false

theorem infoC : (Tryd.prog.info? 24).map (fun i => (i.zero, i.size, i.bytes)) = some (some (.agg #[.int .i64 0, .int .i64 0, .int .i64 0, .int .i64 0, .int .i64 0, .int .i64 0, .float .f64 0, .string ByteArray.empty]), 8, 72) := by kernel_rfl
theorem scn_step {l : List UInt8} {r : List (List UInt8)} {n : Nat} {out : List Cm} : scn (l :: r) n out = if lnN l = true then scn r (n + 1) out else if cmK (lnW l) = false then ([], 4, (n : Int)) else if out.length = 200 then ([], 7, (n : Int)) else scn r (n + 1) (out ++ [cmC (lnW l)]) := rfl
/-- What ReadScript answers. -/
def RsEnd (t : List Cm × Int × Int) (w : World) (e : Ending) (w' : World) : Prop := ∃ v, e = .returned (.tuple #[v, .int .i64 t.2.1, .int .i64 t.2.2]) ∧ OwnR Cm.vs 8 w.heap.size w' v t.1 ∧ Below w.heap.size w w'
theorem own_nil {B : Nat} {w : World} {a : Option Addr} {c : Nat} : OwnR Cm.vs 8 B w (.slice a 0 c) [] := ⟨a, c, rfl, by simp, fun h => absurd rfl h⟩

set_option maxRecDepth 100000 in
set_option maxHeartbeats 4000000 in
theorem specScript_any (s : ByteArray) (w : World) (hs : s.size ≤ 1048576) :
    Calls Tryd.prog 8 #[.string s] w fun e w' => RsEnd (rsT s.data.toList) w e w' := by
  obtain ⟨i0, hi0, hz0, hz1, hz2⟩ := info_parts infoC
  have hsf := sfl
  by_cases hl : 65536 < s.size
  · have HE : Hid (∀ v w', OwnR Cm.vs 8 w.heap.size w' v [] → Below w.heap.size w w' → RsEnd (rsT s.data.toList) w (.returned (.tuple #[v, .int .i64 2, .int .i64 0])) w') := fun v w' ho hb => by
      unfold RsEnd rsT
      rw [data_len, if_pos hl]
      exact ⟨v, rfl, ho, hb⟩
    have hl' : (65536 : Int) < s.size := by omega
    go_enter Tryd.func8, Tryd.ntmps8
    go_wp2_with fail
    go_ret3
    exact unhide HE _ _ own_nil ((Below.refl _ _).alloc (Nat.le_refl _) _)
  have hl' : ¬ ((65536 : Int) < s.size) := by omega
  have HRT : Hid (rsT s.data.toList = scn (lns s.data.toList) 1 []) := by show _ = _; unfold rsT; rw [data_len, if_neg hl]
  generalize rsT s.data.toList = R at *
  have HLS := hide (fun W => specLines_any s W hs)
  have HB0 : Hid (Below w.heap.size w (w.alloc (Obj.cells #[] 24))) := (Below.refl _ _).alloc (Nat.le_refl _) _
  go_enter Tryd.func8, Tryd.ntmps8
  go_wp2_with fail
  refine (unhide HLS _).mono ?_
  rintro e W1 ⟨v, L, rfl, hrd, hL, hb1⟩
  have HL := hide hL
  have HB1 : Hid (Below w.heap.size w W1) := (unhide HB0).trans (hb1.mono (unhide HB0).size)
  have HRD := hide hrd
  have hLl : L.length ≤ s.size + 1 := by
    have h1 := congrArg List.length hL
    have h2 := pcs_len 10 s.data.toList
    have h3 := noE_len (pcs 10 s.data.toList)
    rw [data_len] at h2
    simp only [bys, List.length_map, lns] at h1
    omega
  have HSM : Hid (∀ (i : Nat) (x : ByteArray), L[i]? = some x → x.size ≤ 1048576) := fun i x hx => by
    have h1 : x.data.toList ∈ bys L := List.mem_map.2 ⟨x, List.mem_of_getElem? hx, rfl⟩
    rw [hL] at h1
    have := pcs_mem 10 _ _ (noE_mem _ _ h1)
    rw [data_len, data_len] at this
    omega
  rw [← hL] at HRT
  obtain ⟨a, cap, rfl, -, hcl⟩ := hrd
  have HCL : Hid (∀ (i : Nat) (x : ByteArray), L[i]? = some x → ∃ b off, a = some ⟨b, off, none⟩ ∧ b < W1.heap.size ∧ W1.cell? ⟨b, off + i, none⟩ = some (.string x)) := fun i x hx => by
    obtain ⟨b, off, h1, h2, h3⟩ := hcl (by intro h; rw [h] at hx; simp at hx)
    have := h3 i x hx 0 _ rfl
    rw [Nat.mul_one, Nat.add_zero] at this
    exact ⟨b, off, h1, h2, this⟩
  clear hb1 hL hcl
  have HO2 := hide (World.ownsRow_made (base := W1.heap.size) (e := 24) (size := 8) W1 #[] 0 (Nat.le_refl _) (by decide) rfl)
  have HB2 : Hid (Below W1.heap.size W1 (W1.alloc (Obj.cells #[] 24))) := (Below.refl _ _).alloc (Nat.le_refl _) _
  go_wp2_with fail
  go_loopw [7, 8] (fun ov iv wr => ∃ (i : Nat) (out : List Cm), i ≤ L.length ∧ iv = .int .i64 i ∧ out.length ≤ 200 ∧ Hid (R = scn ((bys L).drop i) (i + 1) out) ∧ wr.ownsRow W1.heap.size 24 8 ov out.length (out.flatMap Cm.vs) ∧ Below W1.heap.size W1 wr) (fun _ iv _ => L.length - (intOf iv).toNat)
  case atStart => exact ⟨0, [], Nat.zero_le _, rfl, by simp, unhide HRT, unhide HO2, unhide HB2⟩
  case round =>
    obtain ⟨i, out, hi, rfl, hol, hpl, hown, hbel⟩ := hrel
    have HB := hide hbel
    have HO := hide hown
    have hsz := hbel.size
    clear hbel hown HO2 HB2
    by_cases hlt : i < L.length
    · obtain ⟨x, hx⟩ : ∃ x, L[i]? = some x := ⟨_, List.getElem?_eq_getElem hlt⟩
      obtain ⟨b, off, rfl, hb, hcell⟩ := unhide HCL i x hx
      have x0 : wr.cell? ⟨b, off + i, none⟩ = some (.string x) := ((unhide HB).cell (p := ⟨b, off + i, none⟩) hb).trans hcell
      have hlt' : (i : Int) < L.length := by omega
      have hdr : (bys L).drop i = x.data.toList :: (bys L).drop (i + 1) := by
        have : (bys L)[i]? = some x.data.toList := by simp [bys, hx]
        obtain ⟨h1, h2⟩ := List.getElem?_eq_some_iff.1 this
        rw [← h2]; exact List.drop_eq_getElem_cons h1
      have HST := unhide hpl
      rw [hdr, scn_step] at HST
      have HST := hide HST
      have hxs := unhide HSM i x hx
      have HWD := hide (fun W => specWords_any x W hxs)
      clear hx hcell hdr hpl
      go_wp2_with fail
      refine (unhide HWD wr).mono ?_
      rintro e W3 ⟨vw, ws, rfl, hrow, hws, hb3⟩
      have HSMW := hide (wds_small hws hxs)
      obtain rfl := lnW_of hws
      have HB3 : Hid (Below W1.heap.size W1 W3) := (unhide HB).trans (hb3.mono (unhide HB).size)
      have HO3 := hide ((unhide HO).kept (below_gr (G := none) hb3 (Nat.le_refl _)) (Classical.em _))
      have HROW := hide hrow
      have hs3 := hb3.size
      clear hb3 hws x0
      have HBW3 : Hid (Below w.heap.size w W3) := (unhide HB1).trans ((unhide HB3).mono (unhide HB1).size)
      have HLN : Hid (lnN x.data.toList = (decide ((lnW x.data.toList).length = 0) || ((wL (lnW x.data.toList) 0).head? == some 35))) := rfl
      have HNE := hide (fun i h => lnW_ne (l := x.data.toList) i h)
      generalize lnN x.data.toList = ln at *
      generalize lnW x.data.toList = ws at *
      by_cases hne : ws = []
      · subst hne
        obtain rfl : ln = true := unhide HLN
        have HST := unhide HST
        rw [if_pos rfl] at HST
        have HST := hide HST
        obtain ⟨aw, cw, rfl⟩ : ∃ a cap, vw = .slice a 0 cap := by
          rcases hrow.2 with ⟨h, _⟩ | ⟨g, cap, cur, h, _⟩
          · exact ⟨_, _, h⟩
          · exact ⟨_, _, h⟩
        clear hrow
        go_wp2_with fail
        go_roundw
        case rel => exact ⟨i + 1, out, by omega, by go_num, hol, unhide HST, unhide HO3, unhide HB3⟩
        case measure => simp [intOf]; omega
      have hpos : 0 < ws.length := List.length_pos_iff.2 hne
      have hpos' : (0 : Int) < ws.length := by omega
      have hne0 : ((ws.length : Int) == 0) = false := beq_eq_false_iff_ne.2 (by omega)
      have HCM := hide (l08Cmd_any vw ws _ W3 hrow hne (unhide HSMW))
      obtain ⟨g, cw, rfl, hcw, -, hg, hcw2⟩ := trow_words hrow hne
      have y0 := hcw2 0 hpos
      have hw0 : 0 < (wB ws 0).size := by
        have := List.length_pos_iff.2 (unhide HNE 0 hpos)
        unfold wL at this
        rw [data_len] at this; exact this
      have hw0' : (0 : Int) < (wB ws 0).size := by omega
      have HHD : Hid ((wL ws 0).head? = some (wB ws 0)[0]) := head_at _ hw0
      clear hrow hcw hcw2
      by_cases h35 : (wB ws 0)[0] = 35
      · have hb35 : (((wB ws 0)[0].toNat : Int) == 35) = true := by rw [h35]; rfl
        obtain rfl : ln = true := by rw [unhide HLN, unhide HHD, h35]; simp
        have HST := unhide HST
        rw [if_pos rfl] at HST
        have HST := hide HST
        clear h35
        go_wp2_with fail
        go_roundw
        case rel => exact ⟨i + 1, out, by omega, by go_num, hol, unhide HST, unhide HO3, unhide HB3⟩
        case measure => simp [intOf]; omega
      have hb35 : (((wB ws 0)[0].toNat : Int) == 35) = false := by
        rw [beq_eq_false_iff_ne]
        intro e
        exact h35 (UInt8.toNat_inj.1 (by show _ = 35; omega))
      obtain rfl : ln = false := by
        rw [unhide HLN, unhide HHD, decide_eq_false (by omega)]
        simpa using h35
      have HST := unhide HST
      rw [if_neg (by decide)] at HST
      have HST := hide HST
      clear h35
      go_wp2_with fail
      refine (unhide HCM).mono ?_
      intro e W4 h4
      unfold CmEnd at h4
      obtain ⟨⟨ck, cs, ct, cl, cq, ci, cp, cg⟩, rfl, hcc, hb4⟩ := h4
      have HB4 : Hid (Below W1.heap.size W1 W4) := (unhide HB3).trans (hb4.mono (unhide HB3).size)
      have HO4 := hide ((unhide HO3).kept (below_gr (G := none) hb4 (Nat.le_refl _)) (Classical.em _))
      have HCC := hide hcc
      have hs4 := hb4.size
      clear hb4 hcc y0
      unfold cmA
      have HB5 : Hid (Below W1.heap.size W1 (W4.alloc (Obj.cells #[.int .i64 ck, .int .i64 cs, .int .i64 ct, .int .i64 cl, .int .i64 cq, .int .i64 ci, .float .f64 cp, .string cg] 24))) := (unhide HB4).alloc (unhide HB4).size _
      have HO5 := hide ((unhide HO4).alloc (Obj.cells #[.int .i64 ck, .int .i64 cs, .int .i64 ct, .int .i64 cl, .int .i64 cq, .int .i64 ci, .float .f64 cp, .string cg] 24))
      have HX5 : Hid ((W4.alloc (Obj.cells #[.int .i64 ck, .int .i64 cs, .int .i64 ct, .int .i64 cl, .int .i64 cq, .int .i64 ci, .float .f64 cp, .string cg] 24)).rangeAt W4.heap.size 0 (Cm.vs ⟨ck, cs, ct, cl, cq, ci, cp, cg⟩)) := cells_madeT W4 _ _
      have HBW5 : Hid (Below w.heap.size w (W4.alloc (Obj.cells #[.int .i64 ck, .int .i64 cs, .int .i64 ct, .int .i64 cl, .int .i64 cq, .int .i64 ci, .float .f64 cp, .string cg] 24))) := (unhide HB1).trans ((unhide HB5).mono (unhide HB1).size)
      obtain ⟨k0, k1, k2, k3, k4, k5, k6, k7⟩ := cm_cells (unhide HX5)
      simp only [Nat.zero_add] at k1 k2 k3 k4 k5 k6 k7
      cases hK : cmK ws with
      | false =>
        have HST := unhide HST
        rw [hK, if_pos rfl] at HST
        have HE : Hid (∀ v w', OwnR Cm.vs 8 w.heap.size w' v [] → Below w.heap.size w w' → RsEnd R w (.returned (.tuple #[v, .int .i64 4, .int .i64 ((i : Int) + 1)])) w') := fun v w' ho hb => by
          unfold RsEnd
          rw [HST]
          exact ⟨v, rfl, ho, hb⟩
        clear HST
        go_wp2_with fail
        go_ret3
        exact unhide HE _ _ own_nil (unhide HBW5)
      | true =>
        have HST := unhide HST
        rw [hK, if_neg (by decide)] at HST
        have hce := unhide HCC hK
        rw [← hce] at HST
        obtain ⟨ov, co, rfl⟩ : ∃ a c, u7 = .slice a out.length c := by
          rcases (unhide HO5).2 with ⟨h, h0⟩ | ⟨g, cap, cur, h, _⟩
          · exact ⟨none, 0, by rw [h, h0]⟩
          · exact ⟨_, _, h⟩
        by_cases h200 : out.length = 200
        · rw [if_pos h200] at HST
          have HE : Hid (∀ v w', OwnR Cm.vs 8 w.heap.size w' v [] → Below w.heap.size w w' → RsEnd R w (.returned (.tuple #[v, .int .i64 7, .int .i64 ((i : Int) + 1)])) w') := fun v w' ho hb => by
            unfold RsEnd
            rw [HST]
            exact ⟨v, rfl, ho, hb⟩
          have hb200 : ((out.length : Int) == 200) = true := by rw [h200]; rfl
          clear HST hce h200
          go_wp2_with fail
          go_ret3
          exact unhide HE _ _ own_nil (unhide HBW5)
        · rw [if_neg h200] at HST
          have HST := hide HST
          have hb200 : ((out.length : Int) == 200) = false := beq_eq_false_iff_ne.2 (by omega)
          have hol2 : out.length + 1 ≤ 200 := by omega
          clear hce h200
          have hsq : (W4.alloc (Obj.cells #[.int .i64 ck, .int .i64 cs, .int .i64 ct, .int .i64 cl, .int .i64 cq, .int .i64 ci, .float .f64 cp, .string cg] 24)).heap.size = W4.heap.size + 1 := size_madeT _ _
          have HCS : Hid (∀ j u, (Cm.vs ⟨ck, cs, ct, cl, cq, ci, cp, cg⟩)[j]? = some u → ((W4.alloc (Obj.cells #[.int .i64 ck, .int .i64 cs, .int .i64 ct, .int .i64 cl, .int .i64 cq, .int .i64 ci, .float .f64 cp, .string cg] 24)).alloc (Obj.cells (Cm.vs ⟨ck, cs, ct, cl, cq, ci, cp, cg⟩).toArray 24)).cell? ((⟨W4.heap.size + 1, 0, none⟩ : Addr).add j) = some u) := fun j u hu => by
            have := cellsT (W4.alloc (Obj.cells #[.int .i64 ck, .int .i64 cs, .int .i64 ct, .int .i64 cl, .int .i64 cq, .int .i64 ci, .float .f64 cp, .string cg] 24)) (Cm.vs ⟨ck, cs, ct, cl, cq, ci, cp, cg⟩) 24 j u hu
            rwa [hsq] at this
          go_wp2_with (at_builtin; go_must (refine wpList_append_own _ rfl _ _ 29 rfl W1.heap.size 24 i0 _ 8 72 Tryd.underlying29 hi0 hz0 hz1 hz2 rfl (by decide) _ out.length (out.flatMap Cm.vs) rfl ((unhide HO5).alloc _) ⟨W4.heap.size + 1, 0, none⟩ 1 1 (Cm.vs ⟨ck, cs, ct, cl, cq, ci, cp, cg⟩) rfl rfl (unhide HCS) (by simp [Value.oneCell', Cm.vs]) (by unfold maxLen; omega) (by omega) (by simp; omega) ?_); intro v6 w6 hown6 hg6 _; have HO6 := hide hown6; have HB6 := hide (((unhide HB5).alloc (unhide HB5).size _).grown hg6 (by rw [size_madeT, hsq]; omega) (fun k hk => ((unhide HO5).lt k hk).1)); clear hown6 hg6)
          go_roundw
          case rel => exact ⟨i + 1, out ++ [(⟨ck, cs, ct, cl, cq, ci, cp, cg⟩ : Cm)], by omega, by go_num, by simp; omega, HST, by simpa using unhide HO6, unhide HB6⟩
          case measure => simp [intOf]; omega
    · obtain rfl : i = L.length := by omega
      have HE : Hid (R = (out, 0, 0)) := by
        have := unhide hpl
        rw [List.drop_of_length_le (by simp [bys])] at this
        exact this
      have HBW : Hid (Below w.heap.size w wr) := (unhide HB1).trans ((unhide HB).mono (unhide HB1).size)
      have hsb := (unhide HB1).size
      clear hpl
      go_wp2_with fail
      go_ret3
      unfold RsEnd
      rw [unhide HE]
      obtain ⟨oa, oc, ho1, ho2, ho3⟩ := ownR_row Cm.len (by omega) (unhide HO)
      exact ⟨_, rfl, ⟨oa, oc, ho1, ho2, fun h => by obtain ⟨g, e1, e2, e3⟩ := ho3 h; exact ⟨g, e1, Nat.le_trans hsb e2, e3⟩⟩, unhide HBW⟩
end Go.Proofs.YtjjopdkbdebfoaaDoor
