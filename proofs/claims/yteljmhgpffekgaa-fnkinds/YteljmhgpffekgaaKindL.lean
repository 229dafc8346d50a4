/-
  The law of the kinds of floats, walked: it returns true, and nothing that was there is turned.
-/
import Derived.Test.YteljmhgpffekgaaExKinds
import Derived.Test.YteljmhgpffekgaaExRange
import Derived.Test.YteljmhgpffekgaaExSumP
import Derived.Test.YteljmhgpffekgaaKindQ
import Derived.Test.YteljmhgpffekgaaSrcFs
namespace Go.Proofs.Yteljmhgpffekgaa
open Go.RowKit
set_option linter.unusedVariables false

theorem rdFl_row {B : Nat} {e : TypeId} {w : World} {o : Value} {xs : List Nat} (h : w.ownsRow B e 1 o xs.length (xs.map (Value.float .f64))) (hl : xs.length ≤ 1073741824) : RdF w o xs := by
  obtain ⟨h1, ⟨h2, h0⟩ | ⟨g, cap, cur, h3, h4, h5, h6, h7, h8, h9⟩⟩ := h
  · exact ⟨none, 0, by rw [h2, h0], hl, fun hne => absurd (List.length_eq_zero_iff.1 h0) hne⟩
  · refine ⟨_, cap, h3, hl, fun _ => ⟨g, 0, rfl, fun i hi => ?_⟩⟩
    rw [Nat.zero_add, cell_of_row w g i cur e (0, 0) h5]
    have h10 : (cur.toList.take (xs.length * 1))[i]? = (xs.map (Value.float .f64))[i]? := by rw [h9]
    rw [List.getElem?_take, if_pos (by omega), List.getElem?_map, List.getElem?_eq_getElem hi] at h10
    simpa [hi] using h10
theorem floatsOfK_any (v : Value) (l : List Int) (w : World) (h : Rd w v l) (hb : Bts l) :
    Calls Try.prog 9 #[v] w fun e w' => ∃ (o : Value) (xs : List Nat), e = .returned o ∧ Fls xs ∧ xs.length ≤ 10 ∧ RdF w' o xs ∧ Below w.heap.size w w' := by
  have HR := hide h
  have HB := hide hb
  obtain ⟨a, cap, rfl, hl, _⟩ := h
  clear hb
  go_enter Try.func9, Try.ntmps9
  go_wp2_with fail
  refine (source_any _ l _ (unhide HR) (unhide HB)).mono ?_
  rintro e w1 ⟨rfl, hS, hb1⟩
  have HS := hide hS
  have HB1 := hide hb1
  have HV : Hid (l ≠ [] → ∀ k, (Value.slice a l.length cap).ownBlock = some k → k < w1.heap.size) := by
    intro hne k hk
    obtain ⟨a2, cap2, e2, _, hc⟩ := hS.rd
    obtain ⟨b, off, e3, hcell⟩ := hc hne
    have := World.block_lt_of_cell? w1 _ (hcell 0 (List.length_pos_iff.2 hne))
    simp only [Value.slice.injEq, true_and] at e2
    rw [e2.1, e3] at hk
    have hk' : b = k := Option.some.inj hk
    simp only at this
    omega
  clear hS hb1
  go_wp2_with fail
  refine (floats_drawn _ _ l _ _ (unhide HS) (by omega) (unhide HV)).mono ?_
  rintro e w2 ⟨o, xs, rfl, hxs, hlen, hown, hE⟩
  have H1 := hide hxs
  have H2 := hide hown
  have HE := hide hE
  clear hxs hown hE
  go_wp2_with fail
  go_ret
  exact ⟨_, xs, rfl, unhide H1, hlen, rdFl_row (unhide H2) (by omega), own_below_grown (unhide HB1) (Nat.le_refl _) (unhide HE)⟩
theorem inf_any (w : World) : Calls Try.prog 14 #[] w fun e w' => e = .returned (.float .f64 9218868437227405312) ∧ w' = w := by
  have h := one_zero
  go_enter Try.func14, Try.ntmps14
  go_wp2_with fail
  go_ret
  exact ⟨rfl, rfl⟩
theorem less_inf (W : World) : (binOp .quo 29 (.float .f64 13830554455654793216) (.float .f64 9218868437227405312)).run Try.prog W = .ok (.float .f64 9223372036854775808) W := by
  have h : FloatKind.f64.format.div 13830554455654793216 9218868437227405312 = some 9223372036854775808 := by kernel_rfl
  simp [binOp, Op.floatArith, h]

set_option maxRecDepth 100000 in
set_option maxHeartbeats 1600000 in
theorem kindsBoth (vc : Value) (lc : List Int) (w : World) (hrc : Rd w vc lc) (hbc : Bts lc) (h1 : lc.length ≤ 1048576) :
    Calls Try.prog 3 #[vc] w fun e w' => e = .returned (.bool true) ∧ Below w.heap.size w w' := by
  obtain ⟨i0, hi, hz0, hz1, hz2⟩ := info_parts Try.infoFlt
  have HC := hide hrc
  have HBC := hide hbc
  obtain ⟨ac, cc, rfl, -, -⟩ := hrc
  have h1' : (lc.length : Int) ≤ 1048576 := by omega
  clear hbc
  go_enter Try.func3, Try.ntmps3
  go_wp2_with fail
  refine (floatsOfK_any _ lc _ (unhide HC) (unhide HBC)).mono ?_
  rintro e w1 ⟨o, xs, rfl, hxs, hlen, hrf, hb1⟩
  have HF := hide hrf
  have HX := hide hxs
  have B1 := hide hb1
  have HI := hide (fun W (h : RdF W o xs) => implKinds_any o xs W h hxs (by omega))
  have HP := hide (fun W (h : RdF W o xs) => specKinds_any o xs W h hxs (by omega))
  have hk := knL xs hxs
  generalize kindsL xs = T at HI HP hk
  obtain ⟨ta, tb, tc, td, te, tf, tg⟩ := T
  simp only at HI HP
  obtain ⟨s, ok, ka, ke, kcg⟩ := hk
  simp only at s ka ke kcg
  obtain ⟨⟨a0, a1⟩, ⟨b0, b1⟩, ⟨c0, c1⟩, ⟨d0, d1⟩, ⟨e0, e1⟩, ⟨f0, f1⟩, ⟨g0, g1⟩⟩ := ok
  simp only at a0 a1 b0 b1 c0 c1 d0 d1 e0 e1 f0 f1 g0 g1
  have HS := hide s
  have HKA := hide ka
  have HKE := hide ke
  have HKC := hide kcg
  clear hrf hxs hb1 HC HBC s ka ke kcg
  obtain ⟨ao, co, eo⟩ := rdF_len (unhide HF)
  subst eo
  go_wp2_with fail
  refine (unhide HI _ (unhide HF)).mono ?_
  rintro e w2 ⟨rfl, hb2⟩
  have F2 := hide (rdF_below (unhide HF) hb2 (Nat.le_refl _))
  have B2 := hide ((unhide B1).trans (hb2.mono (unhide B1).size))
  clear hb2
  go_wp2_with fail
  have X1 := hide (bx_made w2 [.int .i64 ta, .int .i64 tb, .int .i64 tc, .int .i64 td, .int .i64 te, .int .i64 tf, .int .i64 tg] 26)
  have BA := hide ((Below.refl w2.heap.size w2).alloc (Nat.le_refl _) (Obj.cells ([.int .i64 ta, .int .i64 tb, .int .i64 tc, .int .i64 td, .int .i64 te, .int .i64 tf, .int .i64 tg]).toArray 26))
  have hn0 : w2.heap.size < (w2.alloc (Obj.cells ([.int .i64 ta, .int .i64 tb, .int .i64 tc, .int .i64 td, .int .i64 te, .int .i64 tf, .int .i64 tg]).toArray 26)).heap.size := by simp
  have HN0 := hide hn0
  clear hn0
  have F3 := hide (rdF_below (unhide F2) (unhide BA) (Nat.le_refl _))
  have B3 := hide ((unhide B2).trans ((unhide BA).mono (unhide B2).size))
  change Calls _ _ _ (w2.alloc (Obj.cells ([.int .i64 ta, .int .i64 tb, .int .i64 tc, .int .i64 td, .int .i64 te, .int .i64 tf, .int .i64 tg]).toArray 26)) _
  generalize (w2.alloc (Obj.cells ([.int .i64 ta, .int .i64 tb, .int .i64 tc, .int .i64 td, .int .i64 te, .int .i64 tf, .int .i64 tg]).toArray 26)) = V1 at X1 BA HN0 F3 B3 ⊢
  generalize w2.heap.size = n0 at X1 HN0 ⊢
  clear BA F2 B2
  refine (unhide HP _ (unhide F3)).mono ?_
  rintro e w3 ⟨rfl, hb3⟩
  have F4 := hide (rdF_below (unhide F3) hb3 (Nat.le_refl _))
  have B4 := hide ((unhide B3).trans (hb3.mono (unhide B3).size))
  have X2 := hide (bx_below (unhide X1) hb3 (unhide HN0))
  have HN1 := hide (Nat.lt_of_lt_of_le (unhide HN0) hb3.size)
  clear hb3
  have BA := hide ((Below.refl w3.heap.size w3).alloc (Nat.le_refl _) (Obj.cells ([.int .i64 ta, .int .i64 tb, .int .i64 tc, .int .i64 td, .int .i64 te, .int .i64 tf, .int .i64 tg]).toArray 26))
  have X3 := hide (bx_below (unhide X2) (unhide BA) (unhide HN1))
  have F5 := hide (rdF_below (unhide F4) (unhide BA) (Nat.le_refl _))
  have B5 := hide ((unhide B4).trans ((unhide BA).mono (unhide B4).size))
  have HN2 := hide (Nat.lt_of_lt_of_le (unhide HN1) (unhide BA).size)
  have y0 : (w3.alloc (Obj.cells #[.int .i64 ta, .int .i64 tb, .int .i64 tc, .int .i64 td, .int .i64 te, .int .i64 tf, .int .i64 tg] 26)).cell? ⟨n0, 0, none⟩ = some (.int .i64 ta) := bx_cell (unhide X3) 0 rfl
  have y1 : (w3.alloc (Obj.cells #[.int .i64 ta, .int .i64 tb, .int .i64 tc, .int .i64 td, .int .i64 te, .int .i64 tf, .int .i64 tg] 26)).cell? ⟨n0, 1, none⟩ = some (.int .i64 tb) := bx_cell (unhide X3) 1 rfl
  have y2 : (w3.alloc (Obj.cells #[.int .i64 ta, .int .i64 tb, .int .i64 tc, .int .i64 td, .int .i64 te, .int .i64 tf, .int .i64 tg] 26)).cell? ⟨n0, 2, none⟩ = some (.int .i64 tc) := bx_cell (unhide X3) 2 rfl
  have y3 : (w3.alloc (Obj.cells #[.int .i64 ta, .int .i64 tb, .int .i64 tc, .int .i64 td, .int .i64 te, .int .i64 tf, .int .i64 tg] 26)).cell? ⟨n0, 3, none⟩ = some (.int .i64 td) := bx_cell (unhide X3) 3 rfl
  have y4 : (w3.alloc (Obj.cells #[.int .i64 ta, .int .i64 tb, .int .i64 tc, .int .i64 td, .int .i64 te, .int .i64 tf, .int .i64 tg] 26)).cell? ⟨n0, 4, none⟩ = some (.int .i64 te) := bx_cell (unhide X3) 4 rfl
  have y5 : (w3.alloc (Obj.cells #[.int .i64 ta, .int .i64 tb, .int .i64 tc, .int .i64 td, .int .i64 te, .int .i64 tf, .int .i64 tg] 26)).cell? ⟨n0, 5, none⟩ = some (.int .i64 tf) := bx_cell (unhide X3) 5 rfl
  have y6 : (w3.alloc (Obj.cells #[.int .i64 ta, .int .i64 tb, .int .i64 tc, .int .i64 td, .int .i64 te, .int .i64 tf, .int .i64 tg] 26)).cell? ⟨n0, 6, none⟩ = some (.int .i64 tg) := bx_cell (unhide X3) 6 rfl
  have hsum : (ta + tb + tc + td + te + tf + tg != (xs.length : Int)) = false := by rw [unhide HS]; simp
  have hlen' : (xs.length : Int) ≤ 10 := by omega
  go_wp2_with fail
  clear y0 y1 y2 y3 y4 y5 y6 hsum HI HP
  have hY : (w3.alloc (Obj.cells #[.int .i64 ta, .int .i64 tb, .int .i64 tc, .int .i64 td, .int .i64 te, .int .i64 tf, .int .i64 tg] 26)).heap.size = w3.heap.size + 1 := by simp
  have HX3 : Hid (Bx (w3.alloc (Obj.cells #[.int .i64 ta, .int .i64 tb, .int .i64 tc, .int .i64 td, .int .i64 te, .int .i64 tf, .int .i64 tg] 26)) n0 [.int .i64 ta, .int .i64 tb, .int .i64 tc, .int .i64 td, .int .i64 te, .int .i64 tf, .int .i64 tg]) := unhide X3
  have HF5 : Hid (RdF (w3.alloc (Obj.cells #[.int .i64 ta, .int .i64 tb, .int .i64 tc, .int .i64 td, .int .i64 te, .int .i64 tf, .int .i64 tg] 26)) (.slice ao xs.length co) xs) := unhide F5
  have HB5 : Hid (Below w.heap.size w (w3.alloc (Obj.cells #[.int .i64 ta, .int .i64 tb, .int .i64 tc, .int .i64 td, .int .i64 te, .int .i64 tf, .int .i64 tg] 26))) := unhide B5
  have HN3 : Hid (n0 < (w3.alloc (Obj.cells #[.int .i64 ta, .int .i64 tb, .int .i64 tc, .int .i64 td, .int .i64 te, .int .i64 tf, .int .i64 tg] 26)).heap.size) := unhide HN2
  clear X3 F5 B5 HN2 X2 HN1 BA X1 HN0 F3 B3 F4 B4 HF B1
  rw [← hY]
  generalize (w3.alloc (Obj.cells #[.int .i64 ta, .int .i64 tb, .int .i64 tc, .int .i64 td, .int .i64 te, .int .i64 tf, .int .i64 tg] 26)) = Y at HX3 HF5 HB5 HN3 hY ⊢
  clear hY
  generalize w3.heap.size = n1
  have HO0 := hide (World.ownsRow_made (base := Y.heap.size) (e := 29) (size := 1) Y #[] 0 (Nat.le_refl _) (by decide) rfl)
  have HBY := hide ((Below.refl Y.heap.size Y).alloc (Nat.le_refl _) (Obj.cells #[] 29))
  go_loopw [8, 9] (fun bv iv wr => ∃ m : Nat, m ≤ xs.length ∧ iv = .int .i64 ((m : Int) - 1) ∧ Hid (wr.ownsRow Y.heap.size 29 1 bv (xs.drop m).reverse.length ((xs.drop m).reverse.map (Value.float .f64)) ∧ Below Y.heap.size Y wr)) (fun _ iv _ => (intOf iv + 1).toNat)
  case atStart => exact ⟨xs.length, Nat.le_refl _, rfl, by simpa using ⟨unhide HO0, unhide HBY⟩⟩
  case round =>
    obtain ⟨m, hm, rfl, hin⟩ := hrel
    have HO := hide (unhide hin).1
    have HB := hide (unhide hin).2
    clear hin
    by_cases hm0 : 0 < m
    · obtain ⟨m, rfl⟩ : ∃ m', m = m' + 1 := ⟨m - 1, by omega⟩
      obtain ⟨ao', co', eo', _, hc⟩ := unhide HF5
      obtain ⟨b, off, eb, hcell⟩ := hc (by intro h; rw [h] at hm; simp at hm)
      have hc1 := hcell m (by omega)
      have hlt0 := World.block_lt_of_cell? Y _ hc1
      have hc2 := ((unhide HB).cell (p := ⟨b, off + m, none⟩) hlt0).trans hc1
      obtain ⟨rfl, rfl⟩ : ao = ao' ∧ co = co' := by simpa using eo'
      subst eb
      have HRV : Hid ((xs.drop m).reverse = (xs.drop (m + 1)).reverse ++ [xs.getD m 0]) := by
        have : (xs.drop m).reverse = (xs.drop (m + 1)).reverse ++ [xs.getD m 0] := by
          rw [List.drop_eq_getElem_cons (show m < xs.length by omega), List.reverse_cons]
          simp [show m < xs.length by omega]
        exact this
      have hlr : (xs.drop (m + 1)).reverse.length ≤ 10 := by simp; omega
      generalize xs.getD m 0 = x at hc2 HRV
      clear hc1 hcell hc eo' hm0
      have hs3 : Y.heap.size ≤ wr.heap.size := (unhide HB).size
      rw [show ((m + 1 : Nat) : Int) - 1 = (m : Int) by omega]
      have hm' : (m : Int) < xs.length := by omega
      generalize (xs.drop (m + 1)).reverse = ys at HO HRV hlr
      go_wp2_with (at_builtin; go_must (refine wpList_append_own _ rfl _ _ 23 rfl Y.heap.size 29 i0 (.float .f64 0) 1 8 Try.underlying23 hi hz0 hz1 hz2 rfl (by decide) _ _ _ rfl ((unhide HO).alloc _) ⟨wr.heap.size, 0, none⟩ 1 1 [.float .f64 x] rfl rfl (cell_one_new _ _ _) (by simp [Value.oneCell']) (by unfold maxLen; omega) (by omega) (by simp; omega) ?_); intro v4 w4 hown4 hg4 _)
      go_roundw
      case rel =>
        refine ⟨m, by omega, by go_num, ?_, ?_⟩
        · rw [unhide HRV]; simpa using hown4
        · exact ((unhide HB).alloc hs3 _).grown hg4 (by simp; omega) (fun k hk => ((unhide HO).lt k hk).1)
      case measure => simp [intOf]
    · obtain rfl : m = 0 := by omega
      have HR0 := hide (rdFl_row (unhide HO) (by simp; omega))
      rw [List.drop_zero] at HR0
      clear HO
      have F6 := hide (rdF_below (unhide HF5) (unhide HB) (Nat.le_refl _))
      have X6 := hide (bx_below (unhide HX3) (unhide HB) (unhide HN3))
      have B6 := hide ((unhide HB5).trans ((unhide HB).mono (unhide HB5).size))
      clear HF5 HX3 HB5 HB HO0 HBY
      have RI := hide (fun W h => implRange_any (.slice ao xs.length co) xs W h (unhide HX) (by omega))
      have RB := hide (fun W h => implRange_any u8 xs.reverse W h (fun x hx => unhide HX x (by simpa using hx)) (by simp; omega))
      rw [rngO_reverse xs (unhide HX)] at RB
      have hA := rngIs xs
      have hLH : ∀ p q, rngO xs = some (p, q) → (FloatKind.f64.format.order p q == some Ordering.gt) = false := fun p q h => low_high (unhide HX) h
      have hML : ∀ p q, rngO xs = some (p, q) → 0 < te → tc + tg = 0 → p = 9223372036854775808 := fun p q h h1 h2 => minus_low (unhide HX) h ((unhide HKE).1 h1) (unhide HKC h2)
      have SI := hide (fun W h => implSumP_any (.slice ao xs.length co) xs W h (by omega))
      have SS := hide (fun W h => specSumP_any (.slice ao xs.length co) xs W h (by omega))
      have y0 : wr.cell? ⟨n0, 0, none⟩ = some (.int .i64 ta) := bx_cell (unhide X6) 0 rfl
      have y1 : wr.cell? ⟨n0, 1, none⟩ = some (.int .i64 tb) := bx_cell (unhide X6) 1 rfl
      have y2 : wr.cell? ⟨n0, 2, none⟩ = some (.int .i64 tc) := bx_cell (unhide X6) 2 rfl
      have y3 : wr.cell? ⟨n0, 3, none⟩ = some (.int .i64 td) := bx_cell (unhide X6) 3 rfl
      have y4 : wr.cell? ⟨n0, 4, none⟩ = some (.int .i64 te) := bx_cell (unhide X6) 4 rfl
      have y5 : wr.cell? ⟨n0, 5, none⟩ = some (.int .i64 tf) := bx_cell (unhide X6) 5 rfl
      have y6 : wr.cell? ⟨n0, 6, none⟩ = some (.int .i64 tg) := bx_cell (unhide X6) 6 rfl
      cases ho : rngO xs with
      | none =>
        rw [ho, show rngA none = 0 from rfl, show rngB none = 0 from rfl, show rngC none = 6 from rfl] at RI RB
        have hall := hA.n ho
        have hta := (unhide HKA).2 hall
        have hb1 : (ta == (xs.length : Int)) = true := by rw [hta]; simp
        clear hA hLH hML hall hta ho
        go_wp2_with fail
        refine (unhide RI _ (unhide F6)).mono ?_
        rintro e W ⟨rfl, rfl⟩
        go_wp2_with fail
        refine (unhide RB _ (unhide HR0)).mono ?_
        rintro e W ⟨rfl, rfl⟩
        go_wp2_with fail
        refine (sameFloat_any _ _).mono ?_
        rintro e W ⟨rfl, rfl⟩
        go_wp2_with fail
        refine (sameFloat_any _ _).mono ?_
        rintro e W ⟨rfl, rfl⟩
        go_wp2_with fail
        refine (unhide SI _ (unhide F6)).mono ?_
        rintro e W1 ⟨s1, m1, rfl, hs1, rfl⟩
        have S1 := hide hs1
        clear hs1
        go_wp2_with fail
        refine (unhide SS _ (rdF_drewN (unhide F6) m1)).mono ?_
        rintro e W2 ⟨s2, m2, rfl, hs2, rfl⟩
        have S2 := hide hs2
        clear hs2
        go_wp2_with fail
        refine (sameFloat_has _ _ _ _ (unhide S1) (unhide S2)).mono ?_
        rintro e W3 ⟨rfl, rfl⟩
        go_wp2_with fail
        go_ret
        exact ⟨rfl, below_drewN' (unhide B6) _⟩
      | some pq =>
        obtain ⟨p, q⟩ := pq
        rw [ho, show rngA (some (p, q)) = p from rfl, show rngB (some (p, q)) = q from rfl, show rngC (some (p, q)) = 0 from rfl] at RI RB
        have hb1 : (ta == (xs.length : Int)) = false := by
          rw [beq_eq_false_iff_ne]
          intro e
          obtain ⟨⟨m1, m2, _⟩, _⟩ := hA.s p q ho
          rw [(unhide HKA).1 e p m1] at m2; cases m2
        have hlh := hLH p q ho
        have hml := hML p q ho
        have HML := hide hml
        clear hA hLH hML ho hml
        by_cases hte : 0 < te
        · by_cases hcg : tc + tg = 0
          · obtain rfl := unhide HML hte hcg
            have hli := less_inf
            have hcg' : (tc + tg == 0) = true := by rw [hcg]; rfl
            clear hcg
            go_wp2_with fail
            refine (unhide RI _ (unhide F6)).mono ?_
            rintro e W ⟨rfl, rfl⟩
            go_wp2_with fail
            refine (unhide RB _ (unhide HR0)).mono ?_
            rintro e W ⟨rfl, rfl⟩
            go_wp2_with fail
            refine (sameFloat_any _ _).mono ?_
            rintro e W ⟨rfl, rfl⟩
            go_wp2_with fail
            refine (sameFloat_any _ _).mono ?_
            rintro e W ⟨rfl, rfl⟩
            go_wp2_with fail
            refine (inf_any _).mono ?_
            rintro e W ⟨rfl, rfl⟩
            go_wp2_with fail
            refine (sameFloat_any _ _).mono ?_
            rintro e W ⟨rfl, rfl⟩
            go_wp2_with fail
            refine (unhide SI _ (unhide F6)).mono ?_
            rintro e W1 ⟨s1, m1, rfl, hs1, rfl⟩
            have S1 := hide hs1
            clear hs1
            go_wp2_with fail
            refine (unhide SS _ (rdF_drewN (unhide F6) m1)).mono ?_
            rintro e W2 ⟨s2, m2, rfl, hs2, rfl⟩
            have S2 := hide hs2
            clear hs2
            go_wp2_with fail
            refine (sameFloat_has _ _ _ _ (unhide S1) (unhide S2)).mono ?_
            rintro e W3 ⟨rfl, rfl⟩
            go_wp2_with fail
            go_ret
            exact ⟨rfl, below_drewN' (unhide B6) _⟩
          · have hcg' : (tc + tg == 0) = false := by rw [beq_eq_false_iff_ne]; exact hcg
            clear hcg
            go_wp2_with fail
            refine (unhide RI _ (unhide F6)).mono ?_
            rintro e W ⟨rfl, rfl⟩
            go_wp2_with fail
            refine (unhide RB _ (unhide HR0)).mono ?_
            rintro e W ⟨rfl, rfl⟩
            go_wp2_with fail
            refine (sameFloat_any _ _).mono ?_
            rintro e W ⟨rfl, rfl⟩
            go_wp2_with fail
            refine (sameFloat_any _ _).mono ?_
            rintro e W ⟨rfl, rfl⟩
            go_wp2_with fail
            refine (unhide SI _ (unhide F6)).mono ?_
            rintro e W1 ⟨s1, m1, rfl, hs1, rfl⟩
            have S1 := hide hs1
            clear hs1
            go_wp2_with fail
            refine (unhide SS _ (rdF_drewN (unhide F6) m1)).mono ?_
            rintro e W2 ⟨s2, m2, rfl, hs2, rfl⟩
            have S2 := hide hs2
            clear hs2
            go_wp2_with fail
            refine (sameFloat_has _ _ _ _ (unhide S1) (unhide S2)).mono ?_
            rintro e W3 ⟨rfl, rfl⟩
            go_wp2_with fail
            go_ret
            exact ⟨rfl, below_drewN' (unhide B6) _⟩
        · have hte' : te ≤ 0 := by omega
          go_wp2_with fail
          refine (unhide RI _ (unhide F6)).mono ?_
          rintro e W ⟨rfl, rfl⟩
          go_wp2_with fail
          refine (unhide RB _ (unhide HR0)).mono ?_
          rintro e W ⟨rfl, rfl⟩
          go_wp2_with fail
          refine (sameFloat_any _ _).mono ?_
          rintro e W ⟨rfl, rfl⟩
          go_wp2_with fail
          refine (sameFloat_any _ _).mono ?_
          rintro e W ⟨rfl, rfl⟩
          go_wp2_with fail
          refine (unhide SI _ (unhide F6)).mono ?_
          rintro e W1 ⟨s1, m1, rfl, hs1, rfl⟩
          have S1 := hide hs1
          clear hs1
          go_wp2_with fail
          refine (unhide SS _ (rdF_drewN (unhide F6) m1)).mono ?_
          rintro e W2 ⟨s2, m2, rfl, hs2, rfl⟩
          have S2 := hide hs2
          clear hs2
          go_wp2_with fail
          refine (sameFloat_has _ _ _ _ (unhide S1) (unhide S2)).mono ?_
          rintro e W3 ⟨rfl, rfl⟩
          go_wp2_with fail
          go_ret
          exact ⟨rfl, below_drewN' (unhide B6) _⟩

theorem lawKindsL (a0 : Option Addr) (len0 cap0 : Nat) (z0 : List Int) (w : World)
    (w0 : (a0 = none ∧ len0 = 0 ∧ cap0 = 0 ∧ z0 = []) ∨ ∃ x, a0 = some x ∧ len0 ≤ cap0 ∧ cap0 ≤ maxLen ∧ z0.length = cap0 ∧ (∀ i, i < z0.length → w.cell? (x.add i) = some (.int .u8 (z0.getD i 0))) ∧ ∀ n ∈ z0, (Lit.int .u8 n).wf = true) :
    Calls Try.prog 3 #[.slice a0 len0 cap0] w fun e w' => e = .returned (.bool true) ∧ Below w.heap.size w w' := by
  by_cases h0 : 1048576 < len0
  · have h0' : (1048576 : Int) < len0 := by omega
    clear w0
    go_enter Try.func3, Try.ntmps3
    go_wp2_with fail
    go_ret
    exact ⟨rfl, Below.refl _ _⟩
  obtain ⟨e0, r0, b0⟩ := rd_of_row w0 (by omega)
  exact kindsBoth _ _ w r0 b0 (by omega)
end Go.Proofs.Yteljmhgpffekgaa
