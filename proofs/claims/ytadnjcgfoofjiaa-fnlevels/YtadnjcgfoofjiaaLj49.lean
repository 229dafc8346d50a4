/-
  The law of the levels, walked: it returns true, and nothing that was there is turned.
-/
import Derived.Test.YtadnjcgfoofjiaaLj31
import Derived.Test.YtadnjcgfoofjiaaLj33
import Derived.Test.YtadnjcgfoofjiaaLj41
import Derived.Test.YtadnjcgfoofjiaaLj42
import Derived.Test.YtadnjcgfoofjiaaLj45
import Derived.Test.YtadnjcgfoofjiaaLj48
import Derived.LoopN
namespace Go.Proofs.Ytadnjcgfoofjiaa
open Go.RowKit
set_option linter.unusedVariables false

set_option maxRecDepth 100000 in
set_option maxHeartbeats 4000000 in
theorem levelsLaw (v : Value) (code : List Int) (w : World) (hr : Rd w v code) (hb : Bts code) (hl : code.length ≤ 1048576) :
    Calls Try.prog 3 #[v] w fun e w' => e = .returned (.bool true) ∧ Below w.heap.size w w' := by
  have HR := hide hr
  have HBT := hide hb
  obtain ⟨a, cap, rfl, hlen, hc⟩ := hr
  have hl' : ¬ ((1048576 : Int) < code.length) := by omega
  clear hc hb
  go_enter Try.func3, Try.ntmps3
  go_wp2_with fail
  refine (bookOf_any _ code w (unhide HR) (unhide HBT) hl).mono ?_
  rintro e w1 ⟨n, vq, l, rfl, ho1, hok, htg, hb1, -⟩
  have HO1 := hide ho1
  have HTG := hide htg
  have HB1 := hide hb1
  obtain ⟨aq, cq, rfl, -, -⟩ := ho1
  have H2 : Hid (Below w1.heap.size w1 (w1.alloc (Obj.cells #[.int .i64 n, .slice aq l.length cq] 25))) := (Below.refl _ _).alloc (Nat.le_refl _) _
  have X2 : Hid (World.rangeAt (w1.alloc (Obj.cells #[.int .i64 n, .slice aq l.length cq] 25)) w1.heap.size 0 [.int .i64 n, .slice aq l.length cq] ∧ w1.heap.size < (w1.alloc (Obj.cells #[.int .i64 n, .slice aq l.length cq] 25)).heap.size) := ⟨cells_made w1 [.int .i64 n, .slice aq l.length cq] _, by rw [size_made]; omega⟩
  obtain ⟨hn, hri, hlb⟩ := okS_left hok
  have HOK := hide hok
  have HRI := hide hri
  have HLB := hide hlb
  clear hb1 htg hok hri hlb
  go_wp2_with fail
  generalize (w1.alloc (Obj.cells #[.int .i64 n, .slice aq l.length cq] 25)) = W2 at H2 X2 ⊢
  have HR2 := hide (rdR_below (ownR_rd (unhide HO1)) (unhide H2) (Nat.le_refl _))
  refine (implLevels_any n _ l W2 (unhide HR2) (unhide HTG)).mono ?_
  rintro e w3 ⟨lv, rfl, ho3, hb3⟩
  have e1 : lvC n l = 0 := by rw [lvC, if_pos (unhide HOK)]
  have e2 : lvR n l = lvsB l := by rw [lvR, if_pos (unhide HOK)]; rfl
  rw [e2] at ho3
  rw [e1]
  obtain ⟨al, cl, rfl, hll, hcl⟩ := ho3
  have hlL : (lvsB l).length ≤ 40 := by
    unfold lvsB lvsOf
    rw [List.length_append, List.length_map, List.length_map]
    have h1 := tks_len true (ofSide l 1)
    have h2 := tks_len false (ofSide l 2)
    have h3 : (ofSide l 1).length ≤ l.length := List.length_filter_le _ _
    have h4 : (ofSide l 2).length ≤ l.length := List.length_filter_le _ _
    omega
  have HCL : Hid (∀ j c, (lvsB l)[j]? = some c → ∃ g, al = some ⟨g, 0, none⟩ ∧ g < w3.heap.size ∧ w3.rangeAt g (j * 4) c.vs) := fun j c hj => by
    obtain ⟨g, h1, _, h3, h4, _⟩ := hcl (by intro h; rw [h] at hj; simp at hj)
    have := h4 j c hj
    rw [Nat.zero_add] at this
    exact ⟨g, h1, h3, this⟩
  have HX3 := hide (range_below (unhide X2).1 hb3 (unhide X2).2)
  have hw3 : w1.heap.size < w3.heap.size := Nat.lt_of_lt_of_le (unhide X2).2 hb3.size
  have HR3 := hide (rdR_below (unhide HR2) hb3 (Nat.le_refl _))
  have HB3 := hide ((unhide HB1).trans (((unhide H2).trans (hb3.mono (unhide H2).size)).mono (unhide HB1).size))
  clear hb3 hcl e1 e2
  go_wp2_with fail
  go_loopw [6, 7] (fun nv sv wr => ∃ m : Nat, m ≤ 2 ∧ sv = .int .i64 ((m : Int) + 1) ∧ nv = .int .i64 (nG l m) ∧ Below w3.heap.size w3 wr) (fun _ sv _ => 3 - (intOf sv).toNat)
  case atStart => exact ⟨0, by omega, rfl, rfl, Below.refl _ _⟩
  case round =>
    obtain ⟨m, hm, rfl, rfl, hbel⟩ := hrel
    have HBL := hide hbel
    have d0 := range_below (unhide HX3) hbel hw3 0 _ rfl
    have d1 := range_below (unhide HX3) hbel hw3 1 _ rfl
    rw [Nat.zero_add] at d0 d1
    have HRr := hide (rdR_below (unhide HR3) hbel (Nat.le_refl _))
    clear hbel
    by_cases hm2 : m < 2
    · have hm2' : (m : Int) + 1 ≤ 2 := by omega
      go_wp2_with fail
      refine (implQueue_any n _ l ((m : Int) + 1) wr (unhide HRr) (unhide HTG)).mono ?_
      rintro e w5 ⟨qv, rfl, ho5, hb5⟩
      rw [show quC n l = 0 by rw [quC, if_pos (unhide HOK)]]
      rw [show quR n l ((m : Int) + 1) = quOf (decide ((m : Int) + 1 = 1)) (ofSide l ((m : Int) + 1)) by rw [quR, if_pos (unhide HOK)]] at ho5
      have HQ5 := hide ho5
      have HB5 := hide ((unhide HBL).trans (hb5.mono (unhide HBL).size))
      have hsz5 := (unhide HB5).size
      have d0 := range_below (unhide HX3) (unhide HB5) hw3 0 _ rfl
      have d1 := range_below (unhide HX3) (unhide HB5) hw3 1 _ rfl
      rw [Nat.zero_add] at d0 d1
      have HRr5 := hide (rdR_below (unhide HR3) (unhide HB5) (Nat.le_refl _))
      obtain ⟨a5, c5, rfl, -, -⟩ := ho5
      clear hb5
      go_wp2_with fail
      refine (implFront_any n _ l ((m : Int) + 1) w5 (unhide HRr5) (unhide HTG)).mono ?_
      rintro e w6 ⟨rfl, hb6⟩
      have HB6 := hide ((unhide HB5).trans (hb6.mono hsz5))
      have HQ6 := hide (ownR_below (unhide HQ5) hb6 (Nat.le_refl _))
      clear hb6 d0 d1
      have HNG := hide (nG_succ l m hm2)
      have HLG := hide (fun j tk h => lvsB_get l m j tk hm2 h)
      have HRS : Hid (Rising (ofSide l ((m : Int) + 1))) := List.Pairwise.sublist List.filter_sublist (unhide HRI)
      have HSD : Hid (∀ o ∈ ofSide l ((m : Int) + 1), o.side = (m : Int) + 1 ∧ 0 ≤ o.left ∧ o.left ≤ 1000000) := fun o ho => by
        have := List.mem_filter.1 ho
        exact ⟨by simpa using this.2, unhide HLB o this.1⟩
      have hsl : (ofSide l ((m : Int) + 1)).length ≤ 20 := Nat.le_trans (List.length_filter_le _ _) hn
      have HFR : Hid (frRes n l ((m : Int) + 1) = (match (quOf (decide ((m : Int) + 1 = 1)) (ofSide l ((m : Int) + 1))).head? with
        | some o => .tuple #[o.val, .int .i64 0]
        | none => .tuple #[zOdv, .int .i64 6])) := by show _ = _; rw [frRes, if_pos (unhide HOK)]; rfl
      generalize hseq : ofSide l ((m : Int) + 1) = seq at HNG HLG HRS HSD HFR HQ6 hsl ⊢
      generalize hsb : decide ((m : Int) + 1 = 1) = sb at HNG HLG HFR HQ6 ⊢
      have HSB := hide hsb
      have hQl : (quOf sb seq).length ≤ 20 := by
        have hT := isT_tks sb seq
        have := (flat_perm _ _ (bt_nodup hT.sorted) (fun o ho => (hT.mem _).2 ⟨o, ho, rfl⟩)).length_eq
        unfold quOf; omega
      clear hseq hsb HQ5
      rw [unhide HFR]
      have HQE : Hid (∀ j o, (quOf sb seq)[j]? = some o → ∃ tk, o ∈ atK seq tk) := fun j o h => by
        obtain ⟨tk, _, h2⟩ := List.mem_flatMap.1 (List.mem_of_getElem? h)
        exact ⟨tk, h2⟩
      cases hQ : (quOf sb seq) with
      | nil =>
        have HT0 : Hid ((tks sb seq).length = 0) := by
          show (tks sb seq).length = 0
          rcases Nat.eq_zero_or_pos (tks sb seq).length with h0 | h0
          · exact h0
          · have := posG_lt h0; rw [hQ] at this; simp at this
        unfold zOdv
        simp only [List.head?_nil, List.length_nil]
        have HB7 : Hid (Below w3.heap.size w3 (w6.alloc (Obj.cells #[.int .i64 0, .int .i64 0, .int .i64 0, .int .i64 0, .int .i64 0, .string ⟨#[]⟩] 33))) := (unhide HB6).alloc (unhide HB6).size _
        clear hQ
        go_wp2_with fail
        go_quiet (fail)
        go_wp2_with fail
        refine wp_loop_rounds 1 ?_
        rw [rounds_succ]
        go_wp2_with fail
        have hng : nG l (m + 1) = nG l m := by rw [unhide HNG, unhide HT0]; rfl
        exact ⟨⟨m + 1, by omega, by go_num, by rw [hng], below_drewN' (unhide HB7) nq⟩, by simp [intOf]; omega⟩
      | cons o r =>
        obtain ⟨a5', c5', e5, -, hq6⟩ := unhide HQ6
        rw [hQ] at e5
        simp only [List.length_cons, Value.slice.injEq, true_and] at e5
        obtain ⟨rfl, rfl⟩ := e5
        obtain ⟨gq, rfl, -, hgq, hq6, -⟩ := hq6 (by rw [hQ]; simp)
        have HQC : Hid (∀ j c, (quOf sb seq)[j]? = some c → w6.rangeAt gq (j * 6) c.vs) := fun j c hj => by
          have := hq6 j c hj
          rwa [Nat.zero_add] at this
        have hrl : r.length + 1 ≤ 20 := by rw [hQ] at hQl; simpa using hQl
        have HQL : Hid ((quOf sb seq).length = r.length + 1) := by show _ = _; rw [hQ]; rfl
        have HB7 : Hid (Below w6.heap.size w6 (w6.alloc (Obj.cells #[.int .i64 o.id, .int .i64 o.side, .int .i64 o.ticks, .int .i64 o.left, .int .i64 o.life, .string o.tag] 33))) := (Below.refl _ _).alloc (Nat.le_refl _) _
        have hf := cells_made w6 o.vs 33
        obtain ⟨f0, f1, f2, f3, f4, f5⟩ := od_cells hf
        have hq0 := range_below (unhide HQC 0 o (by rw [hQ]; rfl)) (unhide HB7) hgq
        simp only [Nat.zero_mul] at hq0
        obtain ⟨p0, p1, p2, p3, p4, p5⟩ := od_cells hq0
        simp only [Nat.zero_add] at f0 f1 f2 f3 f4 f5 p0 p1 p2 p3 p4 p5
        simp only [List.head?_cons, List.length_cons]
        unfold Od.val
        clear hQ hq6 hf hq0
        have f0 : (w6.alloc (Obj.cells #[.int .i64 o.id, .int .i64 o.side, .int .i64 o.ticks, .int .i64 o.left, .int .i64 o.life, .string o.tag] 33)).cell? ⟨w6.heap.size, 0, none⟩ = _ := f0
        have f1 : (w6.alloc (Obj.cells #[.int .i64 o.id, .int .i64 o.side, .int .i64 o.ticks, .int .i64 o.left, .int .i64 o.life, .string o.tag] 33)).cell? ⟨w6.heap.size, 1, none⟩ = _ := f1
        have f2 : (w6.alloc (Obj.cells #[.int .i64 o.id, .int .i64 o.side, .int .i64 o.ticks, .int .i64 o.left, .int .i64 o.life, .string o.tag] 33)).cell? ⟨w6.heap.size, 2, none⟩ = _ := f2
        have f3 : (w6.alloc (Obj.cells #[.int .i64 o.id, .int .i64 o.side, .int .i64 o.ticks, .int .i64 o.left, .int .i64 o.life, .string o.tag] 33)).cell? ⟨w6.heap.size, 3, none⟩ = _ := f3
        have f4 : (w6.alloc (Obj.cells #[.int .i64 o.id, .int .i64 o.side, .int .i64 o.ticks, .int .i64 o.left, .int .i64 o.life, .string o.tag] 33)).cell? ⟨w6.heap.size, 4, none⟩ = _ := f4
        have f5 : (w6.alloc (Obj.cells #[.int .i64 o.id, .int .i64 o.side, .int .i64 o.ticks, .int .i64 o.left, .int .i64 o.life, .string o.tag] 33)).cell? ⟨w6.heap.size, 5, none⟩ = _ := f5
        have hd1 : decide ((r.length : Int) + 1 = 0) = false := decide_eq_false (by omega)
        have hd2 : ((r.length : Int) + 1 == 0) = false := by simp; omega
        have hd3 : (0 : Int) < (r.length : Int) + 1 := by omega
        go_wp2_with fail
        generalize (w6.alloc (Obj.cells #[.int .i64 o.id, .int .i64 o.side, .int .i64 o.ticks, .int .i64 o.left, .int .i64 o.life, .string o.tag] 33)) = W7 at HB7 f0 f1 f2 f3 f4 f5 p0 p1 p2 p3 p4 p5 ⊢
        go_quiet (fail)
        go_wp2_with fail
        have HB8 : Hid (Below w3.heap.size w3 (W7.drewN nq)) := below_drewN' ((unhide HB6).trans ((unhide HB7).mono (unhide HB6).size)) nq
        have HQC8 : Hid (∀ j c, (quOf sb seq)[j]? = some c → (W7.drewN nq).rangeAt gq (j * 6) c.vs) := fun j c hj => range_below (unhide HQC j c hj) (below_drewN' (unhide HB7) nq) hgq
        have hgq8 : gq < (W7.drewN nq).heap.size := Nat.lt_of_lt_of_le hgq (unhide HB7).size
        generalize W7.drewN nq = W8 at HB8 HQC8 hgq8 ⊢
        clear f0 f1 f2 f3 f4 f5 p0 p1 p2 p3 p4 p5 HB7 HQC
        go_loopw [6, 12] (fun nv kv wr => ∃ j : Nat, j ≤ (tks sb seq).length ∧ nv = .int .i64 ((nG l m + j : Nat) : Int) ∧ kv = .int .i64 (posG sb seq j) ∧ Below W8.heap.size W8 wr) (fun _ kv _ => r.length + 1 - (intOf kv).toNat)
        case atStart => exact ⟨0, Nat.zero_le _, by simp, by rw [posG_zero]; rfl, Below.refl _ _⟩
        case round =>
          obtain ⟨j, hj, rfl, rfl, hbel⟩ := hrel
          have HBJ := hide hbel
          have hsz8 := hbel.size
          clear hbel
          by_cases hjl : j < (tks sb seq).length
          · obtain ⟨tk, htk⟩ : ∃ tk, (tks sb seq)[j]? = some tk := ⟨_, List.getElem?_eq_getElem hjl⟩
            have HTK := hide htk
            have hlv := unhide HLG j tk htk
            have hpl := posG_le htk
            have hpg := List.length_pos_iff.2 (atK_ne htk)
            have HPS := hide (posG_succ htk)
            rw [unhide HQL] at hpl
            obtain ⟨o0, ho0⟩ : ∃ o0, (atK seq tk)[0]? = some o0 := ⟨_, List.getElem?_eq_getElem hpg⟩
            have hq0 := quOf_get htk hpg
            rw [ho0, Nat.add_zero] at hq0
            have hot := (atK_mem (List.mem_of_getElem? ho0)).2
            obtain ⟨gl, rfl, hgl, hlc⟩ := unhide HCL _ _ hlv
            have hlj := (List.getElem?_eq_some_iff.1 hlv).1
            obtain ⟨y0, y1, y2, y3⟩ := lv_cells (range_below (range_below hlc (unhide HB8) hgl) (unhide HBJ) (Nat.lt_of_lt_of_le hgl (unhide HB8).size))
            simp only [lvAt] at y0 y1 y2 y3
            obtain ⟨-, -, p2, -, -, -⟩ := od_cells (range_below (unhide HQC8 _ o0 hq0) (unhide HBJ) hgq8)
            rw [hot] at p2
            have HGM : Hid (∀ i oi, (atK seq tk)[i]? = some oi → oi.ticks = tk ∧ oi.side = (m : Int) + 1 ∧ 0 ≤ oi.left ∧ oi.left ≤ 1000000 ∧ (quOf sb seq)[posG sb seq j + i]? = some oi) := fun i oi hi => by
              have h1 := atK_mem (List.mem_of_getElem? hi)
              have h2 := unhide HSD oi h1.1
              have hil := (List.getElem?_eq_some_iff.1 hi).1
              exact ⟨h1.2, h2.1, h2.2.1, h2.2.2, by rw [quOf_get htk hil]; exact hi⟩
            have HGR : Hid (∀ i a b, (atK seq tk)[i]? = some a → (atK seq tk)[i + 1]? = some b → a.id < b.id) := fun i a b ha hb => atK_rise (unhide HRS) ha hb
            have HNX : Hid (∀ tk', (tks sb seq)[j + 1]? = some tk' → bt sb tk tk' ∧ ∃ o', o'.ticks = tk' ∧ (quOf sb seq)[posG sb seq j + (atK seq tk).length]? = some o') := fun tk' h' => by
              refine ⟨tks_next htk h', ?_⟩
              have hp := List.length_pos_iff.2 (atK_ne h')
              have h1 := quOf_get h' hp
              rw [Nat.add_zero, posG_succ htk, List.getElem?_eq_getElem hp] at h1
              exact ⟨_, (atK_mem (List.getElem_mem hp)).2, h1⟩
            have HNE : Hid (j + 1 = (tks sb seq).length → posG sb seq j + (atK seq tk).length = r.length + 1) := fun h => by
              rw [← posG_succ htk, h, posG_end, unhide HQL]
            have hpos0 : posG sb seq j < r.length + 1 := by omega
            have HSUM : Hid (0 ≤ sumL (atK seq tk) ∧ ∀ i, 0 ≤ sumL ((atK seq tk).take i) ∧ sumL ((atK seq tk).take i) ≤ 1000000 * 20) := by
              have hb : ∀ i, 0 ≤ sumL ((atK seq tk).take i) ∧ sumL ((atK seq tk).take i) ≤ 1000000 * 20 := fun i => by
                have := sumL_bound ((atK seq tk).take i) (fun o ho => (unhide HSD o (atK_mem (List.mem_of_mem_take ho)).1).2)
                have hl2 : ((atK seq tk).take i).length ≤ 20 := by rw [List.length_take]; omega
                refine ⟨this.1, Int.le_trans this.2 ?_⟩
                omega
              refine ⟨?_, hb⟩
              have := (hb (atK seq tk).length).1
              rwa [List.take_of_length_le (Nat.le_refl _)] at this
            generalize hG : atK seq tk = G at *
            generalize hNN : nG l m + j = N at *
            generalize hKK : posG sb seq j = K at *
            generalize hCC : G.length = C at *
            generalize hSS : sumL G = SG at *
            have HEQ : Hid (nG l m + j = N ∧ posG sb seq j = K ∧ G.length = C ∧ sumL G = SG) := ⟨hNN, hKK, hCC, hSS⟩
            clear hNN hKK hCC hSS hG hlv hq0 hot ho0 htk hlc
            have k1 : (K : Int) < (r.length : Int) + 1 := by omega
            have n1 : decide (((lvsB l).length : Int) ≤ N) = false := decide_eq_false (by omega)
            have n2 : (N : Int) < (lvsB l).length := by omega
            have c1 : decide ((C : Int) < 1) = false := decide_eq_false (by omega)
            have kc : decide ((r.length : Int) + 1 < (K : Int) + C) = false := decide_eq_false (by omega)
            have hC20 : C ≤ 20 := by omega
            have hwKC : IntKind.i64.wrap ((K : Int) + C) = (K : Int) + C := by rw [IntKind.wrap_i64]; omega
            have n1n : ¬ (lvsB l).length ≤ N := by omega
            have kcn : ¬ ((r.length : Int) + 1 < (K : Int) + C) := by omega
            have hN40 : N ≤ 40 := by omega
            go_wp2_with fail
            go_quiet (fail)
            go_wp2_with fail
            have HB9 : Hid (Below W8.heap.size W8 (wr.drewN nq)) := below_drewN' (unhide HBJ) nq
            have HQC9 : Hid (∀ j c, (quOf sb seq)[j]? = some c → (wr.drewN nq).rangeAt gq (j * 6) c.vs) := fun j c hj => range_below (unhide HQC8 j c hj) (unhide HB9) hgq8
            have hgq9 : gq < (wr.drewN nq).heap.size := Nat.lt_of_lt_of_le hgq8 (unhide HB9).size
            have hgl9 : gl < (wr.drewN nq).heap.size := Nat.lt_of_lt_of_le hgl (Nat.le_trans (unhide HB8).size (unhide HB9).size)
            have HY : Hid ((wr.drewN nq).rangeAt gl (N * 4) [.int .i64 ((m : Int) + 1), .int .i64 tk, .int .i64 SG, .int .i64 C]) := by
              intro jj u hu
              rcases (by have := (List.getElem?_eq_some_iff.1 hu).1; simp at this; omega : jj = 0 ∨ jj = 1 ∨ jj = 2 ∨ jj = 3) with rfl | rfl | rfl | rfl
              · simp at hu; subst hu; exact y0
              · simp at hu; subst hu; exact y1
              · simp at hu; subst hu; exact y2
              · simp at hu; subst hu; exact y3
            generalize wr.drewN nq = W9 at HB9 HQC9 hgq9 hgl9 HY ⊢
            clear y0 y1 y2 y3 p2
            have hsz9 := (unhide HB9).size
            go_loopw [13, 14] (fun qv iv wi => ∃ (i : Nat) (qi : Int), i ≤ C ∧ iv = .int .i64 i ∧ qv = .int .i64 qi ∧ Hid (qi = sumL (G.take i)) ∧ Below W9.heap.size W9 wi) (fun _ iv _ => C - (intOf iv).toNat)
            case atStart => exact ⟨0, 0, Nat.zero_le _, rfl, rfl, by simp [Hid, sumL], Below.refl _ _⟩
            case round =>
              obtain ⟨i, qi, hi, rfl, rfl, hqi, hbel⟩ := hrel
              have HBI := hide hbel
              obtain ⟨y0, y1, y2, y3⟩ : _ ∧ _ ∧ _ ∧ _ := ⟨range_below (unhide HY) hbel hgl9 0 _ rfl, range_below (unhide HY) hbel hgl9 1 _ rfl, range_below (unhide HY) hbel hgl9 2 _ rfl, range_below (unhide HY) hbel hgl9 3 _ rfl⟩
              rw [Nat.add_zero] at y0
              have hszI := hbel.size
              have hqb := (unhide HSUM).2 i
              rw [← unhide hqi] at hqb
              clear hbel
              by_cases hic : i < C
              · have hic' : (i : Int) < C := by omega
                obtain ⟨oi, hoi⟩ : ∃ oi, G[i]? = some oi := ⟨_, List.getElem?_eq_getElem (by rw [(unhide HEQ).2.2.1]; exact hic)⟩
                obtain ⟨g1, g2, g3, g4, g5⟩ := unhide HGM i oi hoi
                have HSQ := hide (sumL_take hoi)
                obtain ⟨p0, p1, p2, p3, p4, p5⟩ := od_cells (range_below (unhide HQC9 _ oi g5) (unhide HBI) hgq9)
                rw [g1] at p2
                rw [g2] at p1
                have hki : (K : Int) + i < (r.length : Int) + 1 := by omega
                have hki0 : (0 : Int) ≤ (K : Int) + i := by omega
                have hwi : IntKind.i64.wrap ((K : Int) + i) = (K : Int) + i := by rw [IntKind.wrap_i64]; omega
                have hwq : IntKind.i64.wrap (qi + oi.left) = qi + oi.left := by rw [IntKind.wrap_i64]; omega
                have HBA : Hid (Below wr.heap.size wr (wr.alloc (Obj.cells #[.int .i64 oi.id, .int .i64 ((m : Int) + 1), .int .i64 tk, .int .i64 oi.left, .int .i64 oi.life, .string oi.tag] 33))) := (Below.refl _ _).alloc (Nat.le_refl _) _
                have HBX := hide (cells_made wr [.int .i64 oi.id, .int .i64 ((m : Int) + 1), .int .i64 tk, .int .i64 oi.left, .int .i64 oi.life, .string oi.tag] 33)
                have HQA : Hid (∀ j c, (quOf sb seq)[j]? = some c → (wr.alloc (Obj.cells #[.int .i64 oi.id, .int .i64 ((m : Int) + 1), .int .i64 tk, .int .i64 oi.left, .int .i64 oi.life, .string oi.tag] 33)).rangeAt gq (j * 6) c.vs) := fun j c hj => range_below (range_below (unhide HQC9 j c hj) (unhide HBI) hgq9) (unhide HBA) (Nat.lt_of_lt_of_le hgq9 hszI)
                have z1 := range_below (range_below (unhide HY) (unhide HBI) hgl9) (unhide HBA) (Nat.lt_of_lt_of_le hgl9 hszI) 1 _ rfl
                go_wp2_with fail
                have HBX : Hid (World.rangeAt (wr.alloc (Obj.cells #[.int .i64 oi.id, .int .i64 ((m : Int) + 1), .int .i64 tk, .int .i64 oi.left, .int .i64 oi.life, .string oi.tag] 33)) wr.heap.size 0 [.int .i64 oi.id, .int .i64 ((m : Int) + 1), .int .i64 tk, .int .i64 oi.left, .int .i64 oi.life, .string oi.tag]) := unhide HBX
                generalize (wr.alloc (Obj.cells #[.int .i64 oi.id, .int .i64 ((m : Int) + 1), .int .i64 tk, .int .i64 oi.left, .int .i64 oi.life, .string oi.tag] 33)) = WA at HBA HBX HQA z1 ⊢
                have b0 : WA.cell? ⟨wr.heap.size, 0, none⟩ = some (.int .i64 oi.id) := unhide HBX 0 _ rfl
                have b1 : WA.cell? ⟨wr.heap.size, 1, none⟩ = some (.int .i64 ((m : Int) + 1)) := unhide HBX 1 _ rfl
                have b2 : WA.cell? ⟨wr.heap.size, 2, none⟩ = some (.int .i64 tk) := unhide HBX 2 _ rfl
                have b3 : WA.cell? ⟨wr.heap.size, 3, none⟩ = some (.int .i64 oi.left) := unhide HBX 3 _ rfl
                have HBW := hide ((unhide HBI).trans ((unhide HBA).mono hszI))
                have HG5 := hide g5
                have HOI := hide hoi
                clear p0 p1 p2 p3 p4 p5 y0 y1 y2 y3 g5 hoi g1 g2
                rcases Nat.eq_zero_or_pos i with hi0 | hi0
                · subst hi0
                  go_quiet (fail)
                  go_wp2_with fail
                  go_roundw
                  case rel => exact ⟨0 + 1, qi + oi.left, by omega, by go_num, rfl, by have := unhide HSQ; rw [← unhide hqi] at this; exact this.symm, below_drewN' (unhide HBW) nq⟩
                  case measure => simp [intOf]; omega
                · obtain ⟨i', rfl⟩ : ∃ i', i = i' + 1 := ⟨i - 1, by omega⟩
                  obtain ⟨op, hop⟩ : ∃ op, G[i']? = some op := ⟨_, List.getElem?_eq_getElem (by rw [(unhide HEQ).2.2.1]; omega)⟩
                  obtain ⟨-, -, -, -, g6⟩ := unhide HGM i' op hop
                  have hid := unhide HGR i' op oi hop (unhide HOI)
                  obtain ⟨v0, -⟩ := od_cells (unhide HQA _ op g6)
                  have hdi : decide (oi.id ≤ op.id) = false := decide_eq_false (by omega)
                  have hp0 : (0 : Int) < (i' : Int) + 1 := by omega
                  have hq0 : (0 : Int) ≤ (K : Int) + i' := by omega
                  have hq1 : (K : Int) + i' < (r.length : Int) + 1 := by omega
                  have hw1 : IntKind.i64.wrap ((K : Int) + ((i' : Int) + 1)) = (K : Int) + ((i' : Int) + 1) := by rw [IntKind.wrap_i64]; omega
                  have hw2 : IntKind.i64.wrap ((K : Int) + ((i' : Int) + 1) - 1) = (K : Int) + i' := by rw [IntKind.wrap_i64]; omega
                  clear g6 hop hid
                  go_quiet (fail)
                  go_wp2_with fail
                  go_roundw
                  case rel => exact ⟨i' + 1 + 1, qi + oi.left, by omega, by go_num, rfl, by have := unhide HSQ; rw [← unhide hqi] at this; exact this.symm, below_drewN' (unhide HBW) nq⟩
                  case measure => simp [intOf]; omega
              · obtain rfl : i = C := by omega
                have hqs : qi = SG := by
                  rw [unhide hqi, ← (unhide HEQ).2.2.1, List.take_of_length_le (Nat.le_refl _)]; exact (unhide HEQ).2.2.2
                subst hqs
                have hic' : ¬ ((i : Int) < i) := by omega
                have hwn : IntKind.i64.wrap ((N : Int) + 1) = (N : Int) + 1 := by rw [IntKind.wrap_i64]; omega
                by_cases hjj : j + 1 = (tks sb seq).length
                · have hke := unhide HNE hjj
                  have hd1 : decide ((K : Int) + i < (r.length : Int) + 1) = false := decide_eq_false (by omega)
                  have hd2 : ¬ ((K : Int) + i < (r.length : Int) + 1) := by omega
                  clear hke
                  go_wp2_with fail
                  go_quiet (fail)
                  go_wp2_with fail
                  have hN2 : ((N : Int) + 1) = ((nG l m + (j + 1) : Nat) : Int) := by have := (unhide HEQ).1; omega
                  have hK2 : ((K : Int) + i) = ((posG sb seq (j + 1) : Nat) : Int) := by have := unhide HPS; omega
                  exact ⟨⟨j + 1, by omega, by rw [hN2], by rw [hK2], (unhide HB9).trans (below_drewN' ((unhide HBI).mono hsz9) nq)⟩, by simp [intOf]; omega⟩
                · obtain ⟨tk', htk'⟩ : ∃ tk', (tks sb seq)[j + 1]? = some tk' := ⟨_, List.getElem?_eq_getElem (by omega)⟩
                  obtain ⟨hbt, o', ho', hq'⟩ := unhide HNX tk' htk'
                  have hqlt : K + i < r.length + 1 := by have := (List.getElem?_eq_some_iff.1 hq').1; rw [unhide HQL] at this; exact this
                  have hd1 : (K : Int) + i < (r.length : Int) + 1 := by omega
                  have hd0 : (0 : Int) ≤ (K : Int) + i := by omega
                  obtain ⟨-, -, p2, -⟩ := od_cells (range_below (unhide HQC9 _ o' hq') (unhide HBI) hgq9)
                  rw [ho'] at p2
                  have hsb := unhide HSB
                  have hne : (tk' == tk) = false := by
                    cases sb <;> simp only [bt] at hbt <;> simp <;> omega
                  have hxx : (decide (tk < tk') == ((m : Int) + 1 == 1)) = false := by
                    cases sb
                    · simp only [bt] at hbt
                      have h1 : ((m : Int) + 1 == 1) = false := by simpa using hsb
                      rw [h1, decide_eq_true hbt]; rfl
                    · simp only [bt] at hbt
                      have h1 : ((m : Int) + 1 == 1) = true := by simpa using hsb
                      rw [h1, decide_eq_false (by omega)]; rfl
                  clear htk' hbt hq' ho' hsb
                  go_wp2_with fail
                  go_quiet (fail)
                  go_wp2_with fail
                  have hN2 : ((N : Int) + 1) = ((nG l m + (j + 1) : Nat) : Int) := by have := (unhide HEQ).1; omega
                  have hK2 : ((K : Int) + i) = ((posG sb seq (j + 1) : Nat) : Int) := by have := unhide HPS; omega
                  exact ⟨⟨j + 1, by omega, by rw [hN2], by rw [hK2], (unhide HB9).trans (below_drewN' ((unhide HBI).mono hsz9) nq)⟩, by simp [intOf]; omega⟩
          · have hkk : posG sb seq j = r.length + 1 := by
              obtain rfl : j = (tks sb seq).length := by omega
              rw [posG_end, unhide HQL]
            have hng : nG l (m + 1) = nG l m + j := by rw [unhide HNG]; omega
            rw [hkk]
            have HNG2 := hide hng
            clear hkk hng
            go_wp2_with fail
            exact ⟨⟨m + 1, by omega, by go_num, by rw [unhide HNG2], (unhide HB8).trans ((unhide HBJ).mono (unhide HB8).size)⟩, by simp [intOf]; omega⟩
    · obtain rfl : m = 2 := by omega
      have hfin : (nG l 2 : Int) = (lvsB l).length := by rw [lvsB_len]
      go_wp2_with fail
      go_ret
      exact ⟨ret_bool (by simp), (unhide HB3).trans ((unhide HBL).mono (unhide HB3).size)⟩
end Go.Proofs.Ytadnjcgfoofjiaa
