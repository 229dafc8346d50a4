/-
  The queue of a side, as the model makes it: proved by walking the function.
-/
import Derived.Test.YtadnjcgfoofjiaaMj13
import Derived.Test.YtadnjcgfoofjiaaMj37
namespace Go.Proofs.Ytadnjcgfoofjiaa
open Go.RowKit
set_option linter.unusedVariables false

set_option maxRecDepth 100000 in
set_option maxHeartbeats 1600000 in
theorem l03QueueO_any (ad : Addr) (cap : Nat) (l : List Od) (sd : Int) (w : World) (hr : RdR Od.vs 6 w (.slice (some ad) l.length cap) l) (hri : Rising l) (hn : l.length ≤ 1000) :
    Calls Try.prog 42 #[.slice (some ad) l.length cap, .int .i64 sd] w fun e w' => ∃ v', e = .returned v' ∧ ORow w' w.heap.size v' (quOf (decide (sd = 1)) (ofSide l sd)) ∧ Below w.heap.size w w' := by
  obtain ⟨i0, hi0, hz0, hz1, hz2⟩ := info_parts Try.infoOrder
  have hsrc : ∀ (W : World), Below w.heap.size w W → ∀ j u, (l.flatMap Od.vs)[j]? = some u → W.cell? (ad.add j) = some u := by
    intro W hW j u hu
    obtain ⟨a', cap', e1, _, hc⟩ := hr
    simp only [Value.slice.injEq] at e1
    have hne : l ≠ [] := by rintro rfl; simp at hu
    obtain ⟨b, off, e2, hb, hcl⟩ := hc hne
    rw [e2] at e1
    simp only [Option.some.injEq] at e1
    obtain ⟨rfl, -, -⟩ := e1
    have h := row_cells (W := W) (g := b) (off := off) (l := l) (fun i c hi => range_below (hcl i c hi) hW hb) 0 l.length j u (by simpa using hu)
    simpa using h
  have HSRC := hide hsrc
  have HRI := hide hri
  have HO0 := hide (World.ownsRow_made (base := w.heap.size) (e := 33) (size := 6) w #[] 0 (Nat.le_refl _) (by decide) rfl)
  have HB0 : Hid (Below w.heap.size w (w.alloc (Obj.cells #[] 33))) := (Below.refl _ _).alloc (Nat.le_refl _) _
  clear hsrc hri hr
  go_enter Try.func42, Try.ntmps42
  go_wp2_with (at_builtin; go_must (refine wpList_append_own _ rfl _ _ 23 rfl w.heap.size 33 i0 _ 6 56 Try.underlying23 hi0 hz0 hz1 hz2 rfl (by decide) (.slice (some ⟨w.heap.size, 0, none⟩) 0 0) 0 [] rfl (unhide HO0) ad l.length cap (l.flatMap Od.vs) rfl (by rw [flat_len Od.len]) (unhide HSRC _ (unhide HB0)) (one_all l) (by unfold maxLen; omega) (by omega) (by simp) ?_); intro v1 w1 hown1 hg1 _; have HO1 := hide hown1; have HB1 := hide ((unhide HB0).grown hg1 (by simp) (fun k hk => ((unhide HO0).lt k hk).1)); clear hown1 hg1)
  have hsz1 := (unhide HB1).size
  have HO1' : Hid (ORow w1 w.heap.size v1 l) := by
    show ORow w1 w.heap.size v1 l
    have := unhide HO1
    simpa using this
  have HO2 := hide ((unhide HO1').alloc (Obj.cells #[] 33))
  have HP2 := hide (World.ownsRow_made (base := w.heap.size) (e := 33) (size := 6) w1 #[] 0 hsz1 (by decide) rfl)
  have HB2 : Hid (Below w.heap.size w (w1.alloc (Obj.cells #[] 33))) := (unhide HB1).alloc hsz1 _
  have HNE2 : Hid (∀ g, v1.ownBlock = some g → (Value.slice (some ⟨w1.heap.size, 0, none⟩) 0 0).ownBlock ≠ some g) := fun g hg e => by
    have h1 := ((unhide HO1').lt g hg).2
    simp [Value.ownBlock] at e
    omega
  generalize (w1.alloc (Obj.cells #[] 33)) = W2 at HO2 HP2 HB2 ⊢
  refine (l03Front_any v1 l sd W2 (oRow_rd (unhide HO2) (by omega)) (unhide HRI) hn).mono ?_
  rintro e w3 ⟨kk, rfl, hfr, hg3⟩
  have HST : Hid (QuI l sd w.heap.size w l.length v1 (.slice (some ⟨w1.heap.size, 0, none⟩) 0 0) (.int .i64 kk) w3) :=
    ⟨l, [], kk, rfl, Nat.le_refl _, hfr, sel_start l sd, (unhide HO2).kept hg3 (by cases v1.ownBlock <;> simp), (unhide HP2).kept hg3 (.inr (by simp [Value.ownBlock])), unhide HNE2, (unhide HB2).grown hg3 (unhide HB2).size (fun g hg => by cases hg)⟩
  clear hfr hg3 HO0 HB0
  go_wp2_with fail
  go_loopg [5, 6, 7] (l.length) (fun m lv ov kv wr => QuI l sd w.heap.size w m lv ov kv wr)
  case atStart => exact unhide HST
  case round =>
    obtain ⟨left, out, kx, rfl, hm, hfr, hsel, hol, hoo, hnb, hbel⟩ := hrel
    have HSEL := hide hsel
    have HOL := hide hol
    have HOO := hide hoo
    have HNB := hide hnb
    have HB := hide hbel
    have hll := (sel_len hsel).2
    have hlo := (sel_len hsel).1
    have hszr := hbel.size
    clear hsel hnb hbel HST
    rcases frPre_end hfr with ⟨rfl, hno⟩ | ⟨i, o, rfl, hi, hfo⟩
    · have HE := hide (sel_end (unhide HSEL) hno (unhide HRI))
      clear hno hfr hol hoo
      go_wp2_with fail
      go_ret
      refine ⟨_, rfl, ?_, unhide HB⟩
      rw [← unhide HE]
      exact unhide HOO
    · have hne : left ≠ [] := by rintro rfl; simp at hi
      obtain ⟨g, cp, rfl, hcap, hBg, hgw⟩ := oRow_some hol hne
      obtain ⟨a', cp', e1, _, hcl⟩ := oRow_rd hol (by omega)
      obtain ⟨b', off', e2, _, hcl⟩ := hcl hne
      rw [e2] at e1
      simp only [Value.slice.injEq, Option.some.injEq, Addr.mk.injEq, and_true] at e1
      obtain ⟨⟨rfl, rfl⟩, -, -⟩ := e1
      have HCL := hide hcl
      have hcio := hcl i o hfo.1
      rw [Nat.zero_add] at hcio
      obtain ⟨c0, c1, c2, c3, c4, c5⟩ := od_cells hcio
      clear hcio
      have HFO := hide hfo
      have hi' : (i : Int) < left.length := by omega
      have hige : (0 : Int) ≤ i := by omega
      clear hfr hol hoo hcl hfo hne
      go_wp2_with (at_builtin; go_must (refine wpList_append_own _ rfl _ _ 23 rfl w.heap.size 33 i0 _ 6 56 Try.underlying23 hi0 hz0 hz1 hz2 rfl (by decide) u6 out.length (out.flatMap Od.vs) rfl ((unhide HOO).alloc _) ⟨wr.heap.size, 0, none⟩ 1 1 o.vs rfl rfl (cellsQ wr _ _) (by simp [Value.oneCell', Od.vs]) (by unfold maxLen; omega) (by omega) (by simp; omega) ?_); intro v4 w4 hown4 hg4 _; have HO4 := hide hown4; have HG4 := hide hg4; clear hown4 hg4)
      have HB4 : Hid (Below w.heap.size w w4) := ((unhide HB).alloc hszr _).grown (unhide HG4) (by rw [size_made]; omega) (fun k hk => ((unhide HOO).lt k hk).1)
      have hg4 : g < w4.heap.size := Nat.lt_of_lt_of_le hgw (Nat.le_trans (by rw [size_made]; omega) (unhide HG4).size)
      have HC4 : Hid (∀ j c, left[j]? = some c → w4.rangeAt g (0 + j * 6) c.vs) := fun j c hj =>
        range_grown (range_below (unhide HCL j c hj) ((Below.refl wr.heap.size wr).alloc (Nat.le_refl _) _) hgw) (unhide HG4) (by rw [size_made]; omega) (fun e => unhide HNB g rfl e.symm)
      have hll1 : left.length ≤ 1000 := by omega
      have hicp : i ≤ cp := by omega
      have hi1 : i + 1 ≤ left.length := by omega
      have hi1' : (i : Int) + 1 ≤ left.length := by omega
      have hlcp : (left.length : Int) ≤ cp := by omega
      have h0i : (0 : Int) ≤ (i : Int) + 1 := by omega
      refine wp_region_inv (R7A (.slice (some ⟨g, 0, none⟩) left.length cp) w4 (C7 (.slice (some ⟨g, 0, none⟩) left.length cp) g left.length cp i) (left.take i) (left.take i ++ left.drop (i + 1)) (fun f => { tmps := #[.slice (some ad) l.length cap, .int .i64 sd, undef, undef, .slice none 0 0, f 10, v4, .int .i64 i, .slice (some ⟨w.heap.size, 0, none⟩) 0 0, .slice (some ad) l.length cap, v1, .slice (some ⟨w1.heap.size, 0, none⟩) 0 0, v1, .int .i64 sd, .int .i64 kk, .int .i64 i, .bool true, u17, u18, u19, u6, .slice (some ⟨g, 0, none⟩) left.length cp, .int .i64 i, .pointer (some ⟨g, i * 6, none⟩), .agg #[.int .i64 o.id, .int .i64 o.side, .int .i64 o.ticks, .int .i64 o.left, .int .i64 o.life, .string o.tag], .slice (some ⟨wr.heap.size, 0, none⟩) 1 1, v4, f 0, f 1, f 2, f 3, f 4, f 5, f 6, f 7, f 8, f 9, undef], defers := [] })) (by kernel_rfl) ?_ ?_ ?_
      · exact ⟨fun j => if j = 10 then .slice (some ⟨g, 0, none⟩) left.length cp else if j = 0 then u27 else if j = 1 then u28 else if j = 2 then u29 else if j = 3 then u30 else if j = 4 then u31 else if j = 5 then u32 else if j = 6 then u33 else if j = 7 then u34 else if j = 8 then u35 else u36, rfl, ⟨⟨rfl, rfl, rfl, Nat.le_refl _, fun _ _ => rfl⟩, fun j hj => by rw [List.getElem?_replicate] at hj; split at hj <;> simp at hj, fun _ => rfl, by simp, by simp, by simp, by simp, by simp, by simp, by simp⟩⟩
      · rintro x A V ⟨f, rfl, hR⟩ hx hrd
        have hallx := ready_all hrd hx (acyc _ (by kernel_rfl))
        have k9 : x[9]? = some true := hallx 9 (by simp)
        have k10 : x[10]? = some true := hallx 10 (by simp)
        have HO9 := hide (hR.m9 k9)
        have e10 : f 10 = f 9 := hR.m10 k10
        have HBV := hide hR.bel
        have hsel := sel_step (unhide HSEL) (unhide HFO) (unhide HRI)
        have HSEL2 := hide hsel
        have HRI2 : Hid (Rising (left.take i ++ left.drop (i + 1))) := List.Pairwise.sublist hsel.sub (unhide HRI)
        have hl2 : (left.take i ++ left.drop (i + 1)).length + 1 = left.length := by simp; omega
        have HL2 := hide hl2
        have HO4V : Hid (ORow V w.heap.size v4 (out ++ [o])) := by
          show V.ownsRow _ _ _ _ (out ++ [o]).length _
          have h4 := unhide HO4
          rw [List.length_append, List.flatMap_append]
          refine World.ownsRow.kept (row := none) (by simpa using h4) (below_gr (unhide HBV) (Nat.le_refl _)) ?_
          cases v4.ownBlock <;> simp
        have HNB2 : Hid (∀ gg, (f 9).ownBlock = some gg → v4.ownBlock ≠ some gg) := fun gg h9 h4 => by
          have a1 := ((unhide HO9).lt gg h9).1
          have a2 := ((unhide HO4).lt gg h4).2
          omega
        have HB5 := hide ((unhide HB4).trans ((unhide HBV).mono (unhide HB4).size))
        simp only [e10]
        generalize f 9 = v9 at HO9 HNB2 ⊢
        clear hR hallx k9 k10 e10 hsel hrd hx hl2
        go_wp2_with fail
        refine (l03Front_any v9 (left.take i ++ left.drop (i + 1)) sd V (oRow_rd (unhide HO9) (by have := unhide HL2; omega)) (unhide HRI2) (by have := unhide HL2; omega)).mono ?_
        rintro e w6 ⟨k6, rfl, hfr6, hg6⟩
        have HN : Hid (QuI l sd w.heap.size w (left.take i ++ left.drop (i + 1)).length v9 v4 (.int .i64 k6) w6) :=
          ⟨_, _, k6, rfl, Nat.le_refl _, hfr6, unhide HSEL2, World.ownsRow.kept (row := none) ⟨(unhide HO9).1, by
              rcases (unhide HO9).2 with h | ⟨g', c', cur, h1, h2, h3⟩
              · exact .inl h
              · exact .inr ⟨g', c', cur, h1, Nat.le_trans (unhide HB4).size h2, h3⟩⟩ hg6 (by cases v9.ownBlock <;> simp), (unhide HO4V).kept hg6 (by cases v4.ownBlock <;> simp), unhide HNB2, (unhide HB5).grown hg6 (unhide HB5).size (fun g hg => by cases hg)⟩
        clear hfr6 hg6
        go_wp2_with fail
        go_roundg ((left.take i ++ left.drop (i + 1)).length)
        case measure => have := unhide HL2; omega
        case rel => exact unhide HN
      · rintro x A V i' o' ⟨f, rfl, hR⟩ hx ho hxi hall
        have HR7 := hide hR
        have n10 : i' < 10 → x[10]? = some false := fun hlt => by
          have h11 : 10 < x.length := by rw [hx]; simp
          cases hb : x[10]
          · rw [List.getElem?_eq_getElem h11, hb]
          · have := hR.o10 (by rw [List.getElem?_eq_getElem h11, hb]) i' hlt
            rw [hxi] at this; cases this
        match i', ho with
        | 0, ho =>
          simp only [List.getElem?_cons_zero, Option.some.injEq] at ho
          subst ho
          clear hR hall
          rw [if_pos (by rfl)]
          unfold Oper.wp
          go_simp
          exact ⟨upd f 0 (.slice (some ⟨V.heap.size, 0, none⟩) 0 0), by simp [upd], r7_0 (unhide HR7) hxi (fun _ => trivial)⟩
        | 1, ho =>
          simp only [List.getElem?_cons_succ, List.getElem?_cons_zero, Option.some.injEq] at ho
          subst ho
          have s5 : f 10 = .slice (some ⟨g, 0, none⟩) left.length cp := hR.s5 (n10 (by omega))
          clear hR hall
          rw [if_pos (by rfl)]
          unfold Oper.wp
          go_simp
          exact ⟨upd f 1 (.slice (some ⟨g, 0, none⟩) left.length cp), by simp [upd, s5], r7_val (unhide HR7) 1 _ rfl (by decide) (by decide) (by decide) (by decide)⟩
        | 2, ho =>
          simp only [List.getElem?_cons_succ, List.getElem?_cons_zero, Option.some.injEq] at ho
          subst ho
          clear hR hall
          rw [if_pos (by rfl)]
          unfold Oper.wp
          go_simp
          exact ⟨upd f 2 (.int .i64 i), by simp [upd], r7_val (unhide HR7) 2 _ rfl (by decide) (by decide) (by decide) (by decide)⟩
        | 3, ho =>
          simp only [List.getElem?_cons_succ, List.getElem?_cons_zero, Option.some.injEq] at ho
          subst ho
          have g1 : C7 (.slice (some ⟨g, 0, none⟩) left.length cp) g left.length cp i 1 (f 1) := hR.c 1 (hall ⟨1, .data⟩ (by simp) rfl)
          have g2 : C7 (.slice (some ⟨g, 0, none⟩) left.length cp) g left.length cp i 2 (f 2) := hR.c 2 (hall ⟨2, .data⟩ (by simp) rfl)
          simp only [C7] at g1 g2
          clear hR hall
          rw [if_pos (by rfl)]
          unfold Oper.wp
          go_simp
          exact ⟨upd f 3 (.slice (some ⟨g, 0, none⟩) i cp), by simp [upd, g1, g2], r7_val (unhide HR7) 3 _ rfl (by decide) (by decide) (by decide) (by decide)⟩
        | 4, ho =>
          simp only [List.getElem?_cons_succ, List.getElem?_cons_zero, Option.some.injEq] at ho
          subst ho
          have g3 : C7 (.slice (some ⟨g, 0, none⟩) left.length cp) g left.length cp i 3 (f 3) := hR.c 3 (hall ⟨3, .data⟩ (by simp) rfl)
          have k0 : x[0]? = some true := hall ⟨0, .data⟩ (by simp) rfl
          have HCV : Hid (∀ j c, left[j]? = some c → V.rangeAt g (0 + j * 6) c.vs) := fun j c hj => range_below (unhide HC4 j c hj) hR.bel hg4
          simp only [C7] at g3
          clear hR hall
          rw [if_pos (by rfl)]
          refine wp_append_own V (.tmp 27) (.tmp 30) 23 rfl w4.heap.size 33 i0 _ 6 56 Try.underlying23 hi0 hz0 hz1 hz2 rfl (by decide) (f 0) 0 [] rfl ((unhide HR7).m0 k0 hxi) ⟨g, 0, none⟩ i cp ((left.take i).flatMap Od.vs) g3 (by rw [flat_len Od.len, List.length_take]; congr 1; omega) (by simpa using row_cells (W := V) (g := g) (off := 0) (l := left) (unhide HCV) 0 i) (one_all _) (by unfold maxLen; omega) (by omega) (unhide HR7).bel.size ?_
          intro v' w' hown hgr _
          refine ⟨upd f 4 v', rfl, r7_4 (unhide HR7) k0 hxi (fun _ => trivial) ?_ hgr⟩
          have hlen : (left.take i).length = 0 + i := by rw [List.length_take]; omega
          show w'.ownsRow _ _ _ _ (left.take i).length _
          rw [hlen]; simpa using hown
        | 5, ho =>
          simp only [List.getElem?_cons_succ, List.getElem?_cons_zero, Option.some.injEq] at ho
          subst ho
          have s5 : f 10 = .slice (some ⟨g, 0, none⟩) left.length cp := hR.s5 (n10 (by omega))
          clear hR hall
          rw [if_pos (by rfl)]
          unfold Oper.wp
          go_simp
          exact ⟨upd f 5 (.slice (some ⟨g, 0, none⟩) left.length cp), by simp [upd, s5], r7_val (unhide HR7) 5 _ rfl (by decide) (by decide) (by decide) (by decide)⟩
        | 6, ho =>
          simp only [List.getElem?_cons_succ, List.getElem?_cons_zero, Option.some.injEq] at ho
          subst ho
          clear hR hall
          rw [if_pos (by rfl)]
          unfold Oper.wp
          go_simp
          exact ⟨upd f 6 (.int .i64 i), by simp [upd], r7_val (unhide HR7) 6 _ rfl (by decide) (by decide) (by decide) (by decide)⟩
        | 7, ho =>
          simp only [List.getElem?_cons_succ, List.getElem?_cons_zero, Option.some.injEq] at ho
          subst ho
          have g6 : C7 (.slice (some ⟨g, 0, none⟩) left.length cp) g left.length cp i 6 (f 6) := hR.c 6 (hall ⟨6, .data⟩ (by simp) rfl)
          simp only [C7] at g6
          have hwr : IntKind.i64.wrap ((i : Int) + 1) = (i : Int) + 1 := by rw [IntKind.wrap_i64]; omega
          clear hR hall
          rw [if_pos (by rfl)]
          unfold Oper.wp
          go_simp
          exact ⟨upd f 7 (.int .i64 ((i : Int) + 1)), by simp [upd, g6], r7_val (unhide HR7) 7 _ rfl (by decide) (by decide) (by decide) (by decide)⟩
        | 8, ho =>
          simp only [List.getElem?_cons_succ, List.getElem?_cons_zero, Option.some.injEq] at ho
          subst ho
          have g5 : C7 (.slice (some ⟨g, 0, none⟩) left.length cp) g left.length cp i 5 (f 5) := hR.c 5 (hall ⟨5, .data⟩ (by simp) rfl)
          have g7 : C7 (.slice (some ⟨g, 0, none⟩) left.length cp) g left.length cp i 7 (f 7) := hR.c 7 (hall ⟨7, .data⟩ (by simp) rfl)
          simp only [C7] at g5 g7
          clear hR hall
          by_cases hcp : cp = i + 1
          · subst hcp
            rw [if_pos (by rfl)]
            unfold Oper.wp
            go_simp
            exact ⟨upd f 8 (.slice (some ⟨g, 0, none⟩) (left.length - (i + 1)) 0), by simp [upd, g5, g7]; omega, r7_val (unhide HR7) 8 _ ⟨_, _, rfl, fun h => by omega⟩ (by decide) (by decide) (by decide) (by decide)⟩
          · rw [if_pos (by rfl)]
            unfold Oper.wp
            go_simp
            exact ⟨upd f 8 (.slice (some ⟨g, (i + 1) * 6, none⟩) (left.length - (i + 1)) (cp - (i + 1))), by simp [upd, g5, g7], r7_val (unhide HR7) 8 _ ⟨_, _, rfl, fun h => rfl⟩ (by decide) (by decide) (by decide) (by decide)⟩
        | 9, ho =>
          simp only [List.getElem?_cons_succ, List.getElem?_cons_zero, Option.some.injEq] at ho
          subst ho
          have g8 : C7 (.slice (some ⟨g, 0, none⟩) left.length cp) g left.length cp i 8 (f 8) := hR.c 8 (hall ⟨8, .data⟩ (by simp) rfl)
          have k4 : x[4]? = some true := hall ⟨4, .data⟩ (by simp) rfl
          have HCV : Hid (∀ j c, left[j]? = some c → V.rangeAt g (0 + j * 6) c.vs) := fun j c hj => range_below (unhide HC4 j c hj) hR.bel hg4
          obtain ⟨ad8, c8, g8, had⟩ := g8
          clear hR hall
          have hsrc8 : ∀ j u, ((left.drop (i + 1)).flatMap Od.vs)[j]? = some u → V.cell? (ad8.add j) = some u := by
            intro j u hu
            by_cases hlt : i + 1 < left.length
            · rw [had hlt]
              have := row_cells (W := V) (g := g) (off := 0) (l := left) (unhide HCV) (i + 1) (left.length - (i + 1)) j u (by rw [List.take_of_length_le (by simp)]; exact hu)
              simpa using this
            · rw [List.drop_of_length_le (by omega)] at hu; simp at hu
          rw [if_pos (by rfl)]
          refine wp_append_own V (.tmp 31) (.tmp 35) 23 rfl w4.heap.size 33 i0 _ 6 56 Try.underlying23 hi0 hz0 hz1 hz2 rfl (by decide) (f 4) (left.take i).length ((left.take i).flatMap Od.vs) rfl ((unhide HR7).m4 k4 hxi) ad8 (left.length - (i + 1)) c8 ((left.drop (i + 1)).flatMap Od.vs) g8 (by rw [flat_len Od.len, List.length_drop]) hsrc8 (one_all _) (by unfold maxLen; rw [List.length_take]; omega) (by rw [List.length_take]; omega) (unhide HR7).bel.size ?_
          intro v' w' hown hgr _
          refine ⟨upd f 9 v', rfl, r7_9 (unhide HR7) k4 hxi (fun _ => trivial) ?_ hgr⟩
          show w'.ownsRow _ _ _ _ (left.take i ++ left.drop (i + 1)).length _
          rw [List.length_append, List.length_drop, List.flatMap_append]
          exact hown
        | 10, ho =>
          simp only [List.getElem?_cons_succ, List.getElem?_cons_zero, Option.some.injEq] at ho
          subst ho
          have hA : ∀ j, j < 10 → x[j]? = some true := fun j hj => hall ⟨j, .phase⟩ (by
            match j, hj with
            | 0, _ => simp
            | 1, _ => simp
            | 2, _ => simp
            | 3, _ => simp
            | 4, _ => simp
            | 5, _ => simp
            | 6, _ => simp
            | 7, _ => simp
            | 8, _ => simp
            | 9, _ => simp
            | n + 10, h => omega) rfl
          clear hR hall
          rw [if_pos (by rfl)]
          unfold Oper.wp
          go_simp
          exact ⟨upd f 10 (f 9), by simp [upd], r7_10 (unhide HR7) hA hxi (fun _ => trivial)⟩
        | n + 11, ho => simp at ho
theorem l03Queue_any (ad : Addr) (cap : Nat) (l : List Od) (sd : Int) (w : World) (hr : RdR Od.vs 6 w (.slice (some ad) l.length cap) l) (hri : Rising l) (hn : l.length ≤ 1000) :
    Calls Try.prog 42 #[.slice (some ad) l.length cap, .int .i64 sd] w fun e w' => ∃ v', e = .returned v' ∧ OwnR Od.vs 6 w.heap.size w' v' (quOf (decide (sd = 1)) (ofSide l sd)) ∧ Below w.heap.size w w' := by
  refine (l03QueueO_any ad cap l sd w hr hri hn).mono ?_
  rintro e w' ⟨v', rfl, ho, hb⟩
  refine ⟨v', rfl, ownR_row Od.len ?_ ho, hb⟩
  rw [quOf_len]
  have h2 : (ofSide l sd).length ≤ l.length := List.length_filter_le _ _
  omega
end Go.Proofs.Ytadnjcgfoofjiaa
