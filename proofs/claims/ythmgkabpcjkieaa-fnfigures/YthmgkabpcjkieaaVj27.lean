/-
  The totals of a script: what the program counts group by group is what the model counts at the end. No function walked.
-/
import Derived.Test.YthmgkabpcjkieaaVj26
namespace Go.Proofs.Ythmgkabpcjkieaa
open Go.RowKit
set_option linter.unusedVariables false

theorem run_fold : ∀ (cs : List Cm) (s : RunSt), s.t = s.g.foldl wgT tot0 → (cs.foldl rstep s).t = (cs.foldl rstep s).g.foldl wgT tot0
  | [], s, h => h
  | c :: cs, s, h => by
    rw [List.foldl_cons]
    refine run_fold cs _ ?_
    show wgT s.t (stE s.n s.l c) = (s.g ++ [stE s.n s.l c]).foldl wgT tot0
    rw [List.foldl_append, ← h]; rfl
/-- Alike but for the groups and what rests. -/
structure Al (t u : Tot) : Prop where
  ac : t.ac = u.ac
  rf : t.rf = u.rf
  tr : t.tr = u.tr
  vo : t.vo = u.vo
  no : t.no = u.no
theorem al_cnt {t u : Tot} (e : Ev) (h : Al t u) : Al (cntE t e) (cntM u e) := by
  obtain ⟨h1, h2, h3, h4, h5⟩ := h
  unfold cntE cntM
  split
  · exact ⟨by simp only [h1], h2, h3, h4, h5⟩
  · split
    · exact ⟨h1, by simp only [h2], h3, h4, h5⟩
    · split
      · exact ⟨h1, h2, by simp only [h3], by simp only [h4], by simp only [h5]⟩
      · split
        · exact ⟨h1, h2, h3, h4, h5⟩
        · exact ⟨h1, h2, h3, h4, h5⟩
theorem al_fold : ∀ (es : List Ev) {t u : Tot}, Al t u → Al (es.foldl cntE t) (es.foldl cntM u)
  | [], _, _, h => h
  | e :: es, _, _, h => al_fold es (al_cnt e h)
theorem cntE_rest (t : Tot) (e : Ev) : (cntE t e).gr = t.gr ∧ (cntE t e).li = t.li ∧ (cntE t e).le = t.le := by
  unfold cntE
  split
  · exact ⟨rfl, rfl, rfl⟩
  · split
    · exact ⟨rfl, rfl, rfl⟩
    · split <;> exact ⟨rfl, rfl, rfl⟩
theorem cntE_fold : ∀ (es : List Ev) (t : Tot), (es.foldl cntE t).gr = t.gr ∧ (es.foldl cntE t).li = t.li ∧ (es.foldl cntE t).le = t.le
  | [], _ => ⟨rfl, rfl, rfl⟩
  | e :: es, t => by
    have h1 := cntE_fold es (cntE t e)
    have h2 := cntE_rest t e
    exact ⟨h1.1.trans h2.1, h1.2.1.trans h2.2.1, h1.2.2.trans h2.2.2⟩
theorem cntM_gr : ∀ (es : List Ev) (t : Tot), (es.foldl cntM t).gr = t.gr
  | [], _ => rfl
  | e :: es, t => by
    refine (cntM_gr es (cntM t e)).trans ?_
    unfold cntM
    split
    · rfl
    · split
      · rfl
      · split
        · rfl
        · split <;> rfl
theorem totG_gr : ∀ (gl : List (List Ev)) (t : Tot), (totG t gl).gr = t.gr
  | [], _ => rfl
  | es :: gl, t => (totG_gr gl (es.foldl cntM t)).trans (cntM_gr es t)
theorem wrap_small {x : Int} (h0 : 0 ≤ x) (h1 : x ≤ 1000000) : wrap64 x = x := by unfold wrap64; omega
theorem wg_al : ∀ (gl : List (List Ev)) {t u : Tot}, Al t u → 0 ≤ t.gr → t.gr + gl.length ≤ 1000000 → Al (gl.foldl wgT t) (totG u gl) ∧ (gl.foldl wgT t).gr = t.gr + gl.length ∧ (gl.foldl wgT t).li = t.li ∧ (gl.foldl wgT t).le = t.le
  | [], t, u, h, _, _ => ⟨h, by simp, rfl, rfl⟩
  | es :: gl, t, u, h, h0, h1 => by
    rw [List.length_cons] at h1
    have hf := cntE_fold es { t with gr := wrap64 (t.gr + 1) }
    have hw : wrap64 (t.gr + 1) = t.gr + 1 := wrap_small (by omega) (by omega)
    have hg : (wgT t es).gr = t.gr + 1 := hf.1.trans hw
    have ha : Al (wgT t es) (es.foldl cntM u) := al_fold es ⟨h.ac, h.rf, h.tr, h.vo, h.no⟩
    have ih := wg_al gl ha (by omega) (by omega)
    refine ⟨ih.1, ?_, ih.2.2.1.trans hf.2.1, ih.2.2.2.trans hf.2.2⟩
    have := ih.2.1
    rw [List.foldl_cons, this, List.length_cons]; omega
theorem wb_fold : ∀ (l : List Od) (t : Tot) (n : Int), 0 ≤ t.li → t.li + l.length ≤ 1000000 → l.foldl cntO { t with le := n } = { t with li := t.li + l.length, le := l.foldl (fun n o => wrap64 (n + o.left)) n }
  | [], t, n, _, _ => by simp
  | o :: l, t, n, h0, h1 => by
    rw [List.length_cons] at h1
    have hw : wrap64 (t.li + 1) = t.li + 1 := wrap_small (by omega) (by omega)
    rw [List.foldl_cons, List.foldl_cons]
    have := wb_fold l { t with li := t.li + 1 } (wrap64 (n + o.left)) (by show 0 ≤ t.li + 1; omega) (by show t.li + 1 + _ ≤ _; omega)
    simp only at this
    unfold cntO
    simp only [hw]
    refine this.trans ?_
    congr 1
    rw [List.length_cons]; omega
/-- What the program counts is what the model counts. -/
theorem tot_eq (cs : List Cm) (h : cs.length ≤ 200) : wbT (runS cs).t (runS cs).l = totM (runS cs).g (runS cs).l := by
  have hI := run_inv cs h
  have hl := hI.1.good.len
  have hf : (runS cs).t = (runS cs).g.foldl wgT tot0 := run_fold cs _ rfl
  generalize runS cs = s at hI hl hf ⊢
  obtain ⟨ha, hg, hli, hle⟩ := wg_al s.g (t := tot0) (u := { tot0 with gr := s.g.length }) ⟨rfl, rfl, rfl, rfl, rfl⟩ (by show (0 : Int) ≤ 0; omega) (by show (0 : Int) + _ ≤ _; omega)
  have hgr := totG_gr s.g { tot0 with gr := s.g.length }
  rw [← hf] at ha hg hli hle
  unfold totM wbT
  generalize totG { tot0 with gr := s.g.length } s.g = U at ha hgr ⊢
  have hw := wb_fold s.l s.t 0 (by rw [hli]; show (0 : Int) ≤ 0; omega) (by rw [hli]; show (0 : Int) + _ ≤ _; omega)
  have ht : { s.t with le := 0 } = s.t := by rw [show (0 : Int) = s.t.le from hle.symm]
  rw [ht] at hw
  rw [hw]
  obtain ⟨u1, u2, u3, u4, u5, u6, u7, u8⟩ := U
  generalize s.t = T at *
  obtain ⟨t1, t2, t3, t4, t5, t6, t7, t8⟩ := T
  obtain ⟨a1, a2, a3, a4, a5⟩ := ha
  simp only [tot0] at *
  simp only [Tot.mk.injEq]
  exact ⟨by omega, a1, a2, a3, a4, a5, by omega, rfl⟩
end Go.Proofs.Ythmgkabpcjkieaa
namespace Go.Proofs.Ythmgkabpcjkieaa
open Go.RowKit
set_option linter.unusedVariables false

theorem specIn_any (n a b : Int) (w : World) :
    Calls Try.prog 40 #[.int .i64 n, .int .i64 a, .int .i64 b] w fun e w' => e = .returned (.bool (betB n a b)) ∧ w' = w := by
  go_enter Try.func40, Try.ntmps40
  go_wp2
  all_goals go_ret
  all_goals exact ⟨ret_bool (by rw [Bool.eq_iff_iff]; simp [betB]; omega), rfl⟩
set_option maxHeartbeats 400000 in
theorem l03Tag_any (s : ByteArray) (w : World) (hs : s.size ≤ maxLen) :
    Calls Try.prog 70 #[.string s] w fun e w' => e = .returned (.bool (tagB s)) ∧ w' = w := by
  unfold maxLen at hs
  by_cases hl : s.size ≤ 12
  · have hl' : ¬ ((12 : Int) < s.size) := by omega
    go_enter Try.func70, Try.ntmps70
    go_wp2_with fail
    go_loop [3] (fun i => ∃ k : Nat, k ≤ s.size ∧ i = .int .i64 k ∧ Hid (s.data.toList.all tagC = (s.data.toList.drop k).all tagC)) (fun i => s.size - (intOf i).toNat)
    case atStart => exact ⟨0, Nat.zero_le _, rfl, by simp [Hid]⟩
    case round =>
      obtain ⟨k, hk, rfl, hall⟩ := hrel
      by_cases hlt : k < s.size
      · have hlt' : (k : Int) < s.size := by omega
        have hdr := drop_cons s k hlt
        have hw : betB (s[k].toNat : Int) 32 126 = tagC s[k] := rfl
        cases ht : tagC s[k]
        · have HT : Hid (s.data.toList.all tagC = false) := by
            have := unhide hall
            rw [hdr, List.all_cons, ht, Bool.false_and] at this
            exact this
          rw [ht] at hw
          have hor : (s[k].toNat : Int) < 32 ∨ (32 ≤ (s[k].toNat : Int) ∧ (126 : Int) < s[k].toNat) := by
            simp [betB] at hw; omega
          clear hdr ht hw
          rcases hor with h32 | ⟨h32, h126⟩
          · have hd : decide ((s[k].toNat : Int) < 32) = true := by simpa using h32
            go_wp2_with fail
            go_ret
            exact ⟨ret_bool (tag_no s (unhide HT)).symm, rfl⟩
          · have hd : decide ((s[k].toNat : Int) < 32) = false := by simpa using h32
            go_wp2_with fail
            go_ret
            exact ⟨ret_bool (tag_no s (unhide HT)).symm, rfl⟩
        · have HN : Hid (s.data.toList.all tagC = (s.data.toList.drop (k + 1)).all tagC) := by
            have := unhide hall
            rw [hdr, List.all_cons, ht, Bool.true_and] at this
            exact this
          rw [ht] at hw
          have hor : 32 ≤ (s[k].toNat : Int) ∧ (s[k].toNat : Int) ≤ 126 := by
            simp [betB] at hw; omega
          obtain ⟨h32, h126⟩ := hor
          have hd : decide ((s[k].toNat : Int) < 32) = false := by simpa using h32
          have hd2 : ¬ ((126 : Int) < s[k].toNat) := by omega
          clear hdr ht hw
          go_wp2_with fail
          go_round
          case rel => exact ⟨k + 1, by omega, by go_num, unhide HN⟩
          case measure => simp [intOf]; omega
      · go_wp2_with fail
        go_ret
        have h := unhide hall
        rw [List.drop_of_length_le (by rw [data_len]; omega)] at h
        exact ⟨ret_bool (tag_yes s hl (by rw [h]; rfl)).symm, rfl⟩
  · have hl' : (12 : Int) < s.size := by omega
    go_enter Try.func70, Try.ntmps70
    go_wp2_with fail
    go_ret
    exact ⟨ret_bool (tag_long s hl).symm, rfl⟩
set_option maxHeartbeats 800000 in
theorem l03Order_any (o : Od) (w : World) (hs : o.tag.size ≤ maxLen) :
    Calls Try.prog 41 #[.agg #[.int .i64 o.id, .int .i64 o.side, .int .i64 o.ticks, .int .i64 o.left, .int .i64 o.life, .string o.tag]] w fun e w' => e = .returned (.bool (ordB o)) ∧ Below w.heap.size w w' := by
  have HT := hide (fun W => l03Tag_any o.tag W hs)
  clear hs
  cases h1 : betB o.side 1 2
  · go_enter Try.func41, Try.ntmps41
    go_wp2_with (first | (go_at_call 70; refine (unhide HT _).mono ?_; rintro e w' ⟨rfl, rfl⟩) | (go_at_call 40; refine (specIn_any _ _ _ _).mono ?_; rintro e w' ⟨rfl, rfl⟩))
    go_ret
    exact ⟨ret_bool (by simp [ordB, h1]), by go_grown⟩
  ·
    cases h4 : betB o.ticks 1 1000000
    · go_enter Try.func41, Try.ntmps41
      go_wp2_with (first | (go_at_call 70; refine (unhide HT _).mono ?_; rintro e w' ⟨rfl, rfl⟩) | (go_at_call 40; refine (specIn_any _ _ _ _).mono ?_; rintro e w' ⟨rfl, rfl⟩))
      go_ret
      exact ⟨ret_bool (by simp [ordB, h1, h4]), by go_grown⟩
    ·
      cases h5 : betB o.left 1 1000000
      · go_enter Try.func41, Try.ntmps41
        go_wp2_with (first | (go_at_call 70; refine (unhide HT _).mono ?_; rintro e w' ⟨rfl, rfl⟩) | (go_at_call 40; refine (specIn_any _ _ _ _).mono ?_; rintro e w' ⟨rfl, rfl⟩))
        go_ret
        exact ⟨ret_bool (by simp [ordB, h1, h4, h5]), by go_grown⟩
      ·
        cases h2 : betB o.life 0 1
        · go_enter Try.func41, Try.ntmps41
          go_wp2_with (first | (go_at_call 70; refine (unhide HT _).mono ?_; rintro e w' ⟨rfl, rfl⟩) | (go_at_call 40; refine (specIn_any _ _ _ _).mono ?_; rintro e w' ⟨rfl, rfl⟩))
          go_ret
          exact ⟨ret_bool (by simp [ordB, h1, h4, h5, h2]), by go_grown⟩
        ·
          cases h3 : tagB o.tag
          · go_enter Try.func41, Try.ntmps41
            go_wp2_with (first | (go_at_call 70; refine (unhide HT _).mono ?_; rintro e w' ⟨rfl, rfl⟩) | (go_at_call 40; refine (specIn_any _ _ _ _).mono ?_; rintro e w' ⟨rfl, rfl⟩))
            go_ret
            exact ⟨ret_bool (by simp [ordB, h1, h4, h5, h2, h3]), by go_grown⟩
          · go_enter Try.func41, Try.ntmps41
            go_wp2_with (first | (go_at_call 70; refine (unhide HT _).mono ?_; rintro e w' ⟨rfl, rfl⟩) | (go_at_call 40; refine (specIn_any _ _ _ _).mono ?_; rintro e w' ⟨rfl, rfl⟩))
            go_ret
            exact ⟨ret_bool (by simp [ordB, h1, h4, h5, h2, h3]), by go_grown⟩
end Go.Proofs.Ythmgkabpcjkieaa
namespace Go.Proofs.Ythmgkabpcjkieaa
open Go.RowKit
set_option linter.unusedVariables false

theorem l03Better_any (o c : Od) (w : World) :
    Calls Try.prog 43 #[.agg #[.int .i64 o.id, .int .i64 o.side, .int .i64 o.ticks, .int .i64 o.left, .int .i64 o.life, .string o.tag], .agg #[.int .i64 c.id, .int .i64 c.side, .int .i64 c.ticks, .int .i64 c.left, .int .i64 c.life, .string c.tag]] w fun e w' => e = .returned (.bool (ahdB o c)) ∧ w.grownBy w' none := by
  by_cases h : o.ticks = c.ticks
  · have h' : (o.ticks == c.ticks) = true := by simpa using h
    have HA : Hid (ahdB o c = decide (o.id < c.id)) := if_pos h
    go_enter Try.func43, Try.ntmps43
    go_wp2_with fail
    go_ret
    exact ⟨ret_bool (unhide HA).symm, (World.grownBy_alloc _ _ _).trans (World.grownBy_alloc _ _ _)⟩
  · have HA : Hid (ahdB o c = (decide (c.ticks < o.ticks) == decide (o.side = 1))) := if_neg h
    go_enter Try.func43, Try.ntmps43
    go_wp2_with fail
    go_ret
    exact ⟨ret_bool (by rw [unhide HA]; rfl), (World.grownBy_alloc _ _ _).trans (World.grownBy_alloc _ _ _)⟩
set_option maxRecDepth 100000 in
set_option maxHeartbeats 800000 in
theorem l03Front_any (v : Value) (l : List Od) (sd : Int) (w : World) (hr : RdR Od.vs 6 w v l) (hri : Rising l) (hn : l.length ≤ 1000) :
    Calls Try.prog 19 #[v, .int .i64 sd] w fun e w' => ∃ k : Int, e = .returned (.int .i64 k) ∧ FrPre l sd l.length k ∧ w.grownBy w' none := by
  obtain ⟨a, cap, rfl, hlen, hc⟩ := hr
  have hcell : ∀ (k : Nat) (c : Od), l[k]? = some c → ∃ b off, a = some ⟨b, off, none⟩ ∧ b < w.heap.size ∧ w.rangeAt b (off + k * 6) c.vs := by
    intro k c hk
    obtain ⟨b, off, h1, h2, h3⟩ := hc (by intro h; rw [h] at hk; simp at hk)
    exact ⟨b, off, h1, h2, h3 k c hk⟩
  have HC := hide hcell
  have HRI := hide hri
  clear hcell hc hri
  go_enter Try.func19, Try.ntmps19
  go_wp2_with fail
  go_loopw [5, 6] (fun bv iv wr => ∃ (k : Nat) (best : Int), bv = .int .i64 best ∧ k ≤ l.length ∧ iv = .int .i64 k ∧ Hid (FrPre l sd k best) ∧ w.grownBy wr none) (fun _ iv _ => l.length - (intOf iv).toNat)
  case atStart => exact ⟨0, -1, rfl, Nat.zero_le _, rfl, .inl ⟨rfl, fun j o hj => by omega⟩, World.grownBy.refl _ _⟩
  case round =>
    obtain ⟨k, best, rfl, hk, rfl, hfr, hg⟩ := hrel
    have HG := hide hg
    clear hg
    by_cases hlt : k < l.length
    · obtain ⟨c, hkc⟩ : ∃ c, l[k]? = some c := ⟨_, List.getElem?_eq_getElem hlt⟩
      obtain ⟨b, off, rfl, hb, hcl⟩ := unhide HC k c hkc
      have HKC := hide hkc
      obtain ⟨g0, g1, g2, g3, g4, g5⟩ := od_cells (range_grown hcl (unhide HG) hb (by simp))
      have hlt' : (k : Int) < l.length := by omega
      have HCL := hide hcl
      have HHB := hide hb
      clear hkc hcl
      by_cases hs : c.side = sd
      · subst hs
        rcases unhide hfr with ⟨rfl, hno⟩ | ⟨i, o, rfl, hi, hio, hso, hah⟩
        · have HN := hide (frPre_first (unhide hfr) (unhide HKC) rfl)
          clear hno
          go_wp2_with fail
          go_quiet (fail)
          go_wp2_with fail
          go_roundw
          case rel => exact ⟨k + 1, k, rfl, by omega, by go_num, unhide HN, gr_drewM (unhide HG) rfl rfl rfl rfl⟩
          case measure => simp [intOf]; omega
        · obtain ⟨b', off', hbe, hb', hcl'⟩ := unhide HC i o hio
          simp only [Option.some.injEq, Addr.mk.injEq, and_true] at hbe
          obtain ⟨rfl, rfl⟩ := hbe
          obtain ⟨e0, e1, e2, e3, e4, e5⟩ := od_cells (range_grown hcl' (unhide HG) hb (by simp))
          have hlti : (i : Int) < l.length := by have := (List.getElem?_eq_some_iff.1 hio).1; omega
          have hi0 : ¬ ((i : Int) < 0) := by omega
          have hi0' : decide ((i : Int) < 0) = false := by simp
          have HCEL : Hid (∀ w', wr.grownBy w' none → w'.rangeAt b (off + k * 6) c.vs ∧ w'.rangeAt b (off + i * 6) o.vs) := fun w' h' => ⟨range_grown (range_grown (unhide HCL) (unhide HG) hb (by simp)) h' (Nat.lt_of_lt_of_le hb (unhide HG).size) (by simp), range_grown (range_grown hcl' (unhide HG) hb (by simp)) h' (Nat.lt_of_lt_of_le hb (unhide HG).size) (by simp)⟩
          have HHI : Hid (l[i]? = some o) := hio
          clear hah hio hcl' hso
          go_wp2_with fail
          refine wp_region_grow (W := wr) (by kernel_rfl) (by kernel_rfl) (World.grownBy.refl _ _) ?_
          iterate 19 (
            refine quiet_op (v := ?_) ?_ ?_ ?_
            rotate_left
            · rfl
            · intro w' hw'
              obtain ⟨c0, c1, c2, c3, c4, c5⟩ := od_cells (unhide HCEL w' hw').1
              obtain ⟨d0, d1, d2, d3, d4, d5⟩ := od_cells (unhide HCEL w' hw').2
              go_simp
              try rfl
            intro K hK
            go_simp
            refine hK _ ?_
            clear hK K)
          refine quiet_op (v := .bool (ahdB c o)) ?_ ?_ ?_
          · rfl
          · intro w' hw'
            go_simp
            refine (l03Better_any c o _).mono ?_
            rintro e w3 ⟨rfl, hg3⟩
            exact ⟨rfl, hw'.trans hg3⟩
          intro K hK
          go_simp
          refine hK _ ?_
          clear hK K
          iterate 2 (
            refine quiet_op (v := ?_) ?_ ?_ ?_
            rotate_left
            · rfl
            · intro w' hw'
              go_simp
              try rfl
            intro K hK
            go_simp
            refine hK _ ?_
            clear hK K)
          refine wpQuiet_nil ?_
          intro w2 hg2
          have HG2 := hide ((unhide HG).trans hg2)
          clear hg2 g0 g1 g2 g3 g4 g5 e0 e1 e2 e3 e4 e5
          cases hah : ahdB c o
          · have HN := hide (frPre_worse (unhide HRI) (unhide hfr) (unhide HHI) (unhide HKC) rfl hah)
            go_wp2_with fail
            go_roundw
            case rel => exact ⟨k + 1, i, rfl, by omega, by go_num, unhide HN, unhide HG2⟩
            case measure => simp [intOf]; omega
          · have HN := hide (frPre_better (unhide HRI) (unhide hfr) (unhide HHI) (unhide HKC) rfl hah)
            go_wp2_with fail
            go_roundw
            case rel => exact ⟨k + 1, k, rfl, by omega, by go_num, unhide HN, unhide HG2⟩
            case measure => simp [intOf]; omega
      · have HN := hide (frPre_skip (unhide hfr) (unhide HKC) hs)
        have hs' : (c.side == sd) = false := by simpa using hs
        go_wp2_with fail
        go_quiet (fail)
        go_wp2_with fail
        go_roundw
        case rel => exact ⟨k + 1, best, rfl, by omega, by go_num, unhide HN, gr_drewM (unhide HG) rfl rfl rfl rfl⟩
        case measure => simp [intOf]; omega
    · go_wp2_with fail
      go_ret
      have h := unhide hfr
      rw [show k = l.length by omega] at h
      exact ⟨_, rfl, h, unhide HG⟩
end Go.Proofs.Ythmgkabpcjkieaa
