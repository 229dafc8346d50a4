/-
  The levels of a book by the model: proved by walking the function.
-/
import Derived.Test.YtadnjcgfoofjiaaMj16
import Derived.Test.YtadnjcgfoofjiaaMj17
import Derived.Test.YtadnjcgfoofjiaaMj36
import Derived.Test.YtadnjcgfoofjiaaMj38
import Derived.Test.YtadnjcgfoofjiaaMj41
import Derived.BigRegion
namespace Go.Proofs.Ytadnjcgfoofjiaa
open Go.RowKit
set_option linter.unusedVariables false

/-- What has been made behind so many sides. -/
def outK (l : List Od) : Nat → List Lv
  | 0 => []
  | 1 => lvsOf true 1 (ofSide l 1)
  | _ => lvsOf true 1 (ofSide l 1) ++ lvsOf false 2 (ofSide l 2)
theorem outK_step (l : List Od) (k : Nat) (hk : k < 2) : (quOf (decide ((k : Int) + 1 = 1)) (ofSide l ((k : Int) + 1))).foldl (addQ ((k : Int) + 1)) (outK l k) = outK l (k + 1) := by
  rw [levels_fold]
  · rcases (by omega : k = 0 ∨ k = 1) with rfl | rfl
    · simp [outK]
    · simp [outK]
  · intro v hv
    rcases (by omega : k = 0 ∨ k = 1) with rfl | rfl
    · simp [outK] at hv
    · have := lvsOf_side _ _ _ v (List.mem_of_getLast? hv)
      omega
theorem apart_row {W W' : World} {B B' n m sz sz' : Nat} {v v' u : Value} {xs ys : List Value} {t t' : TypeId} (hq : W.ownsRow B t sz u n xs) (ho : W'.ownsRow B' t' sz' v' m ys) (hg : W.grownBy W' v.ownBlock) (hne : ∀ g, u.ownBlock = some g → v.ownBlock ≠ some g) (ht : t ≠ t') : ∀ g, u.ownBlock = some g → v'.ownBlock ≠ some g := by
  intro g hu hv
  rcases hq.2 with ⟨rfl, _⟩ | ⟨g1, c1, cur1, rfl, _, h1, _⟩
  · simp [Value.ownBlock] at hu
  rcases ho.2 with ⟨rfl, _⟩ | ⟨g2, c2, cur2, rfl, _, h2, _⟩
  · simp [Value.ownBlock] at hv
  simp [Value.ownBlock] at hu hv
  subst hu hv
  rw [hg.block g2 (Array.getElem?_eq_some_iff.1 h1).1 (fun e => hne g2 rfl e.symm), h1] at h2
  simp at h2
  exact ht h2.2
theorem lRow_some {W : World} {B : Nat} {v : Value} {l : List Lv} (h : LRow W B v l) (hne : l ≠ []) (hl : l.length ≤ 1073741824) : ∃ g cap, v = .slice (some ⟨g, 0, none⟩) l.length cap ∧ B ≤ g ∧ g < W.heap.size ∧ ∀ i c, l[i]? = some c → W.rangeAt g (i * 4) c.vs := by
  obtain ⟨a, cap, e, _, h2⟩ := ownR_row Lv.len hl h
  obtain ⟨g, rfl, h3, h4, h5, _⟩ := h2 hne
  exact ⟨g, cap, e, h3, h4, fun i c hi => by have := h5 i c hi; rwa [Nat.zero_add] at this⟩
theorem lRow_upd {W : World} {B g n cap : Nat} {l : List Lv} {kk : Nat} {v : Lv} (h : LRow W B (.slice (some ⟨g, 0, none⟩) n cap) l) (hn : l.length = n) (hv : l[kk]? = some v) (q c : Int) :
    LRow ((W.setCell ⟨g, kk * 4 + 2, none⟩ (.int .i64 q)).setCell ⟨g, kk * 4 + 3, none⟩ (.int .i64 c)) B (.slice (some ⟨g, 0, none⟩) n cap) (l.set kk ⟨v.side, v.ticks, q, c⟩) ∧ W.grownBy ((W.setCell ⟨g, kk * 4 + 2, none⟩ (.int .i64 q)).setCell ⟨g, kk * 4 + 3, none⟩ (.int .i64 c)) (some g) := by
  subst hn
  have s1 := h.stored (kk * 4 + 2) (.int .i64 q)
  have s2 := s1.1.stored (kk * 4 + 3) (.int .i64 c)
  refine ⟨?_, s1.2.trans s2.2⟩
  have e1 := flat_set Lv.len l kk 2 v ⟨v.side, v.ticks, q, v.count⟩ (.int .i64 q) hv (by omega) rfl
  have hk := (List.getElem?_eq_some_iff.1 hv).1
  have e2 := flat_set Lv.len (l.set kk ⟨v.side, v.ticks, q, v.count⟩) kk 3 ⟨v.side, v.ticks, q, v.count⟩ ⟨v.side, v.ticks, q, c⟩ (.int .i64 c) (List.getElem?_set_self hk) (by omega) rfl
  rw [List.set_set] at e2
  rw [e1, e2] at s2
  have := s2.1
  show World.ownsRow _ _ _ _ _ (l.set kk _).length _
  rw [List.length_set]; exact this
theorem lRow_frozen {W : World} {B g n cap : Nat} {l : List Lv} (h : LRow W B (.slice (some ⟨g, 0, none⟩) n cap) l) (hn : l.length = n) (j : Nat) : W.frozen? ⟨g, j, none⟩ = false := by
  subst hn; exact h.frozenAt j
theorem lv_pushed {W0 wr w4 : World} {B n : Nat} {v v4 qv : Value} {out : List Lv} {q : List Od} {x : Lv} {o : Obj} (hn : out.length = n) (hl : n ≤ 1000000) (hr : LRow wr B v out) (hq : ORow wr B qv q) (hap : ∀ g, qv.ownBlock = some g → v.ownBlock ≠ some g) (hb : Below B W0 wr) (hBs : B ≤ wr.heap.size) (m : Nat)
    (hown : w4.ownsRow B 37 4 v4 (n + 1) (out.flatMap Lv.vs ++ x.vs)) (hg : ((wr.drewN m).alloc o).grownBy w4 v.ownBlock) :
    LRow w4 B v4 (out ++ [x]) ∧ ORow w4 B qv q ∧ (∀ g, qv.ownBlock = some g → v4.ownBlock ≠ some g) ∧ Below B W0 w4 ∧ ∃ g cp, v4 = .slice (some ⟨g, 0, none⟩) (n + 1) cp ∧ B ≤ g ∧ w4.rangeAt g (n * 4) x.vs := by
  subst hn
  have hr' : LRow w4 B v4 (out ++ [x]) := by
    show w4.ownsRow _ _ _ _ (out ++ [x]).length _
    rw [List.length_append, List.flatMap_append]; simpa using hown
  have hq' : ORow ((wr.drewN m).alloc o) B qv q := World.ownsRow.alloc (show ORow (wr.drewN m) B qv q from hq) o
  have hlt : ∀ g, qv.ownBlock = some g → some g ≠ v.ownBlock := fun g h e => hap g h e.symm
  refine ⟨hr', hq'.kept hg ?_, apart_row hq' hown hg hap (by decide), ?_, ?_⟩
  · cases hqv : qv.ownBlock with
    | none => exact .inl rfl
    | some g => exact .inr (hlt g hqv)
  · exact ((below_drewN' hb m).alloc hBs o).grown hg (by rw [size_made]; exact Nat.le_succ_of_le hBs) (fun k hk => (hr.lt k hk).1)
  · obtain ⟨g, cp, e, h1, _, h3⟩ := lRow_some hr' (by simp) (by simp; omega)
    refine ⟨g, cp, by simpa using e, h1, h3 out.length x (by simp)⟩
/-- Along the queue of a side. -/
def LvI (q : List Od) (sd : Int) (out0 : List Lv) (B m0 : Nat) (W0 : World) (qv ov iv : Value) (wr : World) : Prop :=
  ∃ (i : Nat) (out : List Lv), i ≤ q.length ∧ iv = .int .i64 i ∧ out = (q.take i).foldl (addQ sd) out0 ∧ QB (m0 + i) out ∧ out.length ≤ m0 + i ∧ LRow wr B ov out ∧ ORow wr B qv q ∧ (∀ g, qv.ownBlock = some g → ov.ownBlock ≠ some g) ∧ Below B W0 wr

set_option maxRecDepth 100000 in
set_option maxHeartbeats 3200000 in
theorem specLevels_any (next : Int) (ad : Addr) (cap : Nat) (l : List Od) (w : World) (hr : RdR Od.vs 6 w (.slice (some ad) l.length cap) l) (hg : ∀ c ∈ l, c.tag.size ≤ maxLen) :
    Calls Try.prog 19 #[.agg #[.int .i64 next, .slice (some ad) l.length cap]] w fun e w' => ∃ v', e = .returned (.tuple #[v', .int .i64 (lvC next l)]) ∧ OwnR Lv.vs 4 w.heap.size w' v' (lvR next l) ∧ Below w.heap.size w w' := by
  have HR := hide hr
  have HG := hide hg
  obtain ⟨i0, hi0, hz0, hz1, hz2⟩ := info_parts infoLv_b
  have HB0 : Hid (Below w.heap.size w (w.alloc (Obj.cells #[.int .i64 next, .slice (some ad) l.length cap] 25))) := (Below.refl _ _).alloc (Nat.le_refl _) _
  have HX : Hid (World.rangeAt (w.alloc (Obj.cells #[.int .i64 next, .slice (some ad) l.length cap] 25)) w.heap.size 0 [.int .i64 next, .slice (some ad) l.length cap] ∧ w.heap.size < (w.alloc (Obj.cells #[.int .i64 next, .slice (some ad) l.length cap] 25)).heap.size) := ⟨cells_made w [.int .i64 next, .slice (some ad) l.length cap] _, by rw [size_made]; omega⟩
  clear hr hg
  go_enter Try.func19, Try.ntmps19
  go_wp2_with fail
  generalize (w.alloc (Obj.cells #[.int .i64 next, .slice (some ad) l.length cap] 25)) = W2 at HB0 HX ⊢
  refine (specBookOK_any next _ l W2 (rdR_below (unhide HR) (unhide HB0) (Nat.le_refl _)) (unhide HG)).mono ?_
  rintro e w3 ⟨rfl, hb3⟩
  have HB3 := hide ((unhide HB0).trans (hb3.mono (unhide HB0).size))
  have c1 : w3.cell? ⟨w.heap.size, 1, none⟩ = some (.slice (some ad) l.length cap) := range_below (unhide HX).1 hb3 (unhide HX).2 1 _ rfl
  have hw3 : w.heap.size < w3.heap.size := Nat.lt_of_lt_of_le (unhide HX).2 hb3.size
  clear hb3
  cases hok : okS next l
  · have HF : Hid (lvR next l = [] ∧ lvC next l = 1) := ⟨by rw [lvR, hok]; rfl, by rw [lvC, hok]; rfl⟩
    have HB4 : Hid (Below w.heap.size w (w3.alloc (Obj.cells #[] 37))) := (unhide HB3).alloc (unhide HB3).size _
    clear hok
    go_wp2_with fail
    go_ret2
    exact ⟨_, by rw [(unhide HF).2]; rfl, by rw [(unhide HF).1]; exact ⟨_, 0, rfl, by simp, fun h => absurd rfl h⟩, unhide HB4⟩
  obtain ⟨hn, hri, hlb⟩ := okS_left hok
  have HF : Hid (lvR next l = outK l 2 ∧ lvC next l = 0) := ⟨by rw [lvR, if_pos hok]; rfl, by rw [lvC, if_pos hok]⟩
  have HRI := hide hri
  have HLB := hide hlb
  have HR3 := hide (rdR_below (unhide HR) (unhide HB3) (Nat.le_refl _))
  have HO4 := hide (World.ownsRow_made (base := w3.heap.size) (e := 37) (size := 4) w3 #[] 0 (Nat.le_refl _) (by decide) rfl)
  have HB4 : Hid (Below w3.heap.size w3 (w3.alloc (Obj.cells #[] 37))) := (Below.refl _ _).alloc (Nat.le_refl _) _
  have HC1 := hide c1
  clear hok hri hlb c1
  go_wp2_with fail
  generalize (w3.alloc (Obj.cells #[] 37)) = W4 at HO4 HB4 ⊢
  go_loopw [4, 5] (fun ov sv wr => ∃ k : Nat, k ≤ 2 ∧ sv = .int .i64 ((k : Int) + 1) ∧ QB (20 * k) (outK l k) ∧ (outK l k).length ≤ 20 * k ∧ LRow wr w3.heap.size ov (outK l k) ∧ Below w3.heap.size w3 wr) (fun _ sv _ => 3 - (intOf sv).toNat)
  case atStart => exact ⟨0, by omega, rfl, fun v hv => by simp [outK] at hv, by simp [outK], unhide HO4, unhide HB4⟩
  case round =>
    obtain ⟨k, hk, rfl, hqb, hol, hrow, hbel⟩ := hrel
    have HQB := hide hqb
    have HROW := hide hrow
    have HBL := hide hbel
    have d1 := (hbel.cell (p := ⟨w.heap.size, 1, none⟩) hw3).trans (unhide HC1)
    have HRr := hide (rdR_below (unhide HR3) hbel (Nat.le_refl _))
    clear hqb hrow hbel
    by_cases hk2 : k < 2
    · have hk2' : (k : Int) + 1 ≤ 2 := by omega
      go_wp2_with fail
      refine (l03QueueO_any ad cap l ((k : Int) + 1) wr (unhide HRr) (unhide HRI) (by omega)).mono ?_
      rintro e w5 ⟨qv, rfl, hq5, hb5⟩
      have hql : (quOf (decide ((k : Int) + 1 = 1)) (ofSide l ((k : Int) + 1))).length ≤ 20 := by
        rw [quOf_len]
        exact Nat.le_trans (List.length_filter_le _ _) hn
      have HQM : Hid (∀ o ∈ quOf (decide ((k : Int) + 1 = 1)) (ofSide l ((k : Int) + 1)), 0 ≤ o.left ∧ o.left ≤ 1000000) := fun o ho => by
        have hT := isT_tks (decide ((k : Int) + 1 = 1)) (ofSide l ((k : Int) + 1))
        have hm := (flat_perm _ _ (bt_nodup hT.sorted) (fun o ho => (hT.mem _).2 ⟨o, ho, rfl⟩)).mem_iff.1 ho
        exact unhide HLB o (List.mem_filter.1 hm).1
      have HST := hide (outK_step l k hk2)
      generalize hq : quOf (decide ((k : Int) + 1 = 1)) (ofSide l ((k : Int) + 1)) = q at hq5 hql HQM HST
      clear hq
      have hRow5 := row_below (unhide HROW) hb5
      have hQ5 : ORow w5 w3.heap.size qv q := rowBase_b hq5 (unhide HBL).size
      have hap : ∀ g, qv.ownBlock = some g → u4.ownBlock ≠ some g := fun g h1 h2 => by
        have a1 := (hq5.lt g h1).1
        have a2 := ((unhide HROW).lt g h2).2
        omega
      have HIN : Hid (LvI q ((k : Int) + 1) (outK l k) w3.heap.size (20 * k) w3 qv u4 (.int .i64 0) w5) :=
        ⟨0, outK l k, by omega, rfl, by simp, unhide HQB, hol, hRow5, hQ5, hap, (unhide HBL).trans (hb5.mono (unhide HBL).size)⟩
      have hqv := rd_lenR (oRow_rd hQ5 (by omega))
      obtain ⟨qa, qc, rfl⟩ := hqv
      clear hq5 hb5 hRow5 hQ5 hap d1
      go_wp2_with fail
      go_loopw [4, 7] (fun ov iv wq => LvI q ((k : Int) + 1) (outK l k) w3.heap.size (20 * k) w3 (.slice qa q.length qc) ov iv wq) (fun _ iv _ => q.length - (intOf iv).toNat)
      case atStart => exact unhide HIN
      case round =>
        obtain ⟨i, out, hi, rfl, hout, hqb2, hol2, hrow, hqr, hap, hbel⟩ := hrel
        have HOUT := hide hout
        have HQB2 := hide hqb2
        have HROW2 := hide hrow
        have HQR := hide hqr
        have HAP := hide hap
        have HBQ := hide hbel
        have hsz := hbel.size
        clear hout hqb2 hap hbel HIN
        by_cases hlt : i < q.length
        · obtain ⟨c, hic⟩ : ∃ c, q[i]? = some c := ⟨_, List.getElem?_eq_getElem hlt⟩
          have hne : q ≠ [] := by rintro rfl; simp at hlt
          have hcb := unhide HQM c (List.mem_of_getElem? hic)
          obtain ⟨a', cp', e1, _, hcl⟩ := oRow_rd hqr (by omega)
          obtain ⟨gq, off', e2, hgq, hcl⟩ := hcl hne
          obtain ⟨gq', cq', e3, hcq, hBgq, hgqw⟩ := oRow_some hqr hne
          rw [e2] at e1
          simp only [Value.slice.injEq, true_and] at e1 e3
          obtain ⟨rfl, rfl⟩ := e1
          simp only [Option.some.injEq, Addr.mk.injEq, and_true] at e3
          obtain ⟨⟨rfl, rfl⟩, rfl⟩ := e3
          have hcc := hcl i c hic
          rw [Nat.zero_add] at hcc
          obtain ⟨x0, x1, x2, x3, x4, x5⟩ := od_cells hcc
          have hlt' : (i : Int) < q.length := by omega
          have HST2 : Hid ((q.take (i + 1)).foldl (addQ ((k : Int) + 1)) (outK l k) = addQ ((k : Int) + 1) out c) := by
            show _ = _
            rw [takeR_b q i c hic, List.foldl_append, ← unhide HOUT]; rfl
          have HIC := hide hic
          clear hcc hcl hic hqr hne
          cases hj : joins ((k : Int) + 1) out c
          · have HADD := hide (addQ_new_set hj)
            have hrowE : ∃ a4 c4, u4 = .slice a4 out.length c4 := rd_lenR (ownR_rd (ownR_row Lv.len (by omega) hrow))
            obtain ⟨a4, c4, e4⟩ := hrowE
            subst e4
            have hw5 := hsz
            rcases joins_false hj with hemp | ⟨kk, v, hl1, hv1, hv2⟩
            · subst hemp
              clear hj hrow
              go_wp2_with fail
              go_quiet (fail)
              go_wp2_with (at_builtin; go_must (refine wpList_append_own _ rfl _ _ 27 rfl w3.heap.size 37 i0 _ 4 32 Try.underlying27 hi0 hz0 hz1 hz2 rfl (by decide) _ 0 [] rfl ((unhide HROW2).alloc _) ⟨wr.heap.size, 0, none⟩ 1 1 (Lv.mk ((k : Int) + 1) c.ticks 0 0).vs rfl rfl (cellsQ wr _ _) (by simp [Value.oneCell', Lv.vs]) (by unfold maxLen; omega) (by omega) (by simp; omega) ?_); intro v4 w4 hown4 hg4 _)
              obtain ⟨p1, p2, p3, p4, g, cp, rfl, hBg, hcx⟩ := lv_pushed rfl (by omega) (unhide HROW2) (unhide HQR) (unhide HAP) (unhide HBQ) hsz nq hown4 hg4
              have HO2 := hide p1
              have HQ2 := hide p2
              have HAP2 := hide p3
              have HB2 := hide p4
              have x3 : w4.cell? ⟨gq, i * 6 + 3, none⟩ = some (.int .i64 c.left) := by
                obtain ⟨a', cp', e1, _, hcl⟩ := oRow_rd p2 (by omega)
                obtain ⟨b', off', e2, _, hcl⟩ := hcl (by intro h; rw [h] at hlt; simp at hlt)
                rw [e2] at e1
                simp only [Value.slice.injEq, Option.some.injEq, Addr.mk.injEq, and_true, true_and] at e1
                obtain ⟨⟨rfl, rfl⟩, -⟩ := e1
                have := hcl i c (unhide HIC) 3 _ rfl
                rwa [Nat.zero_add] at this
              have y2 : w4.cell? ⟨g, 0 * 4 + 2, none⟩ = some (.int .i64 0) := hcx 2 _ rfl
              have y3 : w4.cell? ⟨g, 0 * 4 + 3, none⟩ = some (.int .i64 0) := hcx 3 _ rfl
              clear hown4 hg4 p1 p2 p3 p4 hcx
              have HL2 : Hid (([] ++ [Lv.mk ((k : Int) + 1) c.ticks 0 0]).length = 0 + 1) := rfl
              have HV2 : Hid (([] ++ [Lv.mk ((k : Int) + 1) c.ticks 0 0])[0]? = some (Lv.mk ((k : Int) + 1) c.ticks 0 0)) := rfl
              have hfz := lRow_frozen (unhide HO2) (unhide HL2) (0 * 4 + 2)
              have hfz3 := lRow_frozen (unhide HO2) (unhide HL2) (0 * 4 + 3)
              have hw1 : IntKind.i64.wrap c.left = c.left := by rw [IntKind.wrap_i64]; omega
              have HU := hide (lRow_upd (unhide HO2) (unhide HL2) (unhide HV2) c.left 1)
              have y2 : w4.cell? ⟨g, 2, none⟩ = some (.int .i64 0) := y2
              have y3 : w4.cell? ⟨g, 3, none⟩ = some (.int .i64 0) := y3
              have hfz : w4.frozen? ⟨g, 2, none⟩ = false := hfz
              have hfz3 : w4.frozen? ⟨g, 3, none⟩ = false := hfz3
              go_region
              go_wp2_with fail
              go_roundw
              case rel =>
                have hgg := (unhide HU).2
                refine ⟨i + 1, ([] ++ [Lv.mk ((k : Int) + 1) c.ticks 0 0]).set 0 ⟨(k : Int) + 1, c.ticks, c.left, 1⟩, by omega, by go_num, by rw [unhide HST2, unhide HADD]; rfl, ?_, ?_, ?_, ?_, unhide HAP2, ?_⟩
                · have := qb_add (sd := (k : Int) + 1) (unhide HQB2) hcb.1 hcb.2
                  rw [unhide HADD] at this
                  exact this
                · rw [List.length_set, List.length_append]; simp at hol2 ⊢; omega
                · exact (unhide HU).1
                · exact (unhide HQ2).kept (gr_drew hgg) (.inr (fun e => unhide HAP2 gq rfl e.symm))
                · exact (unhide HB2).trans (gr_below' (gr_drew hgg) (fun g' hg' => by obtain rfl := Option.some.inj hg'; exact hBg) (unhide HB2).size)
              case measure => simp [intOf]; omega
            · have hkb : kk ≤ 100 := by omega
              have hkb2 : kk + 1 ≤ 20 * k + i := by omega
              have HROWN : Hid (wr.ownsRow w3.heap.size 37 4 (.slice a4 out.length c4) out.length (out.flatMap Lv.vs)) := unhide HROW2
              rw [hl1] at HROWN HROW2 HAP ⊢
              have hone : out ≠ [] := by rintro rfl; simp at hl1
              obtain ⟨gg, c4', e4, hBg', hgw, hc4⟩ := lRow_some hrow hone (by omega)
              simp only [Value.slice.injEq, true_and] at e4
              obtain ⟨rfl, rfl⟩ := e4
              obtain ⟨y0, y1, -, -⟩ := lv_cells (hc4 kk v hv1)
              have hd0 : decide ((kk : Int) < 0) = false := decide_eq_false (by omega)
              have hk1 : (kk : Int) < (kk : Int) + 1 := by omega
              have hk0 : (0 : Int) ≤ kk := by omega
              have HL1 := hide hl1
              have hb12 : (v.side != (k : Int) + 1) = true ∨ (v.side = (k : Int) + 1 ∧ (v.ticks != c.ticks) = true) := by
                by_cases hs : v.side = (k : Int) + 1
                · exact .inr ⟨hs, by simpa using fun h => hv2 ⟨hs, h⟩⟩
                · exact .inl (by simpa using hs)
              clear hj hl1 hv1 hv2 hone hc4 hrow
              rcases hb12 with hbs | ⟨hbs, hbt⟩
              · have hbs' : (v.side == (k : Int) + 1) = false := by simpa using hbs
                have hbs2 : ¬ v.side = (k : Int) + 1 := by simpa using hbs
                go_wp2_with fail
                go_quiet (fail)
                go_wp2_with (at_builtin; go_must (refine wpList_append_own _ rfl _ _ 27 rfl w3.heap.size 37 i0 _ 4 32 Try.underlying27 hi0 hz0 hz1 hz2 rfl (by decide) _ (kk + 1) (out.flatMap Lv.vs) rfl ((unhide HROWN).alloc _) ⟨wr.heap.size, 0, none⟩ 1 1 (Lv.mk ((k : Int) + 1) c.ticks 0 0).vs rfl rfl (cellsQ wr _ _) (by simp [Value.oneCell', Lv.vs]) (by unfold maxLen; omega) (by omega) (by simp; omega) ?_); intro v4 w4 hown4 hg4 _)
                obtain ⟨p1, p2, p3, p4, g, cp, rfl, hBg, hcx⟩ := lv_pushed (unhide HL1) (by omega) (unhide HROW2) (unhide HQR) (unhide HAP) (unhide HBQ) hsz nq hown4 hg4
                have HO2 := hide p1
                have HQ2 := hide p2
                have HAP2 := hide p3
                have HB2 := hide p4
                have x3 : w4.cell? ⟨gq, i * 6 + 3, none⟩ = some (.int .i64 c.left) := by
                  obtain ⟨a', cp', e1, _, hcl⟩ := oRow_rd p2 (by omega)
                  obtain ⟨b', off', e2, _, hcl⟩ := hcl (by intro h; rw [h] at hlt; simp at hlt)
                  rw [e2] at e1
                  simp only [Value.slice.injEq, Option.some.injEq, Addr.mk.injEq, and_true, true_and] at e1
                  obtain ⟨⟨rfl, rfl⟩, -⟩ := e1
                  have := hcl i c (unhide HIC) 3 _ rfl
                  rwa [Nat.zero_add] at this
                have y2 : w4.cell? ⟨g, (kk + 1) * 4 + 2, none⟩ = some (.int .i64 0) := hcx 2 _ rfl
                have y3 : w4.cell? ⟨g, (kk + 1) * 4 + 3, none⟩ = some (.int .i64 0) := hcx 3 _ rfl
                clear hown4 hg4 p1 p2 p3 p4 hcx
                have HL2 : Hid ((out ++ [Lv.mk ((k : Int) + 1) c.ticks 0 0]).length = kk + 1 + 1) := by show _ = _; simp [unhide HL1]
                have HV2 : Hid ((out ++ [Lv.mk ((k : Int) + 1) c.ticks 0 0])[kk + 1]? = some (Lv.mk ((k : Int) + 1) c.ticks 0 0)) := by show _ = _; rw [← unhide HL1]; simp
                have hfz := lRow_frozen (unhide HO2) (unhide HL2) ((kk + 1) * 4 + 2)
                have hfz3 := lRow_frozen (unhide HO2) (unhide HL2) ((kk + 1) * 4 + 3)
                have hw1 : IntKind.i64.wrap c.left = c.left := by rw [IntKind.wrap_i64]; omega
                have HU := hide (lRow_upd (unhide HO2) (unhide HL2) (unhide HV2) c.left 1)
                go_region
                go_wp2_with fail
                go_roundw
                case rel =>
                  have hgg := (unhide HU).2
                  refine ⟨i + 1, (out ++ [Lv.mk ((k : Int) + 1) c.ticks 0 0]).set (kk + 1) ⟨(k : Int) + 1, c.ticks, c.left, 1⟩, by omega, by go_num, by rw [unhide HST2, unhide HADD, unhide HL1], ?_, ?_, ?_, ?_, unhide HAP2, ?_⟩
                  · have := qb_add (sd := (k : Int) + 1) (unhide HQB2) hcb.1 hcb.2
                    rw [unhide HADD, unhide HL1] at this
                    exact this
                  · rw [List.length_set, unhide HL2]; omega
                  · exact (unhide HU).1
                  · exact (unhide HQ2).kept (gr_drew hgg) (.inr (fun e => unhide HAP2 gq rfl e.symm))
                  · exact (unhide HB2).trans (gr_below' (gr_drew hgg) (fun g' hg' => by obtain rfl := Option.some.inj hg'; exact hBg) (unhide HB2).size)
                case measure => simp [intOf]; omega
              · rw [hbs] at y0
                have hbt' : (v.ticks == c.ticks) = false := by simpa using hbt
                have hbt2 : ¬ v.ticks = c.ticks := by simpa using hbt
                go_wp2_with fail
                go_quiet (fail)
                go_wp2_with (at_builtin; go_must (refine wpList_append_own _ rfl _ _ 27 rfl w3.heap.size 37 i0 _ 4 32 Try.underlying27 hi0 hz0 hz1 hz2 rfl (by decide) _ (kk + 1) (out.flatMap Lv.vs) rfl ((unhide HROWN).alloc _) ⟨wr.heap.size, 0, none⟩ 1 1 (Lv.mk ((k : Int) + 1) c.ticks 0 0).vs rfl rfl (cellsQ wr _ _) (by simp [Value.oneCell', Lv.vs]) (by unfold maxLen; omega) (by omega) (by simp; omega) ?_); intro v4 w4 hown4 hg4 _)
                obtain ⟨p1, p2, p3, p4, g, cp, rfl, hBg, hcx⟩ := lv_pushed (unhide HL1) (by omega) (unhide HROW2) (unhide HQR) (unhide HAP) (unhide HBQ) hsz nq hown4 hg4
                have HO2 := hide p1
                have HQ2 := hide p2
                have HAP2 := hide p3
                have HB2 := hide p4
                have x3 : w4.cell? ⟨gq, i * 6 + 3, none⟩ = some (.int .i64 c.left) := by
                  obtain ⟨a', cp', e1, _, hcl⟩ := oRow_rd p2 (by omega)
                  obtain ⟨b', off', e2, _, hcl⟩ := hcl (by intro h; rw [h] at hlt; simp at hlt)
                  rw [e2] at e1
                  simp only [Value.slice.injEq, Option.some.injEq, Addr.mk.injEq, and_true, true_and] at e1
                  obtain ⟨⟨rfl, rfl⟩, -⟩ := e1
                  have := hcl i c (unhide HIC) 3 _ rfl
                  rwa [Nat.zero_add] at this
                have y2 : w4.cell? ⟨g, (kk + 1) * 4 + 2, none⟩ = some (.int .i64 0) := hcx 2 _ rfl
                have y3 : w4.cell? ⟨g, (kk + 1) * 4 + 3, none⟩ = some (.int .i64 0) := hcx 3 _ rfl
                clear hown4 hg4 p1 p2 p3 p4 hcx
                have HL2 : Hid ((out ++ [Lv.mk ((k : Int) + 1) c.ticks 0 0]).length = kk + 1 + 1) := by show _ = _; simp [unhide HL1]
                have HV2 : Hid ((out ++ [Lv.mk ((k : Int) + 1) c.ticks 0 0])[kk + 1]? = some (Lv.mk ((k : Int) + 1) c.ticks 0 0)) := by show _ = _; rw [← unhide HL1]; simp
                have hfz := lRow_frozen (unhide HO2) (unhide HL2) ((kk + 1) * 4 + 2)
                have hfz3 := lRow_frozen (unhide HO2) (unhide HL2) ((kk + 1) * 4 + 3)
                have hw1 : IntKind.i64.wrap c.left = c.left := by rw [IntKind.wrap_i64]; omega
                have HU := hide (lRow_upd (unhide HO2) (unhide HL2) (unhide HV2) c.left 1)
                go_region
                go_wp2_with fail
                go_roundw
                case rel =>
                  have hgg := (unhide HU).2
                  refine ⟨i + 1, (out ++ [Lv.mk ((k : Int) + 1) c.ticks 0 0]).set (kk + 1) ⟨(k : Int) + 1, c.ticks, c.left, 1⟩, by omega, by go_num, by rw [unhide HST2, unhide HADD, unhide HL1], ?_, ?_, ?_, ?_, unhide HAP2, ?_⟩
                  · have := qb_add (sd := (k : Int) + 1) (unhide HQB2) hcb.1 hcb.2
                    rw [unhide HADD, unhide HL1] at this
                    exact this
                  · rw [List.length_set, unhide HL2]; omega
                  · exact (unhide HU).1
                  · exact (unhide HQ2).kept (gr_drew hgg) (.inr (fun e => unhide HAP2 gq rfl e.symm))
                  · exact (unhide HB2).trans (gr_below' (gr_drew hgg) (fun g' hg' => by obtain rfl := Option.some.inj hg'; exact hBg) (unhide HB2).size)
                case measure => simp [intOf]; omega
          · obtain ⟨kk, vv, hl1, hv1, hv2, hv3, -⟩ := joins_true hj
            have hone : out ≠ [] := by rintro rfl; simp at hl1
            obtain ⟨g, c4, e4, hBg, hgw, hc4⟩ := lRow_some hrow hone (by omega)
            subst e4
            obtain ⟨y0, y1, y2, y3⟩ := lv_cells (hc4 kk vv hv1)
            have hvb := unhide HQB2 vv (List.mem_of_getElem? hv1)
            have HADD := hide (addQ_join_set hj hl1 hv1)
            have hol3 : out.length ≤ 20 * k + (i + 1) := by omega
            rw [hv2] at y0
            rw [hv3] at y1
            have hd0 : decide ((kk : Int) < 0) = false := decide_eq_false (by omega)
            have hkb : kk ≤ 100 := by omega
            have hk1 : (kk : Int) < (kk : Int) + 1 := by omega
            have hk0 : (0 : Int) ≤ kk := by omega
            have HV2 := hide hv1
            have HL2 := hide hl1
            rw [hl1] at hrow HROW2 HAP ⊢
            have HO2 : Hid (LRow wr w3.heap.size (.slice (some ⟨g, 0, none⟩) (kk + 1) c4) out) := unhide HROW2
            clear hj hl1 hv1 hv2 hv3 hone hc4 hrow
            go_wp2_with fail
            go_quiet (fail)
            go_wp2_with fail
            have HO2 : Hid (LRow (wr.drewN nq) w3.heap.size (.slice (some ⟨g, 0, none⟩) (kk + 1) c4) out) := unhide HO2
            have HQ2 : Hid (ORow (wr.drewN nq) w3.heap.size (.slice (some ⟨gq, 0, none⟩) q.length qc) q) := unhide HQR
            have HB2 : Hid (Below w3.heap.size w3 (wr.drewN nq)) := below_drewN' (unhide HBQ) nq
            have HAP2 := HAP
            have y2 : (wr.drewN nq).cell? ⟨g, kk * 4 + 2, none⟩ = some (.int .i64 vv.qty) := y2
            have y3 : (wr.drewN nq).cell? ⟨g, kk * 4 + 3, none⟩ = some (.int .i64 vv.count) := y3
            have x3 : (wr.drewN nq).cell? ⟨gq, i * 6 + 3, none⟩ = some (.int .i64 c.left) := x3
            generalize hWW : wr.drewN nq = WW at *
            clear hWW
            have hfz := lRow_frozen (unhide HO2) (unhide HL2) (kk * 4 + 2)
            have hfz3 := lRow_frozen (unhide HO2) (unhide HL2) (kk * 4 + 3)
            have hw1 : IntKind.i64.wrap (vv.qty + c.left) = vv.qty + c.left := by rw [IntKind.wrap_i64]; omega
            have hw2 : IntKind.i64.wrap (vv.count + 1) = vv.count + 1 := by rw [IntKind.wrap_i64]; omega
            have HU := hide (lRow_upd (unhide HO2) (unhide HL2) (unhide HV2) (vv.qty + c.left) (vv.count + 1))
            go_region
            go_wp2_with fail
            go_roundw
            case rel =>
              have hgg := (unhide HU).2
              refine ⟨i + 1, out.set kk ⟨vv.side, vv.ticks, vv.qty + c.left, vv.count + 1⟩, by omega, by go_num, by rw [unhide HST2, unhide HADD], ?_, ?_, (unhide HU).1, ?_, unhide HAP2, ?_⟩
              · rw [← unhide HADD]; exact qb_add (unhide HQB2) hcb.1 hcb.2
              · rw [List.length_set]; exact hol3
              · exact (unhide HQ2).kept (gr_drew hgg) (.inr (fun e => unhide HAP2 gq rfl e.symm))
              · exact (unhide HB2).trans (gr_below' (gr_drew hgg) (fun g' hg' => by obtain rfl := Option.some.inj hg'; exact hBg) (unhide HB2).size)
            case measure => simp [intOf]; omega
        · have he : out = outK l (k + 1) := by
            rw [unhide HOUT, List.take_of_length_le (by omega)]; exact unhide HST
          have hi' : i = q.length := by omega
          have HQB3 := hide (qb_mono (unhide HQB2) (show 20 * k + i ≤ 20 * (k + 1) by omega))
          have hol3 : (outK l (k + 1)).length ≤ 20 * (k + 1) := by rw [← he]; omega
          rw [he] at HQB3 HROW2
          obtain ⟨a4, c4, e4, _, _⟩ := ownR_row Lv.len (by omega) hrow
          subst e4
          have hlt' : ¬ ((i : Int) < q.length) := by omega
          clear hrow hqr he
          go_wp2_with fail
          exact ⟨⟨k + 1, by omega, by go_num, unhide HQB3, hol3, unhide HROW2, unhide HBQ⟩, by simp [intOf]; omega⟩
    · obtain rfl : k = 2 := by omega
      go_wp2_with fail
      go_ret2
      refine ⟨_, by rw [(unhide HF).2]; rfl, ?_, (unhide HB3).trans ((unhide HBL).mono (unhide HB3).size)⟩
      rw [(unhide HF).1]
      exact ownR_base (ownR_row Lv.len (by omega) (unhide HROW)) (unhide HB3).size
end Go.Proofs.Ytadnjcgfoofjiaa
