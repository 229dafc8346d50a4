/-
  A group closed behind a command, as a deferred call: proved by walking the method.
-/
import Derived.Test.YtopjoogdpjaocaaGreatTj19
import Derived.Defers
set_option linter.unusedVariables false
set_option maxHeartbeats 6400000
set_option maxRecDepth 100000
namespace Go.Proofs.YtopjoogdpjaocaaGreat
open Go.RowKit
set_option maxRecDepth 100000 in
set_option maxHeartbeats 6400000 in
theorem closeGroup_d (mb B:Nat) (gv:Value) (gs:List Value) (t:Tot) (vo:Value) (ts:List Ev) (u:FrameMode) (w:World) (c0:w.cell? ⟨mb,0,none⟩ = some gv) (f0:w.frozen? ⟨mb,0,none⟩ = false) (ht:w.rangeAt mb 3 t.vs) (hth:w.there mb 3 8) (c11:w.cell? ⟨mb,11,none⟩ = some vo) (f11:w.frozen? ⟨mb,11,none⟩ = false) (hbx:∃ cur,w.heap[mb]? = some (.cells cur 69 (0,0)))
  (hgr:GRow w B gv gs) (her:ERow w B vo ts) (hB:B ≤ w.heap.size) (hn:ts.length ≤ 1000) (hgn:gs.length ≤ 1000) :
  CallsD Tryz.prog 45 #[.pointer (some ⟨mb,0,none⟩)] u w fun r u' w'=>u' = u∧r = .returned (.tuple #[])∧∃ (gv':Value) (V0 V1:World),GRow V0 B gv' (gs ++ [vo])∧w.grownBy V0 gv.ownBlock∧Below V0.heap.size (V0.setCell ⟨mb,0,none⟩ gv') V1∧w' = (V1.setCells mb 3 (wgT t ts).vs).setCell ⟨mb,11,none⟩ (.slice none 0 0):=by
 obtain ⟨i0,hi0,hz0,hz1,hz2⟩:=info_parts infoEvS
 have hnq:some mb ≠ gv.ownBlock:=zj hgr hbx (by decide)
 have hmw:mb < w.heap.size:=World.block_lt_of_cell? w _ c0
 have hone:vo.oneCell' = true:=by
  rcases her.2 with ⟨rfl,_⟩ | ⟨g,cp,cur,rfl,_⟩ <;> rfl
 obtain ⟨av,cv,rfl⟩:∃ av cv,vo = .slice av ts.length cv:=by
  rcases her.2 with ⟨rfl,h0⟩ | ⟨g,cp,cur,rfl,_⟩
  ·exact ⟨none,0,by rw [h0]⟩
  ·exact ⟨_,_,rfl⟩
 have HGR:=hide hgr
 have HER:=hide her
 have HBX:=hide hbx
 clear hgr her hbx
 go_enter_d Tryz.func45,Tryz.ntmps45
 refine wp_seq_k fun K hK=>?_
 have HK1:=hide hK
 clear hK
 refine zo (RCA (fun f=>{ tmps:=#[.pointer (some ⟨mb,0,none⟩),undef,f 0,f 1,f 2,f 3,f 4,f 5,f 6,f 7,f 8,f 9,f 10,f 11,f 12,f 13,f 14,undef,undef,undef,undef,undef,undef,undef,undef,undef,undef,undef,undef,undef,undef,undef,undef,undef],defers:=[] }) (C0G mb gv (.slice av ts.length cv)) mb B gv (.slice av ts.length cv) gs w) (by kernel_rfl) ?_ ?_ ?_
 ·exact ⟨fun _=>undef,rfl,⟨fun j hj=>by rw [List.getElem?_replicate] at hj; split at hj <;> simp at hj,fun _=>⟨rfl,rfl,rfl,Nat.le_refl _,fun _ _=>rfl⟩,by simp,by simp,by simp⟩⟩
 ·rintro x A V ⟨f,rfl,hR⟩ hx hrd
  have hallx:=zab hrd hx (acyc _ (by kernel_rfl))
  obtain ⟨V0,hr0,hg0,eV⟩:=hR.m15 (hallx 15 (by simp))
  refine za HK1 _ _ ?_
  clear HK1
  dsimp only
  generalize f 11 = gv' at hr0 eV ⊢
  generalize f 0 = u2
  generalize f 1 = u3
  generalize f 2 = u4
  generalize f 3 = u5
  generalize f 4 = u6
  generalize f 5 = u7
  generalize f 6 = u8
  generalize f 7 = u9
  generalize f 8 = u10
  generalize f 9 = u11
  generalize f 10 = u12
  generalize f 12 = u14
  generalize f 13 = u15
  generalize f 14 = u16
  clear hR hallx hrd hx
  have HR0:=hide hr0
  have HG0:=hide hg0
  have hm0:mb < V0.heap.size:=Nat.lt_of_lt_of_le hmw hg0.size
  have hT0:=zu ht hg0 hmw hnq
  have hH0:=zar hth hg0 hmw hnq
  have hc11:=hg0.cell c11 hnq
  have hE0:ERow V0 B (.slice av ts.length cv) ts:=World.ownsRow.kept (za HER) hg0 (zB (za HER) (za HGR) (by decide))
  obtain ⟨V1,hV1⟩:∃ V1:World,V1 = V0.setCell ⟨mb,0,none⟩ gv':=⟨_,rfl⟩
  have hs1:V1.heap.size = V0.heap.size:=by rw [hV1]; simp [World.setCell]
  have HT:Hid (V1.rangeAt mb 3 t.vs):=by
   rw [hV1]
   exact fun j u hj=>(World.cell?_setCell_other _ _ _ _ (zX (by omega))).trans (hT0 j u hj)
  have HTH:Hid (V1.there mb 3 8):=by rw [hV1]; exact zC hH0
  have c11':V1.cell? ⟨mb,11,none⟩ = some (.slice av ts.length cv):=by rw [hV1]; exact (World.cell?_setCell_other _ _ _ _ (zX (by omega))).trans hc11
  have f11':V1.frozen? ⟨mb,11,none⟩ = false:=by rw [hV1,World.frozen?_setCell]; exact (World.frozen?_of_block (a:=⟨mb,11,none⟩) (hg0.block mb hmw hnq)).trans f11
  have hE1:ERow V1 B (.slice av ts.length cv) ts:=by
   rw [hV1]
   refine zt hE0 (zj (T:=69) hE0 ?_ (by decide)) 0 _
   obtain ⟨cur,hc⟩:=za HBX
   exact ⟨cur,(hg0.block mb hmw hnq).trans hc⟩
  have HRO:Hid (RdR Ev.vs 14 V1 (.slice av ts.length cv) ts):=zcp (zaX Ev.len (by omega) hE1)
  have hmX:mb < V1.heap.size:=by omega
  rw [eV,← hV1]
  have HV1:=hide hV1
  have c11:=c11'
  have f11:=f11'
  clear c11' f11' hV1 eV hr0 hg0 hT0 hH0 hc11 hE0 hE1 hs1 c0 f0 ht hth
  refine wp_seq_k fun K hK=>?_
  have HK1:=hide hK
  clear hK
  refine zo (RDgA (fun f=>{ tmps:=#[.pointer (some ⟨mb,0,none⟩),undef,u2,u3,u4,u5,u6,u7,u8,u9,u10,u11,u12,gv',u14,u15,u16,f 0,f 1,f 2,f 3,f 4,f 5,f 6,f 7,f 8,f 9,f 10,f 11,f 12,f 13,undef,undef,undef],defers:=[] }) (C1G mb (.agg #[.int .i64 t.gr,.int .i64 t.ac,.int .i64 t.rf,.int .i64 t.tr,.int .i64 t.vo,.int .i64 t.no,.int .i64 t.li,.int .i64 t.le]) (.agg #[.int .i64 (wgT t ts).gr,.int .i64 (wgT t ts).ac,.int .i64 (wgT t ts).rf,.int .i64 (wgT t ts).tr,.int .i64 (wgT t ts).vo,.int .i64 (wgT t ts).no,.int .i64 (wgT t ts).li,.int .i64 (wgT t ts).le]) (.slice av ts.length cv)) mb (wgT t ts).vs V1) (by kernel_rfl) ?_ ?_ ?_
  ·exact ⟨fun _=>undef,rfl,⟨fun j hj=>by rw [List.getElem?_replicate] at hj; split at hj <;> simp at hj,fun _=>⟨rfl,rfl,rfl,Nat.le_refl _,fun _ _=>rfl⟩,by simp⟩⟩
  ·rintro x A V ⟨f,rfl,hR⟩ hx hrd
   have hallx:=zab hrd hx (acyc _ (by kernel_rfl))
   obtain ⟨V2,hb2,eV⟩:=hR.m (hallx 14 (by simp))
   refine za HK1 _ _ ?_
   clear HK1
   dsimp only
   generalize f 0 = v0
   generalize f 1 = v1
   generalize f 2 = v2
   generalize f 3 = v3
   generalize f 4 = v4
   generalize f 5 = v5
   generalize f 6 = v6
   generalize f 7 = v7
   generalize f 8 = v8
   generalize f 9 = v9
   generalize f 10 = v10
   generalize f 11 = v11
   generalize f 12 = v12
   generalize f 13 = v13
   clear hR hallx hrd hx
   have HB2:=hide hb2
   have HE:Hid (V = V2.setCells mb 3 (wgT t ts).vs):=eV
   have y11:V.cell? ⟨mb,11,none⟩ = some (.slice av ts.length cv):=by
    rw [eV]
    refine (World.cell?_setCells_out mb _ 3 V2 ⟨mb,11,none⟩ (fun _ _=>.inr (by simp [Tot.vs]))).trans ?_
    exact (hb2.cell (p:=⟨mb,11,none⟩) hmX).trans c11
   have q11:V.frozen? ⟨mb,11,none⟩ = false:=by
    rw [eV,zbm]
    exact (World.frozen?_of_block (a:=⟨mb,11,none⟩) (hb2.block mb hmX)).trans f11
   clear eV hb2 c11 f11
   go_wp2_with fail
   go_end0
   refine ⟨rfl,gv',V0,V2,za HR0,za HG0,?_,by rw [za HE]⟩
   rw [← za HV1]
   exact (za HB2).mono (by rw [za HV1]; simp [World.setCell])
  ·rintro x A V i op ⟨f,rfl,hR⟩ hcl hx ho hxi hall
   have HRR:=hide hR
   have n14:i < 14→x[14]? = some false:=fun hlt=>by
    rcases zbP hx (show 14 < 15 by omega) with h | h
    ·exact h
    ·have h13:=hcl 14 _ rfl h ⟨13,.data⟩ (by simp) rfl
     have h12:=hcl 13 _ rfl h13 ⟨12,.data⟩ (by simp) rfl
     have h11:=hcl 12 _ rfl h12 ⟨11,.data⟩ (by simp) rfl
     have hallk:∀ j,j < 14→x[j]? = some true:=fun j hj=>by
      by_cases hj10:j < 11
      ·exact hcl 14 _ rfl h ⟨j,.phase⟩ (by rcases (by omega:j = 0 ∨ j = 1 ∨ j = 2 ∨ j = 3 ∨ j = 4 ∨ j = 5 ∨ j = 6 ∨ j = 7 ∨ j = 8 ∨ j = 9 ∨ j = 10) with rfl | rfl | rfl | rfl | rfl | rfl | rfl | rfl | rfl | rfl | rfl <;> simp) rfl
      ·rcases (by omega:j = 11 ∨ j = 12 ∨ j = 13) with rfl | rfl | rfl <;> assumption
     rw [hallk i hlt] at hxi; cases hxi
   match i,ho with
   | 0,ho =>
    obtain rfl:=Option.some.inj ho
    clear hall hR hcl
    rw [if_pos (by rfl)]
    unfold Oper.wp
    go_simp
    exact ⟨upd f 0 (.pointer (some ⟨mb,0,none⟩)),by simp [upd],zbw (za HRR) 0 _ rfl (by decide)⟩
   | 1,ho =>
    obtain rfl:=Option.some.inj ho
    clear hall hR hcl
    rw [if_pos (by rfl)]
    unfold Oper.wp
    go_simp
    exact ⟨upd f 1 (.pointer (some ⟨mb,0,none⟩)),by simp [upd],zbw (za HRR) 1 _ rfl (by decide)⟩
   | 2,ho =>
    obtain rfl:=Option.some.inj ho
    have g1:f 1 = .pointer (some ⟨mb,0,none⟩):=hR.c 1 (hall ⟨1,.data⟩ (by simp) rfl)
    clear hall hR hcl
    rw [if_pos (by rfl)]
    unfold Oper.wp
    go_simp
    exact ⟨upd f 2 (.pointer (some ⟨mb,0,none⟩)),by simp [upd,g1],zbw (za HRR) 2 _ rfl (by decide)⟩
   | 3,ho =>
    obtain rfl:=Option.some.inj ho
    have g2:f 2 = .pointer (some ⟨mb,0,none⟩):=hR.c 2 (hall ⟨2,.data⟩ (by simp) rfl)
    clear hall hR hcl
    rw [if_pos (by rfl)]
    unfold Oper.wp
    go_simp
    exact ⟨upd f 3 (.pointer (some ⟨mb,0,none⟩)),by simp [upd,g2],zbw (za HRR) 3 _ rfl (by decide)⟩
   | 4,ho =>
    obtain rfl:=Option.some.inj ho
    have g3:f 3 = .pointer (some ⟨mb,0,none⟩):=hR.c 3 (hall ⟨3,.data⟩ (by simp) rfl)
    clear hall hR hcl
    rw [if_pos (by rfl)]
    unfold Oper.wp
    go_simp
    exact ⟨upd f 4 (.pointer (some ⟨mb,3,none⟩)),by simp [upd,g3],zbw (za HRR) 4 _ rfl (by decide)⟩
   | 5,ho =>
    obtain rfl:=Option.some.inj ho
    have g4:f 4 = .pointer (some ⟨mb,3,none⟩):=hR.c 4 (hall ⟨4,.data⟩ (by simp) rfl)
    have hbV:=hR.b (n14 (by omega))
    have y0:=zb (za HT) hbV hmX 0 _ rfl
    have y1:=zb (za HT) hbV hmX 1 _ rfl
    have y2:=zb (za HT) hbV hmX 2 _ rfl
    have y3:=zb (za HT) hbV hmX 3 _ rfl
    have y4:=zb (za HT) hbV hmX 4 _ rfl
    have y5:=zb (za HT) hbV hmX 5 _ rfl
    have y6:=zb (za HT) hbV hmX 6 _ rfl
    have y7:=zb (za HT) hbV hmX 7 _ rfl
    skip
    clear hall hR hcl
    rw [if_pos (by rfl)]
    unfold Oper.wp
    go_simp
    exact ⟨upd f 5 (.agg #[.int .i64 t.gr,.int .i64 t.ac,.int .i64 t.rf,.int .i64 t.tr,.int .i64 t.vo,.int .i64 t.no,.int .i64 t.li,.int .i64 t.le]),by simp [upd,g4],zbw (za HRR) 5 _ rfl (by decide)⟩
   | 6,ho =>
    obtain rfl:=Option.some.inj ho
    clear hall hR hcl
    rw [if_pos (by rfl)]
    unfold Oper.wp
    go_simp
    exact ⟨upd f 6 (.pointer (some ⟨mb,0,none⟩)),by simp [upd],zbw (za HRR) 6 _ rfl (by decide)⟩
   | 7,ho =>
    obtain rfl:=Option.some.inj ho
    have g6:f 6 = .pointer (some ⟨mb,0,none⟩):=hR.c 6 (hall ⟨6,.data⟩ (by simp) rfl)
    clear hall hR hcl
    rw [if_pos (by rfl)]
    unfold Oper.wp
    go_simp
    exact ⟨upd f 7 (.pointer (some ⟨mb,0,none⟩)),by simp [upd,g6],zbw (za HRR) 7 _ rfl (by decide)⟩
   | 8,ho =>
    obtain rfl:=Option.some.inj ho
    have g7:f 7 = .pointer (some ⟨mb,0,none⟩):=hR.c 7 (hall ⟨7,.data⟩ (by simp) rfl)
    clear hall hR hcl
    rw [if_pos (by rfl)]
    unfold Oper.wp
    go_simp
    exact ⟨upd f 8 (.pointer (some ⟨mb,11,none⟩)),by simp [upd,g7],zbw (za HRR) 8 _ rfl (by decide)⟩
   | 9,ho =>
    obtain rfl:=Option.some.inj ho
    have g8:f 8 = .pointer (some ⟨mb,11,none⟩):=hR.c 8 (hall ⟨8,.data⟩ (by simp) rfl)
    have hbV:=hR.b (n14 (by omega))
    have y11:=(hbV.cell (p:=⟨mb,11,none⟩) hmX).trans c11
    clear hall hR hcl
    rw [if_pos (by rfl)]
    unfold Oper.wp
    go_simp
    exact ⟨upd f 9 (.slice av ts.length cv),by simp [upd,g8],zbw (za HRR) 9 _ rfl (by decide)⟩
   | 10,ho =>
    obtain rfl:=Option.some.inj ho
    have g5:f 5 = .agg #[.int .i64 t.gr,.int .i64 t.ac,.int .i64 t.rf,.int .i64 t.tr,.int .i64 t.vo,.int .i64 t.no,.int .i64 t.li,.int .i64 t.le]:=hR.c 5 (hall ⟨5,.data⟩ (by simp) rfl)
    have g9:f 9 = .slice av ts.length cv:=hR.c 9 (hall ⟨9,.data⟩ (by simp) rfl)
    have h14:=n14 (by omega)
    have hbV:=hR.b h14
    have HRE:=hide (zl (za HRO) hbV (Nat.le_refl _))
    clear hall hR hcl
    rw [if_pos (by rfl)]
    unfold Oper.wp
    go_simp
    refine (withGroup_any t (.slice av ts.length cv) ts V (za HRE)).mono ?_
    rintro e w4 ⟨rfl,hb4⟩
    exact ⟨upd f 10 (.agg #[.int .i64 (wgT t ts).gr,.int .i64 (wgT t ts).ac,.int .i64 (wgT t ts).rf,.int .i64 (wgT t ts).tr,.int .i64 (wgT t ts).vo,.int .i64 (wgT t ts).no,.int .i64 (wgT t ts).li,.int .i64 (wgT t ts).le]),by simp [upd,g5,g9],zbw (rd_grow (za HRR) h14 hb4) 10 _ rfl (by decide)⟩
   | 11,ho =>
    obtain rfl:=Option.some.inj ho
    have g0:f 0 = .pointer (some ⟨mb,0,none⟩):=hR.c 0 (hall ⟨0,.data⟩ (by simp) rfl)
    clear hall hR hcl
    rw [if_pos (by rfl)]
    unfold Oper.wp
    go_simp
    exact ⟨upd f 11 (.pointer (some ⟨mb,0,none⟩)),by simp [upd,g0],zbw (za HRR) 11 _ rfl (by decide)⟩
   | 12,ho =>
    obtain rfl:=Option.some.inj ho
    have g11:f 11 = .pointer (some ⟨mb,0,none⟩):=hR.c 11 (hall ⟨11,.data⟩ (by simp) rfl)
    clear hall hR hcl
    rw [if_pos (by rfl)]
    unfold Oper.wp
    go_simp
    exact ⟨upd f 12 (.pointer (some ⟨mb,0,none⟩)),by simp [upd,g11],zbw (za HRR) 12 _ rfl (by decide)⟩
   | 13,ho =>
    obtain rfl:=Option.some.inj ho
    have g12:f 12 = .pointer (some ⟨mb,0,none⟩):=hR.c 12 (hall ⟨12,.data⟩ (by simp) rfl)
    clear hall hR hcl
    rw [if_pos (by rfl)]
    unfold Oper.wp
    go_simp
    exact ⟨upd f 13 (.pointer (some ⟨mb,3,none⟩)),by simp [upd,g12],zbw (za HRR) 13 _ rfl (by decide)⟩
   | 14,ho =>
    obtain rfl:=Option.some.inj ho
    have g13:f 13 = .pointer (some ⟨mb,3,none⟩):=hR.c 13 (hall ⟨13,.data⟩ (by simp) rfl)
    have g10:f 10 = .agg #[.int .i64 (wgT t ts).gr,.int .i64 (wgT t ts).ac,.int .i64 (wgT t ts).rf,.int .i64 (wgT t ts).tr,.int .i64 (wgT t ts).vo,.int .i64 (wgT t ts).no,.int .i64 (wgT t ts).li,.int .i64 (wgT t ts).le]:=hR.c 10 (hall ⟨10,.data⟩ (by simp) rfl)
    have hbV:=hR.b hxi
    have hth:=zf (za HTH) hbV hmX
    obtain ⟨y0,z0,q0⟩:=zZ hth (j:=0) (by omega)
    obtain ⟨y1,z1,q1⟩:=zZ hth (j:=1) (by omega)
    obtain ⟨y2,z2,q2⟩:=zZ hth (j:=2) (by omega)
    obtain ⟨y3,z3,q3⟩:=zZ hth (j:=3) (by omega)
    obtain ⟨y4,z4,q4⟩:=zZ hth (j:=4) (by omega)
    obtain ⟨y5,z5,q5⟩:=zZ hth (j:=5) (by omega)
    obtain ⟨y6,z6,q6⟩:=zZ hth (j:=6) (by omega)
    obtain ⟨y7,z7,q7⟩:=zZ hth (j:=7) (by omega)
    clear hth
    clear hall hR hcl
    rw [if_pos (by rfl)]
    unfold Oper.wp
    go_simp
    exact ⟨f,by simp [g13,g10],rd_14 (za HRR) hxi⟩
   | i + 15,ho=>simp at ho
 ·rintro x A V i op ⟨f,rfl,hR⟩ hcl hx ho hxi hall
  have HRR:=hide hR
  have n15:i < 15→x[15]? = some false:=fun hlt=>by
   rcases zbP hx (show 15 < 16 by omega) with h | h
   ·exact h
   ·have h14:=hcl 15 _ rfl h ⟨14,.data⟩ (by simp) rfl
    have h13:=hcl 14 _ rfl h14 ⟨13,.data⟩ (by simp) rfl
    have h12:=hcl 13 _ rfl h13 ⟨12,.data⟩ (by simp) rfl
    have hallk:∀ j,j < 15→x[j]? = some true:=fun j hj=>by
     by_cases hj10:j < 12
     ·exact hcl 15 _ rfl h ⟨j,.phase⟩ (by rcases (by omega:j = 0 ∨ j = 1 ∨ j = 2 ∨ j = 3 ∨ j = 4 ∨ j = 5 ∨ j = 6 ∨ j = 7 ∨ j = 8 ∨ j = 9 ∨ j = 10 ∨ j = 11) with rfl | rfl | rfl | rfl | rfl | rfl | rfl | rfl | rfl | rfl | rfl | rfl <;> simp) rfl
     ·rcases (by omega:j = 12 ∨ j = 13 ∨ j = 14) with rfl | rfl | rfl <;> assumption
    rw [hallk i hlt] at hxi; cases hxi
  have n11:i < 11→0 < i→x[11]? = some false:=fun hlt hpos=>by
   rcases zbP hx (show 11 < 16 by omega) with h | h11
   ·exact h
   ·have h5:=hcl 11 _ rfl h11 ⟨5,.data⟩ (by simp) rfl
    have h10:=hcl 11 _ rfl h11 ⟨10,.data⟩ (by simp) rfl
    have h4:=hcl 5 _ rfl h5 ⟨4,.data⟩ (by simp) rfl
    have h9:=hcl 10 _ rfl h10 ⟨9,.data⟩ (by simp) rfl
    have h3:=hcl 4 _ rfl h4 ⟨3,.data⟩ (by simp) rfl
    have h8:=hcl 9 _ rfl h9 ⟨8,.data⟩ (by simp) rfl
    have h2:=hcl 3 _ rfl h3 ⟨2,.data⟩ (by simp) rfl
    have h7:=hcl 8 _ rfl h8 ⟨7,.data⟩ (by simp) rfl
    have h1:=hcl 2 _ rfl h2 ⟨1,.data⟩ (by simp) rfl
    have h6:=hcl 7 _ rfl h7 ⟨6,.data⟩ (by simp) rfl
    have hallk:∀ j,0 < j→j < 11→x[j]? = some true:=fun j hj0 hj=>by
     rcases (by omega:j = 1 ∨ j = 2 ∨ j = 3 ∨ j = 4 ∨ j = 5 ∨ j = 6 ∨ j = 7 ∨ j = 8 ∨ j = 9 ∨ j = 10) with rfl | rfl | rfl | rfl | rfl | rfl | rfl | rfl | rfl | rfl <;> assumption
    rw [hallk i hpos hlt] at hxi; cases hxi
  match i,ho with
  | 0,ho =>
   obtain rfl:=Option.some.inj ho
   clear hall hR hcl
   rw [if_pos (by rfl)]
   unfold Oper.wp
   go_simp
   exact ⟨upd f 0 (.pointer (some ⟨mb,0,none⟩)),by simp [upd],zbD (za HRR) 0 _ rfl (by decide) (by decide) (by decide)⟩
  | 1,ho =>
   obtain rfl:=Option.some.inj ho
   clear hall hR hcl
   rw [if_pos (by rfl)]
   unfold Oper.wp
   go_simp
   exact ⟨upd f 1 (.pointer (some ⟨mb,0,none⟩)),by simp [upd],zbD (za HRR) 1 _ rfl (by decide) (by decide) (by decide)⟩
  | 2,ho =>
   obtain rfl:=Option.some.inj ho
   have g1:f 1 = .pointer (some ⟨mb,0,none⟩):=hR.c 1 (hall ⟨1,.data⟩ (by simp) rfl)
   clear hall hR hcl
   rw [if_pos (by rfl)]
   unfold Oper.wp
   go_simp
   exact ⟨upd f 2 (.pointer (some ⟨mb,0,none⟩)),by simp [upd,g1],zbD (za HRR) 2 _ rfl (by decide) (by decide) (by decide)⟩
  | 3,ho =>
   obtain rfl:=Option.some.inj ho
   have g2:f 2 = .pointer (some ⟨mb,0,none⟩):=hR.c 2 (hall ⟨2,.data⟩ (by simp) rfl)
   clear hall hR hcl
   rw [if_pos (by rfl)]
   unfold Oper.wp
   go_simp
   exact ⟨upd f 3 (.pointer (some ⟨mb,0,none⟩)),by simp [upd,g2],zbD (za HRR) 3 _ rfl (by decide) (by decide) (by decide)⟩
  | 4,ho =>
   obtain rfl:=Option.some.inj ho
   have g3:f 3 = .pointer (some ⟨mb,0,none⟩):=hR.c 3 (hall ⟨3,.data⟩ (by simp) rfl)
   clear hall hR hcl
   rw [if_pos (by rfl)]
   unfold Oper.wp
   go_simp
   exact ⟨upd f 4 (.pointer (some ⟨mb,0,none⟩)),by simp [upd,g3],zbD (za HRR) 4 _ rfl (by decide) (by decide) (by decide)⟩
  | 5,ho =>
   obtain rfl:=Option.some.inj ho
   have g4:f 4 = .pointer (some ⟨mb,0,none⟩):=hR.c 4 (hall ⟨4,.data⟩ (by simp) rfl)
   have hbV:=hR.b (n11 (by omega) (by omega))
   have y5:=(hbV.cell (p:=⟨mb,0,none⟩) hmw).trans c0
   clear hall hR hcl
   rw [if_pos (by rfl)]
   unfold Oper.wp
   go_simp
   exact ⟨upd f 5 (gv),by simp [upd,g4],zbD (za HRR) 5 _ rfl (by decide) (by decide) (by decide)⟩
  | 6,ho =>
   obtain rfl:=Option.some.inj ho
   clear hall hR hcl
   rw [if_pos (by rfl)]
   unfold Oper.wp
   go_simp
   exact ⟨upd f 6 (.pointer (some ⟨mb,0,none⟩)),by simp [upd],zbD (za HRR) 6 _ rfl (by decide) (by decide) (by decide)⟩
  | 7,ho =>
   obtain rfl:=Option.some.inj ho
   have g6:f 6 = .pointer (some ⟨mb,0,none⟩):=hR.c 6 (hall ⟨6,.data⟩ (by simp) rfl)
   clear hall hR hcl
   rw [if_pos (by rfl)]
   unfold Oper.wp
   go_simp
   exact ⟨upd f 7 (.pointer (some ⟨mb,0,none⟩)),by simp [upd,g6],zbD (za HRR) 7 _ rfl (by decide) (by decide) (by decide)⟩
  | 8,ho =>
   obtain rfl:=Option.some.inj ho
   have g7:f 7 = .pointer (some ⟨mb,0,none⟩):=hR.c 7 (hall ⟨7,.data⟩ (by simp) rfl)
   clear hall hR hcl
   rw [if_pos (by rfl)]
   unfold Oper.wp
   go_simp
   exact ⟨upd f 8 (.pointer (some ⟨mb,11,none⟩)),by simp [upd,g7],zbD (za HRR) 8 _ rfl (by decide) (by decide) (by decide)⟩
  | 9,ho =>
   obtain rfl:=Option.some.inj ho
   have g8:f 8 = .pointer (some ⟨mb,11,none⟩):=hR.c 8 (hall ⟨8,.data⟩ (by simp) rfl)
   have hbV:=hR.b (n11 (by omega) (by omega))
   have y9:=(hbV.cell (p:=⟨mb,11,none⟩) hmw).trans c11
   clear hall hR hcl
   rw [if_pos (by rfl)]
   unfold Oper.wp
   go_simp
   exact ⟨upd f 9 (.slice av ts.length cv),by simp [upd,g8],zbD (za HRR) 9 _ rfl (by decide) (by decide) (by decide)⟩
  | 10,ho =>
   obtain rfl:=Option.some.inj ho
   have g9:f 9 = .slice av ts.length cv:=hR.c 9 (hall ⟨9,.data⟩ (by simp) rfl)
   have h11:=n11 (by omega) (by omega)
   clear hall hR hcl
   rw [if_pos (by rfl)]
   unfold Oper.wp
   go_simp
   exact ⟨upd f 10 (.slice (some ⟨V.heap.size,0,none⟩) 1 1),by simp [upd,g9],rc_10 (za HRR) h11 (n15 (by omega))⟩
  | 11,ho =>
   obtain rfl:=Option.some.inj ho
   have g5:f 5 = gv:=hR.c 5 (hall ⟨5,.data⟩ (by simp) rfl)
   obtain ⟨s,g10,hcs⟩:=hR.m10 (hall ⟨10,.data⟩ (by simp) rfl) hxi
   have hbV:=hR.b hxi
   have h15:=n15 (by omega)
   have hrow:GRow V B gv gs:=World.ownsRow.kept (row:=none) (za HGR) (zaa hbV (Nat.le_refl _)) (by cases gv.ownBlock <;> simp)
   clear hall hR hcl
   rw [if_pos (by rfl)]
   refine wp_append_own V (.tmp 7) (.tmp 12) 28 rfl B 36 i0 _ 1 24 Tryz.underlying28 hi0 hz0 hz1 hz2 rfl (by decide) gv gs.length gs g5 hrow ⟨s,0,none⟩ 1 1 [.slice av ts.length cv] g10 rfl (fun j u hu=>by match j,hu with | 0,hu=>cases hu; rw [Addr.add_mid]; exact hcs | j + 1,hu=>simp at hu) (by intro u hu; simp at hu; subst hu; exact hone) (by unfold maxLen; omega) (by omega) (by have:=hbV.size; omega) ?_
   intro v' w' hown hgr _
   exact ⟨upd f 11 v',rfl,rc_11 (za HRR) hxi h15 (by show w'.ownsRow _ _ _ _ (gs ++ [Value.slice av ts.length cv]).length _; rw [List.length_append]; exact hown) ((zaa hbV (Nat.le_refl _)).trans hgr)⟩
  | 12,ho =>
   obtain rfl:=Option.some.inj ho
   have g0:f 0 = .pointer (some ⟨mb,0,none⟩):=hR.c 0 (hall ⟨0,.data⟩ (by simp) rfl)
   clear hall hR hcl
   rw [if_pos (by rfl)]
   unfold Oper.wp
   go_simp
   exact ⟨upd f 12 (.pointer (some ⟨mb,0,none⟩)),by simp [upd,g0],zbD (za HRR) 12 _ rfl (by decide) (by decide) (by decide)⟩
  | 13,ho =>
   obtain rfl:=Option.some.inj ho
   have g12:f 12 = .pointer (some ⟨mb,0,none⟩):=hR.c 12 (hall ⟨12,.data⟩ (by simp) rfl)
   clear hall hR hcl
   rw [if_pos (by rfl)]
   unfold Oper.wp
   go_simp
   exact ⟨upd f 13 (.pointer (some ⟨mb,0,none⟩)),by simp [upd,g12],zbD (za HRR) 13 _ rfl (by decide) (by decide) (by decide)⟩
  | 14,ho =>
   obtain rfl:=Option.some.inj ho
   have g13:f 13 = .pointer (some ⟨mb,0,none⟩):=hR.c 13 (hall ⟨13,.data⟩ (by simp) rfl)
   clear hall hR hcl
   rw [if_pos (by rfl)]
   unfold Oper.wp
   go_simp
   exact ⟨upd f 14 (.pointer (some ⟨mb,0,none⟩)),by simp [upd,g13],zbD (za HRR) 14 _ rfl (by decide) (by decide) (by decide)⟩
  | 15,ho =>
   obtain rfl:=Option.some.inj ho
   have g14:f 14 = .pointer (some ⟨mb,0,none⟩):=hR.c 14 (hall ⟨14,.data⟩ (by simp) rfl)
   have k11:x[11]? = some true:=hall ⟨11,.data⟩ (by simp) rfl
   obtain ⟨hr11,hg11⟩:=hR.m11 k11 hxi
   obtain ⟨ga,gc,g11⟩:=zce hr11 (by simp)
   have y0:=hg11.cell c0 hnq
   have q0:V.frozen? ⟨mb,0,none⟩ = false:=(World.frozen?_of_block (a:=⟨mb,0,none⟩) (hg11.block mb hmw hnq)).trans f0
   have HR1:=hide hr11
   have HG1:=hide hg11
   clear hr11 hg11
   clear hall hR hcl
   rw [if_pos (by rfl)]
   unfold Oper.wp
   go_simp
   have h15r:=rc_15 (za HRR) k11 hxi (za HR1) (za HG1)
   conv at h15r=>arg 10; rw [g11,List.length_append]
   exact ⟨f,by simp [g14,g11],h15r⟩
  | i + 16,ho=>simp at ho
set_option maxHeartbeats 1600000 in
theorem zbA {mb B Bo:Nat} {gv:Value} {gs:List Value} {gl:List (List Ev)} {next:Int} {vq:Value} {l:List Od} {t:Tot} {vo:Value} {ts:List Ev} (u:FrameMode) (w:World) (h:EnS mb B Bo w gv gs gl next vq l t vo ts) (hn:ts.length ≤ 1000) (hgn:gs.length ≤ 1000) :
  CallsD Tryz.prog 45 #[.pointer (some ⟨mb,0,none⟩)] u w fun r u' w'=>u' = u∧r = .returned (.tuple #[])∧(∃ gv',EnS mb B w'.heap.size w' gv' (gs ++ [vo]) (gl ++ [ts]) next vq l (wgT t ts) (.slice none 0 0) [])∧KeptBut mb B w w':=by
 have hfr:∀ j,j < 12→w.frozen? ⟨mb,j,none⟩ = false:=fun j hj=>by have:=(h.there j hj).2; rwa [Nat.zero_add] at this
 have heB:ERow w B vo ts:=⟨h.erow.1,by
  rcases h.erow.2 with h1 | ⟨g',c',cur,h1,h2,h3⟩
  ·exact .inl h1
  ·exact .inr ⟨g',c',cur,h1,Nat.le_trans h.bo h2,h3⟩⟩
 have ht3:w.rangeAt mb 3 t.vs:=fun j u hj=>by
  have:=h.cells (3 + j) u (by
   match j,hj with
   | 0,hj | 1,hj | 2,hj | 3,hj | 4,hj | 5,hj | 6,hj | 7,hj=>exact hj
   | j + 8,hj=>simp [Tot.vs] at hj)
  rwa [Nat.zero_add] at this
 have hth:w.there mb 3 8:=fun j hj=>by
  have:=h.there (3 + j) (by omega)
  rwa [Nat.zero_add] at this
 refine (closeGroup_d mb B gv gs t vo ts u w (h.cells 0 _ rfl) (hfr 0 (by omega)) ht3 hth (h.cells 11 _ rfl) (hfr 11 (by omega)) h.box h.grow heB (Nat.le_trans h.bo h.le) hn hgn).mono ?_
 rintro r u' w' ⟨rfl,rfl,gv',V0,V1,hr0,hg0,hb1,rfl⟩
 have hmw:=h.lt
 have hnq:some mb ≠ gv.ownBlock:=zj h.grow h.box (by decide)
 have hm0:mb < V0.heap.size:=Nat.lt_of_lt_of_le hmw hg0.size
 have hbox0:∃ cur,V0.heap[mb]? = some (.cells cur 69 (0,0)):=by
  obtain ⟨cur,hc⟩:=h.box
  exact ⟨cur,(hg0.block mb hmw hnq).trans hc⟩
 -- what is kept by each of the steps
 have step:∀ {e sz n:Nat} {v:Value} {xs:List Value},V0.ownsRow B e sz v n xs→69 ≠ e→World.ownsRow ((V1.setCells mb 3 (wgT t ts).vs).setCell ⟨mb,11,none⟩ (.slice none 0 0)) B e sz v n xs:=by
  intro e sz n v xs hv hne
  have ha:some mb ≠ v.ownBlock:=zj hv hbox0 hne
  have h1:=zt hv ha 0 gv'
  have h2:V1.ownsRow B e sz v n xs:=World.ownsRow.kept (row:=none) h1 (zaa hb1 (by simp [World.setCell])) (by cases v.ownBlock <;> simp)
  refine zt ?_ ha 11 _
  exact zap ha _ _ _ h2
 have hsz:V0.heap.size ≤ V1.heap.size:=by have:=hb1.size; simpa [World.setCell] using this
 have hsw:w.heap.size ≤ V1.heap.size:=Nat.le_trans hg0.size hsz
 have hseq:((V1.setCells mb 3 (wgT t ts).vs).setCell ⟨mb,11,none⟩ (.slice none 0 0)).heap.size = V1.heap.size:=by simp only [World.setCell,Array.size_modify]; exact zS _ _ _ _
 -- the cells of the block
 have hth1:V1.there mb 0 12:=zf (zC (zar h.there hg0 hmw hnq)) hb1 hm0
 have old:∀ j u,j ≠ 0→w.cell? ⟨mb,j,none⟩ = some u→V1.cell? ⟨mb,j,none⟩ = some u:=fun j u hj hu =>
  (hb1.cell (p:=⟨mb,j,none⟩) hm0).trans ((World.cell?_setCell_other _ _ _ _ (zX (fun e=>hj e.symm))).trans (hg0.cell hu hnq))
 have new0:V1.cell? ⟨mb,0,none⟩ = some gv':=(hb1.cell (p:=⟨mb,0,none⟩) hm0).trans (World.cell?_setCell_same _ _ _ (hg0.cell (h.cells 0 _ rfl) hnq))
 have out:∀ j u,j < 3→V1.cell? ⟨mb,j,none⟩ = some u→((V1.setCells mb 3 (wgT t ts).vs).setCell ⟨mb,11,none⟩ (.slice none 0 0)).cell? ⟨mb,j,none⟩ = some u:=fun j u hj hu =>
  (World.cell?_setCell_other _ _ _ _ (zX (by omega))).trans ((World.cell?_setCells_out mb _ 3 V1 ⟨mb,j,none⟩ (fun _ _=>.inl hj)).trans hu)
 have tot:∀ j u,(wgT t ts).vs[j]? = some u→((V1.setCells mb 3 (wgT t ts).vs).setCell ⟨mb,11,none⟩ (.slice none 0 0)).cell? ⟨mb,3 + j,none⟩ = some u:=fun j u hj=>by
  have hj8:j < 8:=by have:=(List.getElem?_eq_some_iff.1 hj).1; simpa [Tot.vs] using this
  refine (World.cell?_setCell_other _ _ _ _ (zX (by omega))).trans ?_
  exact World.rangeAt_setCells_same V1 mb 3 _ (fun j hj=>by
   have hj8:j < 8:=by simpa [Tot.vs] using hj
   have:=hth1 (3 + j) (by omega)
   rwa [Nat.zero_add] at this) j u hj
 refine ⟨rfl,rfl,⟨gv',?_,?_,step hr0 (by decide),by simp [h.glen],?_,?_,step (World.ownsRow.kept h.orow hg0 (zB h.orow h.grow (by decide))) (by decide),World.ownsRow_nil _ _ _ _,?_,?_,Nat.le_refl _⟩,?_⟩
 ·intro j u hj
  rw [Nat.zero_add]
  match j,hj with
  | 0,hj=>cases hj; exact out 0 _ (by omega) new0
  | 1,hj=>cases hj; exact out 1 _ (by omega) (old 1 _ (by omega) (h.cells 1 _ rfl))
  | 2,hj=>cases hj; exact out 2 _ (by omega) (old 2 _ (by omega) (h.cells 2 _ rfl))
  | 3,hj=>exact tot 0 u hj
  | 4,hj=>exact tot 1 u hj
  | 5,hj=>exact tot 2 u hj
  | 6,hj=>exact tot 3 u hj
  | 7,hj=>exact tot 4 u hj
  | 8,hj=>exact tot 5 u hj
  | 9,hj=>exact tot 6 u hj
  | 10,hj=>exact tot 7 u hj
  | 11,hj =>
   cases hj
   refine World.cell?_setCell_same _ _ _ ((World.cell?_setCells_out mb _ 3 V1 ⟨mb,11,none⟩ (fun _ _=>.inr (by simp [Tot.vs]))).trans (old 11 _ (by omega) (h.cells 11 _ rfl)))
  | j + 12,hj=>simp at hj
 ·exact zC (World.there_setCells hth1 _ _ _)
 ·intro i g es hg hes
  by_cases hi:i < gs.length
  ·rw [List.getElem?_append_left hi] at hg
   rw [List.getElem?_append_left (by rw [← h.glen]; exact hi)] at hes
   exact step (World.ownsRow.kept (h.geach i g es hg hes) hg0 (zB (h.geach i g es hg hes) h.grow (by decide))) (by decide)
  ·have hil:i < gs.length + 1:=by have:=(List.getElem?_eq_some_iff.1 hg).1; rwa [List.length_append] at this
   obtain rfl:i = gs.length:=by omega
   have hgl:=h.glen
   rw [List.getElem?_append_right (Nat.le_refl _)] at hg
   rw [List.getElem?_append_right (by omega)] at hes
   simp at hg
   rw [hgl] at hes
   simp at hes
   subst hg hes
   exact step (World.ownsRow.kept heB hg0 (zB heB h.grow (by decide))) (by decide)
 ·refine ⟨fun g hg b hb=>?_,List.pairwise_append.2 ⟨h.glt.2,List.pairwise_singleton _ _,fun g hg g' hg' b b' hb hb'=>?_⟩⟩
  ·rw [hseq]
   rcases List.mem_append.1 hg with h1 | h1
   ·have:=h.glt.1 g h1 b hb; have:=h.le; omega
   ·simp at h1; subst h1
    have:=(h.erow.lt b hb).2; omega
  ·have h1:=h.glt.1 g hg b hb
   rw [List.mem_singleton.1 hg'] at hb'
   have h2:=(h.erow.lt b' hb').1
   omega
 ·obtain ⟨cur,hc⟩:=hbox0
  obtain ⟨cur1,hc1⟩:=zN V0 mb 0 gv' hc
  have hc2:V1.heap[mb]? = some (.cells cur1 69 (0,0)):=(hb1.block mb hm0).trans hc1
  obtain ⟨cur3,hc3⟩:=kind_setC V1 mb (wgT t ts).vs 3 hc2
  exact zN _ mb 11 _ hc3
 ·rw [hseq]; exact Nat.le_trans (Nat.le_trans h.bo h.le) hsw
 ·refine ⟨(set_os _ _ _).trans ((zco _ _ _ _).trans (hb1.os.trans ((set_os _ _ _).trans hg0.os))),(set_tape _ _ _).trans ((zbJ _ _ _ _).trans (hb1.tape.trans ((set_tape _ _ _).trans hg0.tape))),(set_output _ _ _).trans ((zbn _ _ _ _).trans (hb1.output.trans ((set_output _ _ _).trans hg0.output))),by rw [hseq]; exact hsw,fun k hk hkm=>?_⟩
  have hkw:k < w.heap.size:=by have:=h.bo; have:=h.le; omega
  have hk0:k < V0.heap.size:=Nat.lt_of_lt_of_le hkw hg0.size
  rw [Below.heap_setCell _ _ _ _ hkm,zaw mb k hkm,hb1.block k hk0,Below.heap_setCell _ _ _ _ hkm]
  exact hg0.block k hkw (fun e=>by have:=(h.grow.lt k e.symm).1; omega)
end Go.Proofs.YtopjoogdpjaocaaGreat
