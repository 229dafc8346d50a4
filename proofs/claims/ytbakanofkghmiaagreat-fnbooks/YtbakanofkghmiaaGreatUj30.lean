/-
  A group closed behind a command, as a deferred call: proved by walking the method.
-/
import Derived.Test.YtbakanofkghmiaaGreatUj25
import Derived.Defers
set_option linter.unusedVariables false
set_option maxHeartbeats 6400000
set_option maxRecDepth 100000
namespace Go.Proofs.YtbakanofkghmiaaGreat
open Go.RowKit
theorem closeGroup_d (mb B:Nat) (gv:Value) (gs:List Value) (t:Tot) (vo:Value) (ts:List Ev) (u:FrameMode) (w:World) (c0:w.cell? (J mb 0) = some gv) (f0:w.frozen? (J mb 0) = false) (ht:w.rangeAt mb 3 t.vs) (xE:w.there mb 3 8) (c11:w.cell? (J mb 11) = some vo) (f11:w.frozen? (J mb 11) = false) (vp:∃ xp,w.heap[mb]? = some (.cells xp 71 (0,0)))
  (uc:GRow w B gv gs) (jU:ERow w B vo ts) (hB:B ≤ w.heap.size) (hn:ts.length ≤ 1000) (hgn:gs.length ≤ 1000) :
  CallsD Tryz.prog 62 #[I mb 0] u w fun r u' w'=>u' = u∧r = yl (.tuple #[])∧∃ (qz:Value) (V0 V1:World),GRow V0 B qz (gs ++ [vo])∧w.grownBy V0 gv.ownBlock∧Below V0.heap.size (V0.setCell (J mb 0) qz) V1∧w' = (V1.setCells mb 3 (wgT t ts).vs).setCell (J mb 11) (.slice none 0 0):=by
 obtain ⟨i0,uE,uF,uK,uV⟩:=info_parts infoEvS
 have qH:some mb ≠ gv.ownBlock:=zl uc vp (by decide)
 have qB:mb < w.heap.size:=yI w _ c0
 have hone:vo.oneCell' = true:=by
  rcases jU.2 with ⟨rfl,_⟩ | ⟨g,cp,xp,rfl,_⟩ <;> rfl
 obtain ⟨av,cv,rfl⟩:∃ av cv,vo = .slice av ts.length cv:=by
  rcases jU.2 with ⟨rfl,h0⟩ | ⟨g,cp,xp,rfl,_⟩
  ·exact ⟨none,0,by rw [h0]⟩
  ·exact ⟨_,_,rfl⟩
 have oa:=Y uc
 have jK:=Y jU
 have uy:=Y vp
 clear uc jU vp
 go_enter_d Tryz.func62,Tryz.ntmps62
 refine eF fun hj xq=>?_
 refine zi (RCA (fun f=>{ tmps:=#[I mb 0,M,f 0,f 1,f 2,f 3,f 4,f 5,f 6,f 7,f 8,f 9,f 10,f 11,f 12,f 13,f 14,M,M,M,M,M,M,M,M,M,M,M,M,M,M,M,M,M],defers:=[] }) (C0G mb gv (.slice av ts.length cv)) mb B gv (.slice av ts.length cv) gs w) (by kernel_rfl) ?_ ?_ ?_
 ·exact ⟨fun _=>M,rfl,⟨fun j K=>by rw [yG] at K; split at K <;> simp at K,fun _=>⟨rfl,rfl,rfl,Nat.le_refl _,fun _ _=>rfl⟩,by simp,by simp,by simp⟩⟩
 ·rintro x xj V ⟨f,rfl,E⟩ hx xL
  have xn:=zW xL hx (acyc _ (by kernel_rfl))
  obtain ⟨V0,pK,jH,eV⟩:=E.m15 (xn 15 (by simp))
  refine U xq _ _ ?_
  clear xq
  dsimp only
  generalize f 11 = qz at pK eV ⊢
  generalize f 0 = u2,f 1 = u3,f 2 = u4,f 3 = u5,f 4 = u6,f 5 = u7,f 6 = u8,f 7 = u9,f 8 = u10,f 9 = u11,f 10 = u12,f 12 = u14,f 13 = u15,f 14 = u16
  clear E xn xL hx
  have HR0:=Y pK
  have HG0:=Y jH
  have hm0:mb < V0.heap.size:=yH qB jH.size
  have hT0:=zu ht jH qB qH
  have hH0:=bw xE jH qB qH
  have hc11:=jH.cell c11 qH
  have hE0:ERow V0 B (.slice av ts.length cv) ts:=World.ownsRow.kept (U jK) jH (zC (U jK) (U oa) (by decide))
  obtain ⟨V1,qi⟩:∃ V1:World,V1 = V0.setCell (J mb 0) qz:=⟨_,rfl⟩
  have xz:V1.heap.size = V0.heap.size:=by rw [qi]; simp [World.setCell]
  have HT:Hid (V1.rangeAt mb 3 t.vs):=by
   rw [qi]
   exact fun j u K=>(yJ _ _ _ _ (zQ (by omega))).trans (hT0 j u K)
  have jG:Hid (V1.there mb 3 8):=by rw [qi]; exact zD hH0
  have c11':V1.cell? (J mb 11) = some (.slice av ts.length cv):=by rw [qi]; exact (yJ _ _ _ _ (zQ (by omega))).trans hc11
  have f11':V1.frozen? (J mb 11) = false:=by rw [qi,World.frozen?_setCell]; exact (World.frozen?_of_block (a:=(J mb 11)) (jH.block mb qB qH)).trans f11
  have hE1:ERow V1 B (.slice av ts.length cv) ts:=by
   rw [qi]
   refine zw hE0 (zl (T:=71) hE0 ?_ (by decide)) 0 _
   obtain ⟨xp,hc⟩:=U uy
   exact ⟨xp,(jH.block mb qB qH).trans hc⟩
  have HRO:Hid (RdR Ev.vs 14 V1 (.slice av ts.length cv) ts):=cw (bB Ev.len (by omega) hE1)
  have jW:mb < V1.heap.size:=by omega
  rw [eV,← qi]
  have HV1:=Y qi
  have c11:=c11'
  have f11:=f11'
  clear c11' f11' qi eV pK jH hT0 hH0 hc11 hE0 hE1 xz c0 f0 ht xE
  refine eF fun hj xq=>?_
  refine zi (RDA (fun f=>{ tmps:=#[I mb 0,M,u2,u3,u4,u5,u6,u7,u8,u9,u10,u11,u12,qz,u14,u15,u16,f 0,f 1,f 2,f 3,f 4,f 5,f 6,f 7,f 8,f 9,f 10,f 11,f 12,f 13,M,M,M],defers:=[] }) (C1G mb (.agg #[H t.gr,H t.ac,H t.rf,H t.tr,H t.vo,H t.no,H t.li,H t.le]) (.agg #[H (wgT t ts).gr,H (wgT t ts).ac,H (wgT t ts).rf,H (wgT t ts).tr,H (wgT t ts).vo,H (wgT t ts).no,H (wgT t ts).li,H (wgT t ts).le]) (.slice av ts.length cv)) mb (wgT t ts).vs V1) (by kernel_rfl) ?_ ?_ ?_
  ·exact ⟨fun _=>M,rfl,⟨fun j K=>by rw [yG] at K; split at K <;> simp at K,fun _=>⟨rfl,rfl,rfl,Nat.le_refl _,fun _ _=>rfl⟩,by simp⟩⟩
  ·rintro x xj V ⟨f,rfl,E⟩ hx xL
   have xn:=zW xL hx (acyc _ (by kernel_rfl))
   obtain ⟨V2,xS,eV⟩:=E.m (xn 14 (by simp))
   refine U xq _ _ ?_
   clear xq
   dsimp only
   generalize f 0 = v0,f 1 = v1,f 2 = v2,f 3 = v3,f 4 = v4,f 5 = v5,f 6 = v6,f 7 = v7,f 8 = v8,f 9 = v9,f 10 = v10,f 11 = v11,f 12 = v12,f 13 = v13
   clear E xn xL hx
   have xD:=Y xS
   have HE:Hid (V = V2.setCells mb 3 (wgT t ts).vs):=eV
   have y11:V.cell? (J mb 11) = some (.slice av ts.length cv):=by
    rw [eV]
    refine (World.cell?_setCells_out mb _ 3 V2 (J mb 11) (fun _ _=>.inr (by simp [Tot.vs]))).trans ?_
    exact (xS.cell (p:=(J mb 11)) jW).trans c11
   have q11:V.frozen? (J mb 11) = false:=by
    rw [eV,dZ]
    exact (World.frozen?_of_block (a:=(J mb 11)) (xS.block mb jW)).trans f11
   clear eV xS c11 f11
   go_wp2_with fail
   go_end0
   refine ⟨rfl,qz,V0,V2,U HR0,U HG0,?_,by rw [U HE]⟩
   rw [← U HV1]
   exact (U xD).mono (by rw [U HV1]; simp [World.setCell])
  ·rintro x xj V i op ⟨f,rfl,E⟩ X hx Z xu Q
   have xw:=Y E
   have n14:i < 14→x[14]? = some false:=fun xI=>by
    rcases bH hx (show 14 < 15 by omega) with h | h
    ·exact h
    ·have jS:=ye X 14 rfl h 13 rfl
     have qA:=ye X 13 rfl jS 12 rfl
     have uY:=ye X 12 rfl qA 11 rfl
     have uk:∀ j,j < 14→x[j]? = some true:=fun j K=>by
      by_cases hj10:j < 11
      ·exact X 14 _ rfl h ⟨j,.phase⟩ (by rcases (by omega:j = 0 ∨ j = 1 ∨ j = 2 ∨ j = 3 ∨ j = 4 ∨ j = 5 ∨ j = 6 ∨ j = 7 ∨ j = 8 ∨ j = 9 ∨ j = 10) with rfl | rfl | rfl | rfl | rfl | rfl | rfl | rfl | rfl | rfl | rfl <;> simp) rfl
      ·rcases (by omega:j = 11 ∨ j = 12 ∨ j = 13) with rfl | rfl | rfl <;> assumption
     rw [uk i xI] at xu; cases xu
   match i,Z with
   | 0,Z =>
    obtain rfl:=ya Z
    clear Q E X
    rw [if_pos (by rfl)];unfold Oper.wp;go_simp
    exact ⟨upd f 0 (I mb 0),by simp [upd],bu (U xw) 0 _ rfl (by decide)⟩
   | 1,Z =>
    obtain rfl:=ya Z
    clear Q E X
    rw [if_pos (by rfl)];unfold Oper.wp;go_simp
    exact ⟨upd f 1 (I mb 0),by simp [upd],bu (U xw) 1 _ rfl (by decide)⟩
   | 2,Z =>
    obtain rfl:=ya Z
    have g1:f 1 = I mb 0:=E.c 1 (yd Q 1 rfl)
    clear Q E X
    rw [if_pos (by rfl)];unfold Oper.wp;go_simp
    exact ⟨upd f 2 (I mb 0),by simp [upd,g1],bu (U xw) 2 _ rfl (by decide)⟩
   | 3,Z =>
    obtain rfl:=ya Z
    have g2:f 2 = I mb 0:=E.c 2 (yd Q 2 rfl)
    clear Q E X
    rw [if_pos (by rfl)];unfold Oper.wp;go_simp
    exact ⟨upd f 3 (I mb 0),by simp [upd,g2],bu (U xw) 3 _ rfl (by decide)⟩
   | 4,Z =>
    obtain rfl:=ya Z
    have g3:f 3 = I mb 0:=E.c 3 (yd Q 3 rfl)
    clear Q E X
    rw [if_pos (by rfl)];unfold Oper.wp;go_simp
    exact ⟨upd f 4 (I mb 3),by simp [upd,g3],bu (U xw) 4 _ rfl (by decide)⟩
   | 5,Z =>
    obtain rfl:=ya Z
    have g4:f 4 = I mb 3:=E.c 4 (yd Q 4 rfl)
    have xV:=E.b (n14 (by omega))
    have y0:=zb (U HT) xV jW 0 _ rfl
    have y1:=zb (U HT) xV jW 1 _ rfl
    have y2:=zb (U HT) xV jW 2 _ rfl
    have y3:=zb (U HT) xV jW 3 _ rfl
    have y4:=zb (U HT) xV jW 4 _ rfl
    have y5:=zb (U HT) xV jW 5 _ rfl
    have y6:=zb (U HT) xV jW 6 _ rfl
    have y7:=zb (U HT) xV jW 7 _ rfl
    skip
    clear Q E X
    rw [if_pos (by rfl)];unfold Oper.wp;go_simp
    exact ⟨upd f 5 (.agg #[H t.gr,H t.ac,H t.rf,H t.tr,H t.vo,H t.no,H t.li,H t.le]),by simp [upd,g4],bu (U xw) 5 _ rfl (by decide)⟩
   | 6,Z =>
    obtain rfl:=ya Z
    clear Q E X
    rw [if_pos (by rfl)];unfold Oper.wp;go_simp
    exact ⟨upd f 6 (I mb 0),by simp [upd],bu (U xw) 6 _ rfl (by decide)⟩
   | 7,Z =>
    obtain rfl:=ya Z
    have g6:f 6 = I mb 0:=E.c 6 (yd Q 6 rfl)
    clear Q E X
    rw [if_pos (by rfl)];unfold Oper.wp;go_simp
    exact ⟨upd f 7 (I mb 0),by simp [upd,g6],bu (U xw) 7 _ rfl (by decide)⟩
   | 8,Z =>
    obtain rfl:=ya Z
    have g7:f 7 = I mb 0:=E.c 7 (yd Q 7 rfl)
    clear Q E X
    rw [if_pos (by rfl)];unfold Oper.wp;go_simp
    exact ⟨upd f 8 (I mb 11),by simp [upd,g7],bu (U xw) 8 _ rfl (by decide)⟩
   | 9,Z =>
    obtain rfl:=ya Z
    have g8:f 8 = I mb 11:=E.c 8 (yd Q 8 rfl)
    have xV:=E.b (n14 (by omega))
    have y11:=(xV.cell (p:=(J mb 11)) jW).trans c11
    clear Q E X
    rw [if_pos (by rfl)];unfold Oper.wp;go_simp
    exact ⟨upd f 9 (.slice av ts.length cv),by simp [upd,g8],bu (U xw) 9 _ rfl (by decide)⟩
   | 10,Z =>
    obtain rfl:=ya Z
    have g5:f 5 = .agg #[H t.gr,H t.ac,H t.rf,H t.tr,H t.vo,H t.no,H t.li,H t.le]:=E.c 5 (yd Q 5 rfl)
    have g9:f 9 = .slice av ts.length cv:=E.c 9 (yd Q 9 rfl)
    have jk:=n14 (by omega)
    have xV:=E.b jk
    have vH:=Y (zh (U HRO) xV hb)
    clear Q E X
    rw [if_pos (by rfl)];unfold Oper.wp;go_simp
    refine (withGroup_any t (.slice av ts.length cv) ts V (U vH)).mono ?_
    rintro e w4 ⟨rfl,xy⟩
    exact ⟨upd f 10 (.agg #[H (wgT t ts).gr,H (wgT t ts).ac,H (wgT t ts).rf,H (wgT t ts).tr,H (wgT t ts).vo,H (wgT t ts).no,H (wgT t ts).li,H (wgT t ts).le]),by simp [upd,g5,g9],bu (rd_grow (U xw) jk xy) 10 _ rfl (by decide)⟩
   | 11,Z =>
    obtain rfl:=ya Z
    have g0:f 0 = I mb 0:=E.c 0 (yd Q 0 rfl)
    clear Q E X
    rw [if_pos (by rfl)];unfold Oper.wp;go_simp
    exact ⟨upd f 11 (I mb 0),by simp [upd,g0],bu (U xw) 11 _ rfl (by decide)⟩
   | 12,Z =>
    obtain rfl:=ya Z
    have vI:f 11 = I mb 0:=E.c 11 (yd Q 11 rfl)
    clear Q E X
    rw [if_pos (by rfl)];unfold Oper.wp;go_simp
    exact ⟨upd f 12 (I mb 0),by simp [upd,vI],bu (U xw) 12 _ rfl (by decide)⟩
   | 13,Z =>
    obtain rfl:=ya Z
    have ub:f 12 = I mb 0:=E.c 12 (yd Q 12 rfl)
    clear Q E X
    rw [if_pos (by rfl)];unfold Oper.wp;go_simp
    exact ⟨upd f 13 (I mb 3),by simp [upd,ub],bu (U xw) 13 _ rfl (by decide)⟩
   | 14,Z =>
    obtain rfl:=ya Z
    have kO:f 13 = I mb 3:=E.c 13 (yd Q 13 rfl)
    have qy:f 10 = .agg #[H (wgT t ts).gr,H (wgT t ts).ac,H (wgT t ts).rf,H (wgT t ts).tr,H (wgT t ts).vo,H (wgT t ts).no,H (wgT t ts).li,H (wgT t ts).le]:=E.c 10 (yd Q 10 rfl)
    have xV:=E.b xu
    have xE:=ze (U jG) xV jW
    obtain ⟨y0,z0,q0⟩:=aY xE (j:=0) (by omega)
    obtain ⟨y1,z1,q1⟩:=aY xE (j:=1) (by omega)
    obtain ⟨y2,z2,q2⟩:=aY xE (j:=2) (by omega)
    obtain ⟨y3,z3,q3⟩:=aY xE (j:=3) (by omega)
    obtain ⟨y4,z4,q4⟩:=aY xE (j:=4) (by omega)
    obtain ⟨y5,z5,q5⟩:=aY xE (j:=5) (by omega)
    obtain ⟨y6,z6,q6⟩:=aY xE (j:=6) (by omega)
    obtain ⟨y7,z7,q7⟩:=aY xE (j:=7) (by omega)
    clear xE
    clear Q E X
    rw [if_pos (by rfl)];unfold Oper.wp;go_simp
    exact ⟨f,by simp [kO,qy],rd_14 (U xw) xu⟩
   | i + 15,Z=>simp at Z
 ·rintro x xj V i op ⟨f,rfl,E⟩ X hx Z xu Q
  have xw:=Y E
  have n15:i < 15→x[15]? = some false:=fun xI=>by
   rcases bH hx (show 15 < 16 by omega) with h | h
   ·exact h
   ·have jk:=ye X 15 rfl h 14 rfl
    have jS:=ye X 14 rfl jk 13 rfl
    have qA:=ye X 13 rfl jS 12 rfl
    have uk:∀ j,j < 15→x[j]? = some true:=fun j K=>by
     by_cases hj10:j < 12
     ·exact X 15 _ rfl h ⟨j,.phase⟩ (by rcases (by omega:j = 0 ∨ j = 1 ∨ j = 2 ∨ j = 3 ∨ j = 4 ∨ j = 5 ∨ j = 6 ∨ j = 7 ∨ j = 8 ∨ j = 9 ∨ j = 10 ∨ j = 11) with rfl | rfl | rfl | rfl | rfl | rfl | rfl | rfl | rfl | rfl | rfl | rfl <;> simp) rfl
     ·rcases (by omega:j = 12 ∨ j = 13 ∨ j = 14) with rfl | rfl | rfl <;> assumption
    rw [uk i xI] at xu; cases xu
  have qv:i < 11→0 < i→x[11]? = some false:=fun xI qm=>by
   rcases bH hx (show 11 < 16 by omega) with h | uY
   ·exact h
   ·have h5:=ye X 11 rfl uY 5 rfl
    have vT:=ye X 11 rfl uY 10 rfl
    have h4:=ye X 5 rfl h5 4 rfl
    have h9:=ye X 10 rfl vT 9 rfl
    have h3:=ye X 4 rfl h4 3 rfl
    have h8:=ye X 9 rfl h9 8 rfl
    have D:=ye X 3 rfl h3 2 rfl
    have h7:=ye X 8 rfl h8 7 rfl
    have G:=ye X 2 rfl D 1 rfl
    have h6:=ye X 7 rfl h7 6 rfl
    have uk:∀ j,0 < j→j < 11→x[j]? = some true:=fun j jz K=>by
     rcases (by omega:j = 1 ∨ j = 2 ∨ j = 3 ∨ j = 4 ∨ j = 5 ∨ j = 6 ∨ j = 7 ∨ j = 8 ∨ j = 9 ∨ j = 10) with rfl | rfl | rfl | rfl | rfl | rfl | rfl | rfl | rfl | rfl <;> assumption
    rw [uk i qm xI] at xu; cases xu
  match i,Z with
  | 0,Z =>
   obtain rfl:=ya Z
   clear Q E X
   rw [if_pos (by rfl)];unfold Oper.wp;go_simp
   exact ⟨upd f 0 (I mb 0),by simp [upd],bC (U xw) 0 _ rfl (by decide) (by decide) (by decide)⟩
  | 1,Z =>
   obtain rfl:=ya Z
   clear Q E X
   rw [if_pos (by rfl)];unfold Oper.wp;go_simp
   exact ⟨upd f 1 (I mb 0),by simp [upd],bC (U xw) 1 _ rfl (by decide) (by decide) (by decide)⟩
  | 2,Z =>
   obtain rfl:=ya Z
   have g1:f 1 = I mb 0:=E.c 1 (yd Q 1 rfl)
   clear Q E X
   rw [if_pos (by rfl)];unfold Oper.wp;go_simp
   exact ⟨upd f 2 (I mb 0),by simp [upd,g1],bC (U xw) 2 _ rfl (by decide) (by decide) (by decide)⟩
  | 3,Z =>
   obtain rfl:=ya Z
   have g2:f 2 = I mb 0:=E.c 2 (yd Q 2 rfl)
   clear Q E X
   rw [if_pos (by rfl)];unfold Oper.wp;go_simp
   exact ⟨upd f 3 (I mb 0),by simp [upd,g2],bC (U xw) 3 _ rfl (by decide) (by decide) (by decide)⟩
  | 4,Z =>
   obtain rfl:=ya Z
   have g3:f 3 = I mb 0:=E.c 3 (yd Q 3 rfl)
   clear Q E X
   rw [if_pos (by rfl)];unfold Oper.wp;go_simp
   exact ⟨upd f 4 (I mb 0),by simp [upd,g3],bC (U xw) 4 _ rfl (by decide) (by decide) (by decide)⟩
  | 5,Z =>
   obtain rfl:=ya Z
   have g4:f 4 = I mb 0:=E.c 4 (yd Q 4 rfl)
   have xV:=E.b (qv (by omega) (by omega))
   have y5:=(xV.cell (p:=(J mb 0)) qB).trans c0
   clear Q E X
   rw [if_pos (by rfl)];unfold Oper.wp;go_simp
   exact ⟨upd f 5 (gv),by simp [upd,g4],bC (U xw) 5 _ rfl (by decide) (by decide) (by decide)⟩
  | 6,Z =>
   obtain rfl:=ya Z
   clear Q E X
   rw [if_pos (by rfl)];unfold Oper.wp;go_simp
   exact ⟨upd f 6 (I mb 0),by simp [upd],bC (U xw) 6 _ rfl (by decide) (by decide) (by decide)⟩
  | 7,Z =>
   obtain rfl:=ya Z
   have g6:f 6 = I mb 0:=E.c 6 (yd Q 6 rfl)
   clear Q E X
   rw [if_pos (by rfl)];unfold Oper.wp;go_simp
   exact ⟨upd f 7 (I mb 0),by simp [upd,g6],bC (U xw) 7 _ rfl (by decide) (by decide) (by decide)⟩
  | 8,Z =>
   obtain rfl:=ya Z
   have g7:f 7 = I mb 0:=E.c 7 (yd Q 7 rfl)
   clear Q E X
   rw [if_pos (by rfl)];unfold Oper.wp;go_simp
   exact ⟨upd f 8 (I mb 11),by simp [upd,g7],bC (U xw) 8 _ rfl (by decide) (by decide) (by decide)⟩
  | 9,Z =>
   obtain rfl:=ya Z
   have g8:f 8 = I mb 11:=E.c 8 (yd Q 8 rfl)
   have xV:=E.b (qv (by omega) (by omega))
   have y9:=(xV.cell (p:=(J mb 11)) qB).trans c11
   clear Q E X
   rw [if_pos (by rfl)];unfold Oper.wp;go_simp
   exact ⟨upd f 9 (.slice av ts.length cv),by simp [upd,g8],bC (U xw) 9 _ rfl (by decide) (by decide) (by decide)⟩
  | 10,Z =>
   obtain rfl:=ya Z
   have g9:f 9 = .slice av ts.length cv:=E.c 9 (yd Q 9 rfl)
   have uY:=qv (by omega) (by omega)
   clear Q E X
   rw [if_pos (by rfl)];unfold Oper.wp;go_simp
   exact ⟨upd f 10 (.slice (some (yp V 0)) 1 1),by simp [upd,g9],rc_10 (U xw) uY (n15 (by omega))⟩
  | 11,Z =>
   obtain rfl:=ya Z
   have g5:f 5 = gv:=E.c 5 (yd Q 5 rfl)
   obtain ⟨s,qy,oj⟩:=E.m10 (yd Q 10 rfl) xu
   have xV:=E.b xu
   have vy:=n15 (by omega)
   have uU:GRow V B gv gs:=World.ownsRow.kept (row:=none) (U oa) (aO xV hb) (by cases gv.ownBlock <;> simp)
   clear Q E X
   rw [if_pos (by rfl)]
   refine wp_append_own V (.tmp 7) (.tmp 12) 25 rfl B 38 i0 _ 1 24 Tryz.underlying25 uE uF uK uV rfl (by decide) gv gs.length gs g5 uU (J s 0) 1 1 [.slice av ts.length cv] qy rfl (fun j u hu=>by match j,hu with | 0,hu=>cases hu; rw [Addr.add_mid]; exact oj | j + 1,hu=>simp at hu) (by intro u hu; simp at hu; subst hu; exact hone) (by unfold maxLen; omega) (by omega) (by have:=xV.size; omega) ?_
   intro v' w' xN uc _
   exact ⟨upd f 11 v',rfl,rc_11 (U xw) xu vy (by show w'.ownsRow _ _ _ _ (gs ++ [Value.slice av ts.length cv]).length _; rw [yN]; exact xN) ((aO xV hb).trans uc)⟩
  | 12,Z =>
   obtain rfl:=ya Z
   have g0:f 0 = I mb 0:=E.c 0 (yd Q 0 rfl)
   clear Q E X
   rw [if_pos (by rfl)];unfold Oper.wp;go_simp
   exact ⟨upd f 12 (I mb 0),by simp [upd,g0],bC (U xw) 12 _ rfl (by decide) (by decide) (by decide)⟩
  | 13,Z =>
   obtain rfl:=ya Z
   have ub:f 12 = I mb 0:=E.c 12 (yd Q 12 rfl)
   clear Q E X
   rw [if_pos (by rfl)];unfold Oper.wp;go_simp
   exact ⟨upd f 13 (I mb 0),by simp [upd,ub],bC (U xw) 13 _ rfl (by decide) (by decide) (by decide)⟩
  | 14,Z =>
   obtain rfl:=ya Z
   have kO:f 13 = I mb 0:=E.c 13 (yd Q 13 rfl)
   clear Q E X
   rw [if_pos (by rfl)];unfold Oper.wp;go_simp
   exact ⟨upd f 14 (I mb 0),by simp [upd,kO],bC (U xw) 14 _ rfl (by decide) (by decide) (by decide)⟩
  | 15,Z =>
   obtain rfl:=ya Z
   have km:f 14 = I mb 0:=E.c 14 (yd Q 14 rfl)
   have oM:x[11]? = some true:=Q ⟨11,.data⟩ (by simp) rfl
   obtain ⟨hr11,hg11⟩:=E.m11 oM xu
   obtain ⟨ga,gc,vI⟩:=dL hr11 (by simp)
   have y0:=hg11.cell c0 qH
   have q0:V.frozen? (J mb 0) = false:=(World.frozen?_of_block (a:=(J mb 0)) (hg11.block mb qB qH)).trans f0
   have jE:=Y hr11
   have kw:=Y hg11
   clear hr11 hg11
   clear Q E X
   rw [if_pos (by rfl)];unfold Oper.wp;go_simp
   have h15r:=rc_15 (U xw) oM xu (U jE) (U kw)
   conv at h15r=>arg 10; rw [vI,yN]
   exact ⟨f,by simp [km,vI],h15r⟩
  | i + 16,Z=>simp at Z
theorem dI {mb B Bo:Nat} {gv:Value} {gs:List Value} {gl:List (List Ev)} {next:Int} {vq:Value} {l:List Od} {t:Tot} {vo:Value} {ts:List Ev} (u:FrameMode) (w:World) (h:EnS mb B Bo w gv gs gl next vq l t vo ts) (hn:ts.length ≤ 1000) (hgn:gs.length ≤ 1000) :
  CallsD Tryz.prog 62 #[I mb 0] u w fun r u' w'=>u' = u∧r = yl (.tuple #[])∧(∃ qz,EnS mb B w'.heap.size w' qz (gs ++ [vo]) (gl ++ [ts]) next vq l (wgT t ts) (.slice none 0 0) [])∧KeptBut mb B w w':=by
 have oC:∀ j,j < 12→w.frozen? (J mb j) = false:=fun j K=>by have:=(h.there j K).2; rwa [Nat.zero_add] at this
 have heB:ERow w B vo ts:=⟨h.erow.1,by
  rcases h.erow.2 with G | ⟨g',c',xp,G,D,h3⟩
  ·exact .inl G
  ·exact .inr ⟨g',c',xp,G,yL h.bo D,h3⟩⟩
 have ht3:w.rangeAt mb 3 t.vs:=fun j u K=>by
  have:=h.cells (3 + j) u (by
   match j,K with
   | 0,K | 1,K | 2,K | 3,K | 4,K | 5,K | 6,K | 7,K=>exact K
   | j + 8,K=>simp [Tot.vs] at K)
  rwa [Nat.zero_add] at this
 have xE:w.there mb 3 8:=fun j K=>by
  have:=h.there (3 + j) (by omega)
  rwa [Nat.zero_add] at this
 refine (closeGroup_d mb B gv gs t vo ts u w (h.cells 0 _ rfl) (oC 0 (by omega)) ht3 xE (h.cells 11 _ rfl) (oC 11 (by omega)) h.box h.grow heB (yL h.bo h.le) hn hgn).mono ?_
 rintro r u' w' ⟨rfl,rfl,qz,V0,V1,pK,jH,xU,rfl⟩
 have qB:=h.lt
 have qH:some mb ≠ gv.ownBlock:=zl h.grow h.box (by decide)
 have hm0:mb < V0.heap.size:=yH qB jH.size
 have hbox0:∃ xp,V0.heap[mb]? = some (.cells xp 71 (0,0)):=by
  obtain ⟨xp,hc⟩:=h.box
  exact ⟨xp,(jH.block mb qB qH).trans hc⟩
 -- what is kept by each of the steps
 have step:∀ {e sz n:Nat} {v:Value} {xs:List Value},V0.ownsRow B e sz v n xs→71 ≠ e→World.ownsRow ((V1.setCells mb 3 (wgT t ts).vs).setCell (J mb 11) (.slice none 0 0)) B e sz v n xs:=by
  intro e sz n v xs hv xA
  have ha:some mb ≠ v.ownBlock:=zl hv hbox0 xA
  have G:=zw hv ha 0 qz
  have D:V1.ownsRow B e sz v n xs:=World.ownsRow.kept (row:=none) G (aO xU (by simp [World.setCell])) (by cases v.ownBlock <;> simp)
  refine zw ?_ ha 11 _
  exact bJ ha _ _ _ D
 have qV:V0.heap.size ≤ V1.heap.size:=by have:=xU.size; simpa [World.setCell] using this
 have hsw:w.heap.size ≤ V1.heap.size:=yL jH.size qV
 have hseq:((V1.setCells mb 3 (wgT t ts).vs).setCell (J mb 11) (.slice none 0 0)).heap.size = V1.heap.size:=by simp only [World.setCell,Array.size_modify]; exact bK _ _ _ _
 -- the cells of the block
 have hth1:V1.there mb 0 12:=ze (zD (bw h.there jH qB qH)) xU hm0
 have old:∀ j u,j ≠ 0→w.cell? (J mb j) = some u→V1.cell? (J mb j) = some u:=fun j u K hu =>
  (xU.cell (p:=(J mb j)) hm0).trans ((yJ _ _ _ _ (zQ (fun e=>K e.symm))).trans (jH.cell hu qH))
 have new0:V1.cell? (J mb 0) = some qz:=(xU.cell (p:=(J mb 0)) hm0).trans (yK _ _ _ (jH.cell (h.cells 0 _ rfl) qH))
 have out:∀ j u,j < 3→V1.cell? (J mb j) = some u→((V1.setCells mb 3 (wgT t ts).vs).setCell (J mb 11) (.slice none 0 0)).cell? (J mb j) = some u:=fun j u K hu =>
  (yJ _ _ _ _ (zQ (by omega))).trans ((World.cell?_setCells_out mb _ 3 V1 (J mb j) (fun _ _=>.inl K)).trans hu)
 have tot:∀ j u,(wgT t ts).vs[j]? = some u→((V1.setCells mb 3 (wgT t ts).vs).setCell (J mb 11) (.slice none 0 0)).cell? (J mb (3 + j)) = some u:=fun j u K=>by
  have hj8:j < 8:=by have:=(yE.1 K).1; simpa [Tot.vs] using this
  refine (yJ _ _ _ _ (zQ (by omega))).trans ?_
  exact yV V1 mb 3 _ (fun j K=>by
   have hj8:j < 8:=by simpa [Tot.vs] using K
   have:=hth1 (3 + j) (by omega)
   rwa [Nat.zero_add] at this) j u K
 refine ⟨rfl,rfl,⟨qz,?_,?_,step pK (by decide),by simp [h.glen],?_,?_,step (World.ownsRow.kept h.orow jH (zC h.orow h.grow (by decide))) (by decide),World.ownsRow_nil _ _ _ _,?_,?_,Nat.le_refl _⟩,?_⟩
 ·intro j u K
  rw [Nat.zero_add]
  match j,K with
  | 0,K=>cases K; exact out 0 _ (by omega) new0
  | 1,K=>cases K; exact out 1 _ (by omega) (old 1 _ (by omega) (h.cells 1 _ rfl))
  | 2,K=>cases K; exact out 2 _ (by omega) (old 2 _ (by omega) (h.cells 2 _ rfl))
  | 3,K=>exact tot 0 u K
  | 4,K=>exact tot 1 u K
  | 5,K=>exact tot 2 u K
  | 6,K=>exact tot 3 u K
  | 7,K=>exact tot 4 u K
  | 8,K=>exact tot 5 u K
  | 9,K=>exact tot 6 u K
  | 10,K=>exact tot 7 u K
  | 11,K =>
   cases K
   refine yK _ _ _ ((World.cell?_setCells_out mb _ 3 V1 (J mb 11) (fun _ _=>.inr (by simp [Tot.vs]))).trans (old 11 _ (by omega) (h.cells 11 _ rfl)))
  | j + 12,K=>simp at K
 ·exact zD (yZ hth1 _ _ _)
 ·intro i g es hg vQ
  by_cases hi:i < gs.length
  ·rw [List.getElem?_append_left hi] at hg
   rw [List.getElem?_append_left (by rw [← h.glen]; exact hi)] at vQ
   exact step (World.ownsRow.kept (h.geach i g es hg vQ) jH (zC (h.geach i g es hg vQ) h.grow (by decide))) (by decide)
  ·have hil:i < gs.length + 1:=by have:=(yE.1 hg).1; rwa [yN] at this
   obtain rfl:i = gs.length:=by omega
   have oD:=h.glen
   rw [List.getElem?_append_right hb] at hg
   rw [List.getElem?_append_right (by omega)] at vQ
   simp at hg
   rw [oD] at vQ
   simp at vQ
   subst hg vQ
   exact step (World.ownsRow.kept heB jH (zC heB h.grow (by decide))) (by decide)
 ·refine ⟨fun g hg b O=>?_,List.pairwise_append.2 ⟨h.glt.2,List.pairwise_singleton _ _,fun g hg g' hg' b b' O ko=>?_⟩⟩
  ·rw [hseq]
   rcases List.mem_append.1 hg with G | G
   ·have:=h.glt.1 g G b O; have:=h.le; omega
   ·simp at G; subst G
    have:=(h.erow.lt b O).2; omega
  ·have G:=h.glt.1 g hg b O
   rw [List.mem_singleton.1 hg'] at ko
   have D:=(h.erow.lt b' ko).1
   omega
 ·obtain ⟨xp,hc⟩:=hbox0
  obtain ⟨cur1,kQ⟩:=zS V0 mb 0 qz hc
  have hc2:V1.heap[mb]? = some (.cells cur1 71 (0,0)):=(xU.block mb hm0).trans kQ
  obtain ⟨cur3,hc3⟩:=kind_setC V1 mb (wgT t ts).vs 3 hc2
  exact zS _ mb 11 _ hc3
 ·rw [hseq]; exact yL (yL h.bo h.le) hsw
 ·refine ⟨(set_os _ _ _).trans ((en _ _ _ _).trans (xU.os.trans ((set_os _ _ _).trans jH.os))),(set_tape _ _ _).trans ((ef _ _ _ _).trans (xU.tape.trans ((set_tape _ _ _).trans jH.tape))),(set_output _ _ _).trans ((ec _ _ _ _).trans (xU.output.trans ((set_output _ _ _).trans jH.output))),by rw [hseq]; exact hsw,fun k hk hkm=>?_⟩
  have hkw:k < w.heap.size:=by have:=h.bo; have:=h.le; omega
  have hk0:k < V0.heap.size:=yH hkw jH.size
  rw [yQ _ _ _ _ hkm,de mb k hkm,xU.block k hk0,yQ _ _ _ _ hkm]
  exact jH.block k hkw (fun e=>by have:=(h.grow.lt k e.symm).1; omega)
def cutB (s:ByteArray):ByteArray:=if 12 < s.size then s.extract 0 13 else s
theorem cutB_one (s:ByteArray) (h:s.size = 13):cutB s = s:=by
 unfold cutB; rw [if_pos (by omega),← h]; exact ByteArray.extract_zero_size
theorem implCut_any (s:ByteArray) (w:World) (hs:s.size ≤ maxLen) :
  Calls Tryz.prog 64 #[yj s] w fun e w'=>e = .returned (yj (cutB s))∧w' = w:=by
 unfold maxLen at hs
 by_cases h:12 < s.size
 ·have HF:=Y (show cutB s = s.extract 0 13 from if_pos h)
  have h':(12:Int) < s.size:=by omega
  go_enter Tryz.func64,Tryz.ntmps64
  go_wp2
  go_ret
  exact ⟨by rw [U HF]; rfl,rfl⟩
 ·have HF:=Y (show cutB s = s from if_neg h)
  have h':(s.size:Int) ≤ 12:=by omega
  go_enter Tryz.func64,Tryz.ntmps64
  go_wp2
  go_ret
  exact ⟨by rw [U HF]; rfl,rfl⟩
end Go.Proofs.YtbakanofkghmiaaGreat
