/-
  A group closed behind a command, as a deferred call: proved by walking the method.
-/
import Derived.Test.YtbakanofkghmiaaGreatPj27
import Derived.Defers
set_option linter.unusedVariables false
set_option maxHeartbeats 6400000
set_option maxRecDepth 100000
namespace Go.Proofs.YtbakanofkghmiaaGreat
open Go.RowKit
theorem closeGroup_d (N B:Nat) (gv:Value) (gs:List Value) (t:Tot) (vo:Value) (ts:List Ev) (u:FrameMode) (w:World) (c0:w.cell? (J N 0) = some gv) (f0:w.frozen? (J N 0) = false) (ht:w.rangeAt N 3 t.vs) (xG:w.there N 3 8) (c11:w.cell? (J N 11) = some vo) (f11:w.frozen? (J N 11) = false) (vF:∃ xp,w.heap[N]? = some (.cells xp 71 (0,0)))
  (ut:GRow w B gv gs) (jC:ERow w B vo ts) (hB:B ≤ w.heap.size) (hn:ts.length ≤ 1000) (hgn:gs.length ≤ 1000) :
  CallsD Tryz.prog 62 #[I N 0] u w fun r u' w'=>u' = u∧r = yk (.tuple #[])∧∃ (jh:Value) (V0 V1:World),GRow V0 B jh (gs ++ [vo])∧w.grownBy V0 gv.ownBlock∧Below V0.heap.size (V0.setCell (J N 0) jh) V1∧w' = (V1.setCells N 3 (wgT t ts).vs).setCell (J N 11) (.slice none 0 0):=by
 obtain ⟨i0,uv,uq,uw,uM⟩:=info_parts infoEvS
 have qx:some N ≠ gv.ownBlock:=zo ut vF (by decide)
 have qr:N < w.heap.size:=yH w _ c0
 have hone:vo.oneCell' = true:=by
  rcases jC.2 with ⟨rfl,_⟩ | ⟨g,cp,xp,rfl,_⟩ <;> rfl
 obtain ⟨av,cv,rfl⟩:∃ av cv,vo = .slice av ts.length cv:=by
  rcases jC.2 with ⟨rfl,h0⟩ | ⟨g,cp,xp,rfl,_⟩
  ·exact ⟨none,0,by rw [h0]⟩
  ·exact ⟨_,_,rfl⟩
 have pQ:=Q ut
 have jt:=Q jC
 have uE:=Q vF
 clear ut jC vF
 go_enter_d Tryz.func62,Tryz.ntmps62
 refine eH fun h2 xu=>?_
 refine zi (RCA (fun f=>{ tmps:=#[I N 0,Z,f 0,f 1,f 2,f 3,f 4,f 5,f 6,f 7,f 8,f 9,f 10,f 11,f 12,f 13,f 14,Z,Z,Z,Z,Z,Z,Z,Z,Z,Z,Z,Z,Z,Z,Z,Z,Z],defers:=[] }) (C0G N gv (.slice av ts.length cv)) N B gv (.slice av ts.length cv) gs w) (by kernel_rfl) ?_ ?_ ?_
 ·exact ⟨fun _=>Z,rfl,⟨fun j L=>by rw [yF] at L; split at L <;> simp at L,fun _=>⟨rfl,rfl,rfl,Nat.le_refl _,fun _ _=>rfl⟩,by simp,by simp,by simp⟩⟩
 ·rintro x hR V ⟨f,rfl,A⟩ hx xK
  have xm:=aK xK hx (acyc _ (by kernel_rfl))
  obtain ⟨V0,pF,jr,eV⟩:=A.m15 (xm 15 (by simp))
  refine M xu _ _ ?_
  clear xu
  dsimp only
  generalize f 11 = jh at pF eV ⊢
  generalize f 0 = u2,f 1 = u3,f 2 = u4,f 3 = u5,f 4 = u6,f 5 = u7,f 6 = u8,f 7 = u9,f 8 = u10,f 9 = u11,f 10 = u12,f 12 = u14,f 13 = u15,f 14 = u16
  clear A xm xK hx
  have HR0:=Q pF
  have HG0:=Q jr
  have hm0:N < V0.heap.size:=yG qr jr.size
  have hT0:=zm ht jr qr qx
  have hH0:=bC xG jr qr qx
  have hc11:=jr.cell c11 qx
  have hE0:ERow V0 B (.slice av ts.length cv) ts:=World.ownsRow.kept (M jt) jr (zD (M jt) (M pQ) (by decide))
  obtain ⟨V1,vQ⟩:∃ V1:World,V1 = V0.setCell (J N 0) jh:=⟨_,rfl⟩
  have xz:V1.heap.size = V0.heap.size:=by rw [vQ]; simp [World.setCell]
  have HT:Hid (V1.rangeAt N 3 t.vs):=by
   rw [vQ]
   exact fun j u L=>(yI _ _ _ _ (zI (by omega))).trans (hT0 j u L)
  have jf:Hid (V1.there N 3 8):=by rw [vQ]; exact bj hH0
  have c11':V1.cell? (J N 11) = some (.slice av ts.length cv):=by rw [vQ]; exact (yI _ _ _ _ (zI (by omega))).trans hc11
  have f11':V1.frozen? (J N 11) = false:=by rw [vQ,World.frozen?_setCell]; exact (World.frozen?_of_block (a:=(J N 11)) (jr.block N qr qx)).trans f11
  have hE1:ERow V1 B (.slice av ts.length cv) ts:=by
   rw [vQ]
   refine zw hE0 (zo (T:=71) hE0 ?_ (by decide)) 0 _
   obtain ⟨xp,hc⟩:=M uE
   exact ⟨xp,(jr.block N qr qx).trans hc⟩
  have HRO:Hid (RdR Ev.vs 14 V1 (.slice av ts.length cv) ts):=bO (bc Ev.len (by omega) hE1)
  have kV:N < V1.heap.size:=by omega
  rw [eV,← vQ]
  have HV1:=Q vQ
  have c11:=c11'
  have f11:=f11'
  clear c11' f11' vQ eV pF jr hT0 hH0 hc11 hE0 hE1 xz c0 f0 ht xG
  refine eH fun h2 xu=>?_
  refine zi (RDA (fun f=>{ tmps:=#[I N 0,Z,u2,u3,u4,u5,u6,u7,u8,u9,u10,u11,u12,jh,u14,u15,u16,f 0,f 1,f 2,f 3,f 4,f 5,f 6,f 7,f 8,f 9,f 10,f 11,f 12,f 13,Z,Z,Z],defers:=[] }) (C1G N (.agg #[H t.gr,H t.ac,H t.rf,H t.tr,H t.vo,H t.no,H t.li,H t.le]) (.agg #[H (wgT t ts).gr,H (wgT t ts).ac,H (wgT t ts).rf,H (wgT t ts).tr,H (wgT t ts).vo,H (wgT t ts).no,H (wgT t ts).li,H (wgT t ts).le]) (.slice av ts.length cv)) N (wgT t ts).vs V1) (by kernel_rfl) ?_ ?_ ?_
  ·exact ⟨fun _=>Z,rfl,⟨fun j L=>by rw [yF] at L; split at L <;> simp at L,fun _=>⟨rfl,rfl,rfl,Nat.le_refl _,fun _ _=>rfl⟩,by simp⟩⟩
  ·rintro x hR V ⟨f,rfl,A⟩ hx xK
   have xm:=aK xK hx (acyc _ (by kernel_rfl))
   obtain ⟨V2,ue,eV⟩:=A.m (xm 14 (by simp))
   refine M xu _ _ ?_
   clear xu
   dsimp only
   generalize f 0 = v0,f 1 = v1,f 2 = v2,f 3 = v3,f 4 = v4,f 5 = v5,f 6 = v6,f 7 = v7,f 8 = v8,f 9 = v9,f 10 = v10,f 11 = v11,f 12 = v12,f 13 = v13
   clear A xm xK hx
   have xC:=Q ue
   have HE:Hid (V = V2.setCells N 3 (wgT t ts).vs):=eV
   have y11:V.cell? (J N 11) = some (.slice av ts.length cv):=by
    rw [eV]
    refine (World.cell?_setCells_out N _ 3 V2 (J N 11) (fun _ _=>.inr (by simp [Tot.vs]))).trans ?_
    exact (ue.cell (p:=(J N 11)) kV).trans c11
   have q11:V.frozen? (J N 11) = false:=by
    rw [eV,ez]
    exact (World.frozen?_of_block (a:=(J N 11)) (ue.block N kV)).trans f11
   clear eV ue c11 f11
   go_wp2_with fail
   go_end0
   refine ⟨rfl,jh,V0,V2,M HR0,M HG0,?_,by rw [M HE]⟩
   rw [← M HV1]
   exact (M xC).mono (by rw [M HV1]; simp [World.setCell])
  ·rintro x hR V i op ⟨f,rfl,A⟩ xk hx Y xq D
   have xv:=Q A
   have n14:i < 14→x[14]? = some false:=fun xL=>by
    rcases bK hx (show 14 < 15 by omega) with h | h
    ·exact h
    ·have jA:=yd xk 14 rfl h 13 rfl
     have qp:=yd xk 13 rfl jA 12 rfl
     have uL:=yd xk 12 rfl qp 11 rfl
     have ub:∀ j,j < 14→x[j]? = some true:=fun j L=>by
      by_cases hj10:j < 11
      ·exact xk 14 _ rfl h ⟨j,.phase⟩ (by rcases (by omega:j = 0 ∨ j = 1 ∨ j = 2 ∨ j = 3 ∨ j = 4 ∨ j = 5 ∨ j = 6 ∨ j = 7 ∨ j = 8 ∨ j = 9 ∨ j = 10) with rfl | rfl | rfl | rfl | rfl | rfl | rfl | rfl | rfl | rfl | rfl <;> simp) rfl
      ·rcases (by omega:j = 11 ∨ j = 12 ∨ j = 13) with rfl | rfl | rfl <;> assumption
     rw [ub i xL] at xq; cases xq
   match i,Y with
   | 0,Y =>
    obtain rfl:=hD Y
    clear D A xk
    rw [if_pos (by rfl)];unfold Oper.wp;go_simp
    exact ⟨upd f 0 (I N 0),by simp [upd],bB (M xv) 0 _ rfl (by decide)⟩
   | 1,Y =>
    obtain rfl:=hD Y
    clear D A xk
    rw [if_pos (by rfl)];unfold Oper.wp;go_simp
    exact ⟨upd f 1 (I N 0),by simp [upd],bB (M xv) 1 _ rfl (by decide)⟩
   | 2,Y =>
    obtain rfl:=hD Y
    have g1:f 1 = I N 0:=A.c 1 (yc D 1 rfl)
    clear D A xk
    rw [if_pos (by rfl)];unfold Oper.wp;go_simp
    exact ⟨upd f 2 (I N 0),by simp [upd,g1],bB (M xv) 2 _ rfl (by decide)⟩
   | 3,Y =>
    obtain rfl:=hD Y
    have g2:f 2 = I N 0:=A.c 2 (yc D 2 rfl)
    clear D A xk
    rw [if_pos (by rfl)];unfold Oper.wp;go_simp
    exact ⟨upd f 3 (I N 0),by simp [upd,g2],bB (M xv) 3 _ rfl (by decide)⟩
   | 4,Y =>
    obtain rfl:=hD Y
    have g3:f 3 = I N 0:=A.c 3 (yc D 3 rfl)
    clear D A xk
    rw [if_pos (by rfl)];unfold Oper.wp;go_simp
    exact ⟨upd f 4 (I N 3),by simp [upd,g3],bB (M xv) 4 _ rfl (by decide)⟩
   | 5,Y =>
    obtain rfl:=hD Y
    have g4:f 4 = I N 3:=A.c 4 (yc D 4 rfl)
    have xZ:=A.b (n14 (by omega))
    have y0:=zb (M HT) xZ kV 0 _ rfl
    have y1:=zb (M HT) xZ kV 1 _ rfl
    have y2:=zb (M HT) xZ kV 2 _ rfl
    have y3:=zb (M HT) xZ kV 3 _ rfl
    have y4:=zb (M HT) xZ kV 4 _ rfl
    have y5:=zb (M HT) xZ kV 5 _ rfl
    have y6:=zb (M HT) xZ kV 6 _ rfl
    have y7:=zb (M HT) xZ kV 7 _ rfl
    skip
    clear D A xk
    rw [if_pos (by rfl)];unfold Oper.wp;go_simp
    exact ⟨upd f 5 (.agg #[H t.gr,H t.ac,H t.rf,H t.tr,H t.vo,H t.no,H t.li,H t.le]),by simp [upd,g4],bB (M xv) 5 _ rfl (by decide)⟩
   | 6,Y =>
    obtain rfl:=hD Y
    clear D A xk
    rw [if_pos (by rfl)];unfold Oper.wp;go_simp
    exact ⟨upd f 6 (I N 0),by simp [upd],bB (M xv) 6 _ rfl (by decide)⟩
   | 7,Y =>
    obtain rfl:=hD Y
    have g6:f 6 = I N 0:=A.c 6 (yc D 6 rfl)
    clear D A xk
    rw [if_pos (by rfl)];unfold Oper.wp;go_simp
    exact ⟨upd f 7 (I N 0),by simp [upd,g6],bB (M xv) 7 _ rfl (by decide)⟩
   | 8,Y =>
    obtain rfl:=hD Y
    have g7:f 7 = I N 0:=A.c 7 (yc D 7 rfl)
    clear D A xk
    rw [if_pos (by rfl)];unfold Oper.wp;go_simp
    exact ⟨upd f 8 (I N 11),by simp [upd,g7],bB (M xv) 8 _ rfl (by decide)⟩
   | 9,Y =>
    obtain rfl:=hD Y
    have g8:f 8 = I N 11:=A.c 8 (yc D 8 rfl)
    have xZ:=A.b (n14 (by omega))
    have y11:=(xZ.cell (p:=(J N 11)) kV).trans c11
    clear D A xk
    rw [if_pos (by rfl)];unfold Oper.wp;go_simp
    exact ⟨upd f 9 (.slice av ts.length cv),by simp [upd,g8],bB (M xv) 9 _ rfl (by decide)⟩
   | 10,Y =>
    obtain rfl:=hD Y
    have g5:f 5 = .agg #[H t.gr,H t.ac,H t.rf,H t.tr,H t.vo,H t.no,H t.li,H t.le]:=A.c 5 (yc D 5 rfl)
    have g9:f 9 = .slice av ts.length cv:=A.c 9 (yc D 9 rfl)
    have qY:=n14 (by omega)
    have xZ:=A.b qY
    have qe:=Q (zh (M HRO) xZ tg)
    clear D A xk
    rw [if_pos (by rfl)];unfold Oper.wp;go_simp
    refine (withGroup_any t (.slice av ts.length cv) ts V (M qe)).mono ?_
    rintro e w4 ⟨rfl,xy⟩
    exact ⟨upd f 10 (.agg #[H (wgT t ts).gr,H (wgT t ts).ac,H (wgT t ts).rf,H (wgT t ts).tr,H (wgT t ts).vo,H (wgT t ts).no,H (wgT t ts).li,H (wgT t ts).le]),by simp [upd,g5,g9],bB (rd_grow (M xv) qY xy) 10 _ rfl (by decide)⟩
   | 11,Y =>
    obtain rfl:=hD Y
    have g0:f 0 = I N 0:=A.c 0 (yc D 0 rfl)
    clear D A xk
    rw [if_pos (by rfl)];unfold Oper.wp;go_simp
    exact ⟨upd f 11 (I N 0),by simp [upd,g0],bB (M xv) 11 _ rfl (by decide)⟩
   | 12,Y =>
    obtain rfl:=hD Y
    have vr:f 11 = I N 0:=A.c 11 (yc D 11 rfl)
    clear D A xk
    rw [if_pos (by rfl)];unfold Oper.wp;go_simp
    exact ⟨upd f 12 (I N 0),by simp [upd,vr],bB (M xv) 12 _ rfl (by decide)⟩
   | 13,Y =>
    obtain rfl:=hD Y
    have xX:f 12 = I N 0:=A.c 12 (yc D 12 rfl)
    clear D A xk
    rw [if_pos (by rfl)];unfold Oper.wp;go_simp
    exact ⟨upd f 13 (I N 3),by simp [upd,xX],bB (M xv) 13 _ rfl (by decide)⟩
   | 14,Y =>
    obtain rfl:=hD Y
    have kE:f 13 = I N 3:=A.c 13 (yc D 13 rfl)
    have vP:f 10 = .agg #[H (wgT t ts).gr,H (wgT t ts).ac,H (wgT t ts).rf,H (wgT t ts).tr,H (wgT t ts).vo,H (wgT t ts).no,H (wgT t ts).li,H (wgT t ts).le]:=A.c 10 (yc D 10 rfl)
    have xZ:=A.b xq
    have xG:=zf (M jf) xZ kV
    obtain ⟨y0,z0,q0⟩:=cJ xG (j:=0) (by omega)
    obtain ⟨y1,z1,q1⟩:=cJ xG (j:=1) (by omega)
    obtain ⟨y2,z2,q2⟩:=cJ xG (j:=2) (by omega)
    obtain ⟨y3,z3,q3⟩:=cJ xG (j:=3) (by omega)
    obtain ⟨y4,z4,q4⟩:=cJ xG (j:=4) (by omega)
    obtain ⟨y5,z5,q5⟩:=cJ xG (j:=5) (by omega)
    obtain ⟨y6,z6,q6⟩:=cJ xG (j:=6) (by omega)
    obtain ⟨y7,z7,q7⟩:=cJ xG (j:=7) (by omega)
    clear xG
    clear D A xk
    rw [if_pos (by rfl)];unfold Oper.wp;go_simp
    exact ⟨f,by simp [kE,vP],rd_14 (M xv) xq⟩
   | i + 15,Y=>simp at Y
 ·rintro x hR V i op ⟨f,rfl,A⟩ xk hx Y xq D
  have xv:=Q A
  have n15:i < 15→x[15]? = some false:=fun xL=>by
   rcases bK hx (show 15 < 16 by omega) with h | h
   ·exact h
   ·have qY:=yd xk 15 rfl h 14 rfl
    have jA:=yd xk 14 rfl qY 13 rfl
    have qp:=yd xk 13 rfl jA 12 rfl
    have ub:∀ j,j < 15→x[j]? = some true:=fun j L=>by
     by_cases hj10:j < 12
     ·exact xk 15 _ rfl h ⟨j,.phase⟩ (by rcases (by omega:j = 0 ∨ j = 1 ∨ j = 2 ∨ j = 3 ∨ j = 4 ∨ j = 5 ∨ j = 6 ∨ j = 7 ∨ j = 8 ∨ j = 9 ∨ j = 10 ∨ j = 11) with rfl | rfl | rfl | rfl | rfl | rfl | rfl | rfl | rfl | rfl | rfl | rfl <;> simp) rfl
     ·rcases (by omega:j = 12 ∨ j = 13 ∨ j = 14) with rfl | rfl | rfl <;> assumption
    rw [ub i xL] at xq; cases xq
  have ql:i < 11→0 < i→x[11]? = some false:=fun xL vW=>by
   rcases bK hx (show 11 < 16 by omega) with h | uL
   ·exact h
   ·have h5:=yd xk 11 rfl uL 5 rfl
    have vL:=yd xk 11 rfl uL 10 rfl
    have h4:=yd xk 5 rfl h5 4 rfl
    have h9:=yd xk 10 rfl vL 9 rfl
    have h3:=yd xk 4 rfl h4 3 rfl
    have h8:=yd xk 9 rfl h9 8 rfl
    have K:=yd xk 3 rfl h3 2 rfl
    have h7:=yd xk 8 rfl h8 7 rfl
    have z:=yd xk 2 rfl K 1 rfl
    have h6:=yd xk 7 rfl h7 6 rfl
    have ub:∀ j,0 < j→j < 11→x[j]? = some true:=fun j jk L=>by
     rcases (by omega:j = 1 ∨ j = 2 ∨ j = 3 ∨ j = 4 ∨ j = 5 ∨ j = 6 ∨ j = 7 ∨ j = 8 ∨ j = 9 ∨ j = 10) with rfl | rfl | rfl | rfl | rfl | rfl | rfl | rfl | rfl | rfl <;> assumption
    rw [ub i vW xL] at xq; cases xq
  match i,Y with
  | 0,Y =>
   obtain rfl:=hD Y
   clear D A xk
   rw [if_pos (by rfl)];unfold Oper.wp;go_simp
   exact ⟨upd f 0 (I N 0),by simp [upd],bF (M xv) 0 _ rfl (by decide) (by decide) (by decide)⟩
  | 1,Y =>
   obtain rfl:=hD Y
   clear D A xk
   rw [if_pos (by rfl)];unfold Oper.wp;go_simp
   exact ⟨upd f 1 (I N 0),by simp [upd],bF (M xv) 1 _ rfl (by decide) (by decide) (by decide)⟩
  | 2,Y =>
   obtain rfl:=hD Y
   have g1:f 1 = I N 0:=A.c 1 (yc D 1 rfl)
   clear D A xk
   rw [if_pos (by rfl)];unfold Oper.wp;go_simp
   exact ⟨upd f 2 (I N 0),by simp [upd,g1],bF (M xv) 2 _ rfl (by decide) (by decide) (by decide)⟩
  | 3,Y =>
   obtain rfl:=hD Y
   have g2:f 2 = I N 0:=A.c 2 (yc D 2 rfl)
   clear D A xk
   rw [if_pos (by rfl)];unfold Oper.wp;go_simp
   exact ⟨upd f 3 (I N 0),by simp [upd,g2],bF (M xv) 3 _ rfl (by decide) (by decide) (by decide)⟩
  | 4,Y =>
   obtain rfl:=hD Y
   have g3:f 3 = I N 0:=A.c 3 (yc D 3 rfl)
   clear D A xk
   rw [if_pos (by rfl)];unfold Oper.wp;go_simp
   exact ⟨upd f 4 (I N 0),by simp [upd,g3],bF (M xv) 4 _ rfl (by decide) (by decide) (by decide)⟩
  | 5,Y =>
   obtain rfl:=hD Y
   have g4:f 4 = I N 0:=A.c 4 (yc D 4 rfl)
   have xZ:=A.b (ql (by omega) (by omega))
   have y5:=(xZ.cell (p:=(J N 0)) qr).trans c0
   clear D A xk
   rw [if_pos (by rfl)];unfold Oper.wp;go_simp
   exact ⟨upd f 5 (gv),by simp [upd,g4],bF (M xv) 5 _ rfl (by decide) (by decide) (by decide)⟩
  | 6,Y =>
   obtain rfl:=hD Y
   clear D A xk
   rw [if_pos (by rfl)];unfold Oper.wp;go_simp
   exact ⟨upd f 6 (I N 0),by simp [upd],bF (M xv) 6 _ rfl (by decide) (by decide) (by decide)⟩
  | 7,Y =>
   obtain rfl:=hD Y
   have g6:f 6 = I N 0:=A.c 6 (yc D 6 rfl)
   clear D A xk
   rw [if_pos (by rfl)];unfold Oper.wp;go_simp
   exact ⟨upd f 7 (I N 0),by simp [upd,g6],bF (M xv) 7 _ rfl (by decide) (by decide) (by decide)⟩
  | 8,Y =>
   obtain rfl:=hD Y
   have g7:f 7 = I N 0:=A.c 7 (yc D 7 rfl)
   clear D A xk
   rw [if_pos (by rfl)];unfold Oper.wp;go_simp
   exact ⟨upd f 8 (I N 11),by simp [upd,g7],bF (M xv) 8 _ rfl (by decide) (by decide) (by decide)⟩
  | 9,Y =>
   obtain rfl:=hD Y
   have g8:f 8 = I N 11:=A.c 8 (yc D 8 rfl)
   have xZ:=A.b (ql (by omega) (by omega))
   have y9:=(xZ.cell (p:=(J N 11)) qr).trans c11
   clear D A xk
   rw [if_pos (by rfl)];unfold Oper.wp;go_simp
   exact ⟨upd f 9 (.slice av ts.length cv),by simp [upd,g8],bF (M xv) 9 _ rfl (by decide) (by decide) (by decide)⟩
  | 10,Y =>
   obtain rfl:=hD Y
   have g9:f 9 = .slice av ts.length cv:=A.c 9 (yc D 9 rfl)
   have uL:=ql (by omega) (by omega)
   clear D A xk
   rw [if_pos (by rfl)];unfold Oper.wp;go_simp
   exact ⟨upd f 10 (.slice (some (yn V 0)) 1 1),by simp [upd,g9],rc_10 (M xv) uL (n15 (by omega))⟩
  | 11,Y =>
   obtain rfl:=hD Y
   have g5:f 5 = gv:=A.c 5 (yc D 5 rfl)
   obtain ⟨s,vP,oS⟩:=A.m10 (yc D 10 rfl) xq
   have xZ:=A.b xq
   have vl:=n15 (by omega)
   have uD:GRow V B gv gs:=World.ownsRow.kept (row:=none) (M pQ) (zU xZ tg) (by cases gv.ownBlock <;> simp)
   clear D A xk
   rw [if_pos (by rfl)]
   refine wp_append_own V (.tmp 7) (.tmp 12) 25 rfl B 38 i0 _ 1 24 Tryz.underlying25 uv uq uw uM rfl (by decide) gv gs.length gs g5 uD (J s 0) 1 1 [.slice av ts.length cv] vP rfl (fun j u hu=>by match j,hu with | 0,hu=>cases hu; rw [Addr.add_mid]; exact oS | j + 1,hu=>simp at hu) (by intro u hu; simp at hu; subst hu; exact hone) (by unfold maxLen; omega) (by omega) (by have:=xZ.size; omega) ?_
   intro v' w' xN ut _
   exact ⟨upd f 11 v',rfl,rc_11 (M xv) xq vl (by show w'.ownsRow _ _ _ _ (gs ++ [Value.slice av ts.length cv]).length _; rw [yM]; exact xN) ((zU xZ tg).trans ut)⟩
  | 12,Y =>
   obtain rfl:=hD Y
   have g0:f 0 = I N 0:=A.c 0 (yc D 0 rfl)
   clear D A xk
   rw [if_pos (by rfl)];unfold Oper.wp;go_simp
   exact ⟨upd f 12 (I N 0),by simp [upd,g0],bF (M xv) 12 _ rfl (by decide) (by decide) (by decide)⟩
  | 13,Y =>
   obtain rfl:=hD Y
   have xX:f 12 = I N 0:=A.c 12 (yc D 12 rfl)
   clear D A xk
   rw [if_pos (by rfl)];unfold Oper.wp;go_simp
   exact ⟨upd f 13 (I N 0),by simp [upd,xX],bF (M xv) 13 _ rfl (by decide) (by decide) (by decide)⟩
  | 14,Y =>
   obtain rfl:=hD Y
   have kE:f 13 = I N 0:=A.c 13 (yc D 13 rfl)
   clear D A xk
   rw [if_pos (by rfl)];unfold Oper.wp;go_simp
   exact ⟨upd f 14 (I N 0),by simp [upd,kE],bF (M xv) 14 _ rfl (by decide) (by decide) (by decide)⟩
  | 15,Y =>
   obtain rfl:=hD Y
   have jU:f 14 = I N 0:=A.c 14 (yc D 14 rfl)
   have oD:x[11]? = some true:=D ⟨11,.data⟩ (by simp) rfl
   obtain ⟨hr11,hg11⟩:=A.m11 oD xq
   obtain ⟨ga,gc,vr⟩:=dO hr11 (by simp)
   have y0:=hg11.cell c0 qx
   have q0:V.frozen? (J N 0) = false:=(World.frozen?_of_block (a:=(J N 0)) (hg11.block N qr qx)).trans f0
   have jn:=Q hr11
   have kg:=Q hg11
   clear hr11 hg11
   clear D A xk
   rw [if_pos (by rfl)];unfold Oper.wp;go_simp
   have h15r:=rc_15 (M xv) oD xq (M jn) (M kg)
   conv at h15r=>arg 10; rw [vr,yM]
   exact ⟨f,by simp [jU,vr],h15r⟩
  | i + 16,Y=>simp at Y
theorem dL {N B Bo:Nat} {gv:Value} {gs:List Value} {gl:List (List Ev)} {next:Int} {vq:Value} {l:List Od} {t:Tot} {vo:Value} {ts:List Ev} (u:FrameMode) (w:World) (h:EnS N B Bo w gv gs gl next vq l t vo ts) (hn:ts.length ≤ 1000) (hgn:gs.length ≤ 1000) :
  CallsD Tryz.prog 62 #[I N 0] u w fun r u' w'=>u' = u∧r = yk (.tuple #[])∧(∃ jh,EnS N B w'.heap.size w' jh (gs ++ [vo]) (gl ++ [ts]) next vq l (wgT t ts) (.slice none 0 0) [])∧KeptBut N B w w':=by
 have om:∀ j,j < 12→w.frozen? (J N j) = false:=fun j L=>by have:=(h.there j L).2; rwa [Nat.zero_add] at this
 have heB:ERow w B vo ts:=⟨h.erow.1,by
  rcases h.erow.2 with z | ⟨g',c',xp,z,K,h3⟩
  ·exact .inl z
  ·exact .inr ⟨g',c',xp,z,yK h.bo K,h3⟩⟩
 have ht3:w.rangeAt N 3 t.vs:=fun j u L=>by
  have:=h.cells (3 + j) u (by
   match j,L with
   | 0,L | 1,L | 2,L | 3,L | 4,L | 5,L | 6,L | 7,L=>exact L
   | j + 8,L=>simp [Tot.vs] at L)
  rwa [Nat.zero_add] at this
 have xG:w.there N 3 8:=fun j L=>by
  have:=h.there (3 + j) (by omega)
  rwa [Nat.zero_add] at this
 refine (closeGroup_d N B gv gs t vo ts u w (h.cells 0 _ rfl) (om 0 (by omega)) ht3 xG (h.cells 11 _ rfl) (om 11 (by omega)) h.box h.grow heB (yK h.bo h.le) hn hgn).mono ?_
 rintro r u' w' ⟨rfl,rfl,jh,V0,V1,pF,jr,xR,rfl⟩
 have qr:=h.lt
 have qx:some N ≠ gv.ownBlock:=zo h.grow h.box (by decide)
 have hm0:N < V0.heap.size:=yG qr jr.size
 have hbox0:∃ xp,V0.heap[N]? = some (.cells xp 71 (0,0)):=by
  obtain ⟨xp,hc⟩:=h.box
  exact ⟨xp,(jr.block N qr qx).trans hc⟩
 -- what is kept by each of the steps
 have step:∀ {e sz n:Nat} {v:Value} {xs:List Value},V0.ownsRow B e sz v n xs→71 ≠ e→World.ownsRow ((V1.setCells N 3 (wgT t ts).vs).setCell (J N 11) (.slice none 0 0)) B e sz v n xs:=by
  intro e sz n v xs hv xA
  have ha:some N ≠ v.ownBlock:=zo hv hbox0 xA
  have z:=zw hv ha 0 jh
  have K:V1.ownsRow B e sz v n xs:=World.ownsRow.kept (row:=none) z (zU xR (by simp [World.setCell])) (by cases v.ownBlock <;> simp)
  refine zw ?_ ha 11 _
  exact dk ha _ _ _ K
 have ke:V0.heap.size ≤ V1.heap.size:=by have:=xR.size; simpa [World.setCell] using this
 have hsw:w.heap.size ≤ V1.heap.size:=yK jr.size ke
 have hseq:((V1.setCells N 3 (wgT t ts).vs).setCell (J N 11) (.slice none 0 0)).heap.size = V1.heap.size:=by simp only [World.setCell,Array.size_modify]; exact cy _ _ _ _
 -- the cells of the block
 have hth1:V1.there N 0 12:=zf (bj (bC h.there jr qr qx)) xR hm0
 have old:∀ j u,j ≠ 0→w.cell? (J N j) = some u→V1.cell? (J N j) = some u:=fun j u L hu =>
  (xR.cell (p:=(J N j)) hm0).trans ((yI _ _ _ _ (zI (fun e=>L e.symm))).trans (jr.cell hu qx))
 have new0:V1.cell? (J N 0) = some jh:=(xR.cell (p:=(J N 0)) hm0).trans (yJ _ _ _ (jr.cell (h.cells 0 _ rfl) qx))
 have out:∀ j u,j < 3→V1.cell? (J N j) = some u→((V1.setCells N 3 (wgT t ts).vs).setCell (J N 11) (.slice none 0 0)).cell? (J N j) = some u:=fun j u L hu =>
  (yI _ _ _ _ (zI (by omega))).trans ((World.cell?_setCells_out N _ 3 V1 (J N j) (fun _ _=>.inl L)).trans hu)
 have tot:∀ j u,(wgT t ts).vs[j]? = some u→((V1.setCells N 3 (wgT t ts).vs).setCell (J N 11) (.slice none 0 0)).cell? (J N (3 + j)) = some u:=fun j u L=>by
  have hj8:j < 8:=by have:=(yD.1 L).1; simpa [Tot.vs] using this
  refine (yI _ _ _ _ (zI (by omega))).trans ?_
  exact yU V1 N 3 _ (fun j L=>by
   have hj8:j < 8:=by simpa [Tot.vs] using L
   have:=hth1 (3 + j) (by omega)
   rwa [Nat.zero_add] at this) j u L
 refine ⟨rfl,rfl,⟨jh,?_,?_,step pF (by decide),by simp [h.glen],?_,?_,step (World.ownsRow.kept h.orow jr (zD h.orow h.grow (by decide))) (by decide),World.ownsRow_nil _ _ _ _,?_,?_,Nat.le_refl _⟩,?_⟩
 ·intro j u L
  rw [Nat.zero_add]
  match j,L with
  | 0,L=>cases L; exact out 0 _ (by omega) new0
  | 1,L=>cases L; exact out 1 _ (by omega) (old 1 _ (by omega) (h.cells 1 _ rfl))
  | 2,L=>cases L; exact out 2 _ (by omega) (old 2 _ (by omega) (h.cells 2 _ rfl))
  | 3,L=>exact tot 0 u L
  | 4,L=>exact tot 1 u L
  | 5,L=>exact tot 2 u L
  | 6,L=>exact tot 3 u L
  | 7,L=>exact tot 4 u L
  | 8,L=>exact tot 5 u L
  | 9,L=>exact tot 6 u L
  | 10,L=>exact tot 7 u L
  | 11,L =>
   cases L
   refine yJ _ _ _ ((World.cell?_setCells_out N _ 3 V1 (J N 11) (fun _ _=>.inr (by simp [Tot.vs]))).trans (old 11 _ (by omega) (h.cells 11 _ rfl)))
  | j + 12,L=>simp at L
 ·exact bj (yY hth1 _ _ _)
 ·intro i g es hg jX
  by_cases hi:i < gs.length
  ·rw [List.getElem?_append_left hi] at hg
   rw [List.getElem?_append_left (by rw [← h.glen]; exact hi)] at jX
   exact step (World.ownsRow.kept (h.geach i g es hg jX) jr (zD (h.geach i g es hg jX) h.grow (by decide))) (by decide)
  ·have hil:i < gs.length + 1:=by have:=(yD.1 hg).1; rwa [yM] at this
   obtain rfl:i = gs.length:=by omega
   have hgl:=h.glen
   rw [List.getElem?_append_right tg] at hg
   rw [List.getElem?_append_right (by omega)] at jX
   simp at hg
   rw [hgl] at jX
   simp at jX
   subst hg jX
   exact step (World.ownsRow.kept heB jr (zD heB h.grow (by decide))) (by decide)
 ·refine ⟨fun g hg b hb=>?_,List.pairwise_append.2 ⟨h.glt.2,List.pairwise_singleton _ _,fun g hg g' hg' b b' hb oP=>?_⟩⟩
  ·rw [hseq]
   rcases List.mem_append.1 hg with z | z
   ·have:=h.glt.1 g z b hb; have:=h.le; omega
   ·simp at z; subst z
    have:=(h.erow.lt b hb).2; omega
  ·have z:=h.glt.1 g hg b hb
   rw [List.mem_singleton.1 hg'] at oP
   have K:=(h.erow.lt b' oP).1
   omega
 ·obtain ⟨xp,hc⟩:=hbox0
  obtain ⟨cur1,jq⟩:=zY V0 N 0 jh hc
  have hc2:V1.heap[N]? = some (.cells cur1 71 (0,0)):=(xR.block N hm0).trans jq
  obtain ⟨cur3,hc3⟩:=kind_setC V1 N (wgT t ts).vs 3 hc2
  exact zY _ N 11 _ hc3
 ·rw [hseq]; exact yK (yK h.bo h.le) hsw
 ·refine ⟨(set_os _ _ _).trans ((et _ _ _ _).trans (xR.os.trans ((set_os _ _ _).trans jr.os))),(set_tape _ _ _).trans ((ej _ _ _ _).trans (xR.tape.trans ((set_tape _ _ _).trans jr.tape))),(set_output _ _ _).trans ((eh _ _ _ _).trans (xR.output.trans ((set_output _ _ _).trans jr.output))),by rw [hseq]; exact hsw,fun k hk hkm=>?_⟩
  have hkw:k < w.heap.size:=by have:=h.bo; have:=h.le; omega
  have hk0:k < V0.heap.size:=yG hkw jr.size
  rw [yP _ _ _ _ hkm,ei N k hkm,xR.block k hk0,yP _ _ _ _ hkm]
  exact jr.block k hkw (fun e=>by have:=(h.grow.lt k e.symm).1; omega)
def cutB (s:ByteArray):ByteArray:=if 12 < s.size then s.extract 0 13 else s
theorem cutB_one (s:ByteArray) (h:s.size = 13):cutB s = s:=by
 unfold cutB; rw [if_pos (by omega),← h]; exact ByteArray.extract_zero_size
theorem implCut_any (s:ByteArray) (w:World) (hs:s.size ≤ maxLen) :
  Calls Tryz.prog 64 #[yi s] w fun e w'=>e = .returned (yi (cutB s))∧w' = w:=by
 unfold maxLen at hs
 by_cases h:12 < s.size
 ·have HF:=Q (show cutB s = s.extract 0 13 from if_pos h)
  have h':(12:Int) < s.size:=by omega
  go_enter Tryz.func64,Tryz.ntmps64
  go_wp2
  go_ret
  exact ⟨by rw [M HF]; rfl,rfl⟩
 ·have HF:=Q (show cutB s = s from if_neg h)
  have h':(s.size:Int) ≤ 12:=by omega
  go_enter Tryz.func64,Tryz.ntmps64
  go_wp2
  go_ret
  exact ⟨by rw [M HF]; rfl,rfl⟩
end Go.Proofs.YtbakanofkghmiaaGreat
