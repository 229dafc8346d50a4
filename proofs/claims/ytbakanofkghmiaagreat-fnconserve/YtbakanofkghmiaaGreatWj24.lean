/-
  A group closed behind a command, as a deferred call: proved by walking the method.
-/
import Derived.Test.YtbakanofkghmiaaGreatWj20
import Derived.Defers
set_option linter.unusedVariables false
set_option maxHeartbeats 6400000
set_option maxRecDepth 100000
namespace Go.Proofs.YtbakanofkghmiaaGreat
open Go.RowKit
theorem closeGroup_d (mb B:Nat) (gv:Value) (gs:List Value) (t:Tot) (vo:Value) (ts:List Ev) (u:FrameMode) (w:World) (c0:w.cell? (J mb 0) = some gv) (f0:w.frozen? (J mb 0) = false) (ht:w.rangeAt mb 3 t.vs) (xF:w.there mb 3 8) (c11:w.cell? (J mb 11) = some vo) (f11:w.frozen? (J mb 11) = false) (jg:∃ xr,w.heap[mb]? = some (.cells xr 71 (0,0)))
  (uk:GRow w B gv gs) (jV:ERow w B vo ts) (hB:B ≤ w.heap.size) (hn:ts.length ≤ 1000) (hgn:gs.length ≤ 1000) :
  CallsD Tryz.prog 62 #[I mb 0] u w fun r u' w'=>u' = u∧r = ym (.tuple #[])∧∃ (qE:Value) (V0 V1:World),GRow V0 B qE (gs ++ [vo])∧w.grownBy V0 gv.ownBlock∧Below V0.heap.size (V0.setCell (J mb 0) qE) V1∧w' = (V1.setCells mb 3 (wgT t ts).vs).setCell (J mb 11) (.slice none 0 0):=by
 obtain ⟨i0,uH,uF,uJ,uQ⟩:=info_parts infoEvS
 have qL:some mb ≠ gv.ownBlock:=zl uk jg (by decide)
 have qG:mb < w.heap.size:=yK w _ c0
 have hone:vo.oneCell' = true:=by
  rcases jV.2 with ⟨rfl,_⟩ | ⟨g,cp,xr,rfl,_⟩ <;> rfl
 obtain ⟨av,cv,rfl⟩:∃ av cv,vo = .slice av ts.length cv:=by
  rcases jV.2 with ⟨rfl,h0⟩ | ⟨g,cp,xr,rfl,_⟩
  ·exact ⟨none,0,by rw [h0]⟩
  ·exact ⟨_,_,rfl⟩
 have ph:=Y uk
 have jM:=Y jV
 have ux:=Y jg
 clear uk jV jg
 go_enter_d Tryz.func62,Tryz.ntmps62
 refine eH fun hj xu=>?_
 refine zj (RCA (fun f=>{ tmps:=#[I mb 0,M,f 0,f 1,f 2,f 3,f 4,f 5,f 6,f 7,f 8,f 9,f 10,f 11,f 12,f 13,f 14,M,M,M,M,M,M,M,M,M,M,M,M,M,M,M,M,M],defers:=[] }) (C0G mb gv (.slice av ts.length cv)) mb B gv (.slice av ts.length cv) gs w) (by kernel_rfl) ?_ ?_ ?_
 ·exact ⟨fun _=>M,rfl,⟨fun j K=>by rw [yI] at K; split at K <;> simp at K,fun _=>⟨rfl,rfl,rfl,Nat.le_refl _,fun _ _=>rfl⟩,by simp,by simp,by simp⟩⟩
 ·rintro x xm V ⟨f,rfl,X⟩ hx xP
  have xp:=zV xP hx (acyc _ (by kernel_rfl))
  obtain ⟨V0,pU,jL,eV⟩:=X.m15 (xp 15 (by simp))
  refine U xu _ _ ?_
  clear xu
  dsimp only
  generalize f 11 = qE at pU eV ⊢
  generalize f 0 = u2,f 1 = u3,f 2 = u4,f 3 = u5,f 4 = u6,f 5 = u7,f 6 = u8,f 7 = u9,f 8 = u10,f 9 = u11,f 10 = u12,f 12 = u14,f 13 = u15,f 14 = u16
  clear X xp xP hx
  have HR0:=Y pU
  have HG0:=Y jL
  have hm0:mb < V0.heap.size:=yJ qG jL.size
  have hT0:=zt ht jL qG qL
  have hH0:=bK xF jL qG qL
  have hc11:=jL.cell c11 qL
  have hE0:ERow V0 B (.slice av ts.length cv) ts:=World.ownsRow.kept (U jM) jL (zD (U jM) (U ph) (by decide))
  obtain ⟨V1,qn⟩:∃ V1:World,V1 = V0.setCell (J mb 0) qE:=⟨_,rfl⟩
  have xA:V1.heap.size = V0.heap.size:=by rw [qn]; simp [World.setCell]
  have HT:Hid (V1.rangeAt mb 3 t.vs):=by
   rw [qn]
   exact fun j u K=>(yL _ _ _ _ (zP (by omega))).trans (hT0 j u K)
  have jI:Hid (V1.there mb 3 8):=by rw [qn]; exact zE hH0
  have c11':V1.cell? (J mb 11) = some (.slice av ts.length cv):=by rw [qn]; exact (yL _ _ _ _ (zP (by omega))).trans hc11
  have f11':V1.frozen? (J mb 11) = false:=by rw [qn,World.frozen?_setCell]; exact (World.frozen?_of_block (a:=(J mb 11)) (jL.block mb qG qL)).trans f11
  have hE1:ERow V1 B (.slice av ts.length cv) ts:=by
   rw [qn]
   refine zu hE0 (zl (T:=71) hE0 ?_ (by decide)) 0 _
   obtain ⟨xr,hc⟩:=U ux
   exact ⟨xr,(jL.block mb qG qL).trans hc⟩
  have HRO:Hid (RdR Ev.vs 14 V1 (.slice av ts.length cv) ts):=da (bQ Ev.len (by omega) hE1)
  have jW:mb < V1.heap.size:=by omega
  rw [eV,← qn]
  have HV1:=Y qn
  have c11:=c11'
  have f11:=f11'
  clear c11' f11' qn eV pU jL hT0 hH0 hc11 hE0 hE1 xA c0 f0 ht xF
  refine eH fun hj xu=>?_
  refine zj (RDA (fun f=>{ tmps:=#[I mb 0,M,u2,u3,u4,u5,u6,u7,u8,u9,u10,u11,u12,qE,u14,u15,u16,f 0,f 1,f 2,f 3,f 4,f 5,f 6,f 7,f 8,f 9,f 10,f 11,f 12,f 13,M,M,M],defers:=[] }) (C1G mb (.agg #[H t.gr,H t.ac,H t.rf,H t.tr,H t.vo,H t.no,H t.li,H t.le]) (.agg #[H (wgT t ts).gr,H (wgT t ts).ac,H (wgT t ts).rf,H (wgT t ts).tr,H (wgT t ts).vo,H (wgT t ts).no,H (wgT t ts).li,H (wgT t ts).le]) (.slice av ts.length cv)) mb (wgT t ts).vs V1) (by kernel_rfl) ?_ ?_ ?_
  ·exact ⟨fun _=>M,rfl,⟨fun j K=>by rw [yI] at K; split at K <;> simp at K,fun _=>⟨rfl,rfl,rfl,Nat.le_refl _,fun _ _=>rfl⟩,by simp⟩⟩
  ·rintro x xm V ⟨f,rfl,X⟩ hx xP
   have xp:=zV xP hx (acyc _ (by kernel_rfl))
   obtain ⟨V2,xY,eV⟩:=X.m (xp 14 (by simp))
   refine U xu _ _ ?_
   clear xu
   dsimp only
   generalize f 0 = v0,f 1 = v1,f 2 = v2,f 3 = v3,f 4 = v4,f 5 = v5,f 6 = v6,f 7 = v7,f 8 = v8,f 9 = v9,f 10 = v10,f 11 = v11,f 12 = v12,f 13 = v13
   clear X xp xP hx
   have xD:=Y xY
   have HE:Hid (V = V2.setCells mb 3 (wgT t ts).vs):=eV
   have y11:V.cell? (J mb 11) = some (.slice av ts.length cv):=by
    rw [eV]
    refine (World.cell?_setCells_out mb _ 3 V2 (J mb 11) (fun _ _=>.inr (by simp [Tot.vs]))).trans ?_
    exact (xY.cell (p:=(J mb 11)) jW).trans c11
   have q11:V.frozen? (J mb 11) = false:=by
    rw [eV,ef]
    exact (World.frozen?_of_block (a:=(J mb 11)) (xY.block mb jW)).trans f11
   clear eV xY c11 f11
   go_wp2_with fail
   go_end0
   refine ⟨rfl,qE,V0,V2,U HR0,U HG0,?_,by rw [U HE]⟩
   rw [← U HV1]
   exact (U xD).mono (by rw [U HV1]; simp [World.setCell])
  ·rintro x xm V i op ⟨f,rfl,X⟩ xo hx Z xy Q
   have xz:=Y X
   have n14:i < 14→x[14]? = some false:=fun xJ=>by
    rcases bU hx (show 14 < 15 by omega) with h | h
    ·exact h
    ·have jy:=yf xo 14 rfl h 13 rfl
     have qF:=yf xo 13 rfl jy 12 rfl
     have uX:=yf xo 12 rfl qF 11 rfl
     have uj:∀ j,j < 14→x[j]? = some true:=fun j K=>by
      by_cases hj10:j < 11
      ·exact xo 14 _ rfl h ⟨j,.phase⟩ (by rcases (by omega:j = 0 ∨ j = 1 ∨ j = 2 ∨ j = 3 ∨ j = 4 ∨ j = 5 ∨ j = 6 ∨ j = 7 ∨ j = 8 ∨ j = 9 ∨ j = 10) with rfl | rfl | rfl | rfl | rfl | rfl | rfl | rfl | rfl | rfl | rfl <;> simp) rfl
      ·rcases (by omega:j = 11 ∨ j = 12 ∨ j = 13) with rfl | rfl | rfl <;> assumption
     rw [uj i xJ] at xy; cases xy
   match i,Z with
   | 0,Z =>
    obtain rfl:=ya Z
    clear Q X xo
    rw [if_pos (by rfl)];unfold Oper.wp;go_simp
    exact ⟨upd f 0 (I mb 0),by simp [upd],bJ (U xz) 0 _ rfl (by decide)⟩
   | 1,Z =>
    obtain rfl:=ya Z
    clear Q X xo
    rw [if_pos (by rfl)];unfold Oper.wp;go_simp
    exact ⟨upd f 1 (I mb 0),by simp [upd],bJ (U xz) 1 _ rfl (by decide)⟩
   | 2,Z =>
    obtain rfl:=ya Z
    have g1:f 1 = I mb 0:=X.c 1 (ye Q 1 rfl)
    clear Q X xo
    rw [if_pos (by rfl)];unfold Oper.wp;go_simp
    exact ⟨upd f 2 (I mb 0),by simp [upd,g1],bJ (U xz) 2 _ rfl (by decide)⟩
   | 3,Z =>
    obtain rfl:=ya Z
    have g2:f 2 = I mb 0:=X.c 2 (ye Q 2 rfl)
    clear Q X xo
    rw [if_pos (by rfl)];unfold Oper.wp;go_simp
    exact ⟨upd f 3 (I mb 0),by simp [upd,g2],bJ (U xz) 3 _ rfl (by decide)⟩
   | 4,Z =>
    obtain rfl:=ya Z
    have g3:f 3 = I mb 0:=X.c 3 (ye Q 3 rfl)
    clear Q X xo
    rw [if_pos (by rfl)];unfold Oper.wp;go_simp
    exact ⟨upd f 4 (I mb 3),by simp [upd,g3],bJ (U xz) 4 _ rfl (by decide)⟩
   | 5,Z =>
    obtain rfl:=ya Z
    have g4:f 4 = I mb 3:=X.c 4 (ye Q 4 rfl)
    have xT:=X.b (n14 (by omega))
    have y0:=zb (U HT) xT jW 0 _ rfl
    have y1:=zb (U HT) xT jW 1 _ rfl
    have y2:=zb (U HT) xT jW 2 _ rfl
    have y3:=zb (U HT) xT jW 3 _ rfl
    have y4:=zb (U HT) xT jW 4 _ rfl
    have y5:=zb (U HT) xT jW 5 _ rfl
    have y6:=zb (U HT) xT jW 6 _ rfl
    have y7:=zb (U HT) xT jW 7 _ rfl
    skip
    clear Q X xo
    rw [if_pos (by rfl)];unfold Oper.wp;go_simp
    exact ⟨upd f 5 (.agg #[H t.gr,H t.ac,H t.rf,H t.tr,H t.vo,H t.no,H t.li,H t.le]),by simp [upd,g4],bJ (U xz) 5 _ rfl (by decide)⟩
   | 6,Z =>
    obtain rfl:=ya Z
    clear Q X xo
    rw [if_pos (by rfl)];unfold Oper.wp;go_simp
    exact ⟨upd f 6 (I mb 0),by simp [upd],bJ (U xz) 6 _ rfl (by decide)⟩
   | 7,Z =>
    obtain rfl:=ya Z
    have g6:f 6 = I mb 0:=X.c 6 (ye Q 6 rfl)
    clear Q X xo
    rw [if_pos (by rfl)];unfold Oper.wp;go_simp
    exact ⟨upd f 7 (I mb 0),by simp [upd,g6],bJ (U xz) 7 _ rfl (by decide)⟩
   | 8,Z =>
    obtain rfl:=ya Z
    have g7:f 7 = I mb 0:=X.c 7 (ye Q 7 rfl)
    clear Q X xo
    rw [if_pos (by rfl)];unfold Oper.wp;go_simp
    exact ⟨upd f 8 (I mb 11),by simp [upd,g7],bJ (U xz) 8 _ rfl (by decide)⟩
   | 9,Z =>
    obtain rfl:=ya Z
    have g8:f 8 = I mb 11:=X.c 8 (ye Q 8 rfl)
    have xT:=X.b (n14 (by omega))
    have y11:=(xT.cell (p:=(J mb 11)) jW).trans c11
    clear Q X xo
    rw [if_pos (by rfl)];unfold Oper.wp;go_simp
    exact ⟨upd f 9 (.slice av ts.length cv),by simp [upd,g8],bJ (U xz) 9 _ rfl (by decide)⟩
   | 10,Z =>
    obtain rfl:=ya Z
    have g5:f 5 = .agg #[H t.gr,H t.ac,H t.rf,H t.tr,H t.vo,H t.no,H t.li,H t.le]:=X.c 5 (ye Q 5 rfl)
    have g9:f 9 = .slice av ts.length cv:=X.c 9 (ye Q 9 rfl)
    have jo:=n14 (by omega)
    have xT:=X.b jo
    have vJ:=Y (zn (U HRO) xT qt)
    clear Q X xo
    rw [if_pos (by rfl)];unfold Oper.wp;go_simp
    refine (withGroup_any t (.slice av ts.length cv) ts V (U vJ)).mono ?_
    rintro e w4 ⟨rfl,xC⟩
    exact ⟨upd f 10 (.agg #[H (wgT t ts).gr,H (wgT t ts).ac,H (wgT t ts).rf,H (wgT t ts).tr,H (wgT t ts).vo,H (wgT t ts).no,H (wgT t ts).li,H (wgT t ts).le]),by simp [upd,g5,g9],bJ (rd_grow (U xz) jo xC) 10 _ rfl (by decide)⟩
   | 11,Z =>
    obtain rfl:=ya Z
    have g0:f 0 = I mb 0:=X.c 0 (ye Q 0 rfl)
    clear Q X xo
    rw [if_pos (by rfl)];unfold Oper.wp;go_simp
    exact ⟨upd f 11 (I mb 0),by simp [upd,g0],bJ (U xz) 11 _ rfl (by decide)⟩
   | 12,Z =>
    obtain rfl:=ya Z
    have vF:f 11 = I mb 0:=X.c 11 (ye Q 11 rfl)
    clear Q X xo
    rw [if_pos (by rfl)];unfold Oper.wp;go_simp
    exact ⟨upd f 12 (I mb 0),by simp [upd,vF],bJ (U xz) 12 _ rfl (by decide)⟩
   | 13,Z =>
    obtain rfl:=ya Z
    have xZ:f 12 = I mb 0:=X.c 12 (ye Q 12 rfl)
    clear Q X xo
    rw [if_pos (by rfl)];unfold Oper.wp;go_simp
    exact ⟨upd f 13 (I mb 3),by simp [upd,xZ],bJ (U xz) 13 _ rfl (by decide)⟩
   | 14,Z =>
    obtain rfl:=ya Z
    have kR:f 13 = I mb 3:=X.c 13 (ye Q 13 rfl)
    have qR:f 10 = .agg #[H (wgT t ts).gr,H (wgT t ts).ac,H (wgT t ts).rf,H (wgT t ts).tr,H (wgT t ts).vo,H (wgT t ts).no,H (wgT t ts).li,H (wgT t ts).le]:=X.c 10 (ye Q 10 rfl)
    have xT:=X.b xy
    have xF:=zg (U jI) xT jW
    obtain ⟨y0,z0,q0⟩:=bw xF (j:=0) (by omega)
    obtain ⟨y1,z1,q1⟩:=bw xF (j:=1) (by omega)
    obtain ⟨y2,z2,q2⟩:=bw xF (j:=2) (by omega)
    obtain ⟨y3,z3,q3⟩:=bw xF (j:=3) (by omega)
    obtain ⟨y4,z4,q4⟩:=bw xF (j:=4) (by omega)
    obtain ⟨y5,z5,q5⟩:=bw xF (j:=5) (by omega)
    obtain ⟨y6,z6,q6⟩:=bw xF (j:=6) (by omega)
    obtain ⟨y7,z7,q7⟩:=bw xF (j:=7) (by omega)
    clear xF
    clear Q X xo
    rw [if_pos (by rfl)];unfold Oper.wp;go_simp
    exact ⟨f,by simp [kR,qR],rd_14 (U xz) xy⟩
   | i + 15,Z=>simp at Z
 ·rintro x xm V i op ⟨f,rfl,X⟩ xo hx Z xy Q
  have xz:=Y X
  have n15:i < 15→x[15]? = some false:=fun xJ=>by
   rcases bU hx (show 15 < 16 by omega) with h | h
   ·exact h
   ·have jo:=yf xo 15 rfl h 14 rfl
    have jy:=yf xo 14 rfl jo 13 rfl
    have qF:=yf xo 13 rfl jy 12 rfl
    have uj:∀ j,j < 15→x[j]? = some true:=fun j K=>by
     by_cases hj10:j < 12
     ·exact xo 15 _ rfl h ⟨j,.phase⟩ (by rcases (by omega:j = 0 ∨ j = 1 ∨ j = 2 ∨ j = 3 ∨ j = 4 ∨ j = 5 ∨ j = 6 ∨ j = 7 ∨ j = 8 ∨ j = 9 ∨ j = 10 ∨ j = 11) with rfl | rfl | rfl | rfl | rfl | rfl | rfl | rfl | rfl | rfl | rfl | rfl <;> simp) rfl
     ·rcases (by omega:j = 12 ∨ j = 13 ∨ j = 14) with rfl | rfl | rfl <;> assumption
    rw [uj i xJ] at xy; cases xy
  have qB:i < 11→0 < i→x[11]? = some false:=fun xJ qu=>by
   rcases bU hx (show 11 < 16 by omega) with h | uX
   ·exact h
   ·have h5:=yf xo 11 rfl uX 5 rfl
    have vQ:=yf xo 11 rfl uX 10 rfl
    have h4:=yf xo 5 rfl h5 4 rfl
    have h9:=yf xo 10 rfl vQ 9 rfl
    have h3:=yf xo 4 rfl h4 3 rfl
    have h8:=yf xo 9 rfl h9 8 rfl
    have E:=yf xo 3 rfl h3 2 rfl
    have h7:=yf xo 8 rfl h8 7 rfl
    have G:=yf xo 2 rfl E 1 rfl
    have h6:=yf xo 7 rfl h7 6 rfl
    have uj:∀ j,0 < j→j < 11→x[j]? = some true:=fun j jj K=>by
     rcases (by omega:j = 1 ∨ j = 2 ∨ j = 3 ∨ j = 4 ∨ j = 5 ∨ j = 6 ∨ j = 7 ∨ j = 8 ∨ j = 9 ∨ j = 10) with rfl | rfl | rfl | rfl | rfl | rfl | rfl | rfl | rfl | rfl <;> assumption
    rw [uj i qu xJ] at xy; cases xy
  match i,Z with
  | 0,Z =>
   obtain rfl:=ya Z
   clear Q X xo
   rw [if_pos (by rfl)];unfold Oper.wp;go_simp
   exact ⟨upd f 0 (I mb 0),by simp [upd],bO (U xz) 0 _ rfl (by decide) (by decide) (by decide)⟩
  | 1,Z =>
   obtain rfl:=ya Z
   clear Q X xo
   rw [if_pos (by rfl)];unfold Oper.wp;go_simp
   exact ⟨upd f 1 (I mb 0),by simp [upd],bO (U xz) 1 _ rfl (by decide) (by decide) (by decide)⟩
  | 2,Z =>
   obtain rfl:=ya Z
   have g1:f 1 = I mb 0:=X.c 1 (ye Q 1 rfl)
   clear Q X xo
   rw [if_pos (by rfl)];unfold Oper.wp;go_simp
   exact ⟨upd f 2 (I mb 0),by simp [upd,g1],bO (U xz) 2 _ rfl (by decide) (by decide) (by decide)⟩
  | 3,Z =>
   obtain rfl:=ya Z
   have g2:f 2 = I mb 0:=X.c 2 (ye Q 2 rfl)
   clear Q X xo
   rw [if_pos (by rfl)];unfold Oper.wp;go_simp
   exact ⟨upd f 3 (I mb 0),by simp [upd,g2],bO (U xz) 3 _ rfl (by decide) (by decide) (by decide)⟩
  | 4,Z =>
   obtain rfl:=ya Z
   have g3:f 3 = I mb 0:=X.c 3 (ye Q 3 rfl)
   clear Q X xo
   rw [if_pos (by rfl)];unfold Oper.wp;go_simp
   exact ⟨upd f 4 (I mb 0),by simp [upd,g3],bO (U xz) 4 _ rfl (by decide) (by decide) (by decide)⟩
  | 5,Z =>
   obtain rfl:=ya Z
   have g4:f 4 = I mb 0:=X.c 4 (ye Q 4 rfl)
   have xT:=X.b (qB (by omega) (by omega))
   have y5:=(xT.cell (p:=(J mb 0)) qG).trans c0
   clear Q X xo
   rw [if_pos (by rfl)];unfold Oper.wp;go_simp
   exact ⟨upd f 5 (gv),by simp [upd,g4],bO (U xz) 5 _ rfl (by decide) (by decide) (by decide)⟩
  | 6,Z =>
   obtain rfl:=ya Z
   clear Q X xo
   rw [if_pos (by rfl)];unfold Oper.wp;go_simp
   exact ⟨upd f 6 (I mb 0),by simp [upd],bO (U xz) 6 _ rfl (by decide) (by decide) (by decide)⟩
  | 7,Z =>
   obtain rfl:=ya Z
   have g6:f 6 = I mb 0:=X.c 6 (ye Q 6 rfl)
   clear Q X xo
   rw [if_pos (by rfl)];unfold Oper.wp;go_simp
   exact ⟨upd f 7 (I mb 0),by simp [upd,g6],bO (U xz) 7 _ rfl (by decide) (by decide) (by decide)⟩
  | 8,Z =>
   obtain rfl:=ya Z
   have g7:f 7 = I mb 0:=X.c 7 (ye Q 7 rfl)
   clear Q X xo
   rw [if_pos (by rfl)];unfold Oper.wp;go_simp
   exact ⟨upd f 8 (I mb 11),by simp [upd,g7],bO (U xz) 8 _ rfl (by decide) (by decide) (by decide)⟩
  | 9,Z =>
   obtain rfl:=ya Z
   have g8:f 8 = I mb 11:=X.c 8 (ye Q 8 rfl)
   have xT:=X.b (qB (by omega) (by omega))
   have y9:=(xT.cell (p:=(J mb 11)) qG).trans c11
   clear Q X xo
   rw [if_pos (by rfl)];unfold Oper.wp;go_simp
   exact ⟨upd f 9 (.slice av ts.length cv),by simp [upd,g8],bO (U xz) 9 _ rfl (by decide) (by decide) (by decide)⟩
  | 10,Z =>
   obtain rfl:=ya Z
   have g9:f 9 = .slice av ts.length cv:=X.c 9 (ye Q 9 rfl)
   have uX:=qB (by omega) (by omega)
   clear Q X xo
   rw [if_pos (by rfl)];unfold Oper.wp;go_simp
   exact ⟨upd f 10 (.slice (some (yq V 0)) 1 1),by simp [upd,g9],rc_10 (U xz) uX (n15 (by omega))⟩
  | 11,Z =>
   obtain rfl:=ya Z
   have g5:f 5 = gv:=X.c 5 (ye Q 5 rfl)
   obtain ⟨s,qR,ol⟩:=X.m10 (ye Q 10 rfl) xy
   have xT:=X.b xy
   have vx:=n15 (by omega)
   have uU:GRow V B gv gs:=World.ownsRow.kept (row:=none) (U ph) (ba xT qt) (by cases gv.ownBlock <;> simp)
   clear Q X xo
   rw [if_pos (by rfl)]
   refine wp_append_own V (.tmp 7) (.tmp 12) 25 rfl B 38 i0 _ 1 24 Tryz.underlying25 uH uF uJ uQ rfl (by decide) gv gs.length gs g5 uU (J s 0) 1 1 [.slice av ts.length cv] qR rfl (fun j u hu=>by match j,hu with | 0,hu=>cases hu; rw [Addr.add_mid]; exact ol | j + 1,hu=>simp at hu) (by intro u hu; simp at hu; subst hu; exact hone) (by unfold maxLen; omega) (by omega) (by have:=xT.size; omega) ?_
   intro v' w' xN uk _
   exact ⟨upd f 11 v',rfl,rc_11 (U xz) xy vx (by show w'.ownsRow _ _ _ _ (gs ++ [Value.slice av ts.length cv]).length _; rw [yP]; exact xN) ((ba xT qt).trans uk)⟩
  | 12,Z =>
   obtain rfl:=ya Z
   have g0:f 0 = I mb 0:=X.c 0 (ye Q 0 rfl)
   clear Q X xo
   rw [if_pos (by rfl)];unfold Oper.wp;go_simp
   exact ⟨upd f 12 (I mb 0),by simp [upd,g0],bO (U xz) 12 _ rfl (by decide) (by decide) (by decide)⟩
  | 13,Z =>
   obtain rfl:=ya Z
   have xZ:f 12 = I mb 0:=X.c 12 (ye Q 12 rfl)
   clear Q X xo
   rw [if_pos (by rfl)];unfold Oper.wp;go_simp
   exact ⟨upd f 13 (I mb 0),by simp [upd,xZ],bO (U xz) 13 _ rfl (by decide) (by decide) (by decide)⟩
  | 14,Z =>
   obtain rfl:=ya Z
   have kR:f 13 = I mb 0:=X.c 13 (ye Q 13 rfl)
   clear Q X xo
   rw [if_pos (by rfl)];unfold Oper.wp;go_simp
   exact ⟨upd f 14 (I mb 0),by simp [upd,kR],bO (U xz) 14 _ rfl (by decide) (by decide) (by decide)⟩
  | 15,Z =>
   obtain rfl:=ya Z
   have kw:f 14 = I mb 0:=X.c 14 (ye Q 14 rfl)
   have pf:x[11]? = some true:=Q ⟨11,.data⟩ (by simp) rfl
   obtain ⟨hr11,hg11⟩:=X.m11 pf xy
   obtain ⟨ga,gc,vF⟩:=dQ hr11 (by simp)
   have y0:=hg11.cell c0 qL
   have q0:V.frozen? (J mb 0) = false:=(World.frozen?_of_block (a:=(J mb 0)) (hg11.block mb qG qL)).trans f0
   have jG:=Y hr11
   have kA:=Y hg11
   clear hr11 hg11
   clear Q X xo
   rw [if_pos (by rfl)];unfold Oper.wp;go_simp
   have h15r:=rc_15 (U xz) pf xy (U jG) (U kA)
   conv at h15r=>arg 10; rw [vF,yP]
   exact ⟨f,by simp [kw,vF],h15r⟩
  | i + 16,Z=>simp at Z
theorem dN {mb B Bo:Nat} {gv:Value} {gs:List Value} {gl:List (List Ev)} {next:Int} {vq:Value} {l:List Od} {t:Tot} {vo:Value} {ts:List Ev} (u:FrameMode) (w:World) (h:EnS mb B Bo w gv gs gl next vq l t vo ts) (hn:ts.length ≤ 1000) (hgn:gs.length ≤ 1000) :
  CallsD Tryz.prog 62 #[I mb 0] u w fun r u' w'=>u' = u∧r = ym (.tuple #[])∧(∃ qE,EnS mb B w'.heap.size w' qE (gs ++ [vo]) (gl ++ [ts]) next vq l (wgT t ts) (.slice none 0 0) [])∧KeptBut mb B w w':=by
 have oS:∀ j,j < 12→w.frozen? (J mb j) = false:=fun j K=>by have:=(h.there j K).2; rwa [Nat.zero_add] at this
 have heB:ERow w B vo ts:=⟨h.erow.1,by
  rcases h.erow.2 with G | ⟨g',c',xr,G,E,h3⟩
  ·exact .inl G
  ·exact .inr ⟨g',c',xr,G,yN h.bo E,h3⟩⟩
 have ht3:w.rangeAt mb 3 t.vs:=fun j u K=>by
  have:=h.cells (3 + j) u (by
   match j,K with
   | 0,K | 1,K | 2,K | 3,K | 4,K | 5,K | 6,K | 7,K=>exact K
   | j + 8,K=>simp [Tot.vs] at K)
  rwa [Nat.zero_add] at this
 have xF:w.there mb 3 8:=fun j K=>by
  have:=h.there (3 + j) (by omega)
  rwa [Nat.zero_add] at this
 refine (closeGroup_d mb B gv gs t vo ts u w (h.cells 0 _ rfl) (oS 0 (by omega)) ht3 xF (h.cells 11 _ rfl) (oS 11 (by omega)) h.box h.grow heB (yN h.bo h.le) hn hgn).mono ?_
 rintro r u' w' ⟨rfl,rfl,qE,V0,V1,pU,jL,xW,rfl⟩
 have qG:=h.lt
 have qL:some mb ≠ gv.ownBlock:=zl h.grow h.box (by decide)
 have hm0:mb < V0.heap.size:=yJ qG jL.size
 have hbox0:∃ xr,V0.heap[mb]? = some (.cells xr 71 (0,0)):=by
  obtain ⟨xr,hc⟩:=h.box
  exact ⟨xr,(jL.block mb qG qL).trans hc⟩
 -- what is kept by each of the steps
 have step:∀ {e sz n:Nat} {v:Value} {xs:List Value},V0.ownsRow B e sz v n xs→71 ≠ e→World.ownsRow ((V1.setCells mb 3 (wgT t ts).vs).setCell (J mb 11) (.slice none 0 0)) B e sz v n xs:=by
  intro e sz n v xs hv xB
  have ha:some mb ≠ v.ownBlock:=zl hv hbox0 xB
  have G:=zu hv ha 0 qE
  have E:V1.ownsRow B e sz v n xs:=World.ownsRow.kept (row:=none) G (ba xW (by simp [World.setCell])) (by cases v.ownBlock <;> simp)
  refine zu ?_ ha 11 _
  exact cP ha _ _ _ E
 have ja:V0.heap.size ≤ V1.heap.size:=by have:=xW.size; simpa [World.setCell] using this
 have hsw:w.heap.size ≤ V1.heap.size:=yN jL.size ja
 have hseq:((V1.setCells mb 3 (wgT t ts).vs).setCell (J mb 11) (.slice none 0 0)).heap.size = V1.heap.size:=by simp only [World.setCell,Array.size_modify]; exact cx _ _ _ _
 -- the cells of the block
 have hth1:V1.there mb 0 12:=zg (zE (bK h.there jL qG qL)) xW hm0
 have old:∀ j u,j ≠ 0→w.cell? (J mb j) = some u→V1.cell? (J mb j) = some u:=fun j u K hu =>
  (xW.cell (p:=(J mb j)) hm0).trans ((yL _ _ _ _ (zP (fun e=>K e.symm))).trans (jL.cell hu qL))
 have new0:V1.cell? (J mb 0) = some qE:=(xW.cell (p:=(J mb 0)) hm0).trans (yM _ _ _ (jL.cell (h.cells 0 _ rfl) qL))
 have out:∀ j u,j < 3→V1.cell? (J mb j) = some u→((V1.setCells mb 3 (wgT t ts).vs).setCell (J mb 11) (.slice none 0 0)).cell? (J mb j) = some u:=fun j u K hu =>
  (yL _ _ _ _ (zP (by omega))).trans ((World.cell?_setCells_out mb _ 3 V1 (J mb j) (fun _ _=>.inl K)).trans hu)
 have tot:∀ j u,(wgT t ts).vs[j]? = some u→((V1.setCells mb 3 (wgT t ts).vs).setCell (J mb 11) (.slice none 0 0)).cell? (J mb (3 + j)) = some u:=fun j u K=>by
  have hj8:j < 8:=by have:=(yG.1 K).1; simpa [Tot.vs] using this
  refine (yL _ _ _ _ (zP (by omega))).trans ?_
  exact yX V1 mb 3 _ (fun j K=>by
   have hj8:j < 8:=by simpa [Tot.vs] using K
   have:=hth1 (3 + j) (by omega)
   rwa [Nat.zero_add] at this) j u K
 refine ⟨rfl,rfl,⟨qE,?_,?_,step pU (by decide),by simp [h.glen],?_,?_,step (World.ownsRow.kept h.orow jL (zD h.orow h.grow (by decide))) (by decide),World.ownsRow_nil _ _ _ _,?_,?_,Nat.le_refl _⟩,?_⟩
 ·intro j u K
  rw [Nat.zero_add]
  match j,K with
  | 0,K=>cases K; exact out 0 _ (by omega) new0
  | 1,K=>cases K; exact out 1 _ (by omega) (old 1 _ (by omega) (h.cells 1 _ rfl))
  | 2,K=>cases K; exact out 2 _ (by omega) (old 2 _ (by omega) (h.cells 2 _ rfl))
  | 3,K=>exact tot 0 u K
  | 4,K=>exact tot 1 u K
  | 5,K=>exact tot 2 u K
  | 6,K=>exact tot 3 u K
  | 7,K=>exact tot 4 u K
  | 8,K=>exact tot 5 u K
  | 9,K=>exact tot 6 u K
  | 10,K=>exact tot 7 u K
  | 11,K =>
   cases K
   refine yM _ _ _ ((World.cell?_setCells_out mb _ 3 V1 (J mb 11) (fun _ _=>.inr (by simp [Tot.vs]))).trans (old 11 _ (by omega) (h.cells 11 _ rfl)))
  | j + 12,K=>simp at K
 ·exact zE (xb hth1 _ _ _)
 ·intro i g es hg vh
  by_cases hi:i < gs.length
  ·rw [List.getElem?_append_left hi] at hg
   rw [List.getElem?_append_left (by rw [← h.glen]; exact hi)] at vh
   exact step (World.ownsRow.kept (h.geach i g es hg vh) jL (zD (h.geach i g es hg vh) h.grow (by decide))) (by decide)
  ·have hil:i < gs.length + 1:=by have:=(yG.1 hg).1; rwa [yP] at this
   obtain rfl:i = gs.length:=by omega
   have oT:=h.glen
   rw [List.getElem?_append_right qt] at hg
   rw [List.getElem?_append_right (by omega)] at vh
   simp at hg
   rw [oT] at vh
   simp at vh
   subst hg vh
   exact step (World.ownsRow.kept heB jL (zD heB h.grow (by decide))) (by decide)
 ·refine ⟨fun g hg b F=>?_,List.pairwise_append.2 ⟨h.glt.2,List.pairwise_singleton _ _,fun g hg g' hg' b b' F jK=>?_⟩⟩
  ·rw [hseq]
   rcases List.mem_append.1 hg with G | G
   ·have:=h.glt.1 g G b F; have:=h.le; omega
   ·simp at G; subst G
    have:=(h.erow.lt b F).2; omega
  ·have G:=h.glt.1 g hg b F
   rw [List.mem_singleton.1 hg'] at jK
   have E:=(h.erow.lt b' jK).1
   omega
 ·obtain ⟨xr,hc⟩:=hbox0
  obtain ⟨cur1,kU⟩:=zO V0 mb 0 qE hc
  have hc2:V1.heap[mb]? = some (.cells cur1 71 (0,0)):=(xW.block mb hm0).trans kU
  obtain ⟨cur3,hc3⟩:=kind_setC V1 mb (wgT t ts).vs 3 hc2
  exact zO _ mb 11 _ hc3
 ·rw [hseq]; exact yN (yN h.bo h.le) hsw
 ·refine ⟨(set_os _ _ _).trans ((eu _ _ _ _).trans (xW.os.trans ((set_os _ _ _).trans jL.os))),(set_tape _ _ _).trans ((ei _ _ _ _).trans (xW.tape.trans ((set_tape _ _ _).trans jL.tape))),(set_output _ _ _).trans ((eh _ _ _ _).trans (xW.output.trans ((set_output _ _ _).trans jL.output))),by rw [hseq]; exact hsw,fun k hk hkm=>?_⟩
  have hkw:k < w.heap.size:=by have:=h.bo; have:=h.le; omega
  have hk0:k < V0.heap.size:=yJ hkw jL.size
  rw [yS _ _ _ _ hkm,dp mb k hkm,xW.block k hk0,yS _ _ _ _ hkm]
  exact jL.block k hkw (fun e=>by have:=(h.grow.lt k e.symm).1; omega)
def cutB (s:ByteArray):ByteArray:=if 12 < s.size then s.extract 0 13 else s
theorem cutB_one (s:ByteArray) (h:s.size = 13):cutB s = s:=by
 unfold cutB; rw [if_pos (by omega),← h]; exact ByteArray.extract_zero_size
theorem implCut_any (s:ByteArray) (w:World) (hs:s.size ≤ maxLen) :
  Calls Tryz.prog 64 #[yk s] w fun e w'=>e = .returned (yk (cutB s))∧w' = w:=by
 unfold maxLen at hs
 by_cases h:12 < s.size
 ·have HF:=Y (show cutB s = s.extract 0 13 from if_pos h)
  have h':(12:Int) < s.size:=by omega
  go_enter Tryz.func64,Tryz.ntmps64
  go_wp2
  go_ret
  exact ⟨by rw [U HF]; rfl,rfl⟩
 ·have HF:=Y (show cutB s = s from if_neg h)
  have h':(s.size:Int) ≤ 12:=by omega
  go_enter Tryz.func64,Tryz.ntmps64
  go_wp2
  go_ret
  exact ⟨by rw [U HF]; rfl,rfl⟩
end Go.Proofs.YtbakanofkghmiaaGreat
