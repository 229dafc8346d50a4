/-
  A group closed behind a command, as a deferred call: proved by walking the method.
-/
import Derived.Test.YtbakanofkghmiaaGreatQj24
import Derived.Defers
set_option linter.unusedVariables false
set_option maxHeartbeats 6400000
set_option maxRecDepth 100000
namespace Go.Proofs.YtbakanofkghmiaaGreat
open Go.RowKit
theorem closeGroup_d (mb B:Nat) (gv:Value) (gs:List Value) (t:Tot) (vo:Value) (ts:List Ev) (u:FrameMode) (w:World) (c0:w.cell? (J mb 0) = some gv) (f0:w.frozen? (J mb 0) = false) (ht:w.rangeAt mb 3 t.vs) (xF:w.there mb 3 8) (c11:w.cell? (J mb 11) = some vo) (f11:w.frozen? (J mb 11) = false) (jb:∃ xu,w.heap[mb]? = some (.cells xu 71 (0,0)))
  (uc:GRow w B gv gs) (jW:ERow w B vo ts) (hB:B ≤ w.heap.size) (hn:ts.length ≤ 1000) (hgn:gs.length ≤ 1000) :
  CallsD Tryz.prog 62 #[I mb 0] u w fun r u' w'=>u' = u∧r = ym (.tuple #[])∧∃ (qC:Value) (V0 V1:World),GRow V0 B qC (gs ++ [vo])∧w.grownBy V0 gv.ownBlock∧Below V0.heap.size (V0.setCell (J mb 0) qC) V1∧w' = (V1.setCells mb 3 (wgT t ts).vs).setCell (J mb 11) (.slice none 0 0):=by
 obtain ⟨i0,uG,uF,uI,uT⟩:=info_parts infoEvS
 have qJ:some mb ≠ gv.ownBlock:=zl uc jb (by decide)
 have qE:mb < w.heap.size:=yL w _ c0
 have hone:vo.oneCell' = true:=by
  rcases jW.2 with ⟨rfl,_⟩ | ⟨g,cp,xu,rfl,_⟩ <;> rfl
 obtain ⟨av,cv,rfl⟩:∃ av cv,vo = .slice av ts.length cv:=by
  rcases jW.2 with ⟨rfl,h0⟩ | ⟨g,cp,xu,rfl,_⟩
  ·exact ⟨none,0,by rw [h0]⟩
  ·exact ⟨_,_,rfl⟩
 have oV:=Y uc
 have jM:=Y jW
 have uA:=Y jb
 clear uc jW jb
 go_enter_d Tryz.func62,Tryz.ntmps62
 refine eI fun hR xv=>?_
 refine zj (RCA (fun f=>{ tmps:=#[I mb 0,M,f 0,f 1,f 2,f 3,f 4,f 5,f 6,f 7,f 8,f 9,f 10,f 11,f 12,f 13,f 14,M,M,M,M,M,M,M,M,M,M,M,M,M,M,M,M,M],defers:=[] }) (C0G mb gv (.slice av ts.length cv)) mb B gv (.slice av ts.length cv) gs w) (by kernel_rfl) ?_ ?_ ?_
 ·exact ⟨fun _=>M,rfl,⟨fun j R=>by rw [yJ] at R; split at R <;> simp at R,fun _=>⟨rfl,rfl,rfl,Nat.le_refl _,fun _ _=>rfl⟩,by simp,by simp,by simp⟩⟩
 ·rintro x xn V ⟨f,rfl,K⟩ hx xN
  have xq:=zS xN hx (acyc _ (by kernel_rfl))
  obtain ⟨V0,pP,jH,eV⟩:=K.m15 (xq 15 (by simp))
  refine U xv _ _ ?_
  clear xv
  dsimp only
  generalize f 11 = qC at pP eV ⊢
  generalize f 0 = u2,f 1 = u3,f 2 = u4,f 3 = u5,f 4 = u6,f 5 = u7,f 6 = u8,f 7 = u9,f 8 = u10,f 9 = u11,f 10 = u12,f 12 = u14,f 13 = u15,f 14 = u16
  clear K xq xN hx
  have HR0:=Y pP
  have HG0:=Y jH
  have hm0:mb < V0.heap.size:=yK qE jH.size
  have hT0:=zu ht jH qE qJ
  have hH0:=bH xF jH qE qJ
  have hc11:=jH.cell c11 qJ
  have hE0:ERow V0 B (.slice av ts.length cv) ts:=World.ownsRow.kept (U jM) jH (zD (U jM) (U oV) (by decide))
  obtain ⟨V1,qj⟩:∃ V1:World,V1 = V0.setCell (J mb 0) qC:=⟨_,rfl⟩
  have xC:V1.heap.size = V0.heap.size:=by rw [qj]; simp [World.setCell]
  have HT:Hid (V1.rangeAt mb 3 t.vs):=by
   rw [qj]
   exact fun j u R=>(yM _ _ _ _ (zQ (by omega))).trans (hT0 j u R)
  have jF:Hid (V1.there mb 3 8):=by rw [qj]; exact zE hH0
  have c11':V1.cell? (J mb 11) = some (.slice av ts.length cv):=by rw [qj]; exact (yM _ _ _ _ (zQ (by omega))).trans hc11
  have f11':V1.frozen? (J mb 11) = false:=by rw [qj,World.frozen?_setCell]; exact (World.frozen?_of_block (a:=(J mb 11)) (jH.block mb qE qJ)).trans f11
  have hE1:ERow V1 B (.slice av ts.length cv) ts:=by
   rw [qj]
   refine zv hE0 (zl (T:=71) hE0 ?_ (by decide)) 0 _
   obtain ⟨xu,hc⟩:=U uA
   exact ⟨xu,(jH.block mb qE qJ).trans hc⟩
  have HRO:Hid (RdR Ev.vs 14 V1 (.slice av ts.length cv) ts):=cE (bK Ev.len (by omega) hE1)
  have jY:mb < V1.heap.size:=by omega
  rw [eV,← qj]
  have HV1:=Y qj
  have c11:=c11'
  have f11:=f11'
  clear c11' f11' qj eV pP jH hT0 hH0 hc11 hE0 hE1 xC c0 f0 ht xF
  refine eI fun hR xv=>?_
  refine zj (RDA (fun f=>{ tmps:=#[I mb 0,M,u2,u3,u4,u5,u6,u7,u8,u9,u10,u11,u12,qC,u14,u15,u16,f 0,f 1,f 2,f 3,f 4,f 5,f 6,f 7,f 8,f 9,f 10,f 11,f 12,f 13,M,M,M],defers:=[] }) (C1G mb (.agg #[H t.gr,H t.ac,H t.rf,H t.tr,H t.vo,H t.no,H t.li,H t.le]) (.agg #[H (wgT t ts).gr,H (wgT t ts).ac,H (wgT t ts).rf,H (wgT t ts).tr,H (wgT t ts).vo,H (wgT t ts).no,H (wgT t ts).li,H (wgT t ts).le]) (.slice av ts.length cv)) mb (wgT t ts).vs V1) (by kernel_rfl) ?_ ?_ ?_
  ·exact ⟨fun _=>M,rfl,⟨fun j R=>by rw [yJ] at R; split at R <;> simp at R,fun _=>⟨rfl,rfl,rfl,Nat.le_refl _,fun _ _=>rfl⟩,by simp⟩⟩
  ·rintro x xn V ⟨f,rfl,K⟩ hx xN
   have xq:=zS xN hx (acyc _ (by kernel_rfl))
   obtain ⟨V2,xX,eV⟩:=K.m (xq 14 (by simp))
   refine U xv _ _ ?_
   clear xv
   dsimp only
   generalize f 0 = v0,f 1 = v1,f 2 = v2,f 3 = v3,f 4 = v4,f 5 = v5,f 6 = v6,f 7 = v7,f 8 = v8,f 9 = v9,f 10 = v10,f 11 = v11,f 12 = v12,f 13 = v13
   clear K xq xN hx
   have xE:=Y xX
   have HE:Hid (V = V2.setCells mb 3 (wgT t ts).vs):=eV
   have y11:V.cell? (J mb 11) = some (.slice av ts.length cv):=by
    rw [eV]
    refine (World.cell?_setCells_out mb _ 3 V2 (J mb 11) (fun _ _=>.inr (by simp [Tot.vs]))).trans ?_
    exact (xX.cell (p:=(J mb 11)) jY).trans c11
   have q11:V.frozen? (J mb 11) = false:=by
    rw [eV,ed]
    exact (World.frozen?_of_block (a:=(J mb 11)) (xX.block mb jY)).trans f11
   clear eV xX c11 f11
   go_wp2_with fail
   go_end0
   refine ⟨rfl,qC,V0,V2,U HR0,U HG0,?_,by rw [U HE]⟩
   rw [← U HV1]
   exact (U xE).mono (by rw [U HV1]; simp [World.setCell])
  ·rintro x xn V i op ⟨f,rfl,K⟩ xp hx Z xz D
   have xA:=Y K
   have n14:i < 14→x[14]? = some false:=fun xL=>by
    rcases bQ hx (show 14 < 15 by omega) with h | h
    ·exact h
    ·have jt:=yf xp 14 rfl h 13 rfl
     have qD:=yf xp 13 rfl jt 12 rfl
     have uZ:=yf xp 12 rfl qD 11 rfl
     have ul:∀ j,j < 14→x[j]? = some true:=fun j R=>by
      by_cases hj10:j < 11
      ·exact xp 14 _ rfl h ⟨j,.phase⟩ (by rcases (by omega:j = 0 ∨ j = 1 ∨ j = 2 ∨ j = 3 ∨ j = 4 ∨ j = 5 ∨ j = 6 ∨ j = 7 ∨ j = 8 ∨ j = 9 ∨ j = 10) with rfl | rfl | rfl | rfl | rfl | rfl | rfl | rfl | rfl | rfl | rfl <;> simp) rfl
      ·rcases (by omega:j = 11 ∨ j = 12 ∨ j = 13) with rfl | rfl | rfl <;> assumption
     rw [ul i xL] at xz; cases xz
   match i,Z with
   | 0,Z =>
    obtain rfl:=ya Z
    clear D K xp
    rw [if_pos (by rfl)];unfold Oper.wp;go_simp
    exact ⟨upd f 0 (I mb 0),by simp [upd],bG (U xA) 0 _ rfl (by decide)⟩
   | 1,Z =>
    obtain rfl:=ya Z
    clear D K xp
    rw [if_pos (by rfl)];unfold Oper.wp;go_simp
    exact ⟨upd f 1 (I mb 0),by simp [upd],bG (U xA) 1 _ rfl (by decide)⟩
   | 2,Z =>
    obtain rfl:=ya Z
    have g1:f 1 = I mb 0:=K.c 1 (ye D 1 rfl)
    clear D K xp
    rw [if_pos (by rfl)];unfold Oper.wp;go_simp
    exact ⟨upd f 2 (I mb 0),by simp [upd,g1],bG (U xA) 2 _ rfl (by decide)⟩
   | 3,Z =>
    obtain rfl:=ya Z
    have g2:f 2 = I mb 0:=K.c 2 (ye D 2 rfl)
    clear D K xp
    rw [if_pos (by rfl)];unfold Oper.wp;go_simp
    exact ⟨upd f 3 (I mb 0),by simp [upd,g2],bG (U xA) 3 _ rfl (by decide)⟩
   | 4,Z =>
    obtain rfl:=ya Z
    have g3:f 3 = I mb 0:=K.c 3 (ye D 3 rfl)
    clear D K xp
    rw [if_pos (by rfl)];unfold Oper.wp;go_simp
    exact ⟨upd f 4 (I mb 3),by simp [upd,g3],bG (U xA) 4 _ rfl (by decide)⟩
   | 5,Z =>
    obtain rfl:=ya Z
    have g4:f 4 = I mb 3:=K.c 4 (ye D 4 rfl)
    have xT:=K.b (n14 (by omega))
    have y0:=zb (U HT) xT jY 0 _ rfl
    have y1:=zb (U HT) xT jY 1 _ rfl
    have y2:=zb (U HT) xT jY 2 _ rfl
    have y3:=zb (U HT) xT jY 3 _ rfl
    have y4:=zb (U HT) xT jY 4 _ rfl
    have y5:=zb (U HT) xT jY 5 _ rfl
    have y6:=zb (U HT) xT jY 6 _ rfl
    have y7:=zb (U HT) xT jY 7 _ rfl
    skip
    clear D K xp
    rw [if_pos (by rfl)];unfold Oper.wp;go_simp
    exact ⟨upd f 5 (.agg #[H t.gr,H t.ac,H t.rf,H t.tr,H t.vo,H t.no,H t.li,H t.le]),by simp [upd,g4],bG (U xA) 5 _ rfl (by decide)⟩
   | 6,Z =>
    obtain rfl:=ya Z
    clear D K xp
    rw [if_pos (by rfl)];unfold Oper.wp;go_simp
    exact ⟨upd f 6 (I mb 0),by simp [upd],bG (U xA) 6 _ rfl (by decide)⟩
   | 7,Z =>
    obtain rfl:=ya Z
    have g6:f 6 = I mb 0:=K.c 6 (ye D 6 rfl)
    clear D K xp
    rw [if_pos (by rfl)];unfold Oper.wp;go_simp
    exact ⟨upd f 7 (I mb 0),by simp [upd,g6],bG (U xA) 7 _ rfl (by decide)⟩
   | 8,Z =>
    obtain rfl:=ya Z
    have g7:f 7 = I mb 0:=K.c 7 (ye D 7 rfl)
    clear D K xp
    rw [if_pos (by rfl)];unfold Oper.wp;go_simp
    exact ⟨upd f 8 (I mb 11),by simp [upd,g7],bG (U xA) 8 _ rfl (by decide)⟩
   | 9,Z =>
    obtain rfl:=ya Z
    have g8:f 8 = I mb 11:=K.c 8 (ye D 8 rfl)
    have xT:=K.b (n14 (by omega))
    have y11:=(xT.cell (p:=(J mb 11)) jY).trans c11
    clear D K xp
    rw [if_pos (by rfl)];unfold Oper.wp;go_simp
    exact ⟨upd f 9 (.slice av ts.length cv),by simp [upd,g8],bG (U xA) 9 _ rfl (by decide)⟩
   | 10,Z =>
    obtain rfl:=ya Z
    have g5:f 5 = .agg #[H t.gr,H t.ac,H t.rf,H t.tr,H t.vo,H t.no,H t.li,H t.le]:=K.c 5 (ye D 5 rfl)
    have g9:f 9 = .slice av ts.length cv:=K.c 9 (ye D 9 rfl)
    have jm:=n14 (by omega)
    have xT:=K.b jm
    have vJ:=Y (zn (U HRO) xT tg)
    clear D K xp
    rw [if_pos (by rfl)];unfold Oper.wp;go_simp
    refine (withGroup_any t (.slice av ts.length cv) ts V (U vJ)).mono ?_
    rintro e w4 ⟨rfl,xD⟩
    exact ⟨upd f 10 (.agg #[H (wgT t ts).gr,H (wgT t ts).ac,H (wgT t ts).rf,H (wgT t ts).tr,H (wgT t ts).vo,H (wgT t ts).no,H (wgT t ts).li,H (wgT t ts).le]),by simp [upd,g5,g9],bG (rd_grow (U xA) jm xD) 10 _ rfl (by decide)⟩
   | 11,Z =>
    obtain rfl:=ya Z
    have g0:f 0 = I mb 0:=K.c 0 (ye D 0 rfl)
    clear D K xp
    rw [if_pos (by rfl)];unfold Oper.wp;go_simp
    exact ⟨upd f 11 (I mb 0),by simp [upd,g0],bG (U xA) 11 _ rfl (by decide)⟩
   | 12,Z =>
    obtain rfl:=ya Z
    have vw:f 11 = I mb 0:=K.c 11 (ye D 11 rfl)
    clear D K xp
    rw [if_pos (by rfl)];unfold Oper.wp;go_simp
    exact ⟨upd f 12 (I mb 0),by simp [upd,vw],bG (U xA) 12 _ rfl (by decide)⟩
   | 13,Z =>
    obtain rfl:=ya Z
    have xZ:f 12 = I mb 0:=K.c 12 (ye D 12 rfl)
    clear D K xp
    rw [if_pos (by rfl)];unfold Oper.wp;go_simp
    exact ⟨upd f 13 (I mb 3),by simp [upd,xZ],bG (U xA) 13 _ rfl (by decide)⟩
   | 14,Z =>
    obtain rfl:=ya Z
    have jV:f 13 = I mb 3:=K.c 13 (ye D 13 rfl)
    have qx:f 10 = .agg #[H (wgT t ts).gr,H (wgT t ts).ac,H (wgT t ts).rf,H (wgT t ts).tr,H (wgT t ts).vo,H (wgT t ts).no,H (wgT t ts).li,H (wgT t ts).le]:=K.c 10 (ye D 10 rfl)
    have xT:=K.b xz
    have xF:=zg (U jF) xT jY
    obtain ⟨y0,z0,q0⟩:=bm xF (j:=0) (by omega)
    obtain ⟨y1,z1,q1⟩:=bm xF (j:=1) (by omega)
    obtain ⟨y2,z2,q2⟩:=bm xF (j:=2) (by omega)
    obtain ⟨y3,z3,q3⟩:=bm xF (j:=3) (by omega)
    obtain ⟨y4,z4,q4⟩:=bm xF (j:=4) (by omega)
    obtain ⟨y5,z5,q5⟩:=bm xF (j:=5) (by omega)
    obtain ⟨y6,z6,q6⟩:=bm xF (j:=6) (by omega)
    obtain ⟨y7,z7,q7⟩:=bm xF (j:=7) (by omega)
    clear xF
    clear D K xp
    rw [if_pos (by rfl)];unfold Oper.wp;go_simp
    exact ⟨f,by simp [jV,qx],rd_14 (U xA) xz⟩
   | i + 15,Z=>simp at Z
 ·rintro x xn V i op ⟨f,rfl,K⟩ xp hx Z xz D
  have xA:=Y K
  have n15:i < 15→x[15]? = some false:=fun xL=>by
   rcases bQ hx (show 15 < 16 by omega) with h | h
   ·exact h
   ·have jm:=yf xp 15 rfl h 14 rfl
    have jt:=yf xp 14 rfl jm 13 rfl
    have qD:=yf xp 13 rfl jt 12 rfl
    have ul:∀ j,j < 15→x[j]? = some true:=fun j R=>by
     by_cases hj10:j < 12
     ·exact xp 15 _ rfl h ⟨j,.phase⟩ (by rcases (by omega:j = 0 ∨ j = 1 ∨ j = 2 ∨ j = 3 ∨ j = 4 ∨ j = 5 ∨ j = 6 ∨ j = 7 ∨ j = 8 ∨ j = 9 ∨ j = 10 ∨ j = 11) with rfl | rfl | rfl | rfl | rfl | rfl | rfl | rfl | rfl | rfl | rfl | rfl <;> simp) rfl
     ·rcases (by omega:j = 12 ∨ j = 13 ∨ j = 14) with rfl | rfl | rfl <;> assumption
    rw [ul i xL] at xz; cases xz
  have qy:i < 11→0 < i→x[11]? = some false:=fun xL jz=>by
   rcases bQ hx (show 11 < 16 by omega) with h | uZ
   ·exact h
   ·have h5:=yf xp 11 rfl uZ 5 rfl
    have vQ:=yf xp 11 rfl uZ 10 rfl
    have h4:=yf xp 5 rfl h5 4 rfl
    have h9:=yf xp 10 rfl vQ 9 rfl
    have h3:=yf xp 4 rfl h4 3 rfl
    have h8:=yf xp 9 rfl h9 8 rfl
    have N:=yf xp 3 rfl h3 2 rfl
    have h7:=yf xp 8 rfl h8 7 rfl
    have Q:=yf xp 2 rfl N 1 rfl
    have h6:=yf xp 7 rfl h7 6 rfl
    have ul:∀ j,0 < j→j < 11→x[j]? = some true:=fun j jg R=>by
     rcases (by omega:j = 1 ∨ j = 2 ∨ j = 3 ∨ j = 4 ∨ j = 5 ∨ j = 6 ∨ j = 7 ∨ j = 8 ∨ j = 9 ∨ j = 10) with rfl | rfl | rfl | rfl | rfl | rfl | rfl | rfl | rfl | rfl <;> assumption
    rw [ul i jz xL] at xz; cases xz
  match i,Z with
  | 0,Z =>
   obtain rfl:=ya Z
   clear D K xp
   rw [if_pos (by rfl)];unfold Oper.wp;go_simp
   exact ⟨upd f 0 (I mb 0),by simp [upd],bL (U xA) 0 _ rfl (by decide) (by decide) (by decide)⟩
  | 1,Z =>
   obtain rfl:=ya Z
   clear D K xp
   rw [if_pos (by rfl)];unfold Oper.wp;go_simp
   exact ⟨upd f 1 (I mb 0),by simp [upd],bL (U xA) 1 _ rfl (by decide) (by decide) (by decide)⟩
  | 2,Z =>
   obtain rfl:=ya Z
   have g1:f 1 = I mb 0:=K.c 1 (ye D 1 rfl)
   clear D K xp
   rw [if_pos (by rfl)];unfold Oper.wp;go_simp
   exact ⟨upd f 2 (I mb 0),by simp [upd,g1],bL (U xA) 2 _ rfl (by decide) (by decide) (by decide)⟩
  | 3,Z =>
   obtain rfl:=ya Z
   have g2:f 2 = I mb 0:=K.c 2 (ye D 2 rfl)
   clear D K xp
   rw [if_pos (by rfl)];unfold Oper.wp;go_simp
   exact ⟨upd f 3 (I mb 0),by simp [upd,g2],bL (U xA) 3 _ rfl (by decide) (by decide) (by decide)⟩
  | 4,Z =>
   obtain rfl:=ya Z
   have g3:f 3 = I mb 0:=K.c 3 (ye D 3 rfl)
   clear D K xp
   rw [if_pos (by rfl)];unfold Oper.wp;go_simp
   exact ⟨upd f 4 (I mb 0),by simp [upd,g3],bL (U xA) 4 _ rfl (by decide) (by decide) (by decide)⟩
  | 5,Z =>
   obtain rfl:=ya Z
   have g4:f 4 = I mb 0:=K.c 4 (ye D 4 rfl)
   have xT:=K.b (qy (by omega) (by omega))
   have y5:=(xT.cell (p:=(J mb 0)) qE).trans c0
   clear D K xp
   rw [if_pos (by rfl)];unfold Oper.wp;go_simp
   exact ⟨upd f 5 (gv),by simp [upd,g4],bL (U xA) 5 _ rfl (by decide) (by decide) (by decide)⟩
  | 6,Z =>
   obtain rfl:=ya Z
   clear D K xp
   rw [if_pos (by rfl)];unfold Oper.wp;go_simp
   exact ⟨upd f 6 (I mb 0),by simp [upd],bL (U xA) 6 _ rfl (by decide) (by decide) (by decide)⟩
  | 7,Z =>
   obtain rfl:=ya Z
   have g6:f 6 = I mb 0:=K.c 6 (ye D 6 rfl)
   clear D K xp
   rw [if_pos (by rfl)];unfold Oper.wp;go_simp
   exact ⟨upd f 7 (I mb 0),by simp [upd,g6],bL (U xA) 7 _ rfl (by decide) (by decide) (by decide)⟩
  | 8,Z =>
   obtain rfl:=ya Z
   have g7:f 7 = I mb 0:=K.c 7 (ye D 7 rfl)
   clear D K xp
   rw [if_pos (by rfl)];unfold Oper.wp;go_simp
   exact ⟨upd f 8 (I mb 11),by simp [upd,g7],bL (U xA) 8 _ rfl (by decide) (by decide) (by decide)⟩
  | 9,Z =>
   obtain rfl:=ya Z
   have g8:f 8 = I mb 11:=K.c 8 (ye D 8 rfl)
   have xT:=K.b (qy (by omega) (by omega))
   have y9:=(xT.cell (p:=(J mb 11)) qE).trans c11
   clear D K xp
   rw [if_pos (by rfl)];unfold Oper.wp;go_simp
   exact ⟨upd f 9 (.slice av ts.length cv),by simp [upd,g8],bL (U xA) 9 _ rfl (by decide) (by decide) (by decide)⟩
  | 10,Z =>
   obtain rfl:=ya Z
   have g9:f 9 = .slice av ts.length cv:=K.c 9 (ye D 9 rfl)
   have uZ:=qy (by omega) (by omega)
   clear D K xp
   rw [if_pos (by rfl)];unfold Oper.wp;go_simp
   exact ⟨upd f 10 (.slice (some (yq V 0)) 1 1),by simp [upd,g9],rc_10 (U xA) uZ (n15 (by omega))⟩
  | 11,Z =>
   obtain rfl:=ya Z
   have g5:f 5 = gv:=K.c 5 (ye D 5 rfl)
   obtain ⟨s,qx,ow⟩:=K.m10 (ye D 10 rfl) xz
   have xT:=K.b xz
   have vx:=n15 (by omega)
   have uX:GRow V B gv gs:=World.ownsRow.kept (row:=none) (U oV) (aW xT tg) (by cases gv.ownBlock <;> simp)
   clear D K xp
   rw [if_pos (by rfl)]
   refine wp_append_own V (.tmp 7) (.tmp 12) 25 rfl B 38 i0 _ 1 24 Tryz.underlying25 uG uF uI uT rfl (by decide) gv gs.length gs g5 uX (J s 0) 1 1 [.slice av ts.length cv] qx rfl (fun j u hu=>by match j,hu with | 0,hu=>cases hu; rw [Addr.add_mid]; exact ow | j + 1,hu=>simp at hu) (by intro u hu; simp at hu; subst hu; exact hone) (by unfold maxLen; omega) (by omega) (by have:=xT.size; omega) ?_
   intro v' w' xI uc _
   exact ⟨upd f 11 v',rfl,rc_11 (U xA) xz vx (by show w'.ownsRow _ _ _ _ (gs ++ [Value.slice av ts.length cv]).length _; rw [yQ]; exact xI) ((aW xT tg).trans uc)⟩
  | 12,Z =>
   obtain rfl:=ya Z
   have g0:f 0 = I mb 0:=K.c 0 (ye D 0 rfl)
   clear D K xp
   rw [if_pos (by rfl)];unfold Oper.wp;go_simp
   exact ⟨upd f 12 (I mb 0),by simp [upd,g0],bL (U xA) 12 _ rfl (by decide) (by decide) (by decide)⟩
  | 13,Z =>
   obtain rfl:=ya Z
   have xZ:f 12 = I mb 0:=K.c 12 (ye D 12 rfl)
   clear D K xp
   rw [if_pos (by rfl)];unfold Oper.wp;go_simp
   exact ⟨upd f 13 (I mb 0),by simp [upd,xZ],bL (U xA) 13 _ rfl (by decide) (by decide) (by decide)⟩
  | 14,Z =>
   obtain rfl:=ya Z
   have jV:f 13 = I mb 0:=K.c 13 (ye D 13 rfl)
   clear D K xp
   rw [if_pos (by rfl)];unfold Oper.wp;go_simp
   exact ⟨upd f 14 (I mb 0),by simp [upd,jV],bL (U xA) 14 _ rfl (by decide) (by decide) (by decide)⟩
  | 15,Z =>
   obtain rfl:=ya Z
   have ku:f 14 = I mb 0:=K.c 14 (ye D 14 rfl)
   have oT:x[11]? = some true:=D ⟨11,.data⟩ (by simp) rfl
   obtain ⟨hr11,hg11⟩:=K.m11 oT xz
   obtain ⟨ga,gc,vw⟩:=dM hr11 (by simp)
   have y0:=hg11.cell c0 qJ
   have q0:V.frozen? (J mb 0) = false:=(World.frozen?_of_block (a:=(J mb 0)) (hg11.block mb qE qJ)).trans f0
   have jD:=Y hr11
   have kB:=Y hg11
   clear hr11 hg11
   clear D K xp
   rw [if_pos (by rfl)];unfold Oper.wp;go_simp
   have h15r:=rc_15 (U xA) oT xz (U jD) (U kB)
   conv at h15r=>arg 10; rw [vw,yQ]
   exact ⟨f,by simp [ku,vw],h15r⟩
  | i + 16,Z=>simp at Z
theorem dK {mb B Bo:Nat} {gv:Value} {gs:List Value} {gl:List (List Ev)} {next:Int} {vq:Value} {l:List Od} {t:Tot} {vo:Value} {ts:List Ev} (u:FrameMode) (w:World) (h:EnS mb B Bo w gv gs gl next vq l t vo ts) (hn:ts.length ≤ 1000) (hgn:gs.length ≤ 1000) :
  CallsD Tryz.prog 62 #[I mb 0] u w fun r u' w'=>u' = u∧r = ym (.tuple #[])∧(∃ qC,EnS mb B w'.heap.size w' qC (gs ++ [vo]) (gl ++ [ts]) next vq l (wgT t ts) (.slice none 0 0) [])∧KeptBut mb B w w':=by
 have oN:∀ j,j < 12→w.frozen? (J mb j) = false:=fun j R=>by have:=(h.there j R).2; rwa [Nat.zero_add] at this
 have heB:ERow w B vo ts:=⟨h.erow.1,by
  rcases h.erow.2 with Q | ⟨g',c',xu,Q,N,h3⟩
  ·exact .inl Q
  ·exact .inr ⟨g',c',xu,Q,yO h.bo N,h3⟩⟩
 have ht3:w.rangeAt mb 3 t.vs:=fun j u R=>by
  have:=h.cells (3 + j) u (by
   match j,R with
   | 0,R | 1,R | 2,R | 3,R | 4,R | 5,R | 6,R | 7,R=>exact R
   | j + 8,R=>simp [Tot.vs] at R)
  rwa [Nat.zero_add] at this
 have xF:w.there mb 3 8:=fun j R=>by
  have:=h.there (3 + j) (by omega)
  rwa [Nat.zero_add] at this
 refine (closeGroup_d mb B gv gs t vo ts u w (h.cells 0 _ rfl) (oN 0 (by omega)) ht3 xF (h.cells 11 _ rfl) (oN 11 (by omega)) h.box h.grow heB (yO h.bo h.le) hn hgn).mono ?_
 rintro r u' w' ⟨rfl,rfl,qC,V0,V1,pP,jH,xV,rfl⟩
 have qE:=h.lt
 have qJ:some mb ≠ gv.ownBlock:=zl h.grow h.box (by decide)
 have hm0:mb < V0.heap.size:=yK qE jH.size
 have hbox0:∃ xu,V0.heap[mb]? = some (.cells xu 71 (0,0)):=by
  obtain ⟨xu,hc⟩:=h.box
  exact ⟨xu,(jH.block mb qE qJ).trans hc⟩
 -- what is kept by each of the steps
 have step:∀ {e sz n:Nat} {v:Value} {xs:List Value},V0.ownsRow B e sz v n xs→71 ≠ e→World.ownsRow ((V1.setCells mb 3 (wgT t ts).vs).setCell (J mb 11) (.slice none 0 0)) B e sz v n xs:=by
  intro e sz n v xs hv xB
  have ha:some mb ≠ v.ownBlock:=zl hv hbox0 xB
  have Q:=zv hv ha 0 qC
  have N:V1.ownsRow B e sz v n xs:=World.ownsRow.kept (row:=none) Q (aW xV (by simp [World.setCell])) (by cases v.ownBlock <;> simp)
  refine zv ?_ ha 11 _
  exact cH ha _ _ _ N
 have qW:V0.heap.size ≤ V1.heap.size:=by have:=xV.size; simpa [World.setCell] using this
 have hsw:w.heap.size ≤ V1.heap.size:=yO jH.size qW
 have hseq:((V1.setCells mb 3 (wgT t ts).vs).setCell (J mb 11) (.slice none 0 0)).heap.size = V1.heap.size:=by simp only [World.setCell,Array.size_modify]; exact bZ _ _ _ _
 -- the cells of the block
 have hth1:V1.there mb 0 12:=zg (zE (bH h.there jH qE qJ)) xV hm0
 have old:∀ j u,j ≠ 0→w.cell? (J mb j) = some u→V1.cell? (J mb j) = some u:=fun j u R hu =>
  (xV.cell (p:=(J mb j)) hm0).trans ((yM _ _ _ _ (zQ (fun e=>R e.symm))).trans (jH.cell hu qJ))
 have new0:V1.cell? (J mb 0) = some qC:=(xV.cell (p:=(J mb 0)) hm0).trans (yN _ _ _ (jH.cell (h.cells 0 _ rfl) qJ))
 have out:∀ j u,j < 3→V1.cell? (J mb j) = some u→((V1.setCells mb 3 (wgT t ts).vs).setCell (J mb 11) (.slice none 0 0)).cell? (J mb j) = some u:=fun j u R hu =>
  (yM _ _ _ _ (zQ (by omega))).trans ((World.cell?_setCells_out mb _ 3 V1 (J mb j) (fun _ _=>.inl R)).trans hu)
 have tot:∀ j u,(wgT t ts).vs[j]? = some u→((V1.setCells mb 3 (wgT t ts).vs).setCell (J mb 11) (.slice none 0 0)).cell? (J mb (3 + j)) = some u:=fun j u R=>by
  have hj8:j < 8:=by have:=(yH.1 R).1; simpa [Tot.vs] using this
  refine (yM _ _ _ _ (zQ (by omega))).trans ?_
  exact yY V1 mb 3 _ (fun j R=>by
   have hj8:j < 8:=by simpa [Tot.vs] using R
   have:=hth1 (3 + j) (by omega)
   rwa [Nat.zero_add] at this) j u R
 refine ⟨rfl,rfl,⟨qC,?_,?_,step pP (by decide),by simp [h.glen],?_,?_,step (World.ownsRow.kept h.orow jH (zD h.orow h.grow (by decide))) (by decide),World.ownsRow_nil _ _ _ _,?_,?_,Nat.le_refl _⟩,?_⟩
 ·intro j u R
  rw [Nat.zero_add]
  match j,R with
  | 0,R=>cases R; exact out 0 _ (by omega) new0
  | 1,R=>cases R; exact out 1 _ (by omega) (old 1 _ (by omega) (h.cells 1 _ rfl))
  | 2,R=>cases R; exact out 2 _ (by omega) (old 2 _ (by omega) (h.cells 2 _ rfl))
  | 3,R=>exact tot 0 u R
  | 4,R=>exact tot 1 u R
  | 5,R=>exact tot 2 u R
  | 6,R=>exact tot 3 u R
  | 7,R=>exact tot 4 u R
  | 8,R=>exact tot 5 u R
  | 9,R=>exact tot 6 u R
  | 10,R=>exact tot 7 u R
  | 11,R =>
   cases R
   refine yN _ _ _ ((World.cell?_setCells_out mb _ 3 V1 (J mb 11) (fun _ _=>.inr (by simp [Tot.vs]))).trans (old 11 _ (by omega) (h.cells 11 _ rfl)))
  | j + 12,R=>simp at R
 ·exact zE (xc hth1 _ _ _)
 ·intro i g es hg uS
  by_cases hi:i < gs.length
  ·rw [List.getElem?_append_left hi] at hg
   rw [List.getElem?_append_left (by rw [← h.glen]; exact hi)] at uS
   exact step (World.ownsRow.kept (h.geach i g es hg uS) jH (zD (h.geach i g es hg uS) h.grow (by decide))) (by decide)
  ·have hil:i < gs.length + 1:=by have:=(yH.1 hg).1; rwa [yQ] at this
   obtain rfl:i = gs.length:=by omega
   have jX:=h.glen
   rw [List.getElem?_append_right tg] at hg
   rw [List.getElem?_append_right (by omega)] at uS
   simp at hg
   rw [jX] at uS
   simp at uS
   subst hg uS
   exact step (World.ownsRow.kept heB jH (zD heB h.grow (by decide))) (by decide)
 ·refine ⟨fun g hg b X=>?_,List.pairwise_append.2 ⟨h.glt.2,List.pairwise_singleton _ _,fun g hg g' hg' b b' X kw=>?_⟩⟩
  ·rw [hseq]
   rcases List.mem_append.1 hg with Q | Q
   ·have:=h.glt.1 g Q b X; have:=h.le; omega
   ·simp at Q; subst Q
    have:=(h.erow.lt b X).2; omega
  ·have Q:=h.glt.1 g hg b X
   rw [List.mem_singleton.1 hg'] at kw
   have N:=(h.erow.lt b' kw).1
   omega
 ·obtain ⟨xu,hc⟩:=hbox0
  obtain ⟨cur1,kW⟩:=zO V0 mb 0 qC hc
  have hc2:V1.heap[mb]? = some (.cells cur1 71 (0,0)):=(xV.block mb hm0).trans kW
  obtain ⟨cur3,hc3⟩:=kind_setC V1 mb (wgT t ts).vs 3 hc2
  exact zO _ mb 11 _ hc3
 ·rw [hseq]; exact yO (yO h.bo h.le) hsw
 ·refine ⟨(set_os _ _ _).trans ((eu _ _ _ _).trans (xV.os.trans ((set_os _ _ _).trans jH.os))),(set_tape _ _ _).trans ((eh _ _ _ _).trans (xV.tape.trans ((set_tape _ _ _).trans jH.tape))),(set_output _ _ _).trans ((ef _ _ _ _).trans (xV.output.trans ((set_output _ _ _).trans jH.output))),by rw [hseq]; exact hsw,fun k hk hkm=>?_⟩
  have hkw:k < w.heap.size:=by have:=h.bo; have:=h.le; omega
  have hk0:k < V0.heap.size:=yK hkw jH.size
  rw [yT _ _ _ _ hkm,di mb k hkm,xV.block k hk0,yT _ _ _ _ hkm]
  exact jH.block k hkw (fun e=>by have:=(h.grow.lt k e.symm).1; omega)
def cutB (s:ByteArray):ByteArray:=if 12 < s.size then s.extract 0 13 else s
theorem cutB_size (s:ByteArray):(cutB s).size ≤ 13:=by
 unfold cutB; split
 ·simp; omega
 ·omega
theorem cutB_one (s:ByteArray) (h:s.size = 13):cutB s = s:=by
 unfold cutB; rw [if_pos (by omega),← h]; exact ByteArray.extract_zero_size
theorem implCut_any (s:ByteArray) (w:World) (hs:s.size ≤ maxLen) :
  Calls Tryz.prog 64 #[yk s] w fun e w'=>e = .returned (yk (cutB s))∧w' = w:=by
 unfold maxLen at hs
 by_cases h:12 < s.size
 ·have HF:=Y (show cutB s = s.extract 0 13 from if_pos h)
  have h':(12:Int) < s.size:=by omega
  go_enter Tryz.func64,Tryz.ntmps64
  go_wp2
  go_ret
  exact ⟨by rw [U HF]; rfl,rfl⟩
 ·have HF:=Y (show cutB s = s from if_neg h)
  have h':(s.size:Int) ≤ 12:=by omega
  go_enter Tryz.func64,Tryz.ntmps64
  go_wp2
  go_ret
  exact ⟨by rw [U HF]; rfl,rfl⟩
end Go.Proofs.YtbakanofkghmiaaGreat
