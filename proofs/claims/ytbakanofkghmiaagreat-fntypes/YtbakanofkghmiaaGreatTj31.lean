/-
  A group closed behind a command, as a deferred call: proved by walking the method.
-/
import Derived.Test.YtbakanofkghmiaaGreatTj26
import Derived.Defers
set_option linter.unusedVariables false
set_option maxHeartbeats 6400000
set_option maxRecDepth 100000
namespace Go.Proofs.YtbakanofkghmiaaGreat
open Go.RowKit
theorem closeGroup_d (mb B:Nat) (gv:Value) (gs:List Value) (t:Tot) (vo:Value) (ts:List Ev) (u:FrameMode) (w:World) (c0:w.cell? (J mb 0) = some gv) (f0:w.frozen? (J mb 0) = false) (ht:w.rangeAt mb 3 t.vs) (xD:w.there mb 3 8) (c11:w.cell? (J mb 11) = some vo) (f11:w.frozen? (J mb 11) = false) (qT:∃ xp,w.heap[mb]? = some (.cells xp 71 (0,0)))
  (uh:GRow w B gv gs) (jL:ERow w B vo ts) (hB:B ≤ w.heap.size) (hn:ts.length ≤ 1000) (hgn:gs.length ≤ 1000) :
  CallsD Tryz.prog 62 #[I mb 0] u w fun r u' w'=>u' = u∧r = yl (.tuple #[])∧∃ (qp:Value) (V0 V1:World),GRow V0 B qp (gs ++ [vo])∧w.grownBy V0 gv.ownBlock∧Below V0.heap.size (V0.setCell (J mb 0) qp) V1∧w' = (V1.setCells mb 3 (wgT t ts).vs).setCell (J mb 11) (.slice none 0 0):=by
 obtain ⟨i0,uz,uA,uF,uR⟩:=info_parts infoEvS
 have qy:some mb ≠ gv.ownBlock:=zj uh qT (by decide)
 have qr:mb < w.heap.size:=yI w _ c0
 have hone:vo.oneCell' = true:=by
  rcases jL.2 with ⟨rfl,_⟩ | ⟨g,cp,xp,rfl,_⟩ <;> rfl
 obtain ⟨av,cv,rfl⟩:∃ av cv,vo = .slice av ts.length cv:=by
  rcases jL.2 with ⟨rfl,h0⟩ | ⟨g,cp,xp,rfl,_⟩
  ·exact ⟨none,0,by rw [h0]⟩
  ·exact ⟨_,_,rfl⟩
 have oD:=Y uh
 have jA:=Y jL
 have uv:=Y qT
 clear uh jL qT
 go_enter_d Tryz.func62,Tryz.ntmps62
 refine ds fun tg xq=>?_
 refine zh (RCA (fun f=>{ tmps:=#[I mb 0,M,f 0,f 1,f 2,f 3,f 4,f 5,f 6,f 7,f 8,f 9,f 10,f 11,f 12,f 13,f 14,M,M,M,M,M,M,M,M,M,M,M,M,M,M,M,M,M],defers:=[] }) (C0G mb gv (.slice av ts.length cv)) mb B gv (.slice av ts.length cv) gs w) (by kernel_rfl) ?_ ?_ ?_
 ·exact ⟨fun _=>M,rfl,⟨fun j R=>by rw [yG] at R; split at R <;> simp at R,fun _=>⟨rfl,rfl,rfl,Nat.le_refl _,fun _ _=>rfl⟩,by simp,by simp,by simp⟩⟩
 ·rintro x hR V ⟨f,rfl,A⟩ hx xM
  have xn:=zS xM hx (acyc _ (by kernel_rfl))
  obtain ⟨V0,pq,jy,eV⟩:=A.m15 (xn 15 (by simp))
  refine U xq _ _ ?_
  clear xq
  dsimp only
  generalize f 11 = qp at pq eV ⊢
  generalize f 0 = u2,f 1 = u3,f 2 = u4,f 3 = u5,f 4 = u6,f 5 = u7,f 6 = u8,f 7 = u9,f 8 = u10,f 9 = u11,f 10 = u12,f 12 = u14,f 13 = u15,f 14 = u16
  clear A xn xM hx
  have HR0:=Y pq
  have HG0:=Y jy
  have hm0:mb < V0.heap.size:=yH qr jy.size
  have hT0:=zp ht jy qr qy
  have hH0:=zY xD jy qr qy
  have hc11:=jy.cell c11 qy
  have hE0:ERow V0 B (.slice av ts.length cv) ts:=World.ownsRow.kept (U jA) jy (zA (U jA) (U oD) (by decide))
  obtain ⟨V1,qb⟩:∃ V1:World,V1 = V0.setCell (J mb 0) qp:=⟨_,rfl⟩
  have xy:V1.heap.size = V0.heap.size:=by rw [qb]; simp [World.setCell]
  have HT:Hid (V1.rangeAt mb 3 t.vs):=by
   rw [qb]
   exact fun j u R=>(yJ _ _ _ _ (zN (by omega))).trans (hT0 j u R)
  have jx:Hid (V1.there mb 3 8):=by rw [qb]; exact zB hH0
  have c11':V1.cell? (J mb 11) = some (.slice av ts.length cv):=by rw [qb]; exact (yJ _ _ _ _ (zN (by omega))).trans hc11
  have f11':V1.frozen? (J mb 11) = false:=by rw [qb,World.frozen?_setCell]; exact (World.frozen?_of_block (a:=(J mb 11)) (jy.block mb qr qy)).trans f11
  have hE1:ERow V1 B (.slice av ts.length cv) ts:=by
   rw [qb]
   refine zr hE0 (zj (T:=71) hE0 ?_ (by decide)) 0 _
   obtain ⟨xp,hc⟩:=U uv
   exact ⟨xp,(jy.block mb qr qy).trans hc⟩
  have HRO:Hid (RdR Ev.vs 14 V1 (.slice av ts.length cv) ts):=ownR_rd (bj Ev.len (by omega) hE1)
  have jM:mb < V1.heap.size:=by omega
  rw [eV,← qb]
  have HV1:=Y qb
  have c11:=c11'
  have f11:=f11'
  clear c11' f11' qb eV pq jy hT0 hH0 hc11 hE0 hE1 xy c0 f0 ht xD
  refine ds fun tg xq=>?_
  refine zh (RDA (fun f=>{ tmps:=#[I mb 0,M,u2,u3,u4,u5,u6,u7,u8,u9,u10,u11,u12,qp,u14,u15,u16,f 0,f 1,f 2,f 3,f 4,f 5,f 6,f 7,f 8,f 9,f 10,f 11,f 12,f 13,M,M,M],defers:=[] }) (C1G mb (.agg #[H t.gr,H t.ac,H t.rf,H t.tr,H t.vo,H t.no,H t.li,H t.le]) (.agg #[H (wgT t ts).gr,H (wgT t ts).ac,H (wgT t ts).rf,H (wgT t ts).tr,H (wgT t ts).vo,H (wgT t ts).no,H (wgT t ts).li,H (wgT t ts).le]) (.slice av ts.length cv)) mb (wgT t ts).vs V1) (by kernel_rfl) ?_ ?_ ?_
  ·exact ⟨fun _=>M,rfl,⟨fun j R=>by rw [yG] at R; split at R <;> simp at R,fun _=>⟨rfl,rfl,rfl,Nat.le_refl _,fun _ _=>rfl⟩,by simp⟩⟩
  ·rintro x hR V ⟨f,rfl,A⟩ hx xM
   have xn:=zS xM hx (acyc _ (by kernel_rfl))
   obtain ⟨V2,xU,eV⟩:=A.m (xn 14 (by simp))
   refine U xq _ _ ?_
   clear xq
   dsimp only
   generalize f 0 = v0,f 1 = v1,f 2 = v2,f 3 = v3,f 4 = v4,f 5 = v5,f 6 = v6,f 7 = v7,f 8 = v8,f 9 = v9,f 10 = v10,f 11 = v11,f 12 = v12,f 13 = v13
   clear A xn xM hx
   have xC:=Y xU
   have HE:Hid (V = V2.setCells mb 3 (wgT t ts).vs):=eV
   have y11:V.cell? (J mb 11) = some (.slice av ts.length cv):=by
    rw [eV]
    refine (World.cell?_setCells_out mb _ 3 V2 (J mb 11) (fun _ _=>.inr (by simp [Tot.vs]))).trans ?_
    exact (xU.cell (p:=(J mb 11)) jM).trans c11
   have q11:V.frozen? (J mb 11) = false:=by
    rw [eV,cY]
    exact (World.frozen?_of_block (a:=(J mb 11)) (xU.block mb jM)).trans f11
   clear eV xU c11 f11
   go_wp2_with fail
   go_end0
   refine ⟨rfl,qp,V0,V2,U HR0,U HG0,?_,by rw [U HE]⟩
   rw [← U HV1]
   exact (U xC).mono (by rw [U HV1]; simp [World.setCell])
  ·rintro x hR V i op ⟨f,rfl,A⟩ L hx Z xu G
   have xw:=Y A
   have n14:i < 14→x[14]? = some false:=fun xH=>by
    rcases aN hx (show 14 < 15 by omega) with h | h
    ·exact h
    ·have jJ:=ye L 14 rfl h 13 rfl
     have qq:=ye L 13 rfl jJ 12 rfl
     have uS:=ye L 12 rfl qq 11 rfl
     have ug:∀ j,j < 14→x[j]? = some true:=fun j R=>by
      by_cases hj10:j < 11
      ·exact L 14 _ rfl h ⟨j,.phase⟩ (by rcases (by omega:j = 0 ∨ j = 1 ∨ j = 2 ∨ j = 3 ∨ j = 4 ∨ j = 5 ∨ j = 6 ∨ j = 7 ∨ j = 8 ∨ j = 9 ∨ j = 10) with rfl | rfl | rfl | rfl | rfl | rfl | rfl | rfl | rfl | rfl | rfl <;> simp) rfl
      ·rcases (by omega:j = 11 ∨ j = 12 ∨ j = 13) with rfl | rfl | rfl <;> assumption
     rw [ug i xH] at xu; cases xu
   match i,Z with
   | 0,Z =>
    obtain rfl:=ya Z
    clear G A L
    rw [if_pos (by rfl)];unfold Oper.wp;go_simp
    exact ⟨upd f 0 (I mb 0),by simp [upd],aE (U xw) 0 _ rfl (by decide)⟩
   | 1,Z =>
    obtain rfl:=ya Z
    clear G A L
    rw [if_pos (by rfl)];unfold Oper.wp;go_simp
    exact ⟨upd f 1 (I mb 0),by simp [upd],aE (U xw) 1 _ rfl (by decide)⟩
   | 2,Z =>
    obtain rfl:=ya Z
    have g1:f 1 = I mb 0:=A.c 1 (yd G 1 rfl)
    clear G A L
    rw [if_pos (by rfl)];unfold Oper.wp;go_simp
    exact ⟨upd f 2 (I mb 0),by simp [upd,g1],aE (U xw) 2 _ rfl (by decide)⟩
   | 3,Z =>
    obtain rfl:=ya Z
    have g2:f 2 = I mb 0:=A.c 2 (yd G 2 rfl)
    clear G A L
    rw [if_pos (by rfl)];unfold Oper.wp;go_simp
    exact ⟨upd f 3 (I mb 0),by simp [upd,g2],aE (U xw) 3 _ rfl (by decide)⟩
   | 4,Z =>
    obtain rfl:=ya Z
    have g3:f 3 = I mb 0:=A.c 3 (yd G 3 rfl)
    clear G A L
    rw [if_pos (by rfl)];unfold Oper.wp;go_simp
    exact ⟨upd f 4 (I mb 3),by simp [upd,g3],aE (U xw) 4 _ rfl (by decide)⟩
   | 5,Z =>
    obtain rfl:=ya Z
    have g4:f 4 = I mb 3:=A.c 4 (yd G 4 rfl)
    have xR:=A.b (n14 (by omega))
    have y0:=zb (U HT) xR jM 0 _ rfl
    have y1:=zb (U HT) xR jM 1 _ rfl
    have y2:=zb (U HT) xR jM 2 _ rfl
    have y3:=zb (U HT) xR jM 3 _ rfl
    have y4:=zb (U HT) xR jM 4 _ rfl
    have y5:=zb (U HT) xR jM 5 _ rfl
    have y6:=zb (U HT) xR jM 6 _ rfl
    have y7:=zb (U HT) xR jM 7 _ rfl
    skip
    clear G A L
    rw [if_pos (by rfl)];unfold Oper.wp;go_simp
    exact ⟨upd f 5 (.agg #[H t.gr,H t.ac,H t.rf,H t.tr,H t.vo,H t.no,H t.li,H t.le]),by simp [upd,g4],aE (U xw) 5 _ rfl (by decide)⟩
   | 6,Z =>
    obtain rfl:=ya Z
    clear G A L
    rw [if_pos (by rfl)];unfold Oper.wp;go_simp
    exact ⟨upd f 6 (I mb 0),by simp [upd],aE (U xw) 6 _ rfl (by decide)⟩
   | 7,Z =>
    obtain rfl:=ya Z
    have g6:f 6 = I mb 0:=A.c 6 (yd G 6 rfl)
    clear G A L
    rw [if_pos (by rfl)];unfold Oper.wp;go_simp
    exact ⟨upd f 7 (I mb 0),by simp [upd,g6],aE (U xw) 7 _ rfl (by decide)⟩
   | 8,Z =>
    obtain rfl:=ya Z
    have g7:f 7 = I mb 0:=A.c 7 (yd G 7 rfl)
    clear G A L
    rw [if_pos (by rfl)];unfold Oper.wp;go_simp
    exact ⟨upd f 8 (I mb 11),by simp [upd,g7],aE (U xw) 8 _ rfl (by decide)⟩
   | 9,Z =>
    obtain rfl:=ya Z
    have g8:f 8 = I mb 11:=A.c 8 (yd G 8 rfl)
    have xR:=A.b (n14 (by omega))
    have y11:=(xR.cell (p:=(J mb 11)) jM).trans c11
    clear G A L
    rw [if_pos (by rfl)];unfold Oper.wp;go_simp
    exact ⟨upd f 9 (.slice av ts.length cv),by simp [upd,g8],aE (U xw) 9 _ rfl (by decide)⟩
   | 10,Z =>
    obtain rfl:=ya Z
    have g5:f 5 = .agg #[H t.gr,H t.ac,H t.rf,H t.tr,H t.vo,H t.no,H t.li,H t.le]:=A.c 5 (yd G 5 rfl)
    have g9:f 9 = .slice av ts.length cv:=A.c 9 (yd G 9 rfl)
    have ja:=n14 (by omega)
    have xR:=A.b ja
    have vM:=Y (zl (U HRO) xR qt)
    clear G A L
    rw [if_pos (by rfl)];unfold Oper.wp;go_simp
    refine (withGroup_any t (.slice av ts.length cv) ts V (U vM)).mono ?_
    rintro e w4 ⟨rfl,xz⟩
    exact ⟨upd f 10 (.agg #[H (wgT t ts).gr,H (wgT t ts).ac,H (wgT t ts).rf,H (wgT t ts).tr,H (wgT t ts).vo,H (wgT t ts).no,H (wgT t ts).li,H (wgT t ts).le]),by simp [upd,g5,g9],aE (rd_grow (U xw) ja xz) 10 _ rfl (by decide)⟩
   | 11,Z =>
    obtain rfl:=ya Z
    have g0:f 0 = I mb 0:=A.c 0 (yd G 0 rfl)
    clear G A L
    rw [if_pos (by rfl)];unfold Oper.wp;go_simp
    exact ⟨upd f 11 (I mb 0),by simp [upd,g0],aE (U xw) 11 _ rfl (by decide)⟩
   | 12,Z =>
    obtain rfl:=ya Z
    have vB:f 11 = I mb 0:=A.c 11 (yd G 11 rfl)
    clear G A L
    rw [if_pos (by rfl)];unfold Oper.wp;go_simp
    exact ⟨upd f 12 (I mb 0),by simp [upd,vB],aE (U xw) 12 _ rfl (by decide)⟩
   | 13,Z =>
    obtain rfl:=ya Z
    have xX:f 12 = I mb 0:=A.c 12 (yd G 12 rfl)
    clear G A L
    rw [if_pos (by rfl)];unfold Oper.wp;go_simp
    exact ⟨upd f 13 (I mb 3),by simp [upd,xX],aE (U xw) 13 _ rfl (by decide)⟩
   | 14,Z =>
    obtain rfl:=ya Z
    have kC:f 13 = I mb 3:=A.c 13 (yd G 13 rfl)
    have qG:f 10 = .agg #[H (wgT t ts).gr,H (wgT t ts).ac,H (wgT t ts).rf,H (wgT t ts).tr,H (wgT t ts).vo,H (wgT t ts).no,H (wgT t ts).li,H (wgT t ts).le]:=A.c 10 (yd G 10 rfl)
    have xR:=A.b xu
    have xD:=ze (U jx) xR jM
    obtain ⟨y0,z0,q0⟩:=zX xD (j:=0) (by omega)
    obtain ⟨y1,z1,q1⟩:=zX xD (j:=1) (by omega)
    obtain ⟨y2,z2,q2⟩:=zX xD (j:=2) (by omega)
    obtain ⟨y3,z3,q3⟩:=zX xD (j:=3) (by omega)
    obtain ⟨y4,z4,q4⟩:=zX xD (j:=4) (by omega)
    obtain ⟨y5,z5,q5⟩:=zX xD (j:=5) (by omega)
    obtain ⟨y6,z6,q6⟩:=zX xD (j:=6) (by omega)
    obtain ⟨y7,z7,q7⟩:=zX xD (j:=7) (by omega)
    clear xD
    clear G A L
    rw [if_pos (by rfl)];unfold Oper.wp;go_simp
    exact ⟨f,by simp [kC,qG],rd_14 (U xw) xu⟩
   | i + 15,Z=>simp at Z
 ·rintro x hR V i op ⟨f,rfl,A⟩ L hx Z xu G
  have xw:=Y A
  have n15:i < 15→x[15]? = some false:=fun xH=>by
   rcases aN hx (show 15 < 16 by omega) with h | h
   ·exact h
   ·have ja:=ye L 15 rfl h 14 rfl
    have jJ:=ye L 14 rfl ja 13 rfl
    have qq:=ye L 13 rfl jJ 12 rfl
    have ug:∀ j,j < 15→x[j]? = some true:=fun j R=>by
     by_cases hj10:j < 12
     ·exact L 15 _ rfl h ⟨j,.phase⟩ (by rcases (by omega:j = 0 ∨ j = 1 ∨ j = 2 ∨ j = 3 ∨ j = 4 ∨ j = 5 ∨ j = 6 ∨ j = 7 ∨ j = 8 ∨ j = 9 ∨ j = 10 ∨ j = 11) with rfl | rfl | rfl | rfl | rfl | rfl | rfl | rfl | rfl | rfl | rfl | rfl <;> simp) rfl
     ·rcases (by omega:j = 12 ∨ j = 13 ∨ j = 14) with rfl | rfl | rfl <;> assumption
    rw [ug i xH] at xu; cases xu
  have qm:i < 11→0 < i→x[11]? = some false:=fun xH jr=>by
   rcases aN hx (show 11 < 16 by omega) with h | uS
   ·exact h
   ·have h5:=ye L 11 rfl uS 5 rfl
    have vI:=ye L 11 rfl uS 10 rfl
    have h4:=ye L 5 rfl h5 4 rfl
    have h9:=ye L 10 rfl vI 9 rfl
    have h3:=ye L 4 rfl h4 3 rfl
    have h8:=ye L 9 rfl h9 8 rfl
    have N:=ye L 3 rfl h3 2 rfl
    have h7:=ye L 8 rfl h8 7 rfl
    have Q:=ye L 2 rfl N 1 rfl
    have h6:=ye L 7 rfl h7 6 rfl
    have ug:∀ j,0 < j→j < 11→x[j]? = some true:=fun j jn R=>by
     rcases (by omega:j = 1 ∨ j = 2 ∨ j = 3 ∨ j = 4 ∨ j = 5 ∨ j = 6 ∨ j = 7 ∨ j = 8 ∨ j = 9 ∨ j = 10) with rfl | rfl | rfl | rfl | rfl | rfl | rfl | rfl | rfl | rfl <;> assumption
    rw [ug i jr xH] at xu; cases xu
  match i,Z with
  | 0,Z =>
   obtain rfl:=ya Z
   clear G A L
   rw [if_pos (by rfl)];unfold Oper.wp;go_simp
   exact ⟨upd f 0 (I mb 0),by simp [upd],aH (U xw) 0 _ rfl (by decide) (by decide) (by decide)⟩
  | 1,Z =>
   obtain rfl:=ya Z
   clear G A L
   rw [if_pos (by rfl)];unfold Oper.wp;go_simp
   exact ⟨upd f 1 (I mb 0),by simp [upd],aH (U xw) 1 _ rfl (by decide) (by decide) (by decide)⟩
  | 2,Z =>
   obtain rfl:=ya Z
   have g1:f 1 = I mb 0:=A.c 1 (yd G 1 rfl)
   clear G A L
   rw [if_pos (by rfl)];unfold Oper.wp;go_simp
   exact ⟨upd f 2 (I mb 0),by simp [upd,g1],aH (U xw) 2 _ rfl (by decide) (by decide) (by decide)⟩
  | 3,Z =>
   obtain rfl:=ya Z
   have g2:f 2 = I mb 0:=A.c 2 (yd G 2 rfl)
   clear G A L
   rw [if_pos (by rfl)];unfold Oper.wp;go_simp
   exact ⟨upd f 3 (I mb 0),by simp [upd,g2],aH (U xw) 3 _ rfl (by decide) (by decide) (by decide)⟩
  | 4,Z =>
   obtain rfl:=ya Z
   have g3:f 3 = I mb 0:=A.c 3 (yd G 3 rfl)
   clear G A L
   rw [if_pos (by rfl)];unfold Oper.wp;go_simp
   exact ⟨upd f 4 (I mb 0),by simp [upd,g3],aH (U xw) 4 _ rfl (by decide) (by decide) (by decide)⟩
  | 5,Z =>
   obtain rfl:=ya Z
   have g4:f 4 = I mb 0:=A.c 4 (yd G 4 rfl)
   have xR:=A.b (qm (by omega) (by omega))
   have y5:=(xR.cell (p:=(J mb 0)) qr).trans c0
   clear G A L
   rw [if_pos (by rfl)];unfold Oper.wp;go_simp
   exact ⟨upd f 5 (gv),by simp [upd,g4],aH (U xw) 5 _ rfl (by decide) (by decide) (by decide)⟩
  | 6,Z =>
   obtain rfl:=ya Z
   clear G A L
   rw [if_pos (by rfl)];unfold Oper.wp;go_simp
   exact ⟨upd f 6 (I mb 0),by simp [upd],aH (U xw) 6 _ rfl (by decide) (by decide) (by decide)⟩
  | 7,Z =>
   obtain rfl:=ya Z
   have g6:f 6 = I mb 0:=A.c 6 (yd G 6 rfl)
   clear G A L
   rw [if_pos (by rfl)];unfold Oper.wp;go_simp
   exact ⟨upd f 7 (I mb 0),by simp [upd,g6],aH (U xw) 7 _ rfl (by decide) (by decide) (by decide)⟩
  | 8,Z =>
   obtain rfl:=ya Z
   have g7:f 7 = I mb 0:=A.c 7 (yd G 7 rfl)
   clear G A L
   rw [if_pos (by rfl)];unfold Oper.wp;go_simp
   exact ⟨upd f 8 (I mb 11),by simp [upd,g7],aH (U xw) 8 _ rfl (by decide) (by decide) (by decide)⟩
  | 9,Z =>
   obtain rfl:=ya Z
   have g8:f 8 = I mb 11:=A.c 8 (yd G 8 rfl)
   have xR:=A.b (qm (by omega) (by omega))
   have y9:=(xR.cell (p:=(J mb 11)) qr).trans c11
   clear G A L
   rw [if_pos (by rfl)];unfold Oper.wp;go_simp
   exact ⟨upd f 9 (.slice av ts.length cv),by simp [upd,g8],aH (U xw) 9 _ rfl (by decide) (by decide) (by decide)⟩
  | 10,Z =>
   obtain rfl:=ya Z
   have g9:f 9 = .slice av ts.length cv:=A.c 9 (yd G 9 rfl)
   have uS:=qm (by omega) (by omega)
   clear G A L
   rw [if_pos (by rfl)];unfold Oper.wp;go_simp
   exact ⟨upd f 10 (.slice (some (yp V 0)) 1 1),by simp [upd,g9],rc_10 (U xw) uS (n15 (by omega))⟩
  | 11,Z =>
   obtain rfl:=ya Z
   have g5:f 5 = gv:=A.c 5 (yd G 5 rfl)
   obtain ⟨s,qG,kQ⟩:=A.m10 (yd G 10 rfl) xu
   have xR:=A.b xu
   have uM:=n15 (by omega)
   have uQ:GRow V B gv gs:=World.ownsRow.kept (row:=none) (U oD) (pX xR qt) (by cases gv.ownBlock <;> simp)
   clear G A L
   rw [if_pos (by rfl)]
   refine wp_append_own V (.tmp 7) (.tmp 12) 25 rfl B 38 i0 _ 1 24 Tryz.underlying25 uz uA uF uR rfl (by decide) gv gs.length gs g5 uQ (J s 0) 1 1 [.slice av ts.length cv] qG rfl (fun j u hu=>by match j,hu with | 0,hu=>cases hu; rw [Addr.add_mid]; exact kQ | j + 1,hu=>simp at hu) (by intro u hu; simp at hu; subst hu; exact hone) (by unfold maxLen; omega) (by omega) (by have:=xR.size; omega) ?_
   intro v' w' xK uh _
   exact ⟨upd f 11 v',rfl,rc_11 (U xw) xu uM (by show w'.ownsRow _ _ _ _ (gs ++ [Value.slice av ts.length cv]).length _; rw [yN]; exact xK) ((pX xR qt).trans uh)⟩
  | 12,Z =>
   obtain rfl:=ya Z
   have g0:f 0 = I mb 0:=A.c 0 (yd G 0 rfl)
   clear G A L
   rw [if_pos (by rfl)];unfold Oper.wp;go_simp
   exact ⟨upd f 12 (I mb 0),by simp [upd,g0],aH (U xw) 12 _ rfl (by decide) (by decide) (by decide)⟩
  | 13,Z =>
   obtain rfl:=ya Z
   have xX:f 12 = I mb 0:=A.c 12 (yd G 12 rfl)
   clear G A L
   rw [if_pos (by rfl)];unfold Oper.wp;go_simp
   exact ⟨upd f 13 (I mb 0),by simp [upd,xX],aH (U xw) 13 _ rfl (by decide) (by decide) (by decide)⟩
  | 14,Z =>
   obtain rfl:=ya Z
   have kC:f 13 = I mb 0:=A.c 13 (yd G 13 rfl)
   clear G A L
   rw [if_pos (by rfl)];unfold Oper.wp;go_simp
   exact ⟨upd f 14 (I mb 0),by simp [upd,kC],aH (U xw) 14 _ rfl (by decide) (by decide) (by decide)⟩
  | 15,Z =>
   obtain rfl:=ya Z
   have jY:f 14 = I mb 0:=A.c 14 (yd G 14 rfl)
   have oz:x[11]? = some true:=G ⟨11,.data⟩ (by simp) rfl
   obtain ⟨hr11,hg11⟩:=A.m11 oz xu
   obtain ⟨ga,gc,vB⟩:=cK hr11 (by simp)
   have y0:=hg11.cell c0 qy
   have q0:V.frozen? (J mb 0) = false:=(World.frozen?_of_block (a:=(J mb 0)) (hg11.block mb qr qy)).trans f0
   have ju:=Y hr11
   have kh:=Y hg11
   clear hr11 hg11
   clear G A L
   rw [if_pos (by rfl)];unfold Oper.wp;go_simp
   have h15r:=rc_15 (U xw) oz xu (U ju) (U kh)
   conv at h15r=>arg 10; rw [vB,yN]
   exact ⟨f,by simp [jY,vB],h15r⟩
  | i + 16,Z=>simp at Z
theorem cI {mb B Bo:Nat} {gv:Value} {gs:List Value} {gl:List (List Ev)} {next:Int} {vq:Value} {l:List Od} {t:Tot} {vo:Value} {ts:List Ev} (u:FrameMode) (w:World) (h:EnS mb B Bo w gv gs gl next vq l t vo ts) (hn:ts.length ≤ 1000) (hgn:gs.length ≤ 1000) :
  CallsD Tryz.prog 62 #[I mb 0] u w fun r u' w'=>u' = u∧r = yl (.tuple #[])∧(∃ qp,EnS mb B w'.heap.size w' qp (gs ++ [vo]) (gl ++ [ts]) next vq l (wgT t ts) (.slice none 0 0) [])∧KeptBut mb B w w':=by
 have oi:∀ j,j < 12→w.frozen? (J mb j) = false:=fun j R=>by have:=(h.there j R).2; rwa [Nat.zero_add] at this
 have heB:ERow w B vo ts:=⟨h.erow.1,by
  rcases h.erow.2 with Q | ⟨g',c',xp,Q,N,h3⟩
  ·exact .inl Q
  ·exact .inr ⟨g',c',xp,Q,yL h.bo N,h3⟩⟩
 have ht3:w.rangeAt mb 3 t.vs:=fun j u R=>by
  have:=h.cells (3 + j) u (by
   match j,R with
   | 0,R | 1,R | 2,R | 3,R | 4,R | 5,R | 6,R | 7,R=>exact R
   | j + 8,R=>simp [Tot.vs] at R)
  rwa [Nat.zero_add] at this
 have xD:w.there mb 3 8:=fun j R=>by
  have:=h.there (3 + j) (by omega)
  rwa [Nat.zero_add] at this
 refine (closeGroup_d mb B gv gs t vo ts u w (h.cells 0 _ rfl) (oi 0 (by omega)) ht3 xD (h.cells 11 _ rfl) (oi 11 (by omega)) h.box h.grow heB (yL h.bo h.le) hn hgn).mono ?_
 rintro r u' w' ⟨rfl,rfl,qp,V0,V1,pq,jy,xS,rfl⟩
 have qr:=h.lt
 have qy:some mb ≠ gv.ownBlock:=zj h.grow h.box (by decide)
 have hm0:mb < V0.heap.size:=yH qr jy.size
 have hbox0:∃ xp,V0.heap[mb]? = some (.cells xp 71 (0,0)):=by
  obtain ⟨xp,hc⟩:=h.box
  exact ⟨xp,(jy.block mb qr qy).trans hc⟩
 -- what is kept by each of the steps
 have step:∀ {e sz n:Nat} {v:Value} {xs:List Value},V0.ownsRow B e sz v n xs→71 ≠ e→World.ownsRow ((V1.setCells mb 3 (wgT t ts).vs).setCell (J mb 11) (.slice none 0 0)) B e sz v n xs:=by
  intro e sz n v xs hv xA
  have ha:some mb ≠ v.ownBlock:=zj hv hbox0 xA
  have Q:=zr hv ha 0 qp
  have N:V1.ownsRow B e sz v n xs:=World.ownsRow.kept (row:=none) Q (pX xS (by simp [World.setCell])) (by cases v.ownBlock <;> simp)
  refine zr ?_ ha 11 _
  exact bp ha _ _ _ N
 have qM:V0.heap.size ≤ V1.heap.size:=by have:=xS.size; simpa [World.setCell] using this
 have hsw:w.heap.size ≤ V1.heap.size:=yL jy.size qM
 have hseq:((V1.setCells mb 3 (wgT t ts).vs).setCell (J mb 11) (.slice none 0 0)).heap.size = V1.heap.size:=by simp only [World.setCell,Array.size_modify]; exact zZ _ _ _ _
 -- the cells of the block
 have hth1:V1.there mb 0 12:=ze (zB (zY h.there jy qr qy)) xS hm0
 have old:∀ j u,j ≠ 0→w.cell? (J mb j) = some u→V1.cell? (J mb j) = some u:=fun j u R hu =>
  (xS.cell (p:=(J mb j)) hm0).trans ((yJ _ _ _ _ (zN (fun e=>R e.symm))).trans (jy.cell hu qy))
 have new0:V1.cell? (J mb 0) = some qp:=(xS.cell (p:=(J mb 0)) hm0).trans (yK _ _ _ (jy.cell (h.cells 0 _ rfl) qy))
 have out:∀ j u,j < 3→V1.cell? (J mb j) = some u→((V1.setCells mb 3 (wgT t ts).vs).setCell (J mb 11) (.slice none 0 0)).cell? (J mb j) = some u:=fun j u R hu =>
  (yJ _ _ _ _ (zN (by omega))).trans ((World.cell?_setCells_out mb _ 3 V1 (J mb j) (fun _ _=>.inl R)).trans hu)
 have tot:∀ j u,(wgT t ts).vs[j]? = some u→((V1.setCells mb 3 (wgT t ts).vs).setCell (J mb 11) (.slice none 0 0)).cell? (J mb (3 + j)) = some u:=fun j u R=>by
  have hj8:j < 8:=by have:=(yE.1 R).1; simpa [Tot.vs] using this
  refine (yJ _ _ _ _ (zN (by omega))).trans ?_
  exact yV V1 mb 3 _ (fun j R=>by
   have hj8:j < 8:=by simpa [Tot.vs] using R
   have:=hth1 (3 + j) (by omega)
   rwa [Nat.zero_add] at this) j u R
 refine ⟨rfl,rfl,⟨qp,?_,?_,step pq (by decide),by simp [h.glen],?_,?_,step (World.ownsRow.kept h.orow jy (zA h.orow h.grow (by decide))) (by decide),World.ownsRow_nil _ _ _ _,?_,?_,Nat.le_refl _⟩,?_⟩
 ·intro j u R
  rw [Nat.zero_add]
  match j,R with
  | 0,R=>cases R; exact out 0 _ (by omega) new0
  | 1,R=>cases R; exact out 1 _ (by omega) (old 1 _ (by omega) (h.cells 1 _ rfl))
  | 2,R=>cases R; exact out 2 _ (by omega) (old 2 _ (by omega) (h.cells 2 _ rfl))
  | 3,R=>exact tot 0 u R
  | 4,R=>exact tot 1 u R
  | 5,R=>exact tot 2 u R
  | 6,R=>exact tot 3 u R
  | 7,R=>exact tot 4 u R
  | 8,R=>exact tot 5 u R
  | 9,R=>exact tot 6 u R
  | 10,R=>exact tot 7 u R
  | 11,R =>
   cases R
   refine yK _ _ _ ((World.cell?_setCells_out mb _ 3 V1 (J mb 11) (fun _ _=>.inr (by simp [Tot.vs]))).trans (old 11 _ (by omega) (h.cells 11 _ rfl)))
  | j + 12,R=>simp at R
 ·exact zB (yZ hth1 _ _ _)
 ·intro i g es hg vk
  by_cases hi:i < gs.length
  ·rw [List.getElem?_append_left hi] at hg
   rw [List.getElem?_append_left (by rw [← h.glen]; exact hi)] at vk
   exact step (World.ownsRow.kept (h.geach i g es hg vk) jy (zA (h.geach i g es hg vk) h.grow (by decide))) (by decide)
  ·have hil:i < gs.length + 1:=by have:=(yE.1 hg).1; rwa [yN] at this
   obtain rfl:i = gs.length:=by omega
   have oj:=h.glen
   rw [List.getElem?_append_right qt] at hg
   rw [List.getElem?_append_right (by omega)] at vk
   simp at hg
   rw [oj] at vk
   simp at vk
   subst hg vk
   exact step (World.ownsRow.kept heB jy (zA heB h.grow (by decide))) (by decide)
 ·refine ⟨fun g hg b F=>?_,List.pairwise_append.2 ⟨h.glt.2,List.pairwise_singleton _ _,fun g hg g' hg' b b' F ob=>?_⟩⟩
  ·rw [hseq]
   rcases List.mem_append.1 hg with Q | Q
   ·have:=h.glt.1 g Q b F; have:=h.le; omega
   ·simp at Q; subst Q
    have:=(h.erow.lt b F).2; omega
  ·have Q:=h.glt.1 g hg b F
   rw [List.mem_singleton.1 hg'] at ob
   have N:=(h.erow.lt b' ob).1
   omega
 ·obtain ⟨xp,hc⟩:=hbox0
  obtain ⟨cur1,kE⟩:=zL V0 mb 0 qp hc
  have hc2:V1.heap[mb]? = some (.cells cur1 71 (0,0)):=(xS.block mb hm0).trans kE
  obtain ⟨cur3,hc3⟩:=kind_setC V1 mb (wgT t ts).vs 3 hc2
  exact zL _ mb 11 _ hc3
 ·rw [hseq]; exact yL (yL h.bo h.le) hsw
 ·refine ⟨(set_os _ _ _).trans ((dg _ _ _ _).trans (xS.os.trans ((set_os _ _ _).trans jy.os))),(set_tape _ _ _).trans ((da _ _ _ _).trans (xS.tape.trans ((set_tape _ _ _).trans jy.tape))),(set_output _ _ _).trans ((cZ _ _ _ _).trans (xS.output.trans ((set_output _ _ _).trans jy.output))),by rw [hseq]; exact hsw,fun k hk hkm=>?_⟩
  have hkw:k < w.heap.size:=by have:=h.bo; have:=h.le; omega
  have hk0:k < V0.heap.size:=yH hkw jy.size
  rw [yQ _ _ _ _ hkm,bT mb k hkm,xS.block k hk0,yQ _ _ _ _ hkm]
  exact jy.block k hkw (fun e=>by have:=(h.grow.lt k e.symm).1; omega)
def cutB (s:ByteArray):ByteArray:=if 12 < s.size then s.extract 0 13 else s
theorem cutB_one (s:ByteArray) (h:s.size = 13):cutB s = s:=by
 unfold cutB; rw [if_pos (by omega),← h]; exact ByteArray.extract_zero_size
theorem implCut_any (s:ByteArray) (w:World) (hs:s.size ≤ maxLen) :
  Calls Tryz.prog 64 #[yj s] w fun e w'=>e = .returned (yj (cutB s))∧w' = w:=by
 unfold maxLen at hs
 by_cases h:12 < s.size
 ·have HF:=Y (show cutB s = s.extract 0 13 from if_pos h)
  have h':(12:Int) < s.size:=by omega
  go_enter Tryz.func64,Tryz.ntmps64
  go_wp2
  go_ret
  exact ⟨by rw [U HF]; rfl,rfl⟩
 ·have HF:=Y (show cutB s = s from if_neg h)
  have h':(s.size:Int) ≤ 12:=by omega
  go_enter Tryz.func64,Tryz.ntmps64
  go_wp2
  go_ret
  exact ⟨by rw [U HF]; rfl,rfl⟩
end Go.Proofs.YtbakanofkghmiaaGreat
