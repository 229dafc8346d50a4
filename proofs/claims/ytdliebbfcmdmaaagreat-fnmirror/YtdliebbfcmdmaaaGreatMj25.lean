/-
  A group closed behind a command, as a deferred call: proved by walking the method.
-/
import Derived.Test.YtdliebbfcmdmaaaGreatMj21
import Derived.Defers
set_option linter.unusedVariables false
set_option maxHeartbeats 6400000
set_option maxRecDepth 100000
namespace Go.Proofs.YtdliebbfcmdmaaaGreat
open Go.RowKit
theorem closeGroup_d (mb B:Nat) (gv:Value) (gs:List Value) (t:Tot) (vo:Value) (ts:List Ev) (u:FrameMode) (w:World) (c0:w.cell? (J mb 0) = some gv) (f0:w.frozen? (J mb 0) = false) (ht:w.rangeAt mb 3 t.vs) (xG:w.there mb 3 8) (c11:w.cell? (J mb 11) = some vo) (f11:w.frozen? (J mb 11) = false) (qZ:∃ xr,w.heap[mb]? = some (.cells xr 49 (0,0)))
  (ub:GRow w B gv gs) (jW:ERow w B vo ts) (hB:B ≤ w.heap.size) (hn:ts.length ≤ 1000) (hgn:gs.length ≤ 1000) :
  CallsD Tryz.prog 27 #[I mb 0] u w fun r u' w'=>u' = u∧r = ym (.tuple #[])∧∃ (qx:Value) (V0 V1:World),GRow V0 B qx (gs ++ [vo])∧w.grownBy V0 gv.ownBlock∧Below V0.heap.size (V0.setCell (J mb 0) qx) V1∧w' = (V1.setCells mb 3 (wgT t ts).vs).setCell (J mb 11) (.slice none 0 0):=by
 obtain ⟨i0,uE,uA,uC,uM⟩:=info_parts infoEvS
 have qF:some mb ≠ gv.ownBlock:=zj ub qZ (by decide)
 have qz:mb < w.heap.size:=yK w _ c0
 have hone:vo.oneCell' = true:=by
  rcases jW.2 with ⟨rfl,_⟩ | ⟨g,cp,xr,rfl,_⟩ <;> rfl
 obtain ⟨av,cv,rfl⟩:∃ av cv,vo = .slice av ts.length cv:=by
  rcases jW.2 with ⟨rfl,h0⟩ | ⟨g,cp,xr,rfl,_⟩
  ·exact ⟨none,0,by rw [h0]⟩
  ·exact ⟨_,_,rfl⟩
 have oz:=Y ub
 have jM:=Y jW
 have uB:=Y qZ
 clear ub jW qZ
 go_enter_d Tryz.func27,Tryz.ntmps27
 refine ei fun hR xu=>?_
 refine zh (RCA (fun f=>{ tmps:=#[I mb 0,M,f 0,f 1,f 2,f 3,f 4,f 5,f 6,f 7,f 8,f 9,f 10,f 11,f 12,f 13,f 14,M,M,M,M,M,M,M,M,M,M,M,M,M,M,M,M,M],defers:=[] }) (C0G mb gv (.slice av ts.length cv)) mb B gv (.slice av ts.length cv) gs w) (by kernel_rfl) ?_ ?_ ?_
 ·exact ⟨fun _=>M,rfl,⟨fun j R=>by rw [yI] at R; split at R <;> simp at R,fun _=>⟨rfl,rfl,rfl,Nat.le_refl _,fun _ _=>rfl⟩,by simp,by simp,by simp⟩⟩
 ·rintro x xm V ⟨f,rfl,K⟩ hx xP
  have xp:=zT xP hx (acyc _ (by kernel_rfl))
  obtain ⟨V0,pJ,jH,eV⟩:=K.m15 (xp 15 (by simp))
  refine U xu _ _ ?_
  clear xu
  dsimp only
  generalize f 11 = qx at pJ eV ⊢
  generalize f 0 = u2,f 1 = u3,f 2 = u4,f 3 = u5,f 4 = u6,f 5 = u7,f 6 = u8,f 7 = u9,f 8 = u10,f 9 = u11,f 10 = u12,f 12 = u14,f 13 = u15,f 14 = u16
  clear K xp xP hx
  have HR0:=Y pJ
  have HG0:=Y jH
  have hm0:mb < V0.heap.size:=yJ qz jH.size
  have hT0:=zq ht jH qz qF
  have hH0:=zZ xG jH qz qF
  have hc11:=jH.cell c11 qF
  have hE0:ERow V0 B (.slice av ts.length cv) ts:=World.ownsRow.kept (U jM) jH (zA (U jM) (U oz) (by decide))
  obtain ⟨V1,qi⟩:∃ V1:World,V1 = V0.setCell (J mb 0) qx:=⟨_,rfl⟩
  have xA:V1.heap.size = V0.heap.size:=by rw [qi]; simp [World.setCell]
  have HT:Hid (V1.rangeAt mb 3 t.vs):=by
   rw [qi]
   exact fun j u R=>(yL _ _ _ _ (zO (by omega))).trans (hT0 j u R)
  have jF:Hid (V1.there mb 3 8):=by rw [qi]; exact zB hH0
  have c11':V1.cell? (J mb 11) = some (.slice av ts.length cv):=by rw [qi]; exact (yL _ _ _ _ (zO (by omega))).trans hc11
  have f11':V1.frozen? (J mb 11) = false:=by rw [qi,World.frozen?_setCell]; exact (World.frozen?_of_block (a:=(J mb 11)) (jH.block mb qz qF)).trans f11
  have hE1:ERow V1 B (.slice av ts.length cv) ts:=by
   rw [qi]
   refine zr hE0 (zj (T:=49) hE0 ?_ (by decide)) 0 _
   obtain ⟨xr,hc⟩:=U uB
   exact ⟨xr,(jH.block mb qz qF).trans hc⟩
  have HRO:Hid (RdR Ev.vs 14 V1 (.slice av ts.length cv) ts):=ownR_rd (bS Ev.len (by omega) hE1)
  have jY:mb < V1.heap.size:=by omega
  rw [eV,← qi]
  have HV1:=Y qi
  have c11:=c11'
  have f11:=f11'
  clear c11' f11' qi eV pJ jH hT0 hH0 hc11 hE0 hE1 xA c0 f0 ht xG
  refine ei fun hR xu=>?_
  refine zh (RDgA (fun f=>{ tmps:=#[I mb 0,M,u2,u3,u4,u5,u6,u7,u8,u9,u10,u11,u12,qx,u14,u15,u16,f 0,f 1,f 2,f 3,f 4,f 5,f 6,f 7,f 8,f 9,f 10,f 11,f 12,f 13,M,M,M],defers:=[] }) (C1G mb (.agg #[H t.gr,H t.ac,H t.rf,H t.tr,H t.vo,H t.no,H t.li,H t.le]) (.agg #[H (wgT t ts).gr,H (wgT t ts).ac,H (wgT t ts).rf,H (wgT t ts).tr,H (wgT t ts).vo,H (wgT t ts).no,H (wgT t ts).li,H (wgT t ts).le]) (.slice av ts.length cv)) mb (wgT t ts).vs V1) (by kernel_rfl) ?_ ?_ ?_
  ·exact ⟨fun _=>M,rfl,⟨fun j R=>by rw [yI] at R; split at R <;> simp at R,fun _=>⟨rfl,rfl,rfl,Nat.le_refl _,fun _ _=>rfl⟩,by simp⟩⟩
  ·rintro x xm V ⟨f,rfl,K⟩ hx xP
   have xp:=zT xP hx (acyc _ (by kernel_rfl))
   obtain ⟨V2,xZ,eV⟩:=K.m (xp 14 (by simp))
   refine U xu _ _ ?_
   clear xu
   dsimp only
   generalize f 0 = v0,f 1 = v1,f 2 = v2,f 3 = v3,f 4 = v4,f 5 = v5,f 6 = v6,f 7 = v7,f 8 = v8,f 9 = v9,f 10 = v10,f 11 = v11,f 12 = v12,f 13 = v13
   clear K xp xP hx
   have xF:=Y xZ
   have HE:Hid (V = V2.setCells mb 3 (wgT t ts).vs):=eV
   have y11:V.cell? (J mb 11) = some (.slice av ts.length cv):=by
    rw [eV]
    refine (World.cell?_setCells_out mb _ 3 V2 (J mb 11) (fun _ _=>.inr (by simp [Tot.vs]))).trans ?_
    exact (xZ.cell (p:=(J mb 11)) jY).trans c11
   have q11:V.frozen? (J mb 11) = false:=by
    rw [eV,dN]
    exact (World.frozen?_of_block (a:=(J mb 11)) (xZ.block mb jY)).trans f11
   clear eV xZ c11 f11
   go_wp2_with fail
   go_end0
   refine ⟨rfl,qx,V0,V2,U HR0,U HG0,?_,by rw [U HE]⟩
   rw [← U HV1]
   exact (U xF).mono (by rw [U HV1]; simp [World.setCell])
  ·rintro x xm V i op ⟨f,rfl,K⟩ xo hx Z xy D
   have xz:=Y K
   have n14:i < 14→x[14]? = some false:=fun xK=>by
    rcases bE hx (show 14 < 15 by omega) with h | h
    ·exact h
    ·have jr:=yf xo 14 rfl h 13 rfl
     have qy:=yf xo 13 rfl jr 12 rfl
     have uX:=yf xo 12 rfl qy 11 rfl
     have uk:∀ j,j < 14→x[j]? = some true:=fun j R=>by
      by_cases hj10:j < 11
      ·exact xo 14 _ rfl h ⟨j,.phase⟩ (by rcases (by omega:j = 0 ∨ j = 1 ∨ j = 2 ∨ j = 3 ∨ j = 4 ∨ j = 5 ∨ j = 6 ∨ j = 7 ∨ j = 8 ∨ j = 9 ∨ j = 10) with rfl | rfl | rfl | rfl | rfl | rfl | rfl | rfl | rfl | rfl | rfl <;> simp) rfl
      ·rcases (by omega:j = 11 ∨ j = 12 ∨ j = 13) with rfl | rfl | rfl <;> assumption
     rw [uk i xK] at xy; cases xy
   match i,Z with
   | 0,Z =>
    obtain rfl:=ya Z
    clear D K xo
    rw [if_pos (by rfl)];unfold Oper.wp;go_simp
    exact ⟨upd f 0 (I mb 0),by simp [upd],bp (U xz) 0 _ rfl (by decide)⟩
   | 1,Z =>
    obtain rfl:=ya Z
    clear D K xo
    rw [if_pos (by rfl)];unfold Oper.wp;go_simp
    exact ⟨upd f 1 (I mb 0),by simp [upd],bp (U xz) 1 _ rfl (by decide)⟩
   | 2,Z =>
    obtain rfl:=ya Z
    have g1:f 1 = I mb 0:=K.c 1 (ye D 1 rfl)
    clear D K xo
    rw [if_pos (by rfl)];unfold Oper.wp;go_simp
    exact ⟨upd f 2 (I mb 0),by simp [upd,g1],bp (U xz) 2 _ rfl (by decide)⟩
   | 3,Z =>
    obtain rfl:=ya Z
    have g2:f 2 = I mb 0:=K.c 2 (ye D 2 rfl)
    clear D K xo
    rw [if_pos (by rfl)];unfold Oper.wp;go_simp
    exact ⟨upd f 3 (I mb 0),by simp [upd,g2],bp (U xz) 3 _ rfl (by decide)⟩
   | 4,Z =>
    obtain rfl:=ya Z
    have g3:f 3 = I mb 0:=K.c 3 (ye D 3 rfl)
    clear D K xo
    rw [if_pos (by rfl)];unfold Oper.wp;go_simp
    exact ⟨upd f 4 (I mb 3),by simp [upd,g3],bp (U xz) 4 _ rfl (by decide)⟩
   | 5,Z =>
    obtain rfl:=ya Z
    have g4:f 4 = I mb 3:=K.c 4 (ye D 4 rfl)
    have xV:=K.b (n14 (by omega))
    have y0:=zb (U HT) xV jY 0 _ rfl
    have y1:=zb (U HT) xV jY 1 _ rfl
    have y2:=zb (U HT) xV jY 2 _ rfl
    have y3:=zb (U HT) xV jY 3 _ rfl
    have y4:=zb (U HT) xV jY 4 _ rfl
    have y5:=zb (U HT) xV jY 5 _ rfl
    have y6:=zb (U HT) xV jY 6 _ rfl
    have y7:=zb (U HT) xV jY 7 _ rfl
    skip
    clear D K xo
    rw [if_pos (by rfl)];unfold Oper.wp;go_simp
    exact ⟨upd f 5 (.agg #[H t.gr,H t.ac,H t.rf,H t.tr,H t.vo,H t.no,H t.li,H t.le]),by simp [upd,g4],bp (U xz) 5 _ rfl (by decide)⟩
   | 6,Z =>
    obtain rfl:=ya Z
    clear D K xo
    rw [if_pos (by rfl)];unfold Oper.wp;go_simp
    exact ⟨upd f 6 (I mb 0),by simp [upd],bp (U xz) 6 _ rfl (by decide)⟩
   | 7,Z =>
    obtain rfl:=ya Z
    have g6:f 6 = I mb 0:=K.c 6 (ye D 6 rfl)
    clear D K xo
    rw [if_pos (by rfl)];unfold Oper.wp;go_simp
    exact ⟨upd f 7 (I mb 0),by simp [upd,g6],bp (U xz) 7 _ rfl (by decide)⟩
   | 8,Z =>
    obtain rfl:=ya Z
    have g7:f 7 = I mb 0:=K.c 7 (ye D 7 rfl)
    clear D K xo
    rw [if_pos (by rfl)];unfold Oper.wp;go_simp
    exact ⟨upd f 8 (I mb 11),by simp [upd,g7],bp (U xz) 8 _ rfl (by decide)⟩
   | 9,Z =>
    obtain rfl:=ya Z
    have g8:f 8 = I mb 11:=K.c 8 (ye D 8 rfl)
    have xV:=K.b (n14 (by omega))
    have y11:=(xV.cell (p:=(J mb 11)) jY).trans c11
    clear D K xo
    rw [if_pos (by rfl)];unfold Oper.wp;go_simp
    exact ⟨upd f 9 (.slice av ts.length cv),by simp [upd,g8],bp (U xz) 9 _ rfl (by decide)⟩
   | 10,Z =>
    obtain rfl:=ya Z
    have g5:f 5 = .agg #[H t.gr,H t.ac,H t.rf,H t.tr,H t.vo,H t.no,H t.li,H t.le]:=K.c 5 (ye D 5 rfl)
    have g9:f 9 = .slice av ts.length cv:=K.c 9 (ye D 9 rfl)
    have ji:=n14 (by omega)
    have xV:=K.b ji
    have vp:=Y (zl (U HRO) xV tg)
    clear D K xo
    rw [if_pos (by rfl)];unfold Oper.wp;go_simp
    refine (withGroup_any t (.slice av ts.length cv) ts V (U vp)).mono ?_
    rintro e w4 ⟨rfl,xC⟩
    exact ⟨upd f 10 (.agg #[H (wgT t ts).gr,H (wgT t ts).ac,H (wgT t ts).rf,H (wgT t ts).tr,H (wgT t ts).vo,H (wgT t ts).no,H (wgT t ts).li,H (wgT t ts).le]),by simp [upd,g5,g9],bp (rd_grow (U xz) ji xC) 10 _ rfl (by decide)⟩
   | 11,Z =>
    obtain rfl:=ya Z
    have g0:f 0 = I mb 0:=K.c 0 (ye D 0 rfl)
    clear D K xo
    rw [if_pos (by rfl)];unfold Oper.wp;go_simp
    exact ⟨upd f 11 (I mb 0),by simp [upd,g0],bp (U xz) 11 _ rfl (by decide)⟩
   | 12,Z =>
    obtain rfl:=ya Z
    have vF:f 11 = I mb 0:=K.c 11 (ye D 11 rfl)
    clear D K xo
    rw [if_pos (by rfl)];unfold Oper.wp;go_simp
    exact ⟨upd f 12 (I mb 0),by simp [upd,vF],bp (U xz) 12 _ rfl (by decide)⟩
   | 13,Z =>
    obtain rfl:=ya Z
    have ua:f 12 = I mb 0:=K.c 12 (ye D 12 rfl)
    clear D K xo
    rw [if_pos (by rfl)];unfold Oper.wp;go_simp
    exact ⟨upd f 13 (I mb 3),by simp [upd,ua],bp (U xz) 13 _ rfl (by decide)⟩
   | 14,Z =>
    obtain rfl:=ya Z
    have ku:f 13 = I mb 3:=K.c 13 (ye D 13 rfl)
    have qC:f 10 = .agg #[H (wgT t ts).gr,H (wgT t ts).ac,H (wgT t ts).rf,H (wgT t ts).tr,H (wgT t ts).vo,H (wgT t ts).no,H (wgT t ts).li,H (wgT t ts).le]:=K.c 10 (ye D 10 rfl)
    have xV:=K.b xy
    have xG:=zf (U jF) xV jY
    obtain ⟨y0,z0,q0⟩:=zY xG (j:=0) (by omega)
    obtain ⟨y1,z1,q1⟩:=zY xG (j:=1) (by omega)
    obtain ⟨y2,z2,q2⟩:=zY xG (j:=2) (by omega)
    obtain ⟨y3,z3,q3⟩:=zY xG (j:=3) (by omega)
    obtain ⟨y4,z4,q4⟩:=zY xG (j:=4) (by omega)
    obtain ⟨y5,z5,q5⟩:=zY xG (j:=5) (by omega)
    obtain ⟨y6,z6,q6⟩:=zY xG (j:=6) (by omega)
    obtain ⟨y7,z7,q7⟩:=zY xG (j:=7) (by omega)
    clear xG
    clear D K xo
    rw [if_pos (by rfl)];unfold Oper.wp;go_simp
    exact ⟨f,by simp [ku,qC],rd_14 (U xz) xy⟩
   | i + 15,Z=>simp at Z
 ·rintro x xm V i op ⟨f,rfl,K⟩ xo hx Z xy D
  have xz:=Y K
  have n15:i < 15→x[15]? = some false:=fun xK=>by
   rcases bE hx (show 15 < 16 by omega) with h | h
   ·exact h
   ·have ji:=yf xo 15 rfl h 14 rfl
    have jr:=yf xo 14 rfl ji 13 rfl
    have qy:=yf xo 13 rfl jr 12 rfl
    have uk:∀ j,j < 15→x[j]? = some true:=fun j R=>by
     by_cases hj10:j < 12
     ·exact xo 15 _ rfl h ⟨j,.phase⟩ (by rcases (by omega:j = 0 ∨ j = 1 ∨ j = 2 ∨ j = 3 ∨ j = 4 ∨ j = 5 ∨ j = 6 ∨ j = 7 ∨ j = 8 ∨ j = 9 ∨ j = 10 ∨ j = 11) with rfl | rfl | rfl | rfl | rfl | rfl | rfl | rfl | rfl | rfl | rfl | rfl <;> simp) rfl
     ·rcases (by omega:j = 12 ∨ j = 13 ∨ j = 14) with rfl | rfl | rfl <;> assumption
    rw [uk i xK] at xy; cases xy
  have qv:i < 11→0 < i→x[11]? = some false:=fun xK jy=>by
   rcases bE hx (show 11 < 16 by omega) with h | uX
   ·exact h
   ·have h5:=yf xo 11 rfl uX 5 rfl
    have vS:=yf xo 11 rfl uX 10 rfl
    have h4:=yf xo 5 rfl h5 4 rfl
    have h9:=yf xo 10 rfl vS 9 rfl
    have h3:=yf xo 4 rfl h4 3 rfl
    have h8:=yf xo 9 rfl h9 8 rfl
    have N:=yf xo 3 rfl h3 2 rfl
    have h7:=yf xo 8 rfl h8 7 rfl
    have Q:=yf xo 2 rfl N 1 rfl
    have h6:=yf xo 7 rfl h7 6 rfl
    have uk:∀ j,0 < j→j < 11→x[j]? = some true:=fun j jd R=>by
     rcases (by omega:j = 1 ∨ j = 2 ∨ j = 3 ∨ j = 4 ∨ j = 5 ∨ j = 6 ∨ j = 7 ∨ j = 8 ∨ j = 9 ∨ j = 10) with rfl | rfl | rfl | rfl | rfl | rfl | rfl | rfl | rfl | rfl <;> assumption
    rw [uk i jy xK] at xy; cases xy
  match i,Z with
  | 0,Z =>
   obtain rfl:=ya Z
   clear D K xo
   rw [if_pos (by rfl)];unfold Oper.wp;go_simp
   exact ⟨upd f 0 (I mb 0),by simp [upd],bu (U xz) 0 _ rfl (by decide) (by decide) (by decide)⟩
  | 1,Z =>
   obtain rfl:=ya Z
   clear D K xo
   rw [if_pos (by rfl)];unfold Oper.wp;go_simp
   exact ⟨upd f 1 (I mb 0),by simp [upd],bu (U xz) 1 _ rfl (by decide) (by decide) (by decide)⟩
  | 2,Z =>
   obtain rfl:=ya Z
   have g1:f 1 = I mb 0:=K.c 1 (ye D 1 rfl)
   clear D K xo
   rw [if_pos (by rfl)];unfold Oper.wp;go_simp
   exact ⟨upd f 2 (I mb 0),by simp [upd,g1],bu (U xz) 2 _ rfl (by decide) (by decide) (by decide)⟩
  | 3,Z =>
   obtain rfl:=ya Z
   have g2:f 2 = I mb 0:=K.c 2 (ye D 2 rfl)
   clear D K xo
   rw [if_pos (by rfl)];unfold Oper.wp;go_simp
   exact ⟨upd f 3 (I mb 0),by simp [upd,g2],bu (U xz) 3 _ rfl (by decide) (by decide) (by decide)⟩
  | 4,Z =>
   obtain rfl:=ya Z
   have g3:f 3 = I mb 0:=K.c 3 (ye D 3 rfl)
   clear D K xo
   rw [if_pos (by rfl)];unfold Oper.wp;go_simp
   exact ⟨upd f 4 (I mb 0),by simp [upd,g3],bu (U xz) 4 _ rfl (by decide) (by decide) (by decide)⟩
  | 5,Z =>
   obtain rfl:=ya Z
   have g4:f 4 = I mb 0:=K.c 4 (ye D 4 rfl)
   have xV:=K.b (qv (by omega) (by omega))
   have y5:=(xV.cell (p:=(J mb 0)) qz).trans c0
   clear D K xo
   rw [if_pos (by rfl)];unfold Oper.wp;go_simp
   exact ⟨upd f 5 (gv),by simp [upd,g4],bu (U xz) 5 _ rfl (by decide) (by decide) (by decide)⟩
  | 6,Z =>
   obtain rfl:=ya Z
   clear D K xo
   rw [if_pos (by rfl)];unfold Oper.wp;go_simp
   exact ⟨upd f 6 (I mb 0),by simp [upd],bu (U xz) 6 _ rfl (by decide) (by decide) (by decide)⟩
  | 7,Z =>
   obtain rfl:=ya Z
   have g6:f 6 = I mb 0:=K.c 6 (ye D 6 rfl)
   clear D K xo
   rw [if_pos (by rfl)];unfold Oper.wp;go_simp
   exact ⟨upd f 7 (I mb 0),by simp [upd,g6],bu (U xz) 7 _ rfl (by decide) (by decide) (by decide)⟩
  | 8,Z =>
   obtain rfl:=ya Z
   have g7:f 7 = I mb 0:=K.c 7 (ye D 7 rfl)
   clear D K xo
   rw [if_pos (by rfl)];unfold Oper.wp;go_simp
   exact ⟨upd f 8 (I mb 11),by simp [upd,g7],bu (U xz) 8 _ rfl (by decide) (by decide) (by decide)⟩
  | 9,Z =>
   obtain rfl:=ya Z
   have g8:f 8 = I mb 11:=K.c 8 (ye D 8 rfl)
   have xV:=K.b (qv (by omega) (by omega))
   have y9:=(xV.cell (p:=(J mb 11)) qz).trans c11
   clear D K xo
   rw [if_pos (by rfl)];unfold Oper.wp;go_simp
   exact ⟨upd f 9 (.slice av ts.length cv),by simp [upd,g8],bu (U xz) 9 _ rfl (by decide) (by decide) (by decide)⟩
  | 10,Z =>
   obtain rfl:=ya Z
   have g9:f 9 = .slice av ts.length cv:=K.c 9 (ye D 9 rfl)
   have uX:=qv (by omega) (by omega)
   clear D K xo
   rw [if_pos (by rfl)];unfold Oper.wp;go_simp
   exact ⟨upd f 10 (.slice (some (yq V 0)) 1 1),by simp [upd,g9],rc_10 (U xz) uX (n15 (by omega))⟩
  | 11,Z =>
   obtain rfl:=ya Z
   have g5:f 5 = gv:=K.c 5 (ye D 5 rfl)
   obtain ⟨s,qC,om⟩:=K.m10 (ye D 10 rfl) xy
   have xV:=K.b xy
   have vx:=n15 (by omega)
   have uV:GRow V B gv gs:=World.ownsRow.kept (row:=none) (U oz) (zX xV tg) (by cases gv.ownBlock <;> simp)
   clear D K xo
   rw [if_pos (by rfl)]
   refine wp_append_own V (.tmp 7) (.tmp 12) 28 rfl B 39 i0 _ 1 24 Tryz.underlying28 uE uA uC uM rfl (by decide) gv gs.length gs g5 uV (J s 0) 1 1 [.slice av ts.length cv] qC rfl (fun j u hu=>by match j,hu with | 0,hu=>cases hu; rw [Addr.add_mid]; exact om | j + 1,hu=>simp at hu) (by intro u hu; simp at hu; subst hu; exact hone) (by unfold maxLen; omega) (by omega) (by have:=xV.size; omega) ?_
   intro v' w' xL ub _
   exact ⟨upd f 11 v',rfl,rc_11 (U xz) xy vx (by show w'.ownsRow _ _ _ _ (gs ++ [Value.slice av ts.length cv]).length _; rw [yP]; exact xL) ((zX xV tg).trans ub)⟩
  | 12,Z =>
   obtain rfl:=ya Z
   have g0:f 0 = I mb 0:=K.c 0 (ye D 0 rfl)
   clear D K xo
   rw [if_pos (by rfl)];unfold Oper.wp;go_simp
   exact ⟨upd f 12 (I mb 0),by simp [upd,g0],bu (U xz) 12 _ rfl (by decide) (by decide) (by decide)⟩
  | 13,Z =>
   obtain rfl:=ya Z
   have ua:f 12 = I mb 0:=K.c 12 (ye D 12 rfl)
   clear D K xo
   rw [if_pos (by rfl)];unfold Oper.wp;go_simp
   exact ⟨upd f 13 (I mb 0),by simp [upd,ua],bu (U xz) 13 _ rfl (by decide) (by decide) (by decide)⟩
  | 14,Z =>
   obtain rfl:=ya Z
   have ku:f 13 = I mb 0:=K.c 13 (ye D 13 rfl)
   clear D K xo
   rw [if_pos (by rfl)];unfold Oper.wp;go_simp
   exact ⟨upd f 14 (I mb 0),by simp [upd,ku],bu (U xz) 14 _ rfl (by decide) (by decide) (by decide)⟩
  | 15,Z =>
   obtain rfl:=ya Z
   have kw:f 14 = I mb 0:=K.c 14 (ye D 14 rfl)
   have oe:x[11]? = some true:=D ⟨11,.data⟩ (by simp) rfl
   obtain ⟨hr11,hg11⟩:=K.m11 oe xy
   obtain ⟨ga,gc,vF⟩:=dt hr11 (by simp)
   have y0:=hg11.cell c0 qF
   have q0:V.frozen? (J mb 0) = false:=(World.frozen?_of_block (a:=(J mb 0)) (hg11.block mb qz qF)).trans f0
   have jD:=Y hr11
   have jN:=Y hg11
   clear hr11 hg11
   clear D K xo
   rw [if_pos (by rfl)];unfold Oper.wp;go_simp
   have h15r:=rc_15 (U xz) oe xy (U jD) (U jN)
   conv at h15r=>arg 10; rw [vF,yP]
   exact ⟨f,by simp [kw,vF],h15r⟩
  | i + 16,Z=>simp at Z
theorem dp {mb B Bo:Nat} {gv:Value} {gs:List Value} {gl:List (List Ev)} {next:Int} {vq:Value} {l:List Od} {t:Tot} {vo:Value} {ts:List Ev} (u:FrameMode) (w:World) (h:EnS mb B Bo w gv gs gl next vq l t vo ts) (hn:ts.length ≤ 1000) (hgn:gs.length ≤ 1000) :
  CallsD Tryz.prog 27 #[I mb 0] u w fun r u' w'=>u' = u∧r = ym (.tuple #[])∧(∃ qx,EnS mb B w'.heap.size w' qx (gs ++ [vo]) (gl ++ [ts]) next vq l (wgT t ts) (.slice none 0 0) [])∧KeptBut mb B w w':=by
 have oJ:∀ j,j < 12→w.frozen? (J mb j) = false:=fun j R=>by have:=(h.there j R).2; rwa [Nat.zero_add] at this
 have heB:ERow w B vo ts:=⟨h.erow.1,by
  rcases h.erow.2 with Q | ⟨g',c',xr,Q,N,h3⟩
  ·exact .inl Q
  ·exact .inr ⟨g',c',xr,Q,yN h.bo N,h3⟩⟩
 have ht3:w.rangeAt mb 3 t.vs:=fun j u R=>by
  have:=h.cells (3 + j) u (by
   match j,R with
   | 0,R | 1,R | 2,R | 3,R | 4,R | 5,R | 6,R | 7,R=>exact R
   | j + 8,R=>simp [Tot.vs] at R)
  rwa [Nat.zero_add] at this
 have xG:w.there mb 3 8:=fun j R=>by
  have:=h.there (3 + j) (by omega)
  rwa [Nat.zero_add] at this
 refine (closeGroup_d mb B gv gs t vo ts u w (h.cells 0 _ rfl) (oJ 0 (by omega)) ht3 xG (h.cells 11 _ rfl) (oJ 11 (by omega)) h.box h.grow heB (yN h.bo h.le) hn hgn).mono ?_
 rintro r u' w' ⟨rfl,rfl,qx,V0,V1,pJ,jH,xX,rfl⟩
 have qz:=h.lt
 have qF:some mb ≠ gv.ownBlock:=zj h.grow h.box (by decide)
 have hm0:mb < V0.heap.size:=yJ qz jH.size
 have hbox0:∃ xr,V0.heap[mb]? = some (.cells xr 49 (0,0)):=by
  obtain ⟨xr,hc⟩:=h.box
  exact ⟨xr,(jH.block mb qz qF).trans hc⟩
 -- what is kept by each of the steps
 have step:∀ {e sz n:Nat} {v:Value} {xs:List Value},V0.ownsRow B e sz v n xs→49 ≠ e→World.ownsRow ((V1.setCells mb 3 (wgT t ts).vs).setCell (J mb 11) (.slice none 0 0)) B e sz v n xs:=by
  intro e sz n v xs hv xB
  have ha:some mb ≠ v.ownBlock:=zj hv hbox0 xB
  have Q:=zr hv ha 0 qx
  have N:V1.ownsRow B e sz v n xs:=World.ownsRow.kept (row:=none) Q (zX xX (by simp [World.setCell])) (by cases v.ownBlock <;> simp)
  refine zr ?_ ha 11 _
  exact ch ha _ _ _ N
 have jJ:V0.heap.size ≤ V1.heap.size:=by have:=xX.size; simpa [World.setCell] using this
 have hsw:w.heap.size ≤ V1.heap.size:=yN jH.size jJ
 have hseq:((V1.setCells mb 3 (wgT t ts).vs).setCell (J mb 11) (.slice none 0 0)).heap.size = V1.heap.size:=by simp only [World.setCell,Array.size_modify]; exact bM _ _ _ _
 -- the cells of the block
 have hth1:V1.there mb 0 12:=zf (zB (zZ h.there jH qz qF)) xX hm0
 have old:∀ j u,j ≠ 0→w.cell? (J mb j) = some u→V1.cell? (J mb j) = some u:=fun j u R hu =>
  (xX.cell (p:=(J mb j)) hm0).trans ((yL _ _ _ _ (zO (fun e=>R e.symm))).trans (jH.cell hu qF))
 have new0:V1.cell? (J mb 0) = some qx:=(xX.cell (p:=(J mb 0)) hm0).trans (yM _ _ _ (jH.cell (h.cells 0 _ rfl) qF))
 have out:∀ j u,j < 3→V1.cell? (J mb j) = some u→((V1.setCells mb 3 (wgT t ts).vs).setCell (J mb 11) (.slice none 0 0)).cell? (J mb j) = some u:=fun j u R hu =>
  (yL _ _ _ _ (zO (by omega))).trans ((World.cell?_setCells_out mb _ 3 V1 (J mb j) (fun _ _=>.inl R)).trans hu)
 have tot:∀ j u,(wgT t ts).vs[j]? = some u→((V1.setCells mb 3 (wgT t ts).vs).setCell (J mb 11) (.slice none 0 0)).cell? (J mb (3 + j)) = some u:=fun j u R=>by
  have hj8:j < 8:=by have:=(yG.1 R).1; simpa [Tot.vs] using this
  refine (yL _ _ _ _ (zO (by omega))).trans ?_
  exact yX V1 mb 3 _ (fun j R=>by
   have hj8:j < 8:=by simpa [Tot.vs] using R
   have:=hth1 (3 + j) (by omega)
   rwa [Nat.zero_add] at this) j u R
 refine ⟨rfl,rfl,⟨qx,?_,?_,step pJ (by decide),by simp [h.glen],?_,?_,step (World.ownsRow.kept h.orow jH (zA h.orow h.grow (by decide))) (by decide),World.ownsRow_nil _ _ _ _,?_,?_,Nat.le_refl _⟩,?_⟩
 ·intro j u R
  rw [Nat.zero_add]
  match j,R with
  | 0,R=>cases R; exact out 0 _ (by omega) new0
  | 1,R=>cases R; exact out 1 _ (by omega) (old 1 _ (by omega) (h.cells 1 _ rfl))
  | 2,R=>cases R; exact out 2 _ (by omega) (old 2 _ (by omega) (h.cells 2 _ rfl))
  | 3,R=>exact tot 0 u R
  | 4,R=>exact tot 1 u R
  | 5,R=>exact tot 2 u R
  | 6,R=>exact tot 3 u R
  | 7,R=>exact tot 4 u R
  | 8,R=>exact tot 5 u R
  | 9,R=>exact tot 6 u R
  | 10,R=>exact tot 7 u R
  | 11,R =>
   cases R
   refine yM _ _ _ ((World.cell?_setCells_out mb _ 3 V1 (J mb 11) (fun _ _=>.inr (by simp [Tot.vs]))).trans (old 11 _ (by omega) (h.cells 11 _ rfl)))
  | j + 12,R=>simp at R
 ·exact zB (xb hth1 _ _ _)
 ·intro i g es hg vi
  by_cases hi:i < gs.length
  ·rw [List.getElem?_append_left hi] at hg
   rw [List.getElem?_append_left (by rw [← h.glen]; exact hi)] at vi
   exact step (World.ownsRow.kept (h.geach i g es hg vi) jH (zA (h.geach i g es hg vi) h.grow (by decide))) (by decide)
  ·have hil:i < gs.length + 1:=by have:=(yG.1 hg).1; rwa [yP] at this
   obtain rfl:i = gs.length:=by omega
   have kX:=h.glen
   rw [List.getElem?_append_right tg] at hg
   rw [List.getElem?_append_right (by omega)] at vi
   simp at hg
   rw [kX] at vi
   simp at vi
   subst hg vi
   exact step (World.ownsRow.kept heB jH (zA heB h.grow (by decide))) (by decide)
 ·refine ⟨fun g hg b L=>?_,List.pairwise_append.2 ⟨h.glt.2,List.pairwise_singleton _ _,fun g hg g' hg' b b' L kL=>?_⟩⟩
  ·rw [hseq]
   rcases List.mem_append.1 hg with Q | Q
   ·have:=h.glt.1 g Q b L; have:=h.le; omega
   ·simp at Q; subst Q
    have:=(h.erow.lt b L).2; omega
  ·have Q:=h.glt.1 g hg b L
   rw [List.mem_singleton.1 hg'] at kL
   have N:=(h.erow.lt b' kL).1
   omega
 ·obtain ⟨xr,hc⟩:=hbox0
  obtain ⟨cur1,kW⟩:=zM V0 mb 0 qx hc
  have hc2:V1.heap[mb]? = some (.cells cur1 49 (0,0)):=(xX.block mb hm0).trans kW
  obtain ⟨cur3,hc3⟩:=kind_setC V1 mb (wgT t ts).vs 3 hc2
  exact zM _ mb 11 _ hc3
 ·rw [hseq]; exact yN (yN h.bo h.le) hsw
 ·refine ⟨(set_os _ _ _).trans ((dU _ _ _ _).trans (xX.os.trans ((set_os _ _ _).trans jH.os))),(set_tape _ _ _).trans ((dP _ _ _ _).trans (xX.tape.trans ((set_tape _ _ _).trans jH.tape))),(set_output _ _ _).trans ((dO _ _ _ _).trans (xX.output.trans ((set_output _ _ _).trans jH.output))),by rw [hseq]; exact hsw,fun k hk hkm=>?_⟩
  have hkw:k < w.heap.size:=by have:=h.bo; have:=h.le; omega
  have hk0:k < V0.heap.size:=yJ hkw jH.size
  rw [yS _ _ _ _ hkm,cU mb k hkm,xX.block k hk0,yS _ _ _ _ hkm]
  exact jH.block k hkw (fun e=>by have:=(h.grow.lt k e.symm).1; omega)
def cutB (s:ByteArray):ByteArray:=if 12 < s.size then s.extract 0 13 else s
theorem cutB_one (s:ByteArray) (h:s.size = 13):cutB s = s:=by
 unfold cutB; rw [if_pos (by omega),← h]; exact ByteArray.extract_zero_size
theorem implCut_any (s:ByteArray) (w:World) (hs:s.size ≤ maxLen) :
  Calls Tryz.prog 29 #[yk s] w fun e w'=>e = .returned (yk (cutB s))∧w' = w:=by
 unfold maxLen at hs
 by_cases h:12 < s.size
 ·have HF:=Y (show cutB s = s.extract 0 13 from if_pos h)
  have h':(12:Int) < s.size:=by omega
  go_enter Tryz.func29,Tryz.ntmps29
  go_wp2
  go_ret
  exact ⟨by rw [U HF]; rfl,rfl⟩
 ·have HF:=Y (show cutB s = s from if_neg h)
  have h':(s.size:Int) ≤ 12:=by omega
  go_enter Tryz.func29,Tryz.ntmps29
  go_wp2
  go_ret
  exact ⟨by rw [U HF]; rfl,rfl⟩
end Go.Proofs.YtdliebbfcmdmaaaGreat
