/-.-/
import Derived.Test.YtbghmldggahjiaaGreatDoorUj31
set_option linter.unusedVariables false
set_option maxHeartbeats 6400000
set_option maxRecDepth 100000
namespace Go.Proofs.YtbghmldggahjiaaGreatDoor
open Go.RowKit
theorem cancel_chk {G B r:Nat}{vq:Value}{g:Gr}(e:Ev)(w:World)(h:GS G B r w vq g)(hi:GI g)(he:okE e=true)(X:e.kind=6)(M:e.cmd.g.size<=maxLen):Calls Tryz.prog 65 #[xj G 0,evV e] w fun x w'=>Chk G B r vq g e w x w':=by
 have hsf:=sfl;have hG:=h.lt;have jA:=h.base;have uy:Hid (zx g e=if zX g e≠0 then zX g e else if e.qty=leftAt g.l e.id then 0 else 7):=by show _ = _;simp[zx,X]
 have uV:Hid (takG g e=⟨g.nx,hitI g.l e.id e.qty,g.bg,g.cm,g.tk⟩):=by show _ = _;rw[takG,step6 X]
 have qf:Hid (∀k w',zx g e=k->k≠0->Kp G vq w w'->Chk G B r vq g e w (.panicked (brk k)) w'):=fun k w' D E h3=>chk_no D E h3;have uF:Hid (∀w' ux,zx g e=0->Kp G vq w w'->GS G B r w' ux (takG g e)->Chk G B r vq g e w (.returned (.tuple #[])) w'):=fun w' ux D E h3=>chk_ok D E h3;have qS:Hid (∀W,GS G B r W vq g->Calls Tryz.prog 95 #[xj G 0,evV e] W fun x w'=>x=outR (zX g e)/\yn W w'):=fun W hW=>start_any e W hW hi (by rw[X];decide) M;have cR:Hid (zX g e=0->GoodL g.l/\∃(k:Nat) (o:Od),plc g.l e.id=k/\g.l[k]? = some o):=fun h0=>⟨hi.good (.inl (by rw[(fu h0).1];decide)),by have E:=(fu h0).2;simp only[zV,X] at E;obtain⟨k,o,a,b,_⟩:=plc_pos (ref_can E);exact⟨k,o,a,b⟩⟩
 have HI:=Q hi;generalize Chk G B r vq g e w=C at qf uF |-;generalize zx g e=ru at qf uF uy;generalize takG g e=g' at uV uF;generalize zX g e=sr at qS cR uy;obtain⟨xl,⟨ck,cs,ct,cl,cq,ci,cp,cg⟩,id,xh,qty,xi,xg⟩:=e;simp only at X M
 try simp only at uy uV
 unfold evV at qS;simp only at qS cR;unfold evV;simp only;obtain⟨xA,HX⟩:=lY w (yv xl ck cs ct cl cq ci cp cg id xh qty xi xg) 89;have HS:Hid ((w.alloc (J (yv xl ck cs ct cl cq ci cp cg id xh qty xi xg).toArray 89)).heap.size=w.heap.size+1):=by show _ = _;simp
 have HG:=Q (zu h xA);have HB:Hid (Kp G vq w (w.alloc (J (yv xl ck cs ct cl cq ci cp cg id xh qty xi xg).toArray 89))):=eL xA;clear h xA hi he X M;go_enter Tryz.func65,Tryz.ntmps65;refine lX fun ho HK=>?_;go_wp2_with fail;refine Z HK _ _ ?_;clear HK;generalize (w.alloc (J (yv xl ck cs ct cl cq ci cp cg id xh qty xi xg).toArray 89))=W1 at HS HX HG HB |-;obtain⟨e0,e1,e2,e3,e4,e5,e6,e7,e8,e9,uL,uG,vJ,vu⟩:=yy (Z HX);go_wp2_with fail;refine(Z qS W1 (Z HG)).mono ?_;rintro x w2 ⟨hx,xE⟩;have xF:=Q (zf (Z HX) xE (by have:=Z HS;omega));have ua:=Q (zu (Z HG) xE);have xq:=Q (eg (Z HB) xE);have hS2:w.heap.size<w2.heap.size:=by have:=Z HS;have:=xE.size;omega
 clear xE e0 e1 e2 e3 e4 e5 e6 e7 e8 e9 uL uG vJ vu
 by_cases hs:sr=0
 case neg =>
  rw[outR_no hs] at hx;subst hx;go_wp2_with fail;exact⟨rfl,Z qf _ _ (by rw[Z uy,if_pos hs]) hs (Z xq)⟩
 rw[outR_ok hs] at hx;subst hx;have HSR:=Q hs;have uo:=Q (Z uy);rw[if_neg (not_not_intro hs)] at uo;clear hs uy;obtain⟨qZ,k,o,uJ,vC⟩:=Z cR (Z HSR);have xy:g.l ≠ []:=by intro h;rw[h] at vC;simp at vC
 have pg:=(yG.1 vC).1;obtain⟨gb,cap,rfl,xC,hBg,hgw⟩:=fM (Z ua).row xy;rw[leftAt_at uJ vC] at uo;have pt:=qZ.left o (yO vC);have oo:=(Z HI).len;have uD:Hid (w2.cell? (U gb (k*6+3))=some (H o.left)):=(row_here (Z ua).row (by omega) vC).1 3 _ rfl;have uU:=Q (zP (Z ua).row (by omega));have kb:=Q uJ;have ak:=Q vC;have HOL:=Q pt;have hkl':(k:Int)<g.l.length:=by omega
 have oB:(0:Int)<=k:=by omega
 have HRU3:=Q (Z uo);clear qZ uJ vC xy pt cR oo uo;generalize hol2:o.left=ol at HRU3 uD;have HOE:=Q hol2;clear hol2;go_wp2_with fail;refine zL (RWA (fun f=>{ tmps:=#[xj G 0,.agg (yv xl ck cs ct cl cq ci cp cg id xh qty xi xg).toArray,F,xj w.heap.size 0,xj G 0,.agg (yv xl ck cs ct cl cq ci cp cg id xh qty xi xg).toArray,.tuple #[],f 0,f 1,f 2,f 3,f 4,f 5,f 6,f 7,f 8,f 9,f 10,f 11,f 12,f 13,f 14,f 15,f 16,f 17,f 18,F,F,F,F,F,F,F,F],defers:=[] }) (CVw [some (xj w.heap.size 11),some (H qty),some (xj G 0),some (xj G 0),some (xj G 1),some (xj G 2),some (.slice (some (U gb 0)) g.l.length cap),some (xj G 0),some (xj G 0),some (xj G 1),some (.agg #[H g.nx,.slice (some (U gb 0)) g.l.length cap]),some (xj w.heap.size 9),some (H id),some (H k),some (xj gb (k*6)),some (xj gb (k*6+3)),some (H ol),some (.bool (qty==ol)),some (.tuple #[])] (fun j=>j=18->qty=ol)) 18 (fun V=>V) w2) (by kernel_rfl) ?_ ?_ ?_
 ·exact⟨fun _=>F,rfl,⟨fun j hj=>by rw[yI] at hj;split at hj <;> simp at hj,fun _=>⟨rfl,rfl,rfl,Nat.le_refl _,fun _ _=>rfl⟩,fun hj=>by rw[yI] at hj;split at hj <;> simp at hj⟩⟩
 ·rintro x hb V ⟨f,rfl,hR⟩ hx xU;have xv:=eJ xU hx (acyc _ (by kernel_rfl));obtain⟨V0,xA,eV⟩:=hR.m (xv 18 (by simp));have hqe:=(hR.c 18 (xv 18 (by simp))).2 rfl;have HQ:=Q (Z HRU3);rw[if_pos hqe] at HQ;subst eV;have xw:=Q (zf (Z xF) xA hS2);have uP:=Q (zu (Z ua) xA);have xK:=Q (eg (Z xq) xA);clear hR xv xU hx xA uD uU HRU3;generalize f 0=v0,f 1=v1,f 2=v2,f 3=v3,f 4=v4,f 5=v5,f 6=v6,f 7=v7,f 8=v8,f 9=v9,f 10=v10,f 11=v11,f 12=v12,f 13=v13,f 14=v14,f 15=v15,f 16=v16,f 17=v17,f 18=v18;subst hqe;dsimp only;go_wp2_with fail;have uK:Hid (Bx V.drew w.heap.size (yv xl ck cs ct cl cq ci cp cg id xh qty xi xg)):=zm (Z xw);have uQ:Hid (GS G B r V.drew (.slice (some (U gb 0)) g.l.length cap) g):=zu (Z uP) ⟨rfl,rfl,rfl,Nat.le_refl _,fun _ _=>rfl⟩;have uT:Hid (Kp G (.slice (some (U gb 0)) g.l.length cap) w V.drew):=ie (Z xK);have e9:=Y (Z uK) 9 rfl;have uG:=Y (Z uK) 11 rfl;refine zw 7 (by kernel_rfl) (by kernel_rfl) ?_;simp only[yT,List.take_zero,yU,List.drop_zero]
  repeat still_step
  refine wpStill_nil ?_;go_wp2_with fail;refine(lh G 1 B g.nx id qty _ g.l k o _ (Y (Z uQ).box 1 rfl) (Y (Z uQ).box 2 rfl) (zc (Z uQ).box 2 (by show 2<16;decide)) (Z uQ).row (Z uQ).nq (Z uQ).lt (Z uQ).base (yN (Z HI).len (by decide)) (Z kb) (Z ak) (by have:=Z HOL;have:=Z HOE;omega) (by have:=Z HOE;omega) (Z HOL).2).mono ?_;rintro e w9 ⟨ux,rfl,dm,bD,dI⟩;have HG9:=Q (gs_took (Z uQ) dm bD dI);have bH:=Q (kp_took (Z uT) dI);clear dm bD dI;go_wp2_with fail;go_end0;refine Z uF _ ux (Z HQ) (Z bH) ?_;rw[Z uV];simp only[fi (Z kb) (Z ak)];exact Z HG9
 ·rintro x hb V i op ⟨f,rfl,hR⟩ xm hx K xJ I;have xu:=Q hR
  have nw:i<18->x[18]? = some false:=fun xH=>by
   rcases fj hx (show 18<19 by omega) with hq|hw
   ·exact hq
   ·exfalso;have jV:=yf xm 18 rfl hw 17 rfl;have D:=yf xm 17 rfl jV 1 rfl;have h0:=yf xm 1 rfl D 0 rfl;have h16:=yf xm 17 rfl jV 16 rfl;have jJ:=yf xm 16 rfl h16 15 rfl;have h14:=yf xm 15 rfl jJ 14 rfl;have h6:=yf xm 14 rfl h14 6 rfl;have pU:=yf xm 14 rfl h14 13 rfl;have h5:=yf xm 6 rfl h6 5 rfl;have h4:=yf xm 5 rfl h5 4 rfl;have h3:=yf xm 4 rfl h4 3 rfl;have E:=yf xm 3 rfl h3 2 rfl;have vv:=yf xm 13 rfl pU 10 rfl;have qv:=yf xm 13 rfl pU 12 rfl;have h9:=yf xm 10 rfl vv 9 rfl;have h8:=yf xm 9 rfl h9 8 rfl;have h7:=yf xm 8 rfl h8 7 rfl;have jz:=yf xm 12 rfl qv 11 rfl;rcases(by omega:i=0\/i=1\/i=2\/i=3\/i=4\/i=5\/i=6\/i=7\/i=8\/i=9\/i=10\/i=11\/i=12\/i=13\/i=14\/i=15\/i=16\/i=17) with rfl|rfl|rfl|rfl|rfl|rfl|rfl|rfl|rfl|rfl|rfl|rfl|rfl|rfl|rfl|rfl|rfl|rfl
    ·exact absurd (h0.symm.trans xJ) (by simp)
    ·exact absurd (D.symm.trans xJ) (by simp)
    ·exact absurd (E.symm.trans xJ) (by simp)
    ·exact absurd (h3.symm.trans xJ) (by simp)
    ·exact absurd (h4.symm.trans xJ) (by simp)
    ·exact absurd (h5.symm.trans xJ) (by simp)
    ·exact absurd (h6.symm.trans xJ) (by simp)
    ·exact absurd (h7.symm.trans xJ) (by simp)
    ·exact absurd (h8.symm.trans xJ) (by simp)
    ·exact absurd (h9.symm.trans xJ) (by simp)
    ·exact absurd (vv.symm.trans xJ) (by simp)
    ·exact absurd (jz.symm.trans xJ) (by simp)
    ·exact absurd (qv.symm.trans xJ) (by simp)
    ·exact absurd (pU.symm.trans xJ) (by simp)
    ·exact absurd (h14.symm.trans xJ) (by simp)
    ·exact absurd (jJ.symm.trans xJ) (by simp)
    ·exact absurd (h16.symm.trans xJ) (by simp)
    ·exact absurd (jV.symm.trans xJ) (by simp)
  have uR:i<18->yn w2 V:=fun h=>hR.b (nw h);have xn:i<18->∀(p:Addr) u,w2.cell? p=some u->V.cell? p=some u:=fun h p u hu=>((uR h).cell (yK w2 _ hu)).trans hu
  match i,K with
  | 0,K =>
   obtain rfl:=yb K;have CL:=xn (by omega);clear I hR uR xn nw CL;rw[if_pos (by rfl)];unfold Oper.wp;go_simp;exact⟨upd f 0 (xj w.heap.size 11),by simp[upd],zW (Z xu) 0 _ ⟨yi rfl,(by intro h;cases h)⟩ (by decide)⟩
  | 1,K =>
   obtain rfl:=yb K;have g0:=(hR.c 0 (ye I 0 rfl)).1 _ rfl;have CL:=xn (by omega);have z:=CL (U w.heap.size 11) _ (Y (Z xF) 11 rfl);clear I hR uR xn nw CL;rw[if_pos (by rfl)];unfold Oper.wp;go_simp;exact⟨upd f 1 (H qty),by simp[upd,g0],zW (Z xu) 1 _ ⟨yi rfl,(by intro h;cases h)⟩ (by decide)⟩
  | 2,K|7,K =>
   obtain rfl:=yb K;have CL:=xn (by omega);clear I hR uR xn nw CL;rw[if_pos (by rfl)];unfold Oper.wp;go_simp;exact⟨upd f _ (xj G 0),by simp[upd],zW (Z xu) _ _ ⟨yi rfl,(by intro h;cases h)⟩ (by decide)⟩
  | 3,K =>
   obtain rfl:=yb K;have g2:=(hR.c 2 (ye I 2 rfl)).1 _ rfl;have CL:=xn (by omega);clear I hR uR xn nw CL;rw[if_pos (by rfl)];unfold Oper.wp;go_simp;exact⟨upd f 3 (xj G 0),by simp[upd,g2],zW (Z xu) 3 _ ⟨yi rfl,(by intro h;cases h)⟩ (by decide)⟩
  | 4,K =>
   obtain rfl:=yb K;have g3:=(hR.c 3 (ye I 3 rfl)).1 _ rfl;have CL:=xn (by omega);clear I hR uR xn nw CL;rw[if_pos (by rfl)];unfold Oper.wp;go_simp;exact⟨upd f 4 (xj G 1),by simp[upd,g3],zW (Z xu) 4 _ ⟨yi rfl,(by intro h;cases h)⟩ (by decide)⟩
  | 5,K =>
   obtain rfl:=yb K;have g4:=(hR.c 4 (ye I 4 rfl)).1 _ rfl;have CL:=xn (by omega);clear I hR uR xn nw CL;rw[if_pos (by rfl)];unfold Oper.wp;go_simp;exact⟨upd f 5 (xj G 2),by simp[upd,g4],zW (Z xu) 5 _ ⟨yi rfl,(by intro h;cases h)⟩ (by decide)⟩
  | 6,K =>
   obtain rfl:=yb K;have g5:=(hR.c 5 (ye I 5 rfl)).1 _ rfl;have CL:=xn (by omega);have z:=CL (U G 2) _ (Y (Z ua).box 2 rfl);clear I hR uR xn nw CL;rw[if_pos (by rfl)];unfold Oper.wp;go_simp;exact⟨upd f 6 (.slice (some (U gb 0)) g.l.length cap),by simp[upd,g5],zW (Z xu) 6 _ ⟨yi rfl,(by intro h;cases h)⟩ (by decide)⟩
  | 8,K =>
   obtain rfl:=yb K;have g7:=(hR.c 7 (ye I 7 rfl)).1 _ rfl;have CL:=xn (by omega);clear I hR uR xn nw CL;rw[if_pos (by rfl)];unfold Oper.wp;go_simp;exact⟨upd f 8 (xj G 0),by simp[upd,g7],zW (Z xu) 8 _ ⟨yi rfl,(by intro h;cases h)⟩ (by decide)⟩
  | 9,K =>
   obtain rfl:=yb K;have g8:=(hR.c 8 (ye I 8 rfl)).1 _ rfl;have CL:=xn (by omega);clear I hR uR xn nw CL;rw[if_pos (by rfl)];unfold Oper.wp;go_simp;exact⟨upd f 9 (xj G 1),by simp[upd,g8],zW (Z xu) 9 _ ⟨yi rfl,(by intro h;cases h)⟩ (by decide)⟩
  | 10,K =>
   obtain rfl:=yb K;have g9:=(hR.c 9 (ye I 9 rfl)).1 _ rfl;have CL:=xn (by omega);have z1:=CL (U G 1) _ (Y (Z ua).box 1 rfl);have z2:=CL (U G 2) _ (Y (Z ua).box 2 rfl);clear I hR uR xn nw CL;rw[if_pos (by rfl)];unfold Oper.wp;go_simp;exact⟨upd f 10 (.agg #[H g.nx,.slice (some (U gb 0)) g.l.length cap]),by simp[upd,g9],zW (Z xu) 10 _ ⟨yi rfl,(by intro h;cases h)⟩ (by decide)⟩
  | 11,K =>
   obtain rfl:=yb K;have CL:=xn (by omega);clear I hR uR xn nw CL;rw[if_pos (by rfl)];unfold Oper.wp;go_simp;exact⟨upd f 11 (xj w.heap.size 9),by simp[upd],zW (Z xu) 11 _ ⟨yi rfl,(by intro h;cases h)⟩ (by decide)⟩
  | 12,K =>
   obtain rfl:=yb K;have jU:=(hR.c 11 (ye I 11 rfl)).1 _ rfl;have CL:=xn (by omega);have z:=CL (U w.heap.size 9) _ (Y (Z xF) 9 rfl);clear I hR uR xn nw CL;rw[if_pos (by rfl)];unfold Oper.wp;go_simp;exact⟨upd f 12 (H id),by simp[upd,jU],zW (Z xu) 12 _ ⟨yi rfl,(by intro h;cases h)⟩ (by decide)⟩
  | 13,K =>
   obtain rfl:=yb K;have oi:=(hR.c 10 (ye I 10 rfl)).1 _ rfl;have qh:=(hR.c 12 (ye I 12 rfl)).1 _ rfl;have CL:=xn (by omega);have hw:=nw (by omega);have oF:=Q (zq (Z uU) (uR (by omega)) ya);clear I hR uR xn nw CL;rw[if_pos (by rfl)];unfold Oper.wp;go_simp;refine(iS g.nx _ g.l id V (Z oF)).mono ?_;rw[Z kb];rintro e w4 ⟨rfl,xz⟩;exact⟨upd f 13 (H k),by simp[upd,oi,qh],zW (im (Z xu) hw xz) 13 _ ⟨yi rfl,(by intro h;cases h)⟩ (by decide)⟩
  | 14,K =>
   obtain rfl:=yb K;have g6:=(hR.c 6 (ye I 6 rfl)).1 _ rfl;have oZ:=(hR.c 13 (ye I 13 rfl)).1 _ rfl;have CL:=xn (by omega);clear I hR uR xn nw CL;rw[if_pos (by rfl)];unfold Oper.wp;go_simp;exact⟨upd f 14 (xj gb (k*6)),by simp[upd,g6,oZ],zW (Z xu) 14 _ ⟨yi rfl,(by intro h;cases h)⟩ (by decide)⟩
  | 15,K =>
   obtain rfl:=yb K;have bp:=(hR.c 14 (ye I 14 rfl)).1 _ rfl;have CL:=xn (by omega);clear I hR uR xn nw CL;rw[if_pos (by rfl)];unfold Oper.wp;go_simp;exact⟨upd f 15 (xj gb (k*6+3)),by simp[upd,bp],zW (Z xu) 15 _ ⟨yi rfl,(by intro h;cases h)⟩ (by decide)⟩
  | 16,K =>
   obtain rfl:=yb K;have g15:=(hR.c 15 (ye I 15 rfl)).1 _ rfl;have CL:=xn (by omega);have z:=CL (U gb (k*6+3)) _ (Z uD);clear I hR uR xn nw CL;rw[if_pos (by rfl)];unfold Oper.wp;go_simp;exact⟨upd f 16 (H ol),by simp[upd,g15],zW (Z xu) 16 _ ⟨yi rfl,(by intro h;cases h)⟩ (by decide)⟩
  | 17,K =>
   obtain rfl:=yb K;have g1:=(hR.c 1 (ye I 1 rfl)).1 _ rfl;have g16:=(hR.c 16 (ye I 16 rfl)).1 _ rfl;have CL:=xn (by omega);clear I hR uR xn nw CL;rw[if_pos (by rfl)];unfold Oper.wp;go_simp;exact⟨upd f 17 (.bool (qty==ol)),by simp[upd,g1,g16],zW (Z xu) 17 _ ⟨yi rfl,(by intro h;cases h)⟩ (by decide)⟩
  | 18,K =>
   obtain rfl:=yb K;have g17:=(hR.c 17 (ye I 17 rfl)).1 _ rfl;have uH:=Q (eg (Z xq) (hR.b xJ));clear I hR uR xn nw;rw[if_pos (by rfl)];unfold Oper.wp;go_simp
   by_cases hqe:qty=ol
   ·have bq:(qty==ol)=true:=by simpa using hqe
    have hd:=eG 7 V;rw[<- bq] at hd;refine hd.mono ?_;rintro e w4 ⟨rfl,rfl⟩;exact⟨upd f 18 (.tuple #[]),by simp[upd,g17,bq],rw_lastv (T:=fun V=>V) (Z xu) xJ ⟨yi rfl,fun _=>hqe⟩⟩
   ·have bq:(qty==ol)=false:=by simpa using hqe
    have hd:=ez 7 V;rw[<- bq] at hd;refine hd.mono ?_;rintro e w4 ⟨rfl,rfl⟩;have HQ:=Q (Z HRU3);rw[if_neg hqe] at HQ;clear hqe bq;go_wp2_with fail;exact⟨rfl,Z qf 7 _ (Z HQ) (by decide) (Z uH)⟩
  | i+19,K=>simp at K
theorem reduce_chk {G B r:Nat}{vq:Value}{g:Gr}(e:Ev)(w:World)(h:GS G B r w vq g)(hi:GI g)(he:okE e=true)(X:e.kind=7)(M:e.cmd.g.size<=maxLen):Calls Tryz.prog 66 #[xj G 0,evV e] w fun x w'=>Chk G B r vq g e w x w':=by
 have hsf:=sfl;have hG:=h.lt;have jA:=h.base;have uy:Hid (zx g e=if zX g e≠0 then zX g e else 0):=by show _ = _;rw[show zx g e=zX g e by simp[zx,X]];split <;> simp_all
 have uV:Hid (takG g e=⟨g.nx,setI g.l e.id e.qty,g.bg,g.cm,g.tk⟩):=by show _ = _;rw[takG,step7 X]
 have qf:Hid (∀k w',zx g e=k->k≠0->Kp G vq w w'->Chk G B r vq g e w (.panicked (brk k)) w'):=fun k w' D E h3=>chk_no D E h3;have uF:Hid (∀w' ux,zx g e=0->Kp G vq w w'->GS G B r w' ux (takG g e)->Chk G B r vq g e w (.returned (.tuple #[])) w'):=fun w' ux D E h3=>chk_ok D E h3;have qS:Hid (∀W,GS G B r W vq g->Calls Tryz.prog 95 #[xj G 0,evV e] W fun x w'=>x=outR (zX g e)/\yn W w'):=fun W hW=>start_any e W hW hi (by rw[X];decide) M;have cR:Hid (zX g e=0->∃(k:Nat) (o:Od),plc g.l e.id=k/\g.l[k]? = some o):=fun h0=>by have E:=(fu h0).2;simp only[zV,X] at E;obtain⟨k,o,a,b,_⟩:=ref_red E;exact⟨k,o,a,b⟩
 have HI:=Q hi;generalize Chk G B r vq g e w=C at qf uF |-;generalize zx g e=ru at qf uF uy;generalize takG g e=g' at uV uF;generalize zX g e=sr at qS cR uy;obtain⟨xl,⟨ck,cs,ct,cl,cq,ci,cp,cg⟩,id,xh,qty,xi,xg⟩:=e;simp only at X M
 try simp only at uy uV
 unfold evV at qS;simp only at qS cR;unfold evV;simp only;obtain⟨xA,HX⟩:=lY w (yv xl ck cs ct cl cq ci cp cg id xh qty xi xg) 89;have HS:Hid ((w.alloc (J (yv xl ck cs ct cl cq ci cp cg id xh qty xi xg).toArray 89)).heap.size=w.heap.size+1):=by show _ = _;simp
 have HG:=Q (zu h xA);have HB:Hid (Kp G vq w (w.alloc (J (yv xl ck cs ct cl cq ci cp cg id xh qty xi xg).toArray 89))):=eL xA;clear h xA hi he X M;go_enter Tryz.func66,Tryz.ntmps66;refine lX fun ho HK=>?_;go_wp2_with fail;refine Z HK _ _ ?_;clear HK;generalize (w.alloc (J (yv xl ck cs ct cl cq ci cp cg id xh qty xi xg).toArray 89))=W1 at HS HX HG HB |-;obtain⟨e0,e1,e2,e3,e4,e5,e6,e7,e8,e9,uL,uG,vJ,vu⟩:=yy (Z HX);go_wp2_with fail;refine(Z qS W1 (Z HG)).mono ?_;rintro x w2 ⟨hx,xE⟩;have xF:=Q (zf (Z HX) xE (by have:=Z HS;omega));have ua:=Q (zu (Z HG) xE);have xq:=Q (eg (Z HB) xE);have hS2:w.heap.size<w2.heap.size:=by have:=Z HS;have:=xE.size;omega
 clear xE e0 e1 e2 e3 e4 e5 e6 e7 e8 e9 uL uG vJ vu
 by_cases hs:sr=0
 case neg =>
  rw[outR_no hs] at hx;subst hx;go_wp2_with fail;exact⟨rfl,Z qf _ _ (by rw[Z uy,if_pos hs]) hs (Z xq)⟩
 rw[outR_ok hs] at hx;subst hx;have HSR:=Q hs;have uo:=Q (Z uy);rw[if_neg (not_not_intro hs)] at uo;clear hs uy;obtain⟨k,o,uJ,vC⟩:=Z cR (Z HSR);have xy:g.l ≠ []:=by intro h;rw[h] at vC;simp at vC
 have pg:=(yG.1 vC).1;obtain⟨gb,cap,rfl,xC,hBg,hgw⟩:=fM (Z ua).row xy;have oo:=(Z HI).len;have uU:=Q (zP (Z ua).row (by omega));have kb:=Q uJ;have ak:=Q vC;have hkl':(k:Int)<g.l.length:=by omega
 have oB:(0:Int)<=k:=by omega
 clear uJ vC xy cR;go_wp2_with fail;have vV:Hid (yn w2 w2.drew):=(Below.refl _ _).drew;have hG2:=(Z ua).lt;have c1:=Y (Z ua).box 1 rfl;have c2:=Y (Z ua).box 2 rfl;have e9:=Y (Z xF) 9 rfl;have uG:=Y (Z xF) 11 rfl;have HPO:Hid (∀V,yn w2 V->Calls Tryz.prog 103 #[.agg #[H g.nx,.slice (some (U gb 0)) g.l.length cap],H id] V fun e w'=>e = .returned (H k)/\yn w2 w'):=fun V hV=>(iS g.nx _ g.l id V (zq (Z uU) hV ya)).mono fun e w' ⟨D,E⟩=>⟨by rw[D,Z kb],hV.trans (E.mono hV.size)⟩
 go_region_with (go_at_call 103;refine(Z HPO _ (Z vV)).mono ?_;rintro e w4 ⟨rfl,hq⟩;have y2:=(hq.cell (p:=(U G 2)) hG2).trans c2;have y11:=(hq.cell (p:=(U w.heap.size 11)) hS2).trans uG;have bR:=Q (row_here (zu (Z ua) hq).row (by omega) (Z ak));have z3:=(Z bR).1 3 _ rfl;have q3:=(Z bR).2 3 (by omega))
 all_goals
  go_end0;have HL:=oRow_left (zu (Z ua) hq).row rfl (Z ak) qty;refine Z uF _ (.slice (some (U gb 0)) g.l.length cap) (Z uo) ?_ ?_
  ·exact kp_row (eg (Z xq) hq) HL.2 rfl
  ·rw[Z uV];simp only[setI_at (Z kb) (Z ak)];exact gs_rowset (zu (Z ua) hq) HL.1 HL.2 rfl
theorem endDay_chk {G B r:Nat}{vq:Value}{g:Gr}(e:Ev)(w:World)(h:GS G B r w vq g)(hi:GI g)(he:okE e=true)(X:e.kind=8)(M:e.cmd.g.size<=maxLen):Calls Tryz.prog 67 #[xj G 0,evV e] w fun x w'=>Chk G B r vq g e w x w':=by
 have hsf:=sfl;have hG:=h.lt;have jA:=h.base;have uy:Hid (zx g e=if zX g e≠0 then zX g e else if e.qty=((g.l.filter isDy).length:Int) then 0 else 7):=by show _ = _;simp[zx,X]
 have uV:Hid (takG g e=⟨g.nx,g.l,g.bg,g.cm,g.tk⟩):=by show _ = _;rw[takG,step8 X]
 have qf:Hid (∀k w',zx g e=k->k≠0->Kp G vq w w'->Chk G B r vq g e w (.panicked (brk k)) w'):=fun k w' D E h3=>chk_no D E h3;have uF:Hid (∀w' ux,zx g e=0->Kp G vq w w'->GS G B r w' ux (takG g e)->Chk G B r vq g e w (.returned (.tuple #[])) w'):=fun w' ux D E h3=>chk_ok D E h3;have qS:Hid (∀W,GS G B r W vq g->Calls Tryz.prog 95 #[xj G 0,evV e] W fun x w'=>x=outR (zX g e)/\yn W w'):=fun W hW=>start_any e W hW hi (by rw[X];decide) M;have HI:=Q hi;generalize Chk G B r vq g e w=C at qf uF |-;generalize zx g e=ru at qf uF uy;generalize takG g e=g' at uV uF;generalize zX g e=sr at qS uy;obtain⟨xl,⟨ck,cs,ct,cl,cq,ci,cp,cg⟩,id,xh,qty,xi,xg⟩:=e;simp only at X M
 try simp only at uy uV
 unfold evV at qS;simp only at qS;unfold evV;simp only;obtain⟨xA,HX⟩:=lY w (yv xl ck cs ct cl cq ci cp cg id xh qty xi xg) 89;have HS:Hid ((w.alloc (J (yv xl ck cs ct cl cq ci cp cg id xh qty xi xg).toArray 89)).heap.size=w.heap.size+1):=by show _ = _;simp
 have HG:=Q (zu h xA);have HB:Hid (Kp G vq w (w.alloc (J (yv xl ck cs ct cl cq ci cp cg id xh qty xi xg).toArray 89))):=eL xA;clear h xA hi he X M;go_enter Tryz.func67,Tryz.ntmps67;refine lX fun ho HK=>?_;go_wp2_with fail;refine Z HK _ _ ?_;clear HK;generalize (w.alloc (J (yv xl ck cs ct cl cq ci cp cg id xh qty xi xg).toArray 89))=W1 at HS HX HG HB |-;obtain⟨e0,e1,e2,e3,e4,e5,e6,e7,e8,e9,uL,uG,vJ,vu⟩:=yy (Z HX);go_wp2_with fail;refine(Z qS W1 (Z HG)).mono ?_;rintro x w2 ⟨hx,xE⟩;have xF:=Q (zf (Z HX) xE (by have:=Z HS;omega));have ua:=Q (zu (Z HG) xE);have xq:=Q (eg (Z HB) xE);have hS2:w.heap.size<w2.heap.size:=by have:=Z HS;have:=xE.size;omega
 clear xE e0 e1 e2 e3 e4 e5 e6 e7 e8 e9 uL uG vJ vu
 by_cases hs:sr=0
 case neg =>
  rw[outR_no hs] at hx;subst hx;go_wp2_with fail;exact⟨rfl,Z qf _ _ (by rw[Z uy,if_pos hs]) hs (Z xq)⟩
 rw[outR_ok hs] at hx;subst hx;have HSR:=Q hs;have uo:=Q (Z uy);rw[if_neg (not_not_intro hs)] at uo;clear hs uy;have oo:=(Z HI).len;obtain⟨a,cap,rfl,xD,hc⟩:=zP (Z ua).row (by omega)
 have xp:∀(k:Nat) (c:Od),g.l[k]? = some c->∃b off,a=some (U b off)/\b<w2.heap.size/\w2.rangeAt b (off+k*6) c.vs:=by
  intro k c X;obtain⟨b,off,D,E,h3⟩:=hc (by intro h;rw[h] at X;simp at X);exact⟨b,off,D,E,h3 k c X⟩
 have HC:=Q xp;clear xp hc xD;have c2:w2.cell? (U G 2)=some (.slice a g.l.length cap):=Y (Z ua).box 2 rfl;go_wp2_with fail;clear c2;go_loopw [4,16] (fun cv iv wr=>∃k:Nat,k<=g.l.length/\cv=H (((g.l.take k).filter isDy).length:Int)/\iv=H k/\yn w2 wr) (fun _ iv _=>g.l.length-(intOf iv).toNat)
 case atStart=>exact⟨0,Nat.zero_le _,rfl,rfl,Below.refl _ _⟩
 case round =>
  obtain⟨k,X,rfl,rfl,xk⟩:=hrel;have vT:=Q xk;clear xk
  by_cases xH:k<g.l.length
  ·obtain⟨c,qk⟩:∃c,g.l[k]? = some c:=⟨_,yH xH⟩
   have HT:Hid (((g.l.take (k+1)).filter isDy).length=((g.l.take k).filter isDy).length+if isDy c=true then 1 else 0):=by
    show _ = _;rw[List.take_add_one,qk];simp[List.filter_cons];split <;> simp
   have hcn:((g.l.take k).filter isDy).length<=k:=yN (List.length_filter_le _ _) (by simp;omega);generalize ((g.l.take k).filter isDy).length=cn at HT hcn |-;obtain⟨b,off,rfl,A,xm⟩:=Z HC k c qk;obtain⟨g0,g1,g2,g3,g4,g5⟩:=zM (zd xm (Z vT) A);have uq:(k:Int)<g.l.length:=by omega
   have xz:=lT wr (J (yw c.id c.side c.ticks c.left c.life c.tag).toArray 98);have xK:=Q (lW (Z vT) xz);clear qk xm A xz;go_wp2_with fail;refine(isOfDay_any c (wr.alloc (J (yw c.id c.side c.ticks c.left c.life c.tag).toArray 98))).mono ?_;rintro e w3 ⟨rfl,xN⟩;have xZ:=Q (lW (Z xK) xN);clear xN g0 g1 g2 g3 g4 g5;have hwr:IntKind.i64.wrap ((cn:Int)+1)=(cn:Int)+1:=by rw[IntKind.wrap_i64];omega
   by_cases uf:c.life=1
   ·have A:(c.life==1)=true:=by simpa using uf
    have ue:Hid (((g.l.take (k+1)).filter isDy).length=cn+1):=by show _ = _;rw[Z HT,if_pos (by simpa[isDy] using uf)]
    clear uf HT;go_wp2_with fail;go_roundw
    case rel=>exact⟨k+1,by omega,by rw[Z ue];rfl,by go_num,Z xZ⟩
    case measure=>simp[intOf];omega
   ·have A:(c.life==1)=false:=by simpa using uf
    have ue:Hid (((g.l.take (k+1)).filter isDy).length=cn):=by show _ = _;rw[Z HT,if_neg (by simpa[isDy] using uf)];rfl
    clear uf HT;go_wp2_with fail;go_roundw
    case rel=>exact⟨k+1,by omega,by rw[Z ue],by go_num,Z xZ⟩
    case measure=>simp[intOf];omega
  ·have hk':k=g.l.length:=by omega
   subst hk';rw[List.take_length];generalize hcn:(g.l.filter isDy).length=cn at uo;clear hcn;have xw:=Q (zf (Z xF) (Z vT) hS2);have uP:=Q (zu (Z ua) (Z vT));have xK:=Q (eg (Z xq) (Z vT));have uG:=Y (Z xw) 11 rfl
   by_cases hq:qty=(cn:Int)
   case neg =>
    have b0:(qty==(cn:Int))=false:=by simpa using hq
    have HQ:=Q (Z uo);rw[if_neg hq] at HQ;clear hq;go_wp2_with fail;refine(ez 7 _).mono ?_;rintro e w6 ⟨rfl,rfl⟩;go_wp2_with fail;exact⟨rfl,Z qf 7 _ (Z HQ) (by decide) (Z xK)⟩
   have b0:(qty==(cn:Int))=true:=by simpa using hq
   have HQ:=Q (Z uo);rw[if_pos hq] at HQ;clear hq;go_wp2_with fail;refine(eG 7 _).mono ?_;rintro e w6 ⟨rfl,rfl⟩;go_wp2_with fail;go_end0;refine Z uF _ (.slice a g.l.length cap) (Z HQ) (Z xK) ?_;rw[Z uV];exact Z uP
theorem drop_chk {G B r:Nat}{vq:Value}{g:Gr}(e:Ev)(w:World)(h:GS G B r w vq g)(hi:GI g)(he:okE e=true)(X:e.kind=5)(M:e.cmd.g.size<=maxLen):Calls Tryz.prog 64 #[xj G 0,evV e] w fun x w'=>Chk G B r vq g e w x w':=by
 have hsf:=sfl;have hG:=h.lt;have jA:=h.base;have uy:Hid (zx g e=if dueR g e≠0 then dueR g e else if dO e (dueG g)=true then 0 else 13):=by show _ = _;simp[zx,X]
 have uV:Hid (takG g e=⟨g.nx,g.l,g.bg,g.cm,{ g.tk with left:=0 }⟩):=by show _ = _;rw[takG,step5 X]
 have qf:Hid (∀k w',zx g e=k->k≠0->Kp G vq w w'->Chk G B r vq g e w (.panicked (brk k)) w'):=fun k w' D E h3=>chk_no D E h3;have uF:Hid (∀w' ux,zx g e=0->Kp G vq w w'->GS G B r w' ux (takG g e)->Chk G B r vq g e w (.returned (.tuple #[])) w'):=fun w' ux D E h3=>chk_ok D E h3;have og:Hid (∀W,GS G B r W vq g->Calls Tryz.prog 100 #[xj G 0,evV e] W fun x w'=>x=outD (dueR g e) (dueG g)/\yn W w'):=fun W hW=>lq e W hW hi;have bM:Hid (∀W,Calls Tryz.prog 102 #[evV e,duV (dueG g)] W fun r w'=>r = .returned (.bool (dO e (dueG g)))/\yn W w'):=fun W=>isJust_any e (dueG g) W;have HR45:Hid (zx g e=0->g.bg=1/\g.tk.left≠0):=gm (by omega);have HI:=Q hi;generalize Chk G B r vq g e w=C at qf uF |-;generalize zx g e=ru at qf uF uy HR45;generalize takG g e=g' at uV uF;generalize dueR g e=dr at og uy;generalize dO e (dueG g)=jb at bM uy;generalize dueG g=d at og bM;obtain⟨xl,⟨ck,cs,ct,cl,cq,ci,cp,cg⟩,id,xh,qty,xi,xg⟩:=e;simp only at X M
 try simp only at uy uV
 obtain⟨dk,di,dt,dq,dp⟩:=d;unfold evV at og bM;unfold duV at bM;simp only at og bM;unfold evV;simp only;obtain⟨xA,HX⟩:=lY w (yv xl ck cs ct cl cq ci cp cg id xh qty xi xg) 89;have HS:Hid ((w.alloc (J (yv xl ck cs ct cl cq ci cp cg id xh qty xi xg).toArray 89)).heap.size=w.heap.size+1):=by show _ = _;simp
 have HG:=Q (zu h xA);have HB:Hid (Kp G vq w (w.alloc (J (yv xl ck cs ct cl cq ci cp cg id xh qty xi xg).toArray 89))):=eL xA;clear h xA hi he X M;go_enter Tryz.func64,Tryz.ntmps64;refine lX fun ho HK=>?_;go_wp2_with fail;refine Z HK _ _ ?_;clear HK;generalize (w.alloc (J (yv xl ck cs ct cl cq ci cp cg id xh qty xi xg).toArray 89))=W1 at HS HX HG HB |-;go_wp2_with fail;refine zL (RWA (fun f=>{ tmps:=#[xj G 0,.agg (yv xl ck cs ct cl cq ci cp cg id xh qty xi xg).toArray,F,xj w.heap.size 0,f 0,f 1,f 2,f 3,f 4,f 5,F,F,F,F],defers:=[] }) (CVw [some (.agg (yv xl ck cs ct cl cq ci cp cg id xh qty xi xg).toArray),some (xj G 0),some (.agg (yv xl ck cs ct cl cq ci cp cg id xh qty xi xg).toArray),some (.agg #[H dk,H di,H dt,H dq,H dp]),some (.bool jb),some (.tuple #[])] (fun j=>(j=3->dr=0)/\(j=5->jb=true))) 5 (fun V=>V) W1) (by kernel_rfl) ?_ ?_ ?_
 ·exact⟨fun _=>F,rfl,⟨fun j hj=>by rw[yI] at hj;split at hj <;> simp at hj,fun _=>⟨rfl,rfl,rfl,Nat.le_refl _,fun _ _=>rfl⟩,fun hj=>by rw[yI] at hj;split at hj <;> simp at hj⟩⟩
 ·rintro x hb V ⟨f,rfl,hR⟩ hx xU;have xv:=eJ xU hx (acyc _ (by kernel_rfl));obtain⟨V0,xA,eV⟩:=hR.m (xv 5 (by simp));have ko:=(hR.c 3 (xv 3 (by simp))).2.1 rfl;have hjb:=(hR.c 5 (xv 5 (by simp))).2.2 rfl;have HQ:=Q (Z uy);rw[if_neg (not_not_intro ko),if_pos hjb] at HQ;subst eV;have uP:=Q (zu (Z HG) xA);have xK:=Q (eg (Z HB) xA);clear hR xv xU hx xA ko hjb uy og bM HX HS HG HB;dsimp only;generalize f 0=v0,f 1=v1,f 2=v2,f 3=v3,f 4=v4,f 5=v5;have c13:=Y (Z uP).box 13 rfl;have q13:=zc (Z uP).box 13 (by show 13<16;decide);go_wp2_with fail;go_end0;refine Z uF _ vq (Z HQ) (kp_set (Z xK) 13 _) ?_;rw[Z uV];exact gs_set (Z uP) 13 _ (by decide) rfl rfl
 ·rintro x hb V i op ⟨f,rfl,hR⟩ xm hx K xJ I;have xu:=Q hR
  have nw:i<5->x[5]? = some false:=fun xH=>by
   rcases fj hx (show 5<6 by omega) with hq|hw
   ·exact hq
   ·exfalso;have h4:=yf xm 5 rfl hw 4 rfl;have h0:=yf xm 4 rfl h4 0 rfl;have h3:=yf xm 4 rfl h4 3 rfl;have D:=yf xm 3 rfl h3 1 rfl;have E:=yf xm 3 rfl h3 2 rfl;rcases(by omega:i=0\/i=1\/i=2\/i=3\/i=4) with rfl|rfl|rfl|rfl|rfl
    ·exact absurd (h0.symm.trans xJ) (by simp)
    ·exact absurd (D.symm.trans xJ) (by simp)
    ·exact absurd (E.symm.trans xJ) (by simp)
    ·exact absurd (h3.symm.trans xJ) (by simp)
    ·exact absurd (h4.symm.trans xJ) (by simp)
  have uR:i<5->yn W1 V:=fun h=>hR.b (nw h);have xn:i<5->∀(p:Addr) u,W1.cell? p=some u->V.cell? p=some u:=fun h p u hu=>((uR h).cell (yK W1 _ hu)).trans hu
  match i,K with
  | 0,K|2,K =>
   obtain rfl:=yb K;have CL:=xn (by omega);have e0:=CL (U w.heap.size 0) _ (Y (Z HX) 0 rfl);have e1:=CL (U w.heap.size 1) _ (Y (Z HX) 1 rfl);have e2:=CL (U w.heap.size 2) _ (Y (Z HX) 2 rfl);have e3:=CL (U w.heap.size 3) _ (Y (Z HX) 3 rfl);have e4:=CL (U w.heap.size 4) _ (Y (Z HX) 4 rfl);have e5:=CL (U w.heap.size 5) _ (Y (Z HX) 5 rfl);have e6:=CL (U w.heap.size 6) _ (Y (Z HX) 6 rfl);have e7:=CL (U w.heap.size 7) _ (Y (Z HX) 7 rfl);have e8:=CL (U w.heap.size 8) _ (Y (Z HX) 8 rfl);have e9:=CL (U w.heap.size 9) _ (Y (Z HX) 9 rfl);have uL:=CL (U w.heap.size 10) _ (Y (Z HX) 10 rfl);have uG:=CL (U w.heap.size 11) _ (Y (Z HX) 11 rfl);have vJ:=CL (U w.heap.size 12) _ (Y (Z HX) 12 rfl);have vu:=CL (U w.heap.size 13) _ (Y (Z HX) 13 rfl);clear I hR uR xn nw CL;rw[if_pos (by rfl)];unfold Oper.wp;go_simp;exact⟨upd f _ (.agg (yv xl ck cs ct cl cq ci cp cg id xh qty xi xg).toArray),by simp[upd],zW (Z xu) _ _ ⟨yi rfl,⟨fun h=>absurd h (by decide),fun h=>absurd h (by decide)⟩⟩ (by decide)⟩
  | 1,K =>
   obtain rfl:=yb K;have CL:=xn (by omega);clear I hR uR xn nw CL;rw[if_pos (by rfl)];unfold Oper.wp;go_simp;exact⟨upd f 1 (xj G 0),by simp[upd],zW (Z xu) 1 _ ⟨yi rfl,⟨fun h=>absurd h (by decide),fun h=>absurd h (by decide)⟩⟩ (by decide)⟩
  | 3,K =>
   obtain rfl:=yb K;have g1:=(hR.c 1 (ye I 1 rfl)).1 _ rfl;have g2:=(hR.c 2 (ye I 2 rfl)).1 _ rfl;have CL:=xn (by omega);have hw:=nw (by omega);have uH:=Q (eg (Z HB) (uR (by omega)));have HGV:=Q (zu (Z HG) (uR (by omega)));clear I hR uR xn nw CL;rw[if_pos (by rfl)];unfold Oper.wp;go_simp;refine(Z og V (Z HGV)).mono ?_;rintro y w4 ⟨hy,xz⟩
   by_cases hs:dr=0
   ·rw[outD_ok hs] at hy;subst hy;exact⟨upd f 3 (.agg #[H dk,H di,H dt,H dq,H dp]),by simp[upd,g1,g2,duV],zW (im (Z xu) hw xz) 3 _ ⟨yi rfl,fun _=>hs,fun h=>absurd h (by decide)⟩ (by decide)⟩
   ·rw[outD_no hs] at hy;subst hy;have HQ:=Q (Z uy);rw[if_pos hs] at HQ;have kw:=Q hs;have uT:=Q (eg (Z uH) xz);clear hs xz;go_wp2_with fail;exact⟨rfl,Z qf _ _ (Z HQ) (Z kw) (Z uT)⟩
  | 4,K =>
   obtain rfl:=yb K;have g0:=(hR.c 0 (ye I 0 rfl)).1 _ rfl;have g3:=(hR.c 3 (ye I 3 rfl)).1 _ rfl;have CL:=xn (by omega);have hw:=nw (by omega);clear I hR uR xn nw CL;rw[if_pos (by rfl)];unfold Oper.wp;go_simp;refine(Z bM V).mono ?_;rintro y w4 ⟨rfl,xz⟩;exact⟨upd f 4 (.bool jb),by simp[upd,g0,g3],zW (im (Z xu) hw xz) 4 _ ⟨yi rfl,⟨fun h=>absurd h (by decide),fun h=>absurd h (by decide)⟩⟩ (by decide)⟩
  | 5,K =>
   obtain rfl:=yb K;have g4:=(hR.c 4 (ye I 4 rfl)).1 _ rfl;have uH:=Q (eg (Z HB) (hR.b xJ));have h4:=I ⟨4,.data⟩ (by simp) rfl;have h3:=yf xm 4 rfl h4 3 rfl;have ko:=(hR.c 3 h3).2.1 rfl;have HQ:=Q (Z uy);rw[if_neg (not_not_intro ko)] at HQ;clear I hR uR xn nw h4 h3 ko;rw[if_pos (by rfl)];unfold Oper.wp;go_simp
   by_cases hj:jb=true
   ·have hd:=eG 13 V;rw[<- hj] at hd;refine hd.mono ?_;rintro e w4 ⟨rfl,rfl⟩;exact⟨upd f 5 (.tuple #[]),by simp[upd,g4],rw_lastv (T:=fun V=>V) (Z xu) xJ ⟨yi rfl,fun h=>absurd h (by decide),fun _=>hj⟩⟩
   ·have hj2:jb=false:=by simpa using hj
    have hd:=ez 13 V;rw[<- hj2] at hd;refine hd.mono ?_;rintro e w4 ⟨rfl,rfl⟩;rw[if_neg hj] at HQ;clear hj hj2 hd;go_wp2_with fail;exact⟨rfl,Z qf 13 _ (Z HQ) (by decide) (Z uH)⟩
  | i+6,K=>simp at K
section
variable {C:Nat->Value->Prop} {n m:Nat} {p:Addr} {hb:World->Value->Prop} {base W W':World} {x:List Bool} {f:Nat->Value}
end
theorem rest_chk {G B r:Nat}{vq:Value}{g:Gr}(e:Ev)(w:World)(h:GS G B r w vq g)(hi:GI g)(he:okE e=true)(X:e.kind=4)(M:e.cmd.g.size<=maxLen):Calls Tryz.prog 63 #[xj G 0,evV e] w fun x w'=>Chk G B r vq g e w x w':=by
 have hsf:=sfl;have hG:=h.lt;have jA:=h.base;have uy:Hid (zx g e=if dueR g e≠0 then dueR g e else if dO e (dueG g)=true then 0 else 13):=by show _ = _;simp[zx,X]
 have uV:Hid (takG g e=⟨g.nx,g.l ++ [g.tk],g.bg,g.cm,{ g.tk with left:=0 }⟩):=by show _ = _;rw[takG,step4 X]
 have qf:Hid (∀k w',zx g e=k->k≠0->Kp G vq w w'->Chk G B r vq g e w (.panicked (brk k)) w'):=fun k w' D E h3=>chk_no D E h3;have uF:Hid (∀w' ux,zx g e=0->Kp G vq w w'->GS G B r w' ux (takG g e)->Chk G B r vq g e w (.returned (.tuple #[])) w'):=fun w' ux D E h3=>chk_ok D E h3;have og:Hid (∀W,GS G B r W vq g->Calls Tryz.prog 100 #[xj G 0,evV e] W fun x w'=>x=outD (dueR g e) (dueG g)/\yn W w'):=fun W hW=>lq e W hW hi;have bM:Hid (∀W,Calls Tryz.prog 102 #[evV e,duV (dueG g)] W fun r w'=>r = .returned (.bool (dO e (dueG g)))/\yn W w'):=fun W=>isJust_any e (dueG g) W;have HR45:Hid (zx g e=0->g.bg=1/\g.tk.left≠0):=gm (by omega);have HI:=Q hi;generalize Chk G B r vq g e w=C at qf uF |-;generalize zx g e=ru at qf uF uy HR45;generalize takG g e=g' at uV uF;generalize dueR g e=dr at og uy;generalize dO e (dueG g)=jb at bM uy;generalize dueG g=d at og bM;obtain⟨xl,⟨ck,cs,ct,cl,cq,ci,cp,cg⟩,id,xh,qty,xi,xg⟩:=e;simp only at X M
 try simp only at uy uV
 obtain⟨dk,di,dt,dq,dp⟩:=d;unfold evV at og bM;unfold duV at bM;simp only at og bM;unfold evV;simp only;obtain⟨xA,HX⟩:=lY w (yv xl ck cs ct cl cq ci cp cg id xh qty xi xg) 89;have HS:Hid ((w.alloc (J (yv xl ck cs ct cl cq ci cp cg id xh qty xi xg).toArray 89)).heap.size=w.heap.size+1):=by show _ = _;simp
 have HG:=Q (zu h xA);have HB:Hid (Kp G vq w (w.alloc (J (yv xl ck cs ct cl cq ci cp cg id xh qty xi xg).toArray 89))):=eL xA;clear h xA hi he X M;go_enter Tryz.func63,Tryz.ntmps63;refine lX fun ho HK=>?_;go_wp2_with fail;refine Z HK _ _ ?_;clear HK;generalize (w.alloc (J (yv xl ck cs ct cl cq ci cp cg id xh qty xi xg).toArray 89))=W1 at HS HX HG HB |-;go_wp2_with fail;refine zL (RWA (fun f=>{ tmps:=#[xj G 0,.agg (yv xl ck cs ct cl cq ci cp cg id xh qty xi xg).toArray,F,xj w.heap.size 0,f 0,f 1,f 2,f 3,f 4,f 5,F,F,F,F,F,F,F,F,F,F,F,F,F,F,F,F,F,F,F],defers:=[] }) (CVw [some (.agg (yv xl ck cs ct cl cq ci cp cg id xh qty xi xg).toArray),some (xj G 0),some (.agg (yv xl ck cs ct cl cq ci cp cg id xh qty xi xg).toArray),some (.agg #[H dk,H di,H dt,H dq,H dp]),some (.bool jb),some (.tuple #[])] (fun j=>(j=3->dr=0)/\(j=5->jb=true))) 5 (fun V=>V) W1) (by kernel_rfl) ?_ ?_ ?_
 ·exact⟨fun _=>F,rfl,⟨fun j hj=>by rw[yI] at hj;split at hj <;> simp at hj,fun _=>⟨rfl,rfl,rfl,Nat.le_refl _,fun _ _=>rfl⟩,fun hj=>by rw[yI] at hj;split at hj <;> simp at hj⟩⟩
 ·rintro x hb V ⟨f,rfl,hR⟩ hx xU;have xv:=eJ xU hx (acyc _ (by kernel_rfl));obtain⟨V0,xA,eV⟩:=hR.m (xv 5 (by simp));have ko:=(hR.c 3 (xv 3 (by simp))).2.1 rfl;have hjb:=(hR.c 5 (xv 5 (by simp))).2.2 rfl;have HQ:=Q (Z uy);rw[if_neg (not_not_intro ko),if_pos hjb] at HQ;subst eV;have uP:=Q (zu (Z HG) xA);have xK:=Q (eg (Z HB) xA);clear hR xv xU hx xA ko hjb uy og bM HX HS HG HB;dsimp only;generalize f 0=v0,f 1=v1,f 2=v2,f 3=v3,f 4=v4,f 5=v5;obtain⟨i0,vA,uE,uw,uC⟩:=info_parts Tryz.infoOrder;have oo:g.l.length<=20:=((Z HI).good (.inr (Z HR45 (Z HQ)).2)).len;go_wp2_with fail;have hj2:=Y (Z uP).box 2 rfl;have hf2:=zc (Z uP).box 2 (by show 2<16;decide);have t10:=Y (Z uP).box 10 rfl;have t11:=Y (Z uP).box 11 rfl;have t12:=Y (Z uP).box 12 rfl;have t13:=Y (Z uP).box 13 rfl;have t14:=Y (Z uP).box 14 rfl;have t15:=Y (Z uP).box 15 rfl;have hGl:=(Z uP).lt;have hnq:=(Z uP).nq;have hBG:=(Z uP).hG
  go_region_law ((refine step_append_lies _ (by rfl) _ _ _ (by rfl) B 98 i0 _ 6 56 Tryz.underlying39 vA uE uw uC rfl (by decide) _ g.l.length (g.l.flatMap Od.vs) (by rfl) (zK (Z uP).row ((Below.refl V.heap.size V).alloc ya _).drew) (U V.heap.size 0) 1 1 g.tk.vs (by rfl) rfl (cells_of_mk V g.tk.vs _) (one_od g.tk) (by decide) (by unfold maxLen;omega) (by omega) (by show B<=(V.alloc _).heap.size;rw[zh];omega) (V.heap.size+1) (by simp) ?_;intro gq cq w5 qC kN hat5 hlt5;have y2:=(kN.cell_far (U G 2) (by show G<(V.alloc _).heap.size;rw[zh];omega) hnq).trans ((((Below.refl V.heap.size V).alloc ya _).drew.cell (p:=(U G 2)) (by show G < _;omega)).trans hj2);have r2:=(kN.frozen_far (U G 2) (by show G<(V.alloc _).heap.size;rw[zh];omega) hnq).trans ((World.frozen?_of_block (a:=(U G 2)) (((Below.refl V.heap.size V).alloc ya _).drew.block G (by omega))).trans hf2)))
  all_goals
   have kf:yn V ((V.alloc (Obj.cells g.tk.vs.toArray 98)).drew):=((Below.refl V.heap.size V).alloc ya _).drew;have vY:V.grownBy w5 vq.ownBlock:=zC (gf kf ya) kN;have ht:TookAt G 1 vq.ownBlock V (w5.setCell (U G 2) (.slice (some (U gq 0)) (g.l.length+1) cq)):=gX (gG vY hGl hnq) (took_set (o:=1) _ _)
   have jm:∃xr,w5.heap[G]? = some (.cells xr 100 (0,0)):=by
    obtain⟨xr,D⟩:=(Z uP).typ;exact⟨xr,(vY.block G hGl hnq).trans D⟩
   have hrw:ORow w5 B (.slice (some (U gq 0)) (g.l.length+1) cq) (g.l ++ [g.tk]):=by show World.ownsRow _ _ _ _ _ _ _;rw[yP,List.flatMap_append];simpa using qC
   have uQ:=Q (gs_took (Z uP) (yM _ _ _ y2) (dT hrw (zy hrw jm (by decide)) 2 _) ht);have uT:=Q (kp_took (Z xK) ht);clear qC kN hat5 hlt5 y2 r2 kf vY ht jm hrw;generalize (w5.setCell (U G 2) (.slice (some (U gq 0)) (g.l.length+1) cq))=zb at uQ uT |-;have c13:=Y (Z uQ).box 13 rfl;have q13:=zc (Z uQ).box 13 (by show 13<16;decide);go_wp2_with fail;go_end0;refine Z uF _ (.slice (some (U gq 0)) (g.l.length+1) cq) (Z HQ) (kp_set (Z uT) 13 _) ?_;rw[Z uV];exact gs_set (Z uQ) 13 _ (by decide) rfl rfl
 ·rintro x hb V i op ⟨f,rfl,hR⟩ xm hx K xJ I;have xu:=Q hR
  have nw:i<5->x[5]? = some false:=fun xH=>by
   rcases fj hx (show 5<6 by omega) with hq|hw
   ·exact hq
   ·exfalso;have h4:=yf xm 5 rfl hw 4 rfl;have h0:=yf xm 4 rfl h4 0 rfl;have h3:=yf xm 4 rfl h4 3 rfl;have D:=yf xm 3 rfl h3 1 rfl;have E:=yf xm 3 rfl h3 2 rfl;rcases(by omega:i=0\/i=1\/i=2\/i=3\/i=4) with rfl|rfl|rfl|rfl|rfl
    ·exact absurd (h0.symm.trans xJ) (by simp)
    ·exact absurd (D.symm.trans xJ) (by simp)
    ·exact absurd (E.symm.trans xJ) (by simp)
    ·exact absurd (h3.symm.trans xJ) (by simp)
    ·exact absurd (h4.symm.trans xJ) (by simp)
  have uR:i<5->yn W1 V:=fun h=>hR.b (nw h);have xn:i<5->∀(p:Addr) u,W1.cell? p=some u->V.cell? p=some u:=fun h p u hu=>((uR h).cell (yK W1 _ hu)).trans hu
  match i,K with
  | 0,K|2,K =>
   obtain rfl:=yb K;have CL:=xn (by omega);have e0:=CL (U w.heap.size 0) _ (Y (Z HX) 0 rfl);have e1:=CL (U w.heap.size 1) _ (Y (Z HX) 1 rfl);have e2:=CL (U w.heap.size 2) _ (Y (Z HX) 2 rfl);have e3:=CL (U w.heap.size 3) _ (Y (Z HX) 3 rfl);have e4:=CL (U w.heap.size 4) _ (Y (Z HX) 4 rfl);have e5:=CL (U w.heap.size 5) _ (Y (Z HX) 5 rfl);have e6:=CL (U w.heap.size 6) _ (Y (Z HX) 6 rfl);have e7:=CL (U w.heap.size 7) _ (Y (Z HX) 7 rfl);have e8:=CL (U w.heap.size 8) _ (Y (Z HX) 8 rfl);have e9:=CL (U w.heap.size 9) _ (Y (Z HX) 9 rfl);have uL:=CL (U w.heap.size 10) _ (Y (Z HX) 10 rfl);have uG:=CL (U w.heap.size 11) _ (Y (Z HX) 11 rfl);have vJ:=CL (U w.heap.size 12) _ (Y (Z HX) 12 rfl);have vu:=CL (U w.heap.size 13) _ (Y (Z HX) 13 rfl);clear I hR uR xn nw CL;rw[if_pos (by rfl)];unfold Oper.wp;go_simp;exact⟨upd f _ (.agg (yv xl ck cs ct cl cq ci cp cg id xh qty xi xg).toArray),by simp[upd],zW (Z xu) _ _ ⟨yi rfl,⟨fun h=>absurd h (by decide),fun h=>absurd h (by decide)⟩⟩ (by decide)⟩
  | 1,K =>
   obtain rfl:=yb K;have CL:=xn (by omega);clear I hR uR xn nw CL;rw[if_pos (by rfl)];unfold Oper.wp;go_simp;exact⟨upd f 1 (xj G 0),by simp[upd],zW (Z xu) 1 _ ⟨yi rfl,⟨fun h=>absurd h (by decide),fun h=>absurd h (by decide)⟩⟩ (by decide)⟩
  | 3,K =>
   obtain rfl:=yb K;have g1:=(hR.c 1 (ye I 1 rfl)).1 _ rfl;have g2:=(hR.c 2 (ye I 2 rfl)).1 _ rfl;have CL:=xn (by omega);have hw:=nw (by omega);have uH:=Q (eg (Z HB) (uR (by omega)));have HGV:=Q (zu (Z HG) (uR (by omega)));clear I hR uR xn nw CL;rw[if_pos (by rfl)];unfold Oper.wp;go_simp;refine(Z og V (Z HGV)).mono ?_;rintro y w4 ⟨hy,xz⟩
   by_cases hs:dr=0
   ·rw[outD_ok hs] at hy;subst hy;exact⟨upd f 3 (.agg #[H dk,H di,H dt,H dq,H dp]),by simp[upd,g1,g2,duV],zW (im (Z xu) hw xz) 3 _ ⟨yi rfl,fun _=>hs,fun h=>absurd h (by decide)⟩ (by decide)⟩
   ·rw[outD_no hs] at hy;subst hy;have HQ:=Q (Z uy);rw[if_pos hs] at HQ;have kw:=Q hs;have uT:=Q (eg (Z uH) xz);clear hs xz;go_wp2_with fail;exact⟨rfl,Z qf _ _ (Z HQ) (Z kw) (Z uT)⟩
  | 4,K =>
   obtain rfl:=yb K;have g0:=(hR.c 0 (ye I 0 rfl)).1 _ rfl;have g3:=(hR.c 3 (ye I 3 rfl)).1 _ rfl;have CL:=xn (by omega);have hw:=nw (by omega);clear I hR uR xn nw CL;rw[if_pos (by rfl)];unfold Oper.wp;go_simp;refine(Z bM V).mono ?_;rintro y w4 ⟨rfl,xz⟩;exact⟨upd f 4 (.bool jb),by simp[upd,g0,g3],zW (im (Z xu) hw xz) 4 _ ⟨yi rfl,⟨fun h=>absurd h (by decide),fun h=>absurd h (by decide)⟩⟩ (by decide)⟩
  | 5,K =>
   obtain rfl:=yb K;have g4:=(hR.c 4 (ye I 4 rfl)).1 _ rfl;have uH:=Q (eg (Z HB) (hR.b xJ));have h4:=I ⟨4,.data⟩ (by simp) rfl;have h3:=yf xm 4 rfl h4 3 rfl;have ko:=(hR.c 3 h3).2.1 rfl;have HQ:=Q (Z uy);rw[if_neg (not_not_intro ko)] at HQ;clear I hR uR xn nw h4 h3 ko;rw[if_pos (by rfl)];unfold Oper.wp;go_simp
   by_cases hj:jb=true
   ·have hd:=eG 13 V;rw[<- hj] at hd;refine hd.mono ?_;rintro e w4 ⟨rfl,rfl⟩;exact⟨upd f 5 (.tuple #[]),by simp[upd,g4],rw_lastv (T:=fun V=>V) (Z xu) xJ ⟨yi rfl,fun h=>absurd h (by decide),fun _=>hj⟩⟩
   ·have hj2:jb=false:=by simpa using hj
    have hd:=ez 13 V;rw[<- hj2] at hd;refine hd.mono ?_;rintro e w4 ⟨rfl,rfl⟩;rw[if_neg hj] at HQ;clear hj hj2 hd;go_wp2_with fail;exact⟨rfl,Z qf 13 _ (Z HQ) (by decide) (Z uH)⟩
  | i+6,K=>simp at K
end Go.Proofs.YtbghmldggahjiaaGreatDoor
