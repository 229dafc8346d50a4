/-.-/
import Derived.Test.YthhkapcbocgcoaaGreatDoorKj24
set_option linter.unusedVariables false
set_option maxHeartbeats 6400000
set_option maxRecDepth 100000
namespace Go.Proofs.YthhkapcbocgcoaaGreatDoor
open Go.RowKit
theorem accept_chk {G B r:Nat}{vq:Value}{g:Gr}(e:Ev)(w:World)(h:GS G B r w vq g)(hi:GI g)(he:okE e=true)(hk:e.kind=1)(X:e.cmd.g.size<=maxLen):Calls Tryz.prog 94 #[I G 0,evV e] w fun x w'=>Chk G B r vq g e w x w':=by
 have hsf:=sfl;have hG:=h.lt;have jl:=h.base;have ux:Hid (zE g e=if dW g e≠0 then dW g e else if e.id=g.nx then 0 else 6):=by show _ = _;simp[zE,hk]
 have uQ:Hid (takG g e=⟨g.nx+1,g.l,g.bg,e.cmd,ordO e.cmd e.id⟩):=by show _ = _;rw[takG,step1 hk]
 have vQ:Hid (∀k w',zE g e=k->k≠0->Kp G vq w w'->Chk G B r vq g e w (.panicked (brk k)) w'):=fun k w' D Y h3=>chk_no D Y h3;have uz:Hid (∀w' uB,zE g e=0->Kp G vq w w'->GS G B r w' uB (takG g e)->Chk G B r vq g e w (.returned (.tuple #[])) w'):=fun w' uB D Y h3=>chk_ok D Y h3;have qB:Hid (∀W,GS G B r W vq g->Calls Tryz.prog 148 #[I G 0,evV e] W fun x w'=>x=outR (dW g e)/\yn W w'):=fun W hW=>start_any e W hW hi (by rw[hk];decide) X;have bK:Hid (dW g e=0->0<=g.nx/\g.nx<=1000000):=fun h0=>⟨(hi.start (gA h0).1).1,(hi.start (gA h0).1).2.1⟩;have HI:=Z hi;generalize Chk G B r vq g e w=C at vQ uz |-;generalize zE g e=ru at vQ uz ux;generalize takG g e=g' at uQ uz;generalize dW g e=sr at qB bK ux;obtain⟨xm,⟨ck,F,ct,O,cq,ci,cp,cg⟩,id,xj,qty,xk,xh⟩:=e;simp only at hk X
 try simp only at ux uQ
 unfold evV at qB;simp only at qB;unfold evV;simp only;obtain⟨xD,HX⟩:=mu w (yv xm ck F ct O cq ci cp cg id xj qty xk xh) 37;have HS:Hid ((w.alloc (mq (yv xm ck F ct O cq ci cp cg id xj qty xk xh).toArray 37)).heap.size=w.heap.size+1):=by show _ = _;simp
 have HG:=Z (zA h xD);have HB:Hid (Kp G vq w (w.alloc (mq (yv xm ck F ct O cq ci cp cg id xj qty xk xh).toArray 37))):=kp_of xD;clear h xD hi he hk X;go_enter Tryz.func94,Tryz.ntmps94;refine ms fun mR HK=>?_;go_wp2_with fail;refine U HK _ _ ?_;clear HK;generalize (w.alloc (mq (yv xm ck F ct O cq ci cp cg id xj qty xk xh).toArray 37))=W1 at HS HX HG HB |-;obtain⟨e0,e1,e2,e3,e4,e5,e6,e7,e8,e9,uW,uE,vS,vH⟩:=yz (U HX);go_wp2_with fail;refine(U qB W1 (U HG)).mono ?_;rintro x w2 ⟨hx,xO⟩;have xG:=Z (zg (U HX) xO (by have:=U HS;omega));have uj:=Z (zA (U HG) xO);have xv:=Z (ew (U HB) xO);have hS2:w.heap.size<w2.heap.size:=by have:=U HS;have:=xO.size;omega
 clear xO e0 e1 e2 e3 e4 e5 e6 e7 e8 e9 uW uE vS vH
 by_cases hs:sr=0
 case neg =>
  rw[outR_no hs] at hx;subst hx;go_wp2_with fail;exact⟨rfl,U vQ _ _ (by rw[U ux,if_pos hs]) hs (U xv)⟩
 rw[outR_ok hs] at hx;subst hx;have HSR:=Z hs;have uh:=Z (U ux);rw[if_neg (not_not_intro hs)] at uh;clear hs ux;have xR:Hid (Bx w2.drew w.heap.size (yv xm ck F ct O cq ci cp cg id xj qty xk xh)):=zM (U xG);have qm:Hid (GS G B r w2.drew vq g):=zA (U uj) ⟨rfl,rfl,rfl,Nat.le_refl _,fun _ _=>rfl⟩;have vC:Hid (Kp G vq w w2.drew):=ir (U xv);have e9:=A (U xR) 9 rfl;have c1:=A (U qm).box 1 rfl;go_wp2_with fail;refine zD 8 (by kernel_rfl) (by kernel_rfl) ?_;simp only[yU,List.take_zero,yV,List.drop_zero]
 repeat still_step
 refine wpStill_nil ?_
 by_cases uk:id=g.nx
 case neg =>
  have b0:(id==g.nx)=false:=by simpa using uk
  have HQ:=Z (U uh);rw[if_neg uk] at HQ;clear uk;go_wp2_with fail;refine(eD 6 _).mono ?_;rintro e w6 ⟨rfl,rfl⟩;go_wp2_with fail;exact⟨rfl,U vQ 6 _ (U HQ) (by decide) (U vC)⟩
 have b0:(id==g.nx)=true:=by simpa using uk
 have HQ:=Z (U uh);rw[if_pos uk] at HQ;clear uk uh;go_wp2_with fail;refine(eO 6 _).mono ?_;rintro e hg ⟨rfl,hX⟩;rw[<- hX] at xR qm vC;have pU:w.heap.size<hg.heap.size:=by rw[hX];exact hS2
 clear hX e9 c1 b0;have c1:=A (U qm).box 1 rfl;have q1:=zd (U qm).box 1 (by show 1<16;decide);have qy:=U bK (U HSR);have pq:IntKind.i64.wrap (g.nx+1)=g.nx+1:=by rw[IntKind.wrap_i64];omega
 have vw:Hid (GS G B r (hg.setCell (J G 1) (H (g.nx+1))) vq { g with nx:=g.nx+1 }):=gs_set (U qm) 1 _ (by decide) rfl rfl;have xI:=Z (kp_set (U vC) 1 (H (g.nx+1)));have uT:Hid (Bx (hg.setCell (J G 1) (H (g.nx+1))) w.heap.size (yv xm ck F ct O cq ci cp cg id xj qty xk xh)):=fg (U xR) (by omega);have oA:w.heap.size<(hg.setCell (J G 1) (H (g.nx+1))).heap.size:=by simpa[World.setCell] using pU
 have e1:=A (U uT) 1 rfl;have e2:=A (U uT) 2 rfl;have e3:=A (U uT) 3 rfl;have e4:=A (U uT) 4 rfl;have e5:=A (U uT) 5 rfl;have e6:=A (U uT) 6 rfl;have e7:=A (U uT) 7 rfl;have e8:=A (U uT) 8 rfl;have e9:=A (U uT) 9 rfl;go_wp2_with fail;refine(mj ⟨ck,F,ct,O,cq,ci,cp,cg⟩ _).mono ?_;rintro e h2 ⟨rfl,uc⟩;have xT:=Z (zA (U vw) uc);have vj:=Z (zg (U uT) uc oA);have ui:=Z (ew (U xI) uc);have hS5:w.heap.size<h2.heap.size:=yK oA uc.size;clear uc e1 e2 e3 e4 e5 e6 e7 e8 e9 c1 q1 pq oA pU vw uT xI xR qm vC;unfold noV;simp only;have c4:=A (U xT).box 4 rfl;have q4:=zd (U xT).box 4 (by show 4<16;decide);have c5:=A (U xT).box 5 rfl;have q5:=zd (U xT).box 5 (by show 5<16;decide);have c6:=A (U xT).box 6 rfl;have q6:=zd (U xT).box 6 (by show 6<16;decide);have c7:=A (U xT).box 7 rfl;have q7:=zd (U xT).box 7 (by show 7<16;decide);have c8:=A (U xT).box 8 rfl;have q8:=zd (U xT).box 8 (by show 8<16;decide);have c9:=A (U xT).box 9 rfl;have q9:=zd (U xT).box 9 (by show 9<16;decide);go_wp2_with fail;change Code.wp _ _ _ _ (World.setCells h2 G 4 [H F,H ct,H O,H cq,yj cp,yk cg]);have qL:Hid (GS G B r (World.setCells h2 G 4 [H F,H ct,H O,H cq,yj cp,yk cg]) vq ⟨g.nx+1,g.l,g.bg,⟨ck,F,ct,O,cq,ci,cp,cg⟩,g.tk⟩):=gs_sets (U xT) 4 _ (by simp) rfl rfl;have vJ:Hid (Bx (World.setCells h2 G 4 [H F,H ct,H O,H cq,yj cp,yk cg]) w.heap.size (yv xm ck F ct O cq ci cp cg id xj qty xk xh)):=dU (U vj) (et G w.heap.size (by omega) _ 4 h2);have vZ:=Z (kp_sets (U ui) 4 [H F,H ct,H O,H cq,yj cp,yk cg]);have hS6:w.heap.size<(World.setCells h2 G 4 [H F,H ct,H O,H cq,yj cp,yk cg]).heap.size:=yL _ _ (A (U vJ) 0 rfl);generalize World.setCells h2 G 4 [H F,H ct,H O,H cq,yj cp,yk cg]=yc at qL vJ vZ hS6 |-;clear c4 q4 c5 q5 c6 q6 c7 q7 c8 q8 c9 q9 xT vj ui hS5;have HOR:=Z (fun W=>order_any ⟨ck,F,ct,O,cq,ci,cp,cg⟩ id W);unfold noV at HOR;unfold ordO at uQ;simp only at uQ HOR;generalize tk cp=tkp at uQ HOR;have hZG:=U qL;clear hZG;refine zu (RWA (fun f=>{ tmps:=#[I G 0,.agg (yv xm ck F ct O cq ci cp cg id xj qty xk xh).toArray,M,I w.heap.size 0,I G 0,.agg (yv xm ck F ct O cq ci cp cg id xj qty xk xh).toArray,.tuple #[],I w.heap.size 9,H id,I G 0,I G 0,I G 1,I G 1,H g.nx,.bool (id==g.nx),.tuple #[],I G 0,I G 0,I G 1,I G 1,H g.nx,H (g.nx+1),I G 0,I G 1,I G 1,I G 0,I w.heap.size 1,.agg (yx ck F ct O cq ci cp cg).toArray,.agg #[H F,H ct,H O,H cq,yj cp,yk cg],I G 0,I G 4,f 0,f 1,f 2,f 3,f 4,f 5,f 6,f 7,f 8,f 9],defers:=[] }) (CVw [some (I G 0),some (I G 0),some (I G 0),some (I G 4),some (.agg #[H F,H ct,H O,H cq,yj cp,yk cg]),some (I w.heap.size 9),some (H id),some (.agg (yw id F tkp cq O cg).toArray),some (I G 0),some (I G 10),none] (fun _=>True)) 10 (fun V=>World.setCells V G 10 (yw id F tkp cq O cg)) yc) (by kernel_rfl) ?_ ?_ ?_
 ·exact⟨fun _=>M,rfl,⟨fun j hj=>by rw[yJ] at hj;split at hj <;> simp at hj,fun _=>⟨rfl,rfl,rfl,Nat.le_refl _,fun _ _=>rfl⟩,fun hj=>by rw[yJ] at hj;split at hj <;> simp at hj⟩⟩
 ·rintro x zb V ⟨f,rfl,L⟩ hx xS;have xq:=eE xS hx (acyc _ (by kernel_rfl));obtain⟨V0,xD,eV⟩:=L.m (xq 10 (by simp));have jt:=Z (zA (U qL) xD);have qP:=Z (ew (U vZ) xD);clear L xq xS hx xD;subst eV;generalize f 0=v0,f 1=v1,f 2=v2,f 3=v3,f 4=v4,f 5=v5,f 6=v6,f 7=v7,f 8=v8,f 9=v9;go_end0;refine U uz _ vq (U HQ) (kp_sets (U qP) 10 _) ?_;rw[U uQ];exact gs_sets (U jt) 10 _ (by simp) rfl rfl
 ·rintro x zb V i op ⟨f,rfl,L⟩ xn hx Q xu R;have xw:=Z L
  have nw:i<10->x[10]? = some false:=fun xM=>by
   rcases fN hx (show 10<11 by omega) with hq|hw
   ·exact hq
   ·exfalso;have h0:=yf xn 10 rfl hw 0 rfl;have D:=yf xn 10 rfl hw 1 rfl;have Y:=yf xn 10 rfl hw 2 rfl;have h3:=yf xn 10 rfl hw 3 rfl;have h4:=yf xn 10 rfl hw 4 rfl;have h5:=yf xn 10 rfl hw 5 rfl;have h6:=yf xn 10 rfl hw 6 rfl;have h7:=yf xn 10 rfl hw 7 rfl;have h9:=yf xn 10 rfl hw 9 rfl;have h8:=yf xn 9 rfl h9 8 rfl;rcases(by omega:i=0\/i=1\/i=2\/i=3\/i=4\/i=5\/i=6\/i=7\/i=8\/i=9) with rfl|rfl|rfl|rfl|rfl|rfl|rfl|rfl|rfl|rfl
    ·exact absurd (h0.symm.trans xu) (by simp)
    ·exact absurd (D.symm.trans xu) (by simp)
    ·exact absurd (Y.symm.trans xu) (by simp)
    ·exact absurd (h3.symm.trans xu) (by simp)
    ·exact absurd (h4.symm.trans xu) (by simp)
    ·exact absurd (h5.symm.trans xu) (by simp)
    ·exact absurd (h6.symm.trans xu) (by simp)
    ·exact absurd (h7.symm.trans xu) (by simp)
    ·exact absurd (h8.symm.trans xu) (by simp)
    ·exact absurd (h9.symm.trans xu) (by simp)
  have uH:i<10->yn yc V:=fun h=>L.b (nw h);have xl:i<10->∀(p:Addr) u,yc.cell? p=some u->V.cell? p=some u:=fun h p u hu=>((uH h).cell (yL yc _ hu)).trans hu
  match i,Q with
  | 0,Q|1,Q =>
   cases Q;have CL:=xl (by omega);clear R L uH xl nw CL;go_simp;exact⟨upd f _ (I G 0),by simp[upd],zV (U xw) _ _ ⟨yi rfl,trivial⟩ (by decide)⟩
  | 2,Q =>
   cases Q;have g1:=(L.c 1 (ye R 1 rfl)).1 _ rfl;have CL:=xl (by omega);clear R L uH xl nw CL;go_simp;exact⟨upd f 2 (I G 0),by simp[upd,g1],zV (U xw) 2 _ ⟨yi rfl,trivial⟩ (by decide)⟩
  | 3,Q =>
   cases Q;have g2:=(L.c 2 (ye R 2 rfl)).1 _ rfl;have CL:=xl (by omega);clear R L uH xl nw CL;go_simp;exact⟨upd f 3 (I G 4),by simp[upd,g2],zV (U xw) 3 _ ⟨yi rfl,trivial⟩ (by decide)⟩
  | 4,Q =>
   cases Q;have g3:=(L.c 3 (ye R 3 rfl)).1 _ rfl;have CL:=xl (by omega);have z4:=CL (J G 4) _ (A (U qL).box 4 rfl);have z5:=CL (J G 5) _ (A (U qL).box 5 rfl);have z6:=CL (J G 6) _ (A (U qL).box 6 rfl);have z7:=CL (J G 7) _ (A (U qL).box 7 rfl);have z8:=CL (J G 8) _ (A (U qL).box 8 rfl);have z9:=CL (J G 9) _ (A (U qL).box 9 rfl);clear R L uH xl nw CL;go_simp;exact⟨upd f 4 (.agg #[H F,H ct,H O,H cq,yj cp,yk cg]),by simp[upd,g3],zV (U xw) 4 _ ⟨yi rfl,trivial⟩ (by decide)⟩
  | 5,Q =>
   cases Q;have CL:=xl (by omega);clear R L uH xl nw CL;go_simp;exact⟨upd f 5 (I w.heap.size 9),by simp[upd],zV (U xw) 5 _ ⟨yi rfl,trivial⟩ (by decide)⟩
  | 6,Q =>
   cases Q;have g5:=(L.c 5 (ye R 5 rfl)).1 _ rfl;have CL:=xl (by omega);have z:=CL (J w.heap.size 9) _ (A (U vJ) 9 rfl);clear R L uH xl nw CL;go_simp;exact⟨upd f 6 (H id),by simp[upd,g5],zV (U xw) 6 _ ⟨yi rfl,trivial⟩ (by decide)⟩
  | 7,Q =>
   cases Q;have g4:=(L.c 4 (ye R 4 rfl)).1 _ rfl;have g6:=(L.c 6 (ye R 6 rfl)).1 _ rfl;have CL:=xl (by omega);have qi:=nw (by omega);clear R L uH xl nw CL;go_simp;refine(U HOR V).mono ?_;rintro e w4 ⟨rfl,xy⟩;exact⟨upd f 7 (.agg (yw id F tkp cq O cg).toArray),by simp[upd,g4,g6],zV (iw (U xw) qi xy) 7 _ ⟨yi rfl,trivial⟩ (by decide)⟩
  | 8,Q =>
   cases Q;have g0:=(L.c 0 (ye R 0 rfl)).1 _ rfl;have CL:=xl (by omega);clear R L uH xl nw CL;go_simp;exact⟨upd f 8 (I G 0),by simp[upd,g0],zV (U xw) 8 _ ⟨yi rfl,trivial⟩ (by decide)⟩
  | 9,Q =>
   cases Q;have g8:=(L.c 8 (ye R 8 rfl)).1 _ rfl;have CL:=xl (by omega);clear R L uH xl nw CL;go_simp;exact⟨upd f 9 (I G 10),by simp[upd,g8],zV (U xw) 9 _ ⟨yi rfl,trivial⟩ (by decide)⟩
  | 10,Q =>
   cases Q;have g9:=(L.c 9 (ye R 9 rfl)).1 _ rfl;have g7:=(L.c 7 (ye R 7 rfl)).1 _ rfl;have vG:=L.b xu;have jt:=Z (zA (U qL) vG);have jD:=A (U jt).box 10 rfl;have q10:=zd (U jt).box 10 (by show 10<16;decide);have ko:=A (U jt).box 11 rfl;have q11:=zd (U jt).box 11 (by show 11<16;decide);have kp:=A (U jt).box 12 rfl;have q12:=zd (U jt).box 12 (by show 12<16;decide);have kq:=A (U jt).box 13 rfl;have q13:=zd (U jt).box 13 (by show 13<16;decide);have z14:=A (U jt).box 14 rfl;have q14:=zd (U jt).box 14 (by show 14<16;decide);have z15:=A (U jt).box 15 rfl;have q15:=zd (U jt).box 15 (by show 15<16;decide);clear R L uH xl nw vG;go_simp;exact⟨f,by simp[g9,g7],rw_last (T:=fun V=>World.setCells V G 10 (yw id F tkp cq O cg)) (U xw) xu (fun j hj hx=>⟨fun u hu=>(by subst hj;cases hu),trivial⟩)⟩
  | i+11,Q=>simp at Q
theorem expire_chk {G B r:Nat}{vq:Value}{g:Gr}(e:Ev)(w:World)(h:GS G B r w vq g)(hi:GI g)(he:okE e=true)(hk:e.kind=9)(X:e.cmd.g.size<=maxLen):Calls Tryz.prog 102 #[I G 0,evV e] w fun x w'=>Chk G B r vq g e w x w':=by
 have hsf:=sfl;have hG:=h.lt;have jl:=h.base;have ux:Hid (zE g e=if dueR g e≠0 then dueR g e else 0):=by show _ = _;simp[zE,hk]
 have uQ:Hid (takG g e=⟨g.nx,hitI g.l (dueG g).id (dueG g).qty,g.bg,g.cm,g.tk⟩):=by show _ = _;rw[takG,step9 hk]
 have vQ:Hid (∀k w',zE g e=k->k≠0->Kp G vq w w'->Chk G B r vq g e w (.panicked (brk k)) w'):=fun k w' D Y h3=>chk_no D Y h3;have uz:Hid (∀w' uB,zE g e=0->Kp G vq w w'->GS G B r w' uB (takG g e)->Chk G B r vq g e w (.returned (.tuple #[])) w'):=fun w' uB D Y h3=>chk_ok D Y h3;have kB:Hid (∀W,GS G B r W vq g->Calls Tryz.prog 153 #[I G 0,evV e] W fun x w'=>x=outD (dueR g e) (dueG g)/\yn W w'):=fun W hW=>lD e W hW hi;have HR9:Hid (zE g e=0->g.bg=8/\∃o,g.l.find? isDy=some o/\dueG g=⟨9,o.id,0,o.left,0⟩/\e.id=o.id/\e.qty=o.left):=rule9 hk;have HI:=Z hi;generalize Chk G B r vq g e w=C at vQ uz |-;generalize zE g e=ru at vQ uz ux HR9;generalize takG g e=g' at uQ uz;generalize dueR g e=dr at kB ux;generalize dueG g=d at kB uQ HR9;obtain⟨xm,⟨ck,F,ct,O,cq,ci,cp,cg⟩,id,xj,qty,xk,xh⟩:=e;simp only at hk X
 try simp only at ux uQ
 unfold evV at kB;simp only at kB HR9;unfold evV;simp only;obtain⟨xD,HX⟩:=mu w (yv xm ck F ct O cq ci cp cg id xj qty xk xh) 37;have HS:Hid ((w.alloc (mq (yv xm ck F ct O cq ci cp cg id xj qty xk xh).toArray 37)).heap.size=w.heap.size+1):=by show _ = _;simp
 have HG:=Z (zA h xD);have HB:Hid (Kp G vq w (w.alloc (mq (yv xm ck F ct O cq ci cp cg id xj qty xk xh).toArray 37))):=kp_of xD;clear h xD hi he hk X;go_enter Tryz.func102,Tryz.ntmps102;refine ms fun mR HK=>?_;go_wp2_with fail;refine U HK _ _ ?_;clear HK;generalize (w.alloc (mq (yv xm ck F ct O cq ci cp cg id xj qty xk xh).toArray 37))=W1 at HS HX HG HB |-;obtain⟨e0,e1,e2,e3,e4,e5,e6,e7,e8,e9,uW,uE,vS,vH⟩:=yz (U HX);go_wp2_with fail;refine(U kB W1 (U HG)).mono ?_;rintro x w2 ⟨hx,xO⟩
 by_cases hs:dr=0
 case neg =>
  rw[outD_no hs] at hx;subst hx;go_wp2_with fail;exact⟨rfl,U vQ _ _ (by rw[U ux,if_pos hs]) hs (ew (U HB) xO)⟩
 rw[outD_ok hs] at hx;subst hx;have HDZ:=Z hs;have uh:=Z (U ux);rw[if_neg (not_not_intro hs)] at uh;clear hs ux;obtain⟨dk,di,dt,dq,dp⟩:=d;unfold duV;simp only at uh |-;have xL:=mn w2 (mq #[H dk,H di,H dt,H dq,H dp] 39);have pW:=xO.trans (xL.mono xO.size);have xG:=Z (zg (U HX) pW (by have:=U HS;omega));have uj:=Z (zA (U HG) pW);have xv:=Z (ew (U HB) pW);have HV2:=Z (zn w2 [H dk,H di,H dt,H dq,H dp] 39);have HZ2:Hid (w.heap.size<w2.heap.size/\w2.heap.size<(w2.alloc (mq #[H dk,H di,H dt,H dq,H dp] 39)).heap.size):=⟨by have:=U HS;have:=xO.size;omega,by simp⟩;clear xO xL pW e0 e1 e2 e3 e4 e5 e6 e7 e8 e9 uW uE vS vH HX HG HB HS;obtain⟨h8,o,hf,hd,-⟩:=U HR9 (U uh);simp only[Du.mk.injEq] at hd;obtain⟨rfl,rfl,rfl,rfl,rfl⟩:=hd;have pm:=(U HI).good (.inl (by omega));obtain⟨i,hi⟩:=find_at hf;have uA:=fU pm.rise hi;have pn:=pm.left o (yP hi);have ku:=Z uA;have HLI:=Z hi;have HOL:=Z pn;clear h8 hf pm hi uA pn HR9;go_wp2_with fail;generalize (w2.alloc (mq #[H 9,H o.id,H 0,H o.left,H 0] 39))=hg at xG uj xv HV2 HZ2 |-;have xR:Hid (Bx hg.drew w.heap.size (yv xm ck F ct O cq ci cp cg id xj qty xk xh)):=zM (U xG);have qm:Hid (GS G B r hg.drew vq g):=zA (U uj) ⟨rfl,rfl,rfl,Nat.le_refl _,fun _ _=>rfl⟩;have vC:Hid (Kp G vq w hg.drew):=ir (U xv);have v1:hg.drew.cell? (J w2.heap.size 1)=some (H o.id):=A (U HV2) 1 rfl;have v3:hg.drew.cell? (J w2.heap.size 3)=some (H o.left):=A (U HV2) 3 rfl;refine zD 7 (by kernel_rfl) (by kernel_rfl) ?_;simp only[yU,List.take_zero,yV,List.drop_zero]
 repeat still_step
 refine wpStill_nil ?_;go_wp2_with fail;refine(lx G 1 B g.nx o.id o.left vq g.l i o _ (A (U qm).box 1 rfl) (A (U qm).box 2 rfl) (zd (U qm).box 2 (by show 2<16;decide)) (U qm).row (U qm).nq (U qm).lt (U qm).base (yO (U HI).len (by decide)) (U ku) (U HLI) (by have:=U HOL;omega) (Int.le_refl _) (U HOL).2).mono ?_;rintro e w9 ⟨uB,rfl,dH,bT,bC⟩;have HG9:=Z (gs_took (U qm) dH bT bC);have jE:=Z (kp_took (U vC) bC);clear dH bT bC;go_wp2_with fail;go_end0;refine U uz _ uB (U uh) (U jE) ?_;rw[U uQ];simp only[gz (U ku) (U HLI)];exact U HG9
theorem endDay_chk {G B r:Nat}{vq:Value}{g:Gr}(e:Ev)(w:World)(h:GS G B r w vq g)(hi:GI g)(he:okE e=true)(hk:e.kind=8)(X:e.cmd.g.size<=maxLen):Calls Tryz.prog 101 #[I G 0,evV e] w fun x w'=>Chk G B r vq g e w x w':=by
 have hsf:=sfl;have hG:=h.lt;have jl:=h.base;have ux:Hid (zE g e=if dW g e≠0 then dW g e else if e.qty=((g.l.filter isDy).length:Int) then 0 else 7):=by show _ = _;simp[zE,hk]
 have uQ:Hid (takG g e=⟨g.nx,g.l,g.bg,g.cm,g.tk⟩):=by show _ = _;rw[takG,step8 hk]
 have vQ:Hid (∀k w',zE g e=k->k≠0->Kp G vq w w'->Chk G B r vq g e w (.panicked (brk k)) w'):=fun k w' D Y h3=>chk_no D Y h3;have uz:Hid (∀w' uB,zE g e=0->Kp G vq w w'->GS G B r w' uB (takG g e)->Chk G B r vq g e w (.returned (.tuple #[])) w'):=fun w' uB D Y h3=>chk_ok D Y h3;have qB:Hid (∀W,GS G B r W vq g->Calls Tryz.prog 148 #[I G 0,evV e] W fun x w'=>x=outR (dW g e)/\yn W w'):=fun W hW=>start_any e W hW hi (by rw[hk];decide) X;have HI:=Z hi;generalize Chk G B r vq g e w=C at vQ uz |-;generalize zE g e=ru at vQ uz ux;generalize takG g e=g' at uQ uz;generalize dW g e=sr at qB ux;obtain⟨xm,⟨ck,F,ct,O,cq,ci,cp,cg⟩,id,xj,qty,xk,xh⟩:=e;simp only at hk X
 try simp only at ux uQ
 unfold evV at qB;simp only at qB;unfold evV;simp only;obtain⟨xD,HX⟩:=mu w (yv xm ck F ct O cq ci cp cg id xj qty xk xh) 37;have HS:Hid ((w.alloc (mq (yv xm ck F ct O cq ci cp cg id xj qty xk xh).toArray 37)).heap.size=w.heap.size+1):=by show _ = _;simp
 have HG:=Z (zA h xD);have HB:Hid (Kp G vq w (w.alloc (mq (yv xm ck F ct O cq ci cp cg id xj qty xk xh).toArray 37))):=kp_of xD;clear h xD hi he hk X;go_enter Tryz.func101,Tryz.ntmps101;refine ms fun mR HK=>?_;go_wp2_with fail;refine U HK _ _ ?_;clear HK;generalize (w.alloc (mq (yv xm ck F ct O cq ci cp cg id xj qty xk xh).toArray 37))=W1 at HS HX HG HB |-;obtain⟨e0,e1,e2,e3,e4,e5,e6,e7,e8,e9,uW,uE,vS,vH⟩:=yz (U HX);go_wp2_with fail;refine(U qB W1 (U HG)).mono ?_;rintro x w2 ⟨hx,xO⟩;have xG:=Z (zg (U HX) xO (by have:=U HS;omega));have uj:=Z (zA (U HG) xO);have xv:=Z (ew (U HB) xO);have hS2:w.heap.size<w2.heap.size:=by have:=U HS;have:=xO.size;omega
 clear xO e0 e1 e2 e3 e4 e5 e6 e7 e8 e9 uW uE vS vH
 by_cases hs:sr=0
 case neg =>
  rw[outR_no hs] at hx;subst hx;go_wp2_with fail;exact⟨rfl,U vQ _ _ (by rw[U ux,if_pos hs]) hs (U xv)⟩
 rw[outR_ok hs] at hx;subst hx;have HSR:=Z hs;have uh:=Z (U ux);rw[if_neg (not_not_intro hs)] at uh;clear hs ux;have kO:=(U HI).len;obtain⟨a,cap,rfl,xC,hc⟩:=zI (U uj).row (by omega)
 have xt:∀(k:Nat) (c:Od),g.l[k]? = some c->∃b off,a=some (J b off)/\b<w2.heap.size/\w2.rangeAt b (off+k*6) c.vs:=by
  intro k c hk;obtain⟨b,off,D,Y,h3⟩:=hc (by intro h;rw[h] at hk;simp at hk);exact⟨b,off,D,Y,h3 k c hk⟩
 have HC:=Z xt;clear xt hc xC;have c2:w2.cell? (J G 2)=some (.slice a g.l.length cap):=A (U uj).box 2 rfl;go_wp2_with fail;clear c2;go_loopw [4,16] (fun cv iv wr=>∃k:Nat,k<=g.l.length/\cv=H (((g.l.take k).filter isDy).length:Int)/\iv=H k/\yn w2 wr) (fun _ iv _=>g.l.length-(intOf iv).toNat)
 case atStart=>exact⟨0,Nat.zero_le _,rfl,rfl,Below.refl _ _⟩
 case round =>
  obtain⟨k,hk,rfl,rfl,xo⟩:=hrel;have uN:=Z xo;clear xo
  by_cases xM:k<g.l.length
  ·obtain⟨c,vf⟩:∃c,g.l[k]? = some c:=⟨_,yI xM⟩
   have HT:Hid (((g.l.take (k+1)).filter isDy).length=((g.l.take k).filter isDy).length+if isDy c=true then 1 else 0):=by
    show _ = _;rw[List.take_add_one,vf];simp[List.filter_cons];split <;> simp
   have hcn:((g.l.take k).filter isDy).length<=k:=yO (List.length_filter_le _ _) (by simp;omega);generalize ((g.l.take k).filter isDy).length=cn at HT hcn |-;obtain⟨b,off,rfl,E,xn⟩:=U HC k c vf;obtain⟨g0,g1,g2,g3,g4,g5⟩:=zF (zc xn (U uN) E);have uL:(k:Int)<g.l.length:=by omega
   have xy:=mn wr (mq (yw c.id c.side c.ticks c.left c.life c.tag).toArray 65);have xF:=Z (mr (U uN) xy);clear vf xn E xy;go_wp2_with fail;refine(isOfDay_any c (wr.alloc (mq (yw c.id c.side c.ticks c.left c.life c.tag).toArray 65))).mono ?_;rintro e w3 ⟨rfl,xL⟩;have xI:=Z (mr (U xF) xL);clear xL g0 g1 g2 g3 g4 g5;have pq:IntKind.i64.wrap ((cn:Int)+1)=(cn:Int)+1:=by rw[IntKind.wrap_i64];omega
   by_cases uk:c.life=1
   ·have E:(c.life==1)=true:=by simpa using uk
    have un:Hid (((g.l.take (k+1)).filter isDy).length=cn+1):=by show _ = _;rw[U HT,if_pos (by simpa[isDy] using uk)]
    clear uk HT;go_wp2_with fail;go_roundw
    case rel=>exact⟨k+1,by omega,by rw[U un];rfl,by go_num,U xI⟩
    case measure=>simp[intOf];omega
   ·have E:(c.life==1)=false:=by simpa using uk
    have un:Hid (((g.l.take (k+1)).filter isDy).length=cn):=by show _ = _;rw[U HT,if_neg (by simpa[isDy] using uk)];rfl
    clear uk HT;go_wp2_with fail;go_roundw
    case rel=>exact⟨k+1,by omega,by rw[U un],by go_num,U xI⟩
    case measure=>simp[intOf];omega
  ·have aC:k=g.l.length:=by omega
   subst aC;rw[List.take_length];generalize hcn:(g.l.filter isDy).length=cn at uh;clear hcn;have xH:=Z (zg (U xG) (U uN) hS2);have xU:=Z (zA (U uj) (U uN));have xF:=Z (ew (U xv) (U uN));have uE:=A (U xH) 11 rfl
   by_cases hq:qty=(cn:Int)
   case neg =>
    have b0:(qty==(cn:Int))=false:=by simpa using hq
    have HQ:=Z (U uh);rw[if_neg hq] at HQ;clear hq;go_wp2_with fail;refine(eD 7 _).mono ?_;rintro e w6 ⟨rfl,rfl⟩;go_wp2_with fail;exact⟨rfl,U vQ 7 _ (U HQ) (by decide) (U xF)⟩
   have b0:(qty==(cn:Int))=true:=by simpa using hq
   have HQ:=Z (U uh);rw[if_pos hq] at HQ;clear hq;go_wp2_with fail;refine(eO 7 _).mono ?_;rintro e w6 ⟨rfl,rfl⟩;go_wp2_with fail;go_end0;refine U uz _ (.slice a g.l.length cap) (U HQ) (U xF) ?_;rw[U uQ];exact U xU
theorem cancel_chk {G B r:Nat}{vq:Value}{g:Gr}(e:Ev)(w:World)(h:GS G B r w vq g)(hi:GI g)(he:okE e=true)(hk:e.kind=6)(X:e.cmd.g.size<=maxLen):Calls Tryz.prog 99 #[I G 0,evV e] w fun x w'=>Chk G B r vq g e w x w':=by
 have hsf:=sfl;have hG:=h.lt;have jl:=h.base;have ux:Hid (zE g e=if dW g e≠0 then dW g e else if e.qty=leftAt g.l e.id then 0 else 7):=by show _ = _;simp[zE,hk]
 have uQ:Hid (takG g e=⟨g.nx,hitI g.l e.id e.qty,g.bg,g.cm,g.tk⟩):=by show _ = _;rw[takG,step6 hk]
 have vQ:Hid (∀k w',zE g e=k->k≠0->Kp G vq w w'->Chk G B r vq g e w (.panicked (brk k)) w'):=fun k w' D Y h3=>chk_no D Y h3;have uz:Hid (∀w' uB,zE g e=0->Kp G vq w w'->GS G B r w' uB (takG g e)->Chk G B r vq g e w (.returned (.tuple #[])) w'):=fun w' uB D Y h3=>chk_ok D Y h3;have qB:Hid (∀W,GS G B r W vq g->Calls Tryz.prog 148 #[I G 0,evV e] W fun x w'=>x=outR (dW g e)/\yn W w'):=fun W hW=>start_any e W hW hi (by rw[hk];decide) X;have dw:Hid (dW g e=0->GoodL g.l/\∃(k:Nat) (o:Od),plc g.l e.id=k/\g.l[k]? = some o):=fun h0=>⟨hi.good (.inl (by rw[(gA h0).1];decide)),by have Y:=(gA h0).2;simp only[dV,hk] at Y;obtain⟨k,o,a,b,_⟩:=plc_pos (ref_can Y);exact⟨k,o,a,b⟩⟩
 have HI:=Z hi;generalize Chk G B r vq g e w=C at vQ uz |-;generalize zE g e=ru at vQ uz ux;generalize takG g e=g' at uQ uz;generalize dW g e=sr at qB dw ux;obtain⟨xm,⟨ck,F,ct,O,cq,ci,cp,cg⟩,id,xj,qty,xk,xh⟩:=e;simp only at hk X
 try simp only at ux uQ
 unfold evV at qB;simp only at qB dw;unfold evV;simp only;obtain⟨xD,HX⟩:=mu w (yv xm ck F ct O cq ci cp cg id xj qty xk xh) 37;have HS:Hid ((w.alloc (mq (yv xm ck F ct O cq ci cp cg id xj qty xk xh).toArray 37)).heap.size=w.heap.size+1):=by show _ = _;simp
 have HG:=Z (zA h xD);have HB:Hid (Kp G vq w (w.alloc (mq (yv xm ck F ct O cq ci cp cg id xj qty xk xh).toArray 37))):=kp_of xD;clear h xD hi he hk X;go_enter Tryz.func99,Tryz.ntmps99;refine ms fun mR HK=>?_;go_wp2_with fail;refine U HK _ _ ?_;clear HK;generalize (w.alloc (mq (yv xm ck F ct O cq ci cp cg id xj qty xk xh).toArray 37))=W1 at HS HX HG HB |-;obtain⟨e0,e1,e2,e3,e4,e5,e6,e7,e8,e9,uW,uE,vS,vH⟩:=yz (U HX);go_wp2_with fail;refine(U qB W1 (U HG)).mono ?_;rintro x w2 ⟨hx,xO⟩;have xG:=Z (zg (U HX) xO (by have:=U HS;omega));have uj:=Z (zA (U HG) xO);have xv:=Z (ew (U HB) xO);have hS2:w.heap.size<w2.heap.size:=by have:=U HS;have:=xO.size;omega
 clear xO e0 e1 e2 e3 e4 e5 e6 e7 e8 e9 uW uE vS vH
 by_cases hs:sr=0
 case neg =>
  rw[outR_no hs] at hx;subst hx;go_wp2_with fail;exact⟨rfl,U vQ _ _ (by rw[U ux,if_pos hs]) hs (U xv)⟩
 rw[outR_ok hs] at hx;subst hx;have HSR:=Z hs;have uh:=Z (U ux);rw[if_neg (not_not_intro hs)] at uh;clear hs ux;obtain⟨pm,k,o,uA,vp⟩:=U dw (U HSR);have xr:g.l ≠ []:=by intro h;rw[h] at vp;simp at vp
 have oE:=(yH.1 vp).1;obtain⟨gb,cap,rfl,ur,hBg,hgw⟩:=fL (U uj).row xr;rw[leftAt_at uA vp] at uh;have pn:=pm.left o (yP vp);have kO:=(U HI).len;have vw:Hid (w2.cell? (J gb (k*6+3))=some (H o.left)):=(gP (U uj).row (by omega) vp).1 3 _ rfl;have vn:=Z (zI (U uj).row (by omega));have ku:=Z uA;have ai:=Z vp;have HOL:=Z pn;have cT:(k:Int)<g.l.length:=by omega
 have oT:(0:Int)<=k:=by omega
 have HRU3:=Z (U uh);clear pm uA vp xr pn dw kO uh;generalize hol2:o.left=ol at HRU3 vw;have HOE:=Z hol2;clear hol2;go_wp2_with fail;refine zu (RWA (fun f=>{ tmps:=#[I G 0,.agg (yv xm ck F ct O cq ci cp cg id xj qty xk xh).toArray,M,I w.heap.size 0,I G 0,.agg (yv xm ck F ct O cq ci cp cg id xj qty xk xh).toArray,.tuple #[],f 0,f 1,f 2,f 3,f 4,f 5,f 6,f 7,f 8,f 9,f 10,f 11,f 12,f 13,f 14,f 15,f 16,f 17,f 18,M,M,M,M,M,M,M,M],defers:=[] }) (CVw [some (I w.heap.size 11),some (H qty),some (I G 0),some (I G 0),some (I G 1),some (I G 2),some (.slice (some (J gb 0)) g.l.length cap),some (I G 0),some (I G 0),some (I G 1),some (.agg #[H g.nx,.slice (some (J gb 0)) g.l.length cap]),some (I w.heap.size 9),some (H id),some (H k),some (I gb (k*6)),some (I gb (k*6+3)),some (H ol),some (.bool (qty==ol)),some (.tuple #[])] (fun j=>j=18->qty=ol)) 18 (fun V=>V) w2) (by kernel_rfl) ?_ ?_ ?_
 ·exact⟨fun _=>M,rfl,⟨fun j hj=>by rw[yJ] at hj;split at hj <;> simp at hj,fun _=>⟨rfl,rfl,rfl,Nat.le_refl _,fun _ _=>rfl⟩,fun hj=>by rw[yJ] at hj;split at hj <;> simp at hj⟩⟩
 ·rintro x zb V ⟨f,rfl,L⟩ hx xS;have xq:=eE xS hx (acyc _ (by kernel_rfl));obtain⟨V0,xD,eV⟩:=L.m (xq 18 (by simp));have hqe:=(L.c 18 (xq 18 (by simp))).2 rfl;have HQ:=Z (U HRU3);rw[if_pos hqe] at HQ;subst eV;have xH:=Z (zg (U xG) xD hS2);have xU:=Z (zA (U uj) xD);have xF:=Z (ew (U xv) xD);clear L xq xS hx xD vw vn HRU3;generalize f 0=v0,f 1=v1,f 2=v2,f 3=v3,f 4=v4,f 5=v5,f 6=v6,f 7=v7,f 8=v8,f 9=v9,f 10=v10,f 11=v11,f 12=v12,f 13=v13,f 14=v14,f 15=v15,f 16=v16,f 17=v17,f 18=v18;subst hqe;dsimp only;go_wp2_with fail;have vj:Hid (Bx V.drew w.heap.size (yv xm ck F ct O cq ci cp cg id xj qty xk xh)):=zM (U xH);have xT:Hid (GS G B r V.drew (.slice (some (J gb 0)) g.l.length cap) g):=zA (U xU) ⟨rfl,rfl,rfl,Nat.le_refl _,fun _ _=>rfl⟩;have ui:Hid (Kp G (.slice (some (J gb 0)) g.l.length cap) w V.drew):=ir (U xF);have e9:=A (U vj) 9 rfl;have uE:=A (U vj) 11 rfl;refine zD 7 (by kernel_rfl) (by kernel_rfl) ?_;simp only[yU,List.take_zero,yV,List.drop_zero]
  repeat still_step
  refine wpStill_nil ?_;go_wp2_with fail;refine(lx G 1 B g.nx id qty _ g.l k o _ (A (U xT).box 1 rfl) (A (U xT).box 2 rfl) (zd (U xT).box 2 (by show 2<16;decide)) (U xT).row (U xT).nq (U xT).lt (U xT).base (yO (U HI).len (by decide)) (U ku) (U ai) (by have:=U HOL;have:=U HOE;omega) (by have:=U HOE;omega) (U HOL).2).mono ?_;rintro e w9 ⟨uB,rfl,dH,bT,bC⟩;have HG9:=Z (gs_took (U xT) dH bT bC);have jE:=Z (kp_took (U ui) bC);clear dH bT bC;go_wp2_with fail;go_end0;refine U uz _ uB (U HQ) (U jE) ?_;rw[U uQ];simp only[gz (U ku) (U ai)];exact U HG9
 ·rintro x zb V i op ⟨f,rfl,L⟩ xn hx Q xu R;have xw:=Z L
  have nw:i<18->x[18]? = some false:=fun xM=>by
   rcases fN hx (show 18<19 by omega) with hq|hw
   ·exact hq
   ·exfalso;have jC:=yf xn 18 rfl hw 17 rfl;have D:=yf xn 17 rfl jC 1 rfl;have h0:=yf xn 1 rfl D 0 rfl;have dC:=yf xn 17 rfl jC 16 rfl;have jd:=yf xn 16 rfl dC 15 rfl;have ph:=yf xn 15 rfl jd 14 rfl;have h6:=yf xn 14 rfl ph 6 rfl;have pg:=yf xn 14 rfl ph 13 rfl;have h5:=yf xn 6 rfl h6 5 rfl;have h4:=yf xn 5 rfl h5 4 rfl;have h3:=yf xn 4 rfl h4 3 rfl;have Y:=yf xn 3 rfl h3 2 rfl;have qi:=yf xn 13 rfl pg 10 rfl;have vT:=yf xn 13 rfl pg 12 rfl;have h9:=yf xn 10 rfl qi 9 rfl;have h8:=yf xn 9 rfl h9 8 rfl;have h7:=yf xn 8 rfl h8 7 rfl;have jc:=yf xn 12 rfl vT 11 rfl;rcases(by omega:i=0\/i=1\/i=2\/i=3\/i=4\/i=5\/i=6\/i=7\/i=8\/i=9\/i=10\/i=11\/i=12\/i=13\/i=14\/i=15\/i=16\/i=17) with rfl|rfl|rfl|rfl|rfl|rfl|rfl|rfl|rfl|rfl|rfl|rfl|rfl|rfl|rfl|rfl|rfl|rfl
    ·exact absurd (h0.symm.trans xu) (by simp)
    ·exact absurd (D.symm.trans xu) (by simp)
    ·exact absurd (Y.symm.trans xu) (by simp)
    ·exact absurd (h3.symm.trans xu) (by simp)
    ·exact absurd (h4.symm.trans xu) (by simp)
    ·exact absurd (h5.symm.trans xu) (by simp)
    ·exact absurd (h6.symm.trans xu) (by simp)
    ·exact absurd (h7.symm.trans xu) (by simp)
    ·exact absurd (h8.symm.trans xu) (by simp)
    ·exact absurd (h9.symm.trans xu) (by simp)
    ·exact absurd (qi.symm.trans xu) (by simp)
    ·exact absurd (jc.symm.trans xu) (by simp)
    ·exact absurd (vT.symm.trans xu) (by simp)
    ·exact absurd (pg.symm.trans xu) (by simp)
    ·exact absurd (ph.symm.trans xu) (by simp)
    ·exact absurd (jd.symm.trans xu) (by simp)
    ·exact absurd (dC.symm.trans xu) (by simp)
    ·exact absurd (jC.symm.trans xu) (by simp)
  have uH:i<18->yn w2 V:=fun h=>L.b (nw h);have xl:i<18->∀(p:Addr) u,w2.cell? p=some u->V.cell? p=some u:=fun h p u hu=>((uH h).cell (yL w2 _ hu)).trans hu
  match i,Q with
  | 0,Q =>
   cases Q;have CL:=xl (by omega);clear R L uH xl nw CL;go_simp;exact⟨upd f 0 (I w.heap.size 11),by simp[upd],zV (U xw) 0 _ ⟨yi rfl,(by intro h;cases h)⟩ (by decide)⟩
  | 1,Q =>
   cases Q;have g0:=(L.c 0 (ye R 0 rfl)).1 _ rfl;have CL:=xl (by omega);have z:=CL (J w.heap.size 11) _ (A (U xG) 11 rfl);clear R L uH xl nw CL;go_simp;exact⟨upd f 1 (H qty),by simp[upd,g0],zV (U xw) 1 _ ⟨yi rfl,(by intro h;cases h)⟩ (by decide)⟩
  | 2,Q|7,Q =>
   cases Q;have CL:=xl (by omega);clear R L uH xl nw CL;go_simp;exact⟨upd f _ (I G 0),by simp[upd],zV (U xw) _ _ ⟨yi rfl,(by intro h;cases h)⟩ (by decide)⟩
  | 3,Q =>
   cases Q;have g2:=(L.c 2 (ye R 2 rfl)).1 _ rfl;have CL:=xl (by omega);clear R L uH xl nw CL;go_simp;exact⟨upd f 3 (I G 0),by simp[upd,g2],zV (U xw) 3 _ ⟨yi rfl,(by intro h;cases h)⟩ (by decide)⟩
  | 4,Q =>
   cases Q;have g3:=(L.c 3 (ye R 3 rfl)).1 _ rfl;have CL:=xl (by omega);clear R L uH xl nw CL;go_simp;exact⟨upd f 4 (I G 1),by simp[upd,g3],zV (U xw) 4 _ ⟨yi rfl,(by intro h;cases h)⟩ (by decide)⟩
  | 5,Q =>
   cases Q;have g4:=(L.c 4 (ye R 4 rfl)).1 _ rfl;have CL:=xl (by omega);clear R L uH xl nw CL;go_simp;exact⟨upd f 5 (I G 2),by simp[upd,g4],zV (U xw) 5 _ ⟨yi rfl,(by intro h;cases h)⟩ (by decide)⟩
  | 6,Q =>
   cases Q;have g5:=(L.c 5 (ye R 5 rfl)).1 _ rfl;have CL:=xl (by omega);have z:=CL (J G 2) _ (A (U uj).box 2 rfl);clear R L uH xl nw CL;go_simp;exact⟨upd f 6 (.slice (some (J gb 0)) g.l.length cap),by simp[upd,g5],zV (U xw) 6 _ ⟨yi rfl,(by intro h;cases h)⟩ (by decide)⟩
  | 8,Q =>
   cases Q;have g7:=(L.c 7 (ye R 7 rfl)).1 _ rfl;have CL:=xl (by omega);clear R L uH xl nw CL;go_simp;exact⟨upd f 8 (I G 0),by simp[upd,g7],zV (U xw) 8 _ ⟨yi rfl,(by intro h;cases h)⟩ (by decide)⟩
  | 9,Q =>
   cases Q;have g8:=(L.c 8 (ye R 8 rfl)).1 _ rfl;have CL:=xl (by omega);clear R L uH xl nw CL;go_simp;exact⟨upd f 9 (I G 1),by simp[upd,g8],zV (U xw) 9 _ ⟨yi rfl,(by intro h;cases h)⟩ (by decide)⟩
  | 10,Q =>
   cases Q;have g9:=(L.c 9 (ye R 9 rfl)).1 _ rfl;have CL:=xl (by omega);have z1:=CL (J G 1) _ (A (U uj).box 1 rfl);have z2:=CL (J G 2) _ (A (U uj).box 2 rfl);clear R L uH xl nw CL;go_simp;exact⟨upd f 10 (.agg #[H g.nx,.slice (some (J gb 0)) g.l.length cap]),by simp[upd,g9],zV (U xw) 10 _ ⟨yi rfl,(by intro h;cases h)⟩ (by decide)⟩
  | 11,Q =>
   cases Q;have CL:=xl (by omega);clear R L uH xl nw CL;go_simp;exact⟨upd f 11 (I w.heap.size 9),by simp[upd],zV (U xw) 11 _ ⟨yi rfl,(by intro h;cases h)⟩ (by decide)⟩
  | 12,Q =>
   cases Q;have jB:=(L.c 11 (ye R 11 rfl)).1 _ rfl;have CL:=xl (by omega);have z:=CL (J w.heap.size 9) _ (A (U xG) 9 rfl);clear R L uH xl nw CL;go_simp;exact⟨upd f 12 (H id),by simp[upd,jB],zV (U xw) 12 _ ⟨yi rfl,(by intro h;cases h)⟩ (by decide)⟩
  | 13,Q =>
   cases Q;have jL:=(L.c 10 (ye R 10 rfl)).1 _ rfl;have vY:=(L.c 12 (ye R 12 rfl)).1 _ rfl;have CL:=xl (by omega);have hw:=nw (by omega);have aw:=Z (zi (U vn) (uH (by omega)) ya);clear R L uH xl nw CL;go_simp;refine(iT g.nx _ g.l id V (U aw)).mono ?_;rw[U ku];rintro e w4 ⟨rfl,xy⟩;exact⟨upd f 13 (H k),by simp[upd,jL,vY],zV (iw (U xw) hw xy) 13 _ ⟨yi rfl,(by intro h;cases h)⟩ (by decide)⟩
  | 14,Q =>
   cases Q;have g6:=(L.c 6 (ye R 6 rfl)).1 _ rfl;have kI:=(L.c 13 (ye R 13 rfl)).1 _ rfl;have CL:=xl (by omega);clear R L uH xl nw CL;go_simp;exact⟨upd f 14 (I gb (k*6)),by simp[upd,g6,kI],zV (U xw) 14 _ ⟨yi rfl,(by intro h;cases h)⟩ (by decide)⟩
  | 15,Q =>
   cases Q;have pf:=(L.c 14 (ye R 14 rfl)).1 _ rfl;have CL:=xl (by omega);clear R L uH xl nw CL;go_simp;exact⟨upd f 15 (I gb (k*6+3)),by simp[upd,pf],zV (U xw) 15 _ ⟨yi rfl,(by intro h;cases h)⟩ (by decide)⟩
  | 16,Q =>
   cases Q;have g15:=(L.c 15 (ye R 15 rfl)).1 _ rfl;have CL:=xl (by omega);have z:=CL (J gb (k*6+3)) _ (U vw);clear R L uH xl nw CL;go_simp;exact⟨upd f 16 (H ol),by simp[upd,g15],zV (U xw) 16 _ ⟨yi rfl,(by intro h;cases h)⟩ (by decide)⟩
  | 17,Q =>
   cases Q;have g1:=(L.c 1 (ye R 1 rfl)).1 _ rfl;have g16:=(L.c 16 (ye R 16 rfl)).1 _ rfl;have CL:=xl (by omega);clear R L uH xl nw CL;go_simp;exact⟨upd f 17 (.bool (qty==ol)),by simp[upd,g1,g16],zV (U xw) 17 _ ⟨yi rfl,(by intro h;cases h)⟩ (by decide)⟩
  | 18,Q =>
   cases Q;have g17:=(L.c 17 (ye R 17 rfl)).1 _ rfl;have vv:=Z (ew (U xv) (L.b xu));clear R L uH xl nw;go_simp
   by_cases hqe:qty=ol
   ·have bq:(qty==ol)=true:=by simpa using hqe
    have hd:=eO 7 V;rw[<- bq] at hd;refine hd.mono ?_;rintro e w4 ⟨rfl,rfl⟩;exact⟨upd f 18 (.tuple #[]),by simp[upd,g17,bq],rw_lastv (T:=fun V=>V) (U xw) xu ⟨yi rfl,fun _=>hqe⟩⟩
   ·have bq:(qty==ol)=false:=by simpa using hqe
    have hd:=eD 7 V;rw[<- bq] at hd;refine hd.mono ?_;rintro e w4 ⟨rfl,rfl⟩;have HQ:=Z (U HRU3);rw[if_neg hqe] at HQ;clear hqe bq;go_wp2_with fail;exact⟨rfl,U vQ 7 _ (U HQ) (by decide) (U vv)⟩
  | i+19,Q=>simp at Q
theorem rest_chk {G B r:Nat}{vq:Value}{g:Gr}(e:Ev)(w:World)(h:GS G B r w vq g)(hi:GI g)(he:okE e=true)(hk:e.kind=4)(X:e.cmd.g.size<=maxLen):Calls Tryz.prog 97 #[I G 0,evV e] w fun x w'=>Chk G B r vq g e w x w':=by
 have hsf:=sfl;have hG:=h.lt;have jl:=h.base;have ux:Hid (zE g e=if dueR g e≠0 then dueR g e else if ed e (dueG g)=true then 0 else 13):=by show _ = _;simp[zE,hk]
 have uQ:Hid (takG g e=⟨g.nx,g.l ++ [g.tk],g.bg,g.cm,{ g.tk with left:=0 }⟩):=by show _ = _;rw[takG,step4 hk]
 have vQ:Hid (∀k w',zE g e=k->k≠0->Kp G vq w w'->Chk G B r vq g e w (.panicked (brk k)) w'):=fun k w' D Y h3=>chk_no D Y h3;have uz:Hid (∀w' uB,zE g e=0->Kp G vq w w'->GS G B r w' uB (takG g e)->Chk G B r vq g e w (.returned (.tuple #[])) w'):=fun w' uB D Y h3=>chk_ok D Y h3;have kB:Hid (∀W,GS G B r W vq g->Calls Tryz.prog 153 #[I G 0,evV e] W fun x w'=>x=outD (dueR g e) (dueG g)/\yn W w'):=fun W hW=>lD e W hW hi;have cj:Hid (∀W,Calls Tryz.prog 155 #[evV e,duV (dueG g)] W fun r w'=>r = .returned (.bool (ed e (dueG g)))/\yn W w'):=fun W=>isJust_any e (dueG g) W;have HR45:Hid (zE g e=0->g.bg=1/\g.tk.left≠0):=rule45 (by omega);have HI:=Z hi;generalize Chk G B r vq g e w=C at vQ uz |-;generalize zE g e=ru at vQ uz ux HR45;generalize takG g e=g' at uQ uz;generalize dueR g e=dr at kB ux;generalize ed e (dueG g)=jb at cj ux;generalize dueG g=d at kB cj;obtain⟨xm,⟨ck,F,ct,O,cq,ci,cp,cg⟩,id,xj,qty,xk,xh⟩:=e;simp only at hk X
 try simp only at ux uQ
 obtain⟨dk,di,dt,dq,dp⟩:=d;unfold evV at kB cj;unfold duV at cj;simp only at kB cj;unfold evV;simp only;obtain⟨xD,HX⟩:=mu w (yv xm ck F ct O cq ci cp cg id xj qty xk xh) 37;have HS:Hid ((w.alloc (mq (yv xm ck F ct O cq ci cp cg id xj qty xk xh).toArray 37)).heap.size=w.heap.size+1):=by show _ = _;simp
 have HG:=Z (zA h xD);have HB:Hid (Kp G vq w (w.alloc (mq (yv xm ck F ct O cq ci cp cg id xj qty xk xh).toArray 37))):=kp_of xD;clear h xD hi he hk X;go_enter Tryz.func97,Tryz.ntmps97;refine ms fun mR HK=>?_;go_wp2_with fail;refine U HK _ _ ?_;clear HK;generalize (w.alloc (mq (yv xm ck F ct O cq ci cp cg id xj qty xk xh).toArray 37))=W1 at HS HX HG HB |-;go_wp2_with fail;refine zu (RWA (fun f=>{ tmps:=#[I G 0,.agg (yv xm ck F ct O cq ci cp cg id xj qty xk xh).toArray,M,I w.heap.size 0,f 0,f 1,f 2,f 3,f 4,f 5,M,M,M,M,M,M,M,M,M,M,M,M,M,M,M,M,M,M,M],defers:=[] }) (CVw [some (.agg (yv xm ck F ct O cq ci cp cg id xj qty xk xh).toArray),some (I G 0),some (.agg (yv xm ck F ct O cq ci cp cg id xj qty xk xh).toArray),some (.agg #[H dk,H di,H dt,H dq,H dp]),some (.bool jb),some (.tuple #[])] (fun j=>(j=3->dr=0)/\(j=5->jb=true))) 5 (fun V=>V) W1) (by kernel_rfl) ?_ ?_ ?_
 ·exact⟨fun _=>M,rfl,⟨fun j hj=>by rw[yJ] at hj;split at hj <;> simp at hj,fun _=>⟨rfl,rfl,rfl,Nat.le_refl _,fun _ _=>rfl⟩,fun hj=>by rw[yJ] at hj;split at hj <;> simp at hj⟩⟩
 ·rintro x zb V ⟨f,rfl,L⟩ hx xS;have xq:=eE xS hx (acyc _ (by kernel_rfl));obtain⟨V0,xD,eV⟩:=L.m (xq 5 (by simp));have ji:=(L.c 3 (xq 3 (by simp))).2.1 rfl;have hjb:=(L.c 5 (xq 5 (by simp))).2.2 rfl;have HQ:=Z (U ux);rw[if_neg (not_not_intro ji),if_pos hjb] at HQ;subst eV;have xU:=Z (zA (U HG) xD);have xF:=Z (ew (U HB) xD);clear L xq xS hx xD ji hjb ux kB cj HX HS HG HB;dsimp only;generalize f 0=v0,f 1=v1,f 2=v2,f 3=v3,f 4=v4,f 5=v5;obtain⟨i0,vk,uI,uG,uZ⟩:=info_parts Tryz.infoOrder;have kO:g.l.length<=20:=((U HI).good (.inr (U HR45 (U HQ)).2)).len;go_wp2_with fail;have hj2:=A (U xU).box 2 rfl;have hf2:=zd (U xU).box 2 (by show 2<16;decide);have t10:=A (U xU).box 10 rfl;have t11:=A (U xU).box 11 rfl;have t12:=A (U xU).box 12 rfl;have t13:=A (U xU).box 13 rfl;have t14:=A (U xU).box 14 rfl;have t15:=A (U xU).box 15 rfl;have hGl:=(U xU).lt;have hnq:=(U xU).nq;have hBG:=(U xU).hG
  go_region_law ((refine step_append_lies _ (by rfl) _ _ _ (by rfl) B 65 i0 _ 6 56 Tryz.underlying25 vk uI uG uZ rfl (by decide) _ g.l.length (g.l.flatMap Od.vs) (by rfl) (zt (U xU).row ((Below.refl V.heap.size V).alloc ya _).drew) (J V.heap.size 0) 1 1 g.tk.vs (by rfl) rfl (cells_of_mk V g.tk.vs _) (one_od g.tk) (by decide) (by unfold maxLen;omega) (by omega) (by show B<=(V.alloc _).heap.size;rw[zf];omega) (V.heap.size+1) (by simp) ?_;intro gq cq w5 vh vI hat5 hlt5;have y2:=(vI.cell_far (J G 2) (by show G<(V.alloc _).heap.size;rw[zf];omega) hnq).trans ((((Below.refl V.heap.size V).alloc ya _).drew.cell (p:=(J G 2)) (by show G < _;omega)).trans hj2);have r2:=(vI.frozen_far (J G 2) (by show G<(V.alloc _).heap.size;rw[zf];omega) hnq).trans ((World.frozen?_of_block (a:=(J G 2)) (((Below.refl V.heap.size V).alloc ya _).drew.block G (by omega))).trans hf2)))
  all_goals
   have bR:yn V ((V.alloc (Obj.cells g.tk.vs.toArray 65)).drew):=((Below.refl V.heap.size V).alloc ya _).drew;have uR:V.grownBy w5 vq.ownBlock:=zw (eF bR ya) vI;have ht:TookAt G 1 vq.ownBlock V (w5.setCell (J G 2) (.slice (some (J gq 0)) (g.l.length+1) cq)):=ia (gH uR hGl hnq) (took_set (o:=1) _ _)
   have jM:∃xA,w5.heap[G]? = some (.cells xA 67 (0,0)):=by
    obtain⟨xA,D⟩:=(U xU).typ;exact⟨xA,(uR.block G hGl hnq).trans D⟩
   have aG:ORow w5 B (.slice (some (J gq 0)) (g.l.length+1) cq) (g.l ++ [g.tk]):=by show World.ownsRow _ _ _ _ _ _ _;rw[yQ,List.flatMap_append];simpa using vh
   have xT:=Z (gs_took (U xU) (yN _ _ _ y2) (ek aG (fC aG jM (by decide)) 2 _) ht);have ui:=Z (kp_took (U xF) ht);clear vh vI hat5 hlt5 y2 r2 bR uR ht jM aG;generalize (w5.setCell (J G 2) (.slice (some (J gq 0)) (g.l.length+1) cq))=h2 at xT ui |-;have c13:=A (U xT).box 13 rfl;have q13:=zd (U xT).box 13 (by show 13<16;decide);go_wp2_with fail;go_end0;refine U uz _ (.slice (some (J gq 0)) (g.l.length+1) cq) (U HQ) (kp_set (U ui) 13 _) ?_;rw[U uQ];exact gs_set (U xT) 13 _ (by decide) rfl rfl
 ·rintro x zb V i op ⟨f,rfl,L⟩ xn hx Q xu R;have xw:=Z L
  have nw:i<5->x[5]? = some false:=fun xM=>by
   rcases fN hx (show 5<6 by omega) with hq|hw
   ·exact hq
   ·exfalso;have h4:=yf xn 5 rfl hw 4 rfl;have h0:=yf xn 4 rfl h4 0 rfl;have h3:=yf xn 4 rfl h4 3 rfl;have D:=yf xn 3 rfl h3 1 rfl;have Y:=yf xn 3 rfl h3 2 rfl;rcases(by omega:i=0\/i=1\/i=2\/i=3\/i=4) with rfl|rfl|rfl|rfl|rfl
    ·exact absurd (h0.symm.trans xu) (by simp)
    ·exact absurd (D.symm.trans xu) (by simp)
    ·exact absurd (Y.symm.trans xu) (by simp)
    ·exact absurd (h3.symm.trans xu) (by simp)
    ·exact absurd (h4.symm.trans xu) (by simp)
  have uH:i<5->yn W1 V:=fun h=>L.b (nw h);have xl:i<5->∀(p:Addr) u,W1.cell? p=some u->V.cell? p=some u:=fun h p u hu=>((uH h).cell (yL W1 _ hu)).trans hu
  match i,Q with
  | 0,Q|2,Q =>
   cases Q;have CL:=xl (by omega);have e0:=CL (J w.heap.size 0) _ (A (U HX) 0 rfl);have e1:=CL (J w.heap.size 1) _ (A (U HX) 1 rfl);have e2:=CL (J w.heap.size 2) _ (A (U HX) 2 rfl);have e3:=CL (J w.heap.size 3) _ (A (U HX) 3 rfl);have e4:=CL (J w.heap.size 4) _ (A (U HX) 4 rfl);have e5:=CL (J w.heap.size 5) _ (A (U HX) 5 rfl);have e6:=CL (J w.heap.size 6) _ (A (U HX) 6 rfl);have e7:=CL (J w.heap.size 7) _ (A (U HX) 7 rfl);have e8:=CL (J w.heap.size 8) _ (A (U HX) 8 rfl);have e9:=CL (J w.heap.size 9) _ (A (U HX) 9 rfl);have uW:=CL (J w.heap.size 10) _ (A (U HX) 10 rfl);have uE:=CL (J w.heap.size 11) _ (A (U HX) 11 rfl);have vS:=CL (J w.heap.size 12) _ (A (U HX) 12 rfl);have vH:=CL (J w.heap.size 13) _ (A (U HX) 13 rfl);clear R L uH xl nw CL;go_simp;exact⟨upd f _ (.agg (yv xm ck F ct O cq ci cp cg id xj qty xk xh).toArray),by simp[upd],zV (U xw) _ _ ⟨yi rfl,⟨fun h=>absurd h (by decide),fun h=>absurd h (by decide)⟩⟩ (by decide)⟩
  | 1,Q =>
   cases Q;have CL:=xl (by omega);clear R L uH xl nw CL;go_simp;exact⟨upd f 1 (I G 0),by simp[upd],zV (U xw) 1 _ ⟨yi rfl,⟨fun h=>absurd h (by decide),fun h=>absurd h (by decide)⟩⟩ (by decide)⟩
  | 3,Q =>
   cases Q;have g1:=(L.c 1 (ye R 1 rfl)).1 _ rfl;have g2:=(L.c 2 (ye R 2 rfl)).1 _ rfl;have CL:=xl (by omega);have hw:=nw (by omega);have vv:=Z (ew (U HB) (uH (by omega)));have HGV:=Z (zA (U HG) (uH (by omega)));clear R L uH xl nw CL;go_simp;refine(U kB V (U HGV)).mono ?_;rintro y w4 ⟨hy,xy⟩
   by_cases hs:dr=0
   ·rw[outD_ok hs] at hy;subst hy;exact⟨upd f 3 (.agg #[H dk,H di,H dt,H dq,H dp]),by simp[upd,g1,g2,duV],zV (iw (U xw) hw xy) 3 _ ⟨yi rfl,fun _=>hs,fun h=>absurd h (by decide)⟩ (by decide)⟩
   ·rw[outD_no hs] at hy;subst hy;have HQ:=Z (U ux);rw[if_pos hs] at HQ;have HSS:=Z hs;have ui:=Z (ew (U vv) xy);clear hs xy;go_wp2_with fail;exact⟨rfl,U vQ _ _ (U HQ) (U HSS) (U ui)⟩
  | 4,Q =>
   cases Q;have g0:=(L.c 0 (ye R 0 rfl)).1 _ rfl;have g3:=(L.c 3 (ye R 3 rfl)).1 _ rfl;have CL:=xl (by omega);have hw:=nw (by omega);clear R L uH xl nw CL;go_simp;refine(U cj V).mono ?_;rintro y w4 ⟨rfl,xy⟩;exact⟨upd f 4 (.bool jb),by simp[upd,g0,g3],zV (iw (U xw) hw xy) 4 _ ⟨yi rfl,⟨fun h=>absurd h (by decide),fun h=>absurd h (by decide)⟩⟩ (by decide)⟩
  | 5,Q =>
   cases Q;have g4:=(L.c 4 (ye R 4 rfl)).1 _ rfl;have vv:=Z (ew (U HB) (L.b xu));have h4:=R ⟨4,.data⟩ (by simp) rfl;have h3:=yf xn 4 rfl h4 3 rfl;have ji:=(L.c 3 h3).2.1 rfl;have HQ:=Z (U ux);rw[if_neg (not_not_intro ji)] at HQ;clear R L uH xl nw h4 h3 ji;go_simp
   by_cases hj:jb=true
   ·have hd:=eO 13 V;rw[<- hj] at hd;refine hd.mono ?_;rintro e w4 ⟨rfl,rfl⟩;exact⟨upd f 5 (.tuple #[]),by simp[upd,g4],rw_lastv (T:=fun V=>V) (U xw) xu ⟨yi rfl,fun h=>absurd h (by decide),fun _=>hj⟩⟩
   ·have hj2:jb=false:=by simpa using hj
    have hd:=eD 13 V;rw[<- hj2] at hd;refine hd.mono ?_;rintro e w4 ⟨rfl,rfl⟩;rw[if_neg hj] at HQ;clear hj hj2 hd;go_wp2_with fail;exact⟨rfl,U vQ 13 _ (U HQ) (by decide) (U vv)⟩
  | i+6,Q=>simp at Q
theorem trade_chk {G B r:Nat}{vq:Value}{g:Gr}(e:Ev)(w:World)(h:GS G B r w vq g)(hi:GI g)(he:okE e=true)(hk:e.kind=3)(X:e.cmd.g.size<=maxLen):Calls Tryz.prog 96 #[I G 0,evV e] w fun x w'=>Chk G B r vq g e w x w':=by
 have hsf:=sfl;have hG:=h.lt;have jl:=h.base;have ux:Hid (zE g e=if dueR g e≠0 then dueR g e else trR (dueG g) e):=by show _ = _;simp[zE,hk]
 have uQ:Hid (takG g e=⟨g.nx,hitI g.l e.other e.qty,g.bg,g.cm,{ g.tk with left:=g.tk.left-e.qty }⟩):=by show _ = _;rw[takG,step3 hk]
 have vQ:Hid (∀k w',zE g e=k->k≠0->Kp G vq w w'->Chk G B r vq g e w (.panicked (brk k)) w'):=fun k w' D Y h3=>chk_no D Y h3;have uz:Hid (∀w' uB,zE g e=0->Kp G vq w w'->GS G B r w' uB (takG g e)->Chk G B r vq g e w (.returned (.tuple #[])) w'):=fun w' uB D Y h3=>chk_ok D Y h3;have kB:Hid (∀W,GS G B r W vq g->Calls Tryz.prog 153 #[I G 0,evV e] W fun x w'=>x=outD (dueR g e) (dueG g)/\yn W w'):=fun W hW=>lD e W hW hi;have aS:Hid (zE g e=0->g.bg=1/\g.tk.left≠0/\∃o,dZ g.l (othS g.cm.s)=some o/\eB g.cm o=true/\e.id=g.tk.id/\e.other=o.id/\e.qty=min g.tk.left o.left/\e.price=o.ticks):=rule3 hk;have HI:=Z hi;generalize Chk G B r vq g e w=C at vQ uz |-;generalize zE g e=ru at vQ uz ux aS;generalize takG g e=g' at uQ uz;generalize dueR g e=dr at kB ux;generalize dueG g=d at kB ux;obtain⟨xm,⟨ck,F,ct,O,cq,ci,cp,cg⟩,id,xj,qty,xk,xh⟩:=e;simp only at hk X
 try simp only at ux uQ
 unfold trR at ux;unfold evV at kB;simp only at ux kB aS;unfold evV;simp only;obtain⟨xD,HX⟩:=mu w (yv xm ck F ct O cq ci cp cg id xj qty xk xh) 37;have HS:Hid ((w.alloc (mq (yv xm ck F ct O cq ci cp cg id xj qty xk xh).toArray 37)).heap.size=w.heap.size+1):=by show _ = _;simp
 have HG:=Z (zA h xD);have HB:Hid (Kp G vq w (w.alloc (mq (yv xm ck F ct O cq ci cp cg id xj qty xk xh).toArray 37))):=kp_of xD;clear h xD hi he hk X;go_enter Tryz.func96,Tryz.ntmps96;refine ms fun mR HK=>?_;go_wp2_with fail;refine U HK _ _ ?_;clear HK;generalize (w.alloc (mq (yv xm ck F ct O cq ci cp cg id xj qty xk xh).toArray 37))=W1 at HS HX HG HB |-;obtain⟨e0,e1,e2,e3,e4,e5,e6,e7,e8,e9,uW,uE,vS,vH⟩:=yz (U HX);go_wp2_with fail;refine(U kB W1 (U HG)).mono ?_;rintro x w2 ⟨hx,xO⟩
 by_cases hs:dr=0
 case neg =>
  rw[outD_no hs] at hx;subst hx;go_wp2_with fail;exact⟨rfl,U vQ _ _ (by rw[U ux,if_pos hs]) hs (ew (U HB) xO)⟩
 rw[outD_ok hs] at hx;subst hx;have HDZ:=Z hs;have uh:=Z (U ux);rw[if_neg (not_not_intro hs)] at uh;clear hs ux;obtain⟨dk,di,dt,dq,dp⟩:=d;unfold duV;simp only at uh |-;have xL:=mn w2 (mq #[H dk,H di,H dt,H dq,H dp] 39);have pW:=xO.trans (xL.mono xO.size);have xG:=Z (zg (U HX) pW (by have:=U HS;omega));have uj:=Z (zA (U HG) pW);have xv:=Z (ew (U HB) pW);have HV2:=Z (zn w2 [H dk,H di,H dt,H dq,H dp] 39);have HZ2:Hid (w.heap.size<w2.heap.size/\w2.heap.size<(w2.alloc (mq #[H dk,H di,H dt,H dq,H dp] 39)).heap.size):=⟨by have:=U HS;have:=xO.size;omega,by simp⟩;clear xO xL pW e0 e1 e2 e3 e4 e5 e6 e7 e8 e9 uW uE vS vH HX HG HB HS;have kC:=Z (U xG)
 by_cases hk3:dk=3
 case neg =>
  have b0:(dk==3)=false:=by simpa using hk3
  have HQ:=Z (U uh);rw[if_pos (fun h=>hk3 h.1)] at HQ;clear hk3;go_wp2_with fail;refine(eD 9 _).mono ?_;rintro e w6 ⟨rfl,rfl⟩;go_wp2_with fail;exact⟨rfl,U vQ 9 _ (U HQ) (by decide) (U xv)⟩
 have b0:(dk==3)=true:=by simpa using hk3
 have e9:=A (U kC) 9 rfl
 by_cases uk:id=di
 case neg =>
  have b1:(id==di)=false:=by simpa using uk
  have HQ:=Z (U uh);rw[if_pos (fun h=>uk h.2)] at HQ;clear hk3 uk;go_wp2_with fail;refine(eD 9 _).mono ?_;rintro e w6 ⟨rfl,rfl⟩;go_wp2_with fail;exact⟨rfl,U vQ 9 _ (U HQ) (by decide) (U xv)⟩
 have b1:(id==di)=true:=by simpa using uk
 rw[if_neg (not_not_intro ⟨hk3,uk⟩)] at uh;clear hk3 uk;go_wp2_with fail;refine(eO 9 _).mono ?_;rintro e hg ⟨rfl,hX⟩;rw[<- hX] at xG uj xv HV2 HZ2;clear hX b0 b1 e9 kC;obtain ⟨v0,v1,v2,v3,v4⟩:=q0_5 (U HV2) rfl;have uW:=A (U xG) 10 rfl;have uE:=A (U xG) 11 rfl;have vS:=A (U xG) 12 rfl
 by_cases qi:xj=dt
 case neg =>
  have b10:(xj==dt)=false:=by simpa using qi
  have HQ:=Z (U uh);rw[if_pos qi] at HQ;clear qi;go_wp2_with fail;refine(eD 10 _).mono ?_;rintro e w6 ⟨rfl,rfl⟩;go_wp2_with fail;exact⟨rfl,U vQ 10 _ (U HQ) (by decide) (U xv)⟩
 have b10:(xj==dt)=true:=by simpa using qi
 rw[if_neg (not_not_intro qi)] at uh;clear qi;go_wp2_with fail;refine(eO 10 _).mono ?_;rintro e X10 ⟨rfl,hX⟩;rw[hX];clear hX b10
 by_cases jc:xk=dp
 case neg =>
  have b11:(xk==dp)=false:=by simpa using jc
  have HQ:=Z (U uh);rw[if_pos jc] at HQ;clear jc;go_wp2_with fail;refine(eD 11 _).mono ?_;rintro e w6 ⟨rfl,rfl⟩;go_wp2_with fail;exact⟨rfl,U vQ 11 _ (U HQ) (by decide) (U xv)⟩
 have b11:(xk==dp)=true:=by simpa using jc
 rw[if_neg (not_not_intro jc)] at uh;clear jc;go_wp2_with fail;refine(eO 11 _).mono ?_;rintro e X11 ⟨rfl,hX⟩;rw[hX];clear hX b11
 by_cases vT:qty=dq
 case neg =>
  have qH:(qty==dq)=false:=by simpa using vT
  have HQ:=Z (U uh);rw[if_pos vT] at HQ;clear vT;go_wp2_with fail;refine(eD 12 _).mono ?_;rintro e w6 ⟨rfl,rfl⟩;go_wp2_with fail;exact⟨rfl,U vQ 12 _ (U HQ) (by decide) (U xv)⟩
 have qH:(qty==dq)=true:=by simpa using vT
 rw[if_neg (not_not_intro vT)] at uh;clear vT;go_wp2_with fail;refine(eO 12 _).mono ?_;rintro e X12 ⟨rfl,hX⟩;rw[hX];clear hX qH;obtain⟨D,Y,o,hf,hm,-,bp,hq,-⟩:=U aS (U uh);have pm:=(U HI).good (.inr Y);obtain⟨vr,_⟩:=gJ hf;obtain⟨i,hi⟩:=List.getElem?_of_mem vr;have uA:plc g.l xj=i:=by rw[bp];exact fU pm.rise hi
 have pn:=pm.left o vr;have jN:=(U HI).l0;have hl1:=(U HI).l1;have bx:0<=qty:=by omega
 have pE:qty<=o.left:=by omega
 have pq:IntKind.i64.wrap (g.tk.left-qty)=g.tk.left-qty:=by rw[IntKind.wrap_i64];omega
 have ku:=Z uA;have HLI:=Z hi;have HOL:=Z pn;have HQ01:Hid (0<=qty/\qty<=o.left):=⟨bx,pE⟩;clear D Y hf hm hq bp pm vr hi uA pn jN hl1 bx pE aS v0 v1 v2 v3 v4 uW uE vS;have xR:Hid (Bx hg.drew w.heap.size (yv xm ck F ct O cq ci cp cg id xj qty xk xh)):=zM (U xG);have qm:Hid (GS G B r hg.drew vq g):=zA (U uj) ⟨rfl,rfl,rfl,Nat.le_refl _,fun _ _=>rfl⟩;have vC:Hid (Kp G vq w hg.drew):=ir (U xv);have uE:=A (U xR) 11 rfl;have c13:=A (U qm).box 13 rfl;have q13:=zd (U qm).box 13 (by show 13<16;decide);go_wp2_with fail;refine zD 11 (by kernel_rfl) (by kernel_rfl) ?_;simp only[yU,List.take_zero,yV,List.drop_zero]
 repeat still_step
 refine wpStill_nil ?_;have vw:Hid (GS G B r (hg.drew.setCell (J G 13) (H (g.tk.left-qty))) vq { g with tk:={ g.tk with left:=g.tk.left-qty } }):=gs_set (U qm) 13 _ (by decide) rfl rfl;have xI:=Z (kp_set (U vC) 13 (H (g.tk.left-qty)));have uT:Hid (Bx (hg.drew.setCell (J G 13) (H (g.tk.left-qty))) w.heap.size (yv xm ck F ct O cq ci cp cg id xj qty xk xh)):=fg (U xR) (by omega);go_wp2_with fail;change Code.wp _ _ _ _ (hg.drew.setCell (J G 13) (H (g.tk.left-qty)));generalize hg.drew.setCell (J G 13) (H (g.tk.left-qty))=h2 at vw xI uT |-;clear uE c13 q13;have xH:Hid (Bx h2.drew w.heap.size (yv xm ck F ct O cq ci cp cg id xj qty xk xh)):=zM (U uT);have xU:Hid (GS G B r h2.drew vq { g with tk:={ g.tk with left:=g.tk.left-qty } }):=zA (U vw) ⟨rfl,rfl,rfl,Nat.le_refl _,fun _ _=>rfl⟩;have xF:Hid (Kp G vq w h2.drew):=ir (U xI);have uW:=A (U xH) 10 rfl;have uE:=A (U xH) 11 rfl;refine zD 7 (by kernel_rfl) (by kernel_rfl) ?_;simp only[yU,List.take_zero,yV,List.drop_zero]
 repeat still_step
 refine wpStill_nil ?_;go_wp2_with fail;refine(lx G 1 B g.nx xj qty vq g.l i o _ (A (U xU).box 1 rfl) (A (U xU).box 2 rfl) (zd (U xU).box 2 (by show 2<16;decide)) (U xU).row (U xU).nq (U xU).lt (U xU).base (yO (U HI).len (by decide)) (U ku) (U HLI) (U HQ01).1 (U HQ01).2 (U HOL).2).mono ?_;rintro e w9 ⟨uB,rfl,dH,bT,bC⟩;have HG9:=Z (gs_took (U xU) dH bT bC);have jE:=Z (kp_took (U xF) bC);clear dH bT bC;go_wp2_with fail;go_end0;refine U uz _ uB (U uh) (U jE) ?_;rw[U uQ];simp only[gz (U ku) (U HLI)];exact U HG9
end Go.Proofs.YthhkapcbocgcoaaGreatDoor
