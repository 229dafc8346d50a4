/-.-/
import Derived.Test.YthhkapcbocgcoaaGreatDoorKj25
import Derived.Test.YthhkapcbocgcoaaGreatDoorKj26
import Derived.MapKept
import Derived.Maps.Own
import Derived.WideMake
set_option linter.unusedVariables false
set_option maxHeartbeats 6400000
set_option maxRecDepth 100000
namespace Go.Proofs.YthhkapcbocgcoaaGreatDoor
open Go.RowKit
theorem refuse_chk {G B r:Nat}{vq:Value}{g:Gr}(e:Ev)(w:World)(h:GS G B r w vq g)(hi:GI g)(he:okE e=true)(hk:e.kind=2)(X:e.cmd.g.size<=maxLen):Calls Tryz.prog 95 #[I G 0,evV e] w fun x w'=>Chk G B r vq g e w x w':=by
 have hsf:=sfl;have hG:=h.lt;have jl:=h.base;have ux:Hid (zE g e=if g.bg≠0 then 3 else if refR g.nx g.l e.cmd≠0/\refR g.nx g.l e.cmd=e.reason then 0 else 4):=by show _ = _;unfold zE;rw[if_neg (by rw[hk];decide),if_pos hk]
 have uQ:Hid (takG g e=⟨g.nx,g.l,g.bg,g.cm,g.tk⟩):=by show _ = _;rw[takG,step2 hk]
 have vQ:Hid (∀k w',zE g e=k->k≠0->Kp G vq w w'->Chk G B r vq g e w (.panicked (brk k)) w'):=fun k w' D Y h3=>chk_no D Y h3;have uz:Hid (∀w' uB,zE g e=0->Kp G vq w w'->GS G B r w' uB (takG g e)->Chk G B r vq g e w (.returned (.tuple #[])) w'):=fun w' uB D Y h3=>chk_ok D Y h3;have pS:Hid (e.cmd.g.size<=maxLen):=X;have HI:=Z hi;generalize Chk G B r vq g e w=C at vQ uz |-;generalize zE g e=ru at vQ uz ux;generalize takG g e=g' at uQ uz;obtain⟨xm,⟨ck,F,ct,O,cq,ci,cp,cg⟩,id,xj,qty,xk,xh⟩:=e;simp only at hk X
 try simp only at ux uQ
 unfold evV;simp only;obtain⟨xD,HX⟩:=mu w (yv xm ck F ct O cq ci cp cg id xj qty xk xh) 37;have HS:Hid ((w.alloc (mq (yv xm ck F ct O cq ci cp cg id xj qty xk xh).toArray 37)).heap.size=w.heap.size+1):=by show _ = _;simp
 have HG:=Z (zA h xD);have HB:Hid (Kp G vq w (w.alloc (mq (yv xm ck F ct O cq ci cp cg id xj qty xk xh).toArray 37))):=kp_of xD;clear h xD hi he hk X;go_enter Tryz.func95,Tryz.ntmps95;refine ms fun mR HK=>?_;go_wp2_with fail;refine U HK _ _ ?_;clear HK;generalize (w.alloc (mq (yv xm ck F ct O cq ci cp cg id xj qty xk xh).toArray 37))=W1 at HS HX HG HB |-;have c3:=A (U HG).box 3 rfl
 by_cases h0:g.bg=0
 case neg =>
  have b0:(g.bg==0)=false:=by simpa using h0
  have HQ:=Z (U ux);rw[if_pos h0] at HQ;clear h0;go_wp2_with fail;refine(eD 3 _).mono ?_;rintro e w6 ⟨rfl,rfl⟩;go_wp2_with fail;exact⟨rfl,U vQ 3 _ (U HQ) (by decide) (U HB)⟩
 have b0:(g.bg==0)=true:=by simpa using h0
 have qQ:=Z ((U HI).good (.inl (by omega)));have bK:=Z ((U HI).start h0);have uh:=Z (U ux);rw[if_neg (not_not_intro h0)] at uh;clear h0 ux;go_wp2_with fail;refine(eO 3 _).mono ?_;rintro e w2 ⟨rfl,hw2⟩;rw[<- hw2] at HG HX HB HS;clear hw2 c3 b0;have xG:=Z (U HX);have uj:=Z (U HG);have xv:=Z (U HB);have hS2:w.heap.size<w2.heap.size:=by have:=U HS;omega
 clear HX HG HB HS;have xR:Hid (Bx w2.drew w.heap.size (yv xm ck F ct O cq ci cp cg id xj qty xk xh)):=zM (U xG);have qm:Hid (GS G B r w2.drew vq g):=zA (U uj) ⟨rfl,rfl,rfl,Nat.le_refl _,fun _ _=>rfl⟩;have vC:Hid (Kp G vq w w2.drew):=ir (U xv);have e1:=A (U xR) 1 rfl;have e2:=A (U xR) 2 rfl;have e3:=A (U xR) 3 rfl;have e4:=A (U xR) 4 rfl;have e5:=A (U xR) 5 rfl;have e6:=A (U xR) 6 rfl;have e7:=A (U xR) 7 rfl;have e8:=A (U xR) 8 rfl;have c1:=A (U qm).box 1 rfl;have c2:=A (U qm).box 2 rfl;have vn:=Z (zI (U qm).row (yO (U HI).len (by decide)));have jg:=Z (oRow_sl (U qm).row);go_wp2_with fail;refine zD 6 (by kernel_rfl) (by kernel_rfl) ?_;simp only[yU,List.take_zero,yV,List.drop_zero]
 repeat still_step
 refine wpStill_nil ?_;clear c1 c2 e1 e2 e3 e4 e5 e6 e7 e8;go_wp2_with fail;refine(refusal_any g.nx vq g.l ⟨ck,F,ct,O,cq,ci,cp,cg⟩ _ (U vn) (U jg) (U qQ) (U bK).1 (U bK).2.1 (U pS)).mono ?_;rintro e w5 ⟨rfl,uc⟩;have vj:=Z (zg (U xR) uc hS2);have xT:=Z (zA (U qm) uc);have ui:=Z (ew (U vC) uc);clear uc vn jg;generalize refR g.nx g.l ⟨ck,F,ct,O,cq,ci,cp,cg⟩=rr at uh |-;have vH:=A (U vj) 13 rfl
 by_cases jY:rr=0
 case pos =>
  have b0:(rr != 0)=false:=by simpa using jY
  have HQ:=Z (U uh);rw[if_neg (by simp[jY])] at HQ;clear jY;go_wp2_with fail;refine(eD 4 _).mono ?_;rintro e w6 ⟨rfl,rfl⟩;go_wp2_with fail;exact⟨rfl,U vQ 4 _ (U HQ) (by decide) (U ui)⟩
 have b0:(rr != 0)=true:=by simpa using jY
 by_cases jP:rr=xh
 case neg =>
  have b1:(rr==xh)=false:=by simpa using jP
  have HQ:=Z (U uh);rw[if_neg (by simp[jP])] at HQ;clear jY jP;go_wp2_with fail;refine(eD 4 _).mono ?_;rintro e w6 ⟨rfl,rfl⟩;go_wp2_with fail;exact⟨rfl,U vQ 4 _ (U HQ) (by decide) (U ui)⟩
 have b1:(rr==xh)=true:=by simpa using jP
 have HQ:=Z (U uh);rw[if_pos ⟨jY,jP⟩] at HQ;clear jY jP;go_wp2_with fail;refine(eO 4 _).mono ?_;rintro e w6 ⟨rfl,rfl⟩;go_wp2_with fail;go_end0;refine U uz _ vq (U HQ) (U ui) ?_;rw[U uQ];exact U xT
theorem drop_chk {G B r:Nat}{vq:Value}{g:Gr}(e:Ev)(w:World)(h:GS G B r w vq g)(hi:GI g)(he:okE e=true)(hk:e.kind=5)(X:e.cmd.g.size<=maxLen):Calls Tryz.prog 98 #[I G 0,evV e] w fun x w'=>Chk G B r vq g e w x w':=by
 have hsf:=sfl;have hG:=h.lt;have jl:=h.base;have ux:Hid (zE g e=if dueR g e≠0 then dueR g e else if ed e (dueG g)=true then 0 else 13):=by show _ = _;simp[zE,hk]
 have uQ:Hid (takG g e=⟨g.nx,g.l,g.bg,g.cm,{ g.tk with left:=0 }⟩):=by show _ = _;rw[takG,step5 hk]
 have vQ:Hid (∀k w',zE g e=k->k≠0->Kp G vq w w'->Chk G B r vq g e w (.panicked (brk k)) w'):=fun k w' D Y h3=>chk_no D Y h3;have uz:Hid (∀w' uB,zE g e=0->Kp G vq w w'->GS G B r w' uB (takG g e)->Chk G B r vq g e w (.returned (.tuple #[])) w'):=fun w' uB D Y h3=>chk_ok D Y h3;have kB:Hid (∀W,GS G B r W vq g->Calls Tryz.prog 153 #[I G 0,evV e] W fun x w'=>x=outD (dueR g e) (dueG g)/\yn W w'):=fun W hW=>lD e W hW hi;have cj:Hid (∀W,Calls Tryz.prog 155 #[evV e,duV (dueG g)] W fun r w'=>r = .returned (.bool (ed e (dueG g)))/\yn W w'):=fun W=>isJust_any e (dueG g) W;have HR45:Hid (zE g e=0->g.bg=1/\g.tk.left≠0):=rule45 (by omega);have HI:=Z hi;generalize Chk G B r vq g e w=C at vQ uz |-;generalize zE g e=ru at vQ uz ux HR45;generalize takG g e=g' at uQ uz;generalize dueR g e=dr at kB ux;generalize ed e (dueG g)=jb at cj ux;generalize dueG g=d at kB cj;obtain⟨xm,⟨ck,F,ct,O,cq,ci,cp,cg⟩,id,xj,qty,xk,xh⟩:=e;simp only at hk X
 try simp only at ux uQ
 obtain⟨dk,di,dt,dq,dp⟩:=d;unfold evV at kB cj;unfold duV at cj;simp only at kB cj;unfold evV;simp only;obtain⟨xD,HX⟩:=mu w (yv xm ck F ct O cq ci cp cg id xj qty xk xh) 37;have HS:Hid ((w.alloc (mq (yv xm ck F ct O cq ci cp cg id xj qty xk xh).toArray 37)).heap.size=w.heap.size+1):=by show _ = _;simp
 have HG:=Z (zA h xD);have HB:Hid (Kp G vq w (w.alloc (mq (yv xm ck F ct O cq ci cp cg id xj qty xk xh).toArray 37))):=kp_of xD;clear h xD hi he hk X;go_enter Tryz.func98,Tryz.ntmps98;refine ms fun mR HK=>?_;go_wp2_with fail;refine U HK _ _ ?_;clear HK;generalize (w.alloc (mq (yv xm ck F ct O cq ci cp cg id xj qty xk xh).toArray 37))=W1 at HS HX HG HB |-;go_wp2_with fail;refine zu (RWA (fun f=>{ tmps:=#[I G 0,.agg (yv xm ck F ct O cq ci cp cg id xj qty xk xh).toArray,M,I w.heap.size 0,f 0,f 1,f 2,f 3,f 4,f 5,M,M,M,M],defers:=[] }) (CVw [some (.agg (yv xm ck F ct O cq ci cp cg id xj qty xk xh).toArray),some (I G 0),some (.agg (yv xm ck F ct O cq ci cp cg id xj qty xk xh).toArray),some (.agg #[H dk,H di,H dt,H dq,H dp]),some (.bool jb),some (.tuple #[])] (fun j=>(j=3->dr=0)/\(j=5->jb=true))) 5 (fun V=>V) W1) (by kernel_rfl) ?_ ?_ ?_
 ·exact⟨fun _=>M,rfl,⟨fun j hj=>by rw[yJ] at hj;split at hj <;> simp at hj,fun _=>⟨rfl,rfl,rfl,Nat.le_refl _,fun _ _=>rfl⟩,fun hj=>by rw[yJ] at hj;split at hj <;> simp at hj⟩⟩
 ·rintro x zb V ⟨f,rfl,L⟩ hx xS;have xq:=eE xS hx (acyc _ (by kernel_rfl));obtain⟨V0,xD,eV⟩:=L.m (xq 5 (by simp));have ji:=(L.c 3 (xq 3 (by simp))).2.1 rfl;have hjb:=(L.c 5 (xq 5 (by simp))).2.2 rfl;have HQ:=Z (U ux);rw[if_neg (not_not_intro ji),if_pos hjb] at HQ;subst eV;have xU:=Z (zA (U HG) xD);have xF:=Z (ew (U HB) xD);clear L xq xS hx xD ji hjb ux kB cj HX HS HG HB;dsimp only;generalize f 0=v0,f 1=v1,f 2=v2,f 3=v3,f 4=v4,f 5=v5;have c13:=A (U xU).box 13 rfl;have q13:=zd (U xU).box 13 (by show 13<16;decide);go_wp2_with fail;go_end0;refine U uz _ vq (U HQ) (kp_set (U xF) 13 _) ?_;rw[U uQ];exact gs_set (U xU) 13 _ (by decide) rfl rfl
 ·rintro x zb V i op ⟨f,rfl,L⟩ xn hx Q xu R;have xw:=Z L
  have nw:i<5->x[5]? = some false:=fun xM=>by
   rcases fN hx (show 5<6 by omega) with hq|hw
   ·exact hq
   ·exfalso;have h4:=yf xn 5 rfl hw 4 rfl;have h0:=yf xn 4 rfl h4 0 rfl;have h3:=yf xn 4 rfl h4 3 rfl;have D:=yf xn 3 rfl h3 1 rfl;have Y:=yf xn 3 rfl h3 2 rfl;rcases(by omega:i=0\/i=1\/i=2\/i=3\/i=4) with rfl|rfl|rfl|rfl|rfl
    ·exact absurd (h0.symm.trans xu) (by simp)
    ·exact absurd (D.symm.trans xu) (by simp)
    ·exact absurd (Y.symm.trans xu) (by simp)
    ·exact absurd (h3.symm.trans xu) (by simp)
    ·exact absurd (h4.symm.trans xu) (by simp)
  have uH:i<5->yn W1 V:=fun h=>L.b (nw h);have xl:i<5->∀(p:Addr) u,W1.cell? p=some u->V.cell? p=some u:=fun h p u hu=>((uH h).cell (yL W1 _ hu)).trans hu
  match i,Q with
  | 0,Q|2,Q =>
   cases Q;have CL:=xl (by omega);have e0:=CL (J w.heap.size 0) _ (A (U HX) 0 rfl);have e1:=CL (J w.heap.size 1) _ (A (U HX) 1 rfl);have e2:=CL (J w.heap.size 2) _ (A (U HX) 2 rfl);have e3:=CL (J w.heap.size 3) _ (A (U HX) 3 rfl);have e4:=CL (J w.heap.size 4) _ (A (U HX) 4 rfl);have e5:=CL (J w.heap.size 5) _ (A (U HX) 5 rfl);have e6:=CL (J w.heap.size 6) _ (A (U HX) 6 rfl);have e7:=CL (J w.heap.size 7) _ (A (U HX) 7 rfl);have e8:=CL (J w.heap.size 8) _ (A (U HX) 8 rfl);have e9:=CL (J w.heap.size 9) _ (A (U HX) 9 rfl);have uW:=CL (J w.heap.size 10) _ (A (U HX) 10 rfl);have uE:=CL (J w.heap.size 11) _ (A (U HX) 11 rfl);have vS:=CL (J w.heap.size 12) _ (A (U HX) 12 rfl);have vH:=CL (J w.heap.size 13) _ (A (U HX) 13 rfl);clear R L uH xl nw CL;go_simp;exact⟨upd f _ (.agg (yv xm ck F ct O cq ci cp cg id xj qty xk xh).toArray),by simp[upd],zV (U xw) _ _ ⟨yi rfl,⟨fun h=>absurd h (by decide),fun h=>absurd h (by decide)⟩⟩ (by decide)⟩
  | 1,Q =>
   cases Q;have CL:=xl (by omega);clear R L uH xl nw CL;go_simp;exact⟨upd f 1 (I G 0),by simp[upd],zV (U xw) 1 _ ⟨yi rfl,⟨fun h=>absurd h (by decide),fun h=>absurd h (by decide)⟩⟩ (by decide)⟩
  | 3,Q =>
   cases Q;have g1:=(L.c 1 (ye R 1 rfl)).1 _ rfl;have g2:=(L.c 2 (ye R 2 rfl)).1 _ rfl;have CL:=xl (by omega);have hw:=nw (by omega);have vv:=Z (ew (U HB) (uH (by omega)));have HGV:=Z (zA (U HG) (uH (by omega)));clear R L uH xl nw CL;go_simp;refine(U kB V (U HGV)).mono ?_;rintro y w4 ⟨hy,xy⟩
   by_cases hs:dr=0
   ·rw[outD_ok hs] at hy;subst hy;exact⟨upd f 3 (.agg #[H dk,H di,H dt,H dq,H dp]),by simp[upd,g1,g2,duV],zV (iw (U xw) hw xy) 3 _ ⟨yi rfl,fun _=>hs,fun h=>absurd h (by decide)⟩ (by decide)⟩
   ·rw[outD_no hs] at hy;subst hy;have HQ:=Z (U ux);rw[if_pos hs] at HQ;have HSS:=Z hs;have ui:=Z (ew (U vv) xy);clear hs xy;go_wp2_with fail;exact⟨rfl,U vQ _ _ (U HQ) (U HSS) (U ui)⟩
  | 4,Q =>
   cases Q;have g0:=(L.c 0 (ye R 0 rfl)).1 _ rfl;have g3:=(L.c 3 (ye R 3 rfl)).1 _ rfl;have CL:=xl (by omega);have hw:=nw (by omega);clear R L uH xl nw CL;go_simp;refine(U cj V).mono ?_;rintro y w4 ⟨rfl,xy⟩;exact⟨upd f 4 (.bool jb),by simp[upd,g0,g3],zV (iw (U xw) hw xy) 4 _ ⟨yi rfl,⟨fun h=>absurd h (by decide),fun h=>absurd h (by decide)⟩⟩ (by decide)⟩
  | 5,Q =>
   cases Q;have g4:=(L.c 4 (ye R 4 rfl)).1 _ rfl;have vv:=Z (ew (U HB) (L.b xu));have h4:=R ⟨4,.data⟩ (by simp) rfl;have h3:=yf xn 4 rfl h4 3 rfl;have ji:=(L.c 3 h3).2.1 rfl;have HQ:=Z (U ux);rw[if_neg (not_not_intro ji)] at HQ;clear R L uH xl nw h4 h3 ji;go_simp
   by_cases hj:jb=true
   ·have hd:=eO 13 V;rw[<- hj] at hd;refine hd.mono ?_;rintro e w4 ⟨rfl,rfl⟩;exact⟨upd f 5 (.tuple #[]),by simp[upd,g4],rw_lastv (T:=fun V=>V) (U xw) xu ⟨yi rfl,fun h=>absurd h (by decide),fun _=>hj⟩⟩
   ·have hj2:jb=false:=by simpa using hj
    have hd:=eD 13 V;rw[<- hj2] at hd;refine hd.mono ?_;rintro e w4 ⟨rfl,rfl⟩;rw[if_neg hj] at HQ;clear hj hj2 hd;go_wp2_with fail;exact⟨rfl,U vQ 13 _ (U HQ) (by decide) (U vv)⟩
  | i+6,Q=>simp at Q
def fnK (k:Int):FuncId:=if k=1 then 94 else if k=2 then 95 else if k=3 then 96 else if k=4 then 97 else if k=5 then 98 else if k=6 then 99 else if k=7 then 100 else if k=8 then 101 else if k=9 then 102 else(0:Nat)
theorem chk_any {G B r:Nat}{vq:Value}{g:Gr}(e:Ev)(w:World)(h:GS G B r w vq g)(hi:GI g)(he:okE e=true)(X:e.cmd.g.size<=maxLen):Calls Tryz.prog (fnK e.kind) #[I G 0,evV e] w fun x w'=>Chk G B r vq g e w x w':=by
 have hk:=ik he;rcases(show e.kind=1\/e.kind=2\/e.kind=3\/e.kind=4\/e.kind=5\/e.kind=6\/e.kind=7\/e.kind=8\/e.kind=9 by omega) with k|k|k|k|k|k|k|k|k
 ·rw[show fnK e.kind = 94 by simp[fnK,k]];exact accept_chk e w h hi he k X
 ·rw[show fnK e.kind = 95 by simp[fnK,k]];exact refuse_chk e w h hi he k X
 ·rw[show fnK e.kind = 96 by simp[fnK,k]];exact trade_chk e w h hi he k X
 ·rw[show fnK e.kind = 97 by simp[fnK,k]];exact rest_chk e w h hi he k X
 ·rw[show fnK e.kind = 98 by simp[fnK,k]];exact drop_chk e w h hi he k X
 ·rw[show fnK e.kind = 99 by simp[fnK,k]];exact cancel_chk e w h hi he k X
 ·rw[show fnK e.kind = 100 by simp[fnK,k]];exact reduce_chk e w h hi he k X
 ·rw[show fnK e.kind = 101 by simp[fnK,k]];exact endDay_chk e w h hi he k X
 ·rw[show fnK e.kind = 102 by simp[fnK,k]];exact expire_chk e w h hi he k X
theorem lookI_run {W:World}{r:Nat}(k:Int)(hk:1<=k/\k<=9)(E:W.heap[r]? = some (.map chkM 9)) :
  (Instr.lookup 61 (.map (some r)) (H k) false).run Tryz.prog W = .ok (.func (.func (fnK k)) #[] #[]) W:=by
 have hu:=Tryz.underlying3;have hc:∀e,(Instr.checkKey e 10000 3 (H k)).run Tryz.prog W = .ok () W:=fun e=>MapKept.run_checkKey (k:=H k) hu (by simp[MapKept.IsKey]) e 9999
 have hf:∃i,Instr.findNow (TypeDesc.int .i64) (H k) chkM.toList 0=some (some (i,.func (.func (fnK k)) #[] #[])):=by
  rcases(show k=1\/k=2\/k=3\/k=4\/k=5\/k=6\/k=7\/k=8\/k=9 by omega) with rfl|rfl|rfl|rfl|rfl|rfl|rfl|rfl|rfl
  all_goals exact⟨_,rfl⟩
 obtain⟨i,hf⟩:=hf;simp[Instr.lookup,run_underlying Tryz.underlying61,MapKept.run_getObj_map E,hc,MapKept.run_findKey hu hf,Result.andThen]
theorem ta_br (k:Int)(w:World):(Instr.typeAssert (.iface 106 (H k)) 20 106 true).run Tryz.prog w = .ok (.tuple #[H k,.bool true]) w:=by kernel_rfl
theorem ta_brn (w:World):(Instr.typeAssert .nilIface 20 106 true).run Tryz.prog w = .ok (.tuple #[H 0,.bool false]) w:=by kernel_rfl
theorem catchA_panicking (p:Addr)(x:Value)(k:Int)(older:List PanicEntry)(w:World)(hc:w.cell? p=some x)(hz:w.frozen? p=false) :
  CallsD Tryz.prog 51 #[.pointer (some p)] (.panicking ({ v:=brV k,recovered:=false } :: older)) w fun e u' w' =>
   e = .returned (.tuple #[])/\u' = .panicking ({ v:=brV k,recovered:=true } :: older)/\w'=w.setCell p (H k):=by
 refine callsD_of_wpS Tryz.func51 rfl fun c₀ F hu=>?_;simp only[brV] at hu |-;apply wpS_seq;apply wpS_region;simp[wpOpsS,go_sem,recoverD,hu,Tryz.ntmps51,Exit.thenS,ta_br];apply wpS_seq;apply wpS_region;simp[wpOpsS,go_sem,Exit.thenS];refine wpS_cond (t:=true) (by simp[Act.eval,Array.replicate]) ?_;simp only[if_true];apply wpS_region;simp[wpOpsS,go_sem,hc,hz,bodyPostS,results,Tryz.results51]
theorem catchA_idle (p:Addr)(w:World) :
  CallsD Tryz.prog 51 #[.pointer (some p)] .returning w fun e u' w'=>e = .returned (.tuple #[])/\u' = .returning/\w'=w:=by
 refine callsD_of_wpS Tryz.func51 rfl fun c₀ F hu=>?_;apply wpS_seq;apply wpS_region;simp[wpOpsS,go_sem,recoverD,hu,Tryz.ntmps51,Exit.thenS,ta_brn];apply wpS_seq;apply wpS_region;simp[wpOpsS,go_sem,Exit.thenS];refine wpS_cond (t:=false) (by simp[Act.eval,Array.replicate]) ?_;simp only[Bool.false_eq_true,if_false];refine wpS_of_wp (wp_skip ?_);cases c₀
 simp_all [bodyPostS,results,Tryz.results51]
theorem gs_far {G B r b:Nat}{W:World}{vq:Value}{g:Gr}{u:Value}(h:GS G B r W vq g)(E:b≠G)(ht:∃xA,W.heap[b]? = some (.cells xA 3 (0,0))):GS G B r (W.setCell (J b 0) u) vq g:=by
 have hr:r≠b:=by
  rintro rfl;obtain⟨xA,hc⟩:=ht;rw[h.mp] at hc;cases hc
 obtain⟨xA,hc⟩:=h.typ;exact⟨fg h.box (Ne.symm E),ek h.row (fC h.row ht (by decide)) 0 u,⟨xA,(yT _ _ _ _ (Ne.symm E)).trans hc⟩,(yT _ _ _ _ hr).trans h.mp,h.hG,h.hr⟩
theorem step_bg {g:Gr}{e:Ev}:dQ g e = { takG g e with bg:=begG g e }:=by
 unfold takG dQ
 repeat' split
 all_goals rfl
def AddE (G B r:Nat)(g:Gr)(e:Ev)(w:World)(x:Ending)(w':World):Prop:=x = .returned (H (zE g e))/\Below B w w'/\(zE g e=0->∃uB,GS G B r w' uB (dQ g e))
def AddK (G B r:Nat)(vq:Value)(g:Gr)(e:Ev)(w:World)(x:Ending)(w':World):Prop:=x = .returned (H (zE g e))/\Kp G vq w w'/\(zE g e=0->∃uB,GS G B r w' uB (dQ g e))
theorem kp_kp {G:Nat}{vq:Value}{w W W':World}(h:Kp G vq w W)(k:Kp G vq W W'):Kp G vq w W':=
 ⟨k.os.trans h.os,k.tape.trans h.tape,k.output.trans h.output,yO h.size k.size,fun i hi D Y=>(k.block i (yK hi h.size) D Y).trans (h.block i hi D Y)⟩
theorem kp_far {G b:Nat}{vq u:Value}{w W:World}(h:Kp G vq w W)(E:w.heap.size<=b):Kp G vq w (W.setCell (J b 0) u):=
 ⟨h.os,h.tape,h.output,by have:=h.size;simpa[World.setCell] using this,fun i hi D Y=>(yT _ _ _ _ (by show i≠b;omega)).trans (h.block i hi D Y)⟩
theorem add_kp {G B r:Nat}{vq:Value}{g:Gr}(e:Ev)(w:World)(h:GS G B r w vq g)(hi:GI g)(he:okE e=true)(X:e.cmd.g.size<=maxLen):Calls Tryz.prog 20 #[I G 0,evV e] w fun x w'=>AddK G B r vq g e w x w':=by
 have hsf:=sfl;have hmf:∀(fn:Fn) (first cap:Array Value) (w:World),(Instr.makeFunc fn first cap).run Tryz.prog w = .ok (.func fn first cap) w:=fun _ _ _ _=>rfl;have hG:=h.lt;have jl:=h.base;have HCH:=Z (fun W (hW:GS G B r W vq g)=>chk_any e W hW hi he X);have ai:=Z (fun W hW=>lookI_run (W:=W) (r:=r) e.kind (ik he) hW)
 have HFK:Hid (fnK e.kind = 94 \/ fnK e.kind = 95 \/ fnK e.kind = 96 \/ fnK e.kind = 97 \/ fnK e.kind = 98 \/ fnK e.kind = 99 \/ fnK e.kind = 100 \/ fnK e.kind = 101 \/ fnK e.kind = 102):=by
  have hk:=ik he;rcases(show e.kind=1\/e.kind=2\/e.kind=3\/e.kind=4\/e.kind=5\/e.kind=6\/e.kind=7\/e.kind=8\/e.kind=9 by omega) with k|k|k|k|k|k|k|k|k <;> (show _ \/ _;simp[fnK,k])
 have HKD:Hid (dQ g e = { takG g e with bg:=if g.bg=0 then e.kind else g.bg }):=step_bg
 have ah:Hid (∀x w',x = .returned (H (zE g e))->Kp G vq w w'->(zE g e=0->∃uB,GS G B r w' uB (dQ g e))->AddK G B r vq g e w x w'):=fun x w' D Y h3=>⟨D,Y,h3⟩;have HTB:Hid ((takG g e).bg=g.bg):=rfl;unfold Chk at HCH;generalize AddK G B r vq g e w=C at ah |-;generalize zE g e=ru at HCH ah;generalize dQ g e=g2 at HKD ah;generalize takG g e=g1 at HCH HKD HTB;generalize fnK e.kind=fk at HCH ai HFK;obtain⟨xm,⟨ck,F,ct,O,cq,ci,cp,cg⟩,id,xj,qty,xk,xh⟩:=e;unfold evV at HCH |-;simp only at HCH ai HKD |-;have qJ:(w.alloc (mq (yv xm ck F ct O cq ci cp cg id xj qty xk xh).toArray 37)).heap.size=w.heap.size+1:=by simp
 have xD:=mn w (mq (yv xm ck F ct O cq ci cp cg id xj qty xk xh).toArray 37);have uw:Below (w.heap.size+1) (w.alloc (mq (yv xm ck F ct O cq ci cp cg id xj qty xk xh).toArray 37)) ((w.alloc (mq (yv xm ck F ct O cq ci cp cg id xj qty xk xh).toArray 37)).alloc (mq #[H 0] 3)):=(Below.refl _ _).alloc (by rw[qJ];omega) _;have HS:Hid (((w.alloc (mq (yv xm ck F ct O cq ci cp cg id xj qty xk xh).toArray 37)).alloc (mq #[H 0] 3)).heap.size=w.heap.size+1+1):=by show _ = _;simp
 have HX:=Z (zg (zn w (yv xm ck F ct O cq ci cp cg id xj qty xk xh) 37) uw (by omega))
 have HY:Hid (Bx ((w.alloc (mq (yv xm ck F ct O cq ci cp cg id xj qty xk xh).toArray 37)).alloc (mq #[H 0] 3)) (w.heap.size+1) [H 0]):=by
  have:=zn (w.alloc (mq (yv xm ck F ct O cq ci cp cg id xj qty xk xh).toArray 37)) [H 0] 3;rwa[qJ] at this
 have HYT:Hid (∃xA,((w.alloc (mq (yv xm ck F ct O cq ci cp cg id xj qty xk xh).toArray 37)).alloc (mq #[H 0] 3)).heap[w.heap.size+1]? = some (.cells xA 3 (0,0))):=by
  have:=heap_alloc_new (w.alloc (mq (yv xm ck F ct O cq ci cp cg id xj qty xk xh).toArray 37)) (mq #[H 0] 3);rw[qJ] at this;exact⟨_,this⟩
 have ud:Hid (yn w ((w.alloc (mq (yv xm ck F ct O cq ci cp cg id xj qty xk xh).toArray 37)).alloc (mq #[H 0] 3))):=xD.trans (uw.mono (by omega));have HB:Hid (Kp G vq w ((w.alloc (mq (yv xm ck F ct O cq ci cp cg id xj qty xk xh).toArray 37)).alloc (mq #[H 0] 3))):=kp_of (U ud);have HG:=Z (zA h (U ud));have jR:=Z h;clear h xD hi uw qJ he X ud
 go_enter_defers Tryz.func20,Tryz.ntmps20
 go_wp2_with fail;generalize ((w.alloc (mq (yv xm ck F ct O cq ci cp cg id xj qty xk xh).toArray 37)).alloc (mq #[H 0] 3))=hg at HS HX HY HYT HG HB |-;have xR:Hid (Bx hg.drew w.heap.size (yv xm ck F ct O cq ci cp cg id xj qty xk xh)):=zM (U HX);have HYD:Hid (Bx hg.drew (w.heap.size+1) [H 0]):=zM (U HY);have qm:Hid (GS G B r hg.drew vq g):=zA (U HG) ⟨rfl,rfl,rfl,Nat.le_refl _,fun _ _=>rfl⟩;have vC:Hid (Kp G vq w hg.drew):=ir (U HB);have hSD:w.heap.size+1<hg.drew.heap.size:=by show w.heap.size+1<hg.heap.size;have:=U HS;omega
 clear HX HY HG HB HS;obtain⟨e0,e1,e2,e3,e4,e5,e6,e7,e8,e9,uW,uE,vS,vH⟩:=yz (U xR);have c0:hg.drew.cell? (J G 0)=some (.map (some r)):=A (U qm).box 0 rfl;have vp:=U ai hg.drew (U qm).mp;have oX:vq.ownBlock≠some (w.heap.size+1):=fun e=>by have:=((U jR).row.lt _ e).2;omega
 have HNR2:vq.ownBlock≠some w.heap.size:=fun e=>by have:=((U jR).row.lt _ e).2;omega
 refine zD 9 (by kernel_rfl) (by kernel_rfl) ?_;simp only[yU,List.take_zero,yV,List.drop_zero]
 repeat still_step
 refine wpStill_nil ?_;clear vp c0 e0 e1 e2 e3 e4 e5 e6 e7 e8 e9 uW uE vS vH;go_wp2_with fail;rcases U HFK with rfl|rfl|rfl|rfl|rfl|rfl|rfl|rfl|rfl
 all_goals
  clear HFK ai;go_wp2_with fail;refine(U HCH hg.drew (U qm)).mono ?_;clear HCH;rintro x w2 ⟨hx,cS,ug⟩;have xv:=Z (kp_kp (U vC) cS);have uF:=(U qm).row;have hY2:Bx w2 (w.heap.size+1) [H 0]:=dU (U HYD) (cS.block (w.heap.size+1) hSD (by omega) (fun e=>oX e.symm));have jV:Bx w2 w.heap.size (yv xm ck F ct O cq ci cp cg id xj qty xk xh):=dU (U xR) (cS.block w.heap.size (by omega) (by omega) (fun e=>HNR2 e.symm));have ja:=Z hY2
  have HYT2:Hid (∃xA,w2.heap[w.heap.size+1]? = some (.cells xA 3 (0,0))):=by
   obtain⟨xA,hc⟩:=U HYT;exact⟨xA,(cS.block (w.heap.size+1) hSD (by omega) (fun e=>oX e.symm)).trans hc⟩
  have xG:=Z jV;have qf:=Z ug;clear cS ug uF jV hY2
  by_cases hr:ru=0
  case neg =>
   rw[outR_no hr] at hx;subst hx;have z0:=A (U ja) 0 rfl;have f0:=zd (U ja) 0 (by decide);have HR:=Z hr;clear hr;go_wp2_with fail;refine leaves_cons (f:=51) (args:=#[I (w.heap.size+1) 0]) (by simp) (by simp[go_sem]) ?_;refine(catchA_panicking (J (w.heap.size+1) 0) (H 0) ru [] _ z0 f0).mono ?_;rintro e u' w'' ⟨rfl,rfl,rfl⟩;simp[Leaves,settle,results,Tryz.results20,go_sem,yN _ _ (H ru) z0];exact U ah _ _ rfl (kp_far (U xv) (by omega)) (fun h=>absurd h (U HR))
  rw[outR_ok hr] at hx;subst hx;obtain⟨uB,oK⟩:=U qf hr;have vw:=Z oK;have HR:=Z hr
  have c3:w2.cell? (J G 3)=some (H g.bg):=by
   have:=A (U vw).box 3 rfl;rw[<- U HTB];exact this
  have q3:=zd (U vw).box 3 (by show 3<16;decide);have x0:=A (U xG) 0 rfl
  by_cases h0:g.bg=0
  ·have b0:(g.bg==0)=true:=by simpa using h0
   have jH:=Z (U HKD);rw[if_pos h0] at jH;have aT:Hid (Bx (w2.setCell (J G 3) (H xm)) (w.heap.size+1) [H 0]):=fg (U ja) (by omega);have xU:Hid (GS G B r (w2.setCell (J G 3) (H xm)) uB { g1 with bg:=xm }):=gs_set (U vw) 3 _ (by decide) rfl rfl
   have HYT4:Hid (∃xA,(w2.setCell (J G 3) (H xm)).heap[w.heap.size+1]? = some (.cells xA 3 (0,0))):=by
    obtain⟨xA,hc⟩:=U HYT2;exact⟨xA,(yT _ _ _ _ (by show w.heap.size+1≠G;omega)).trans hc⟩
   have xF:=Z (kp_set (U xv) 3 (H xm));have z0:=A (U aT) 0 rfl;have f0:=zd (U aT) 0 (by decide);clear h0 hr;go_wp2_with fail;refine leaves_cons (f:=51) (args:=#[I (w.heap.size+1) 0]) (by simp) (by simp[go_sem]) ?_;refine(catchA_idle (J (w.heap.size+1) 0) _).mono ?_;rintro e u' w'' ⟨rfl,rfl,rfl⟩;simp[Leaves,settle,results,Tryz.results20,go_sem,yN _ _ (H 0) z0];exact U ah _ _ (by rw[U HR]) (kp_far (U xF) (by omega)) (fun _=>⟨uB,by rw[U jH];exact gs_far (U xU) (by omega) (U HYT4)⟩)
  ·have b0:(g.bg==0)=false:=by simpa using h0
   have jH:Hid (g2=g1):=by
    show _ = _;rw[U HKD,if_neg h0,<- U HTB]
   have z0:=A (U ja) 0 rfl;have f0:=zd (U ja) 0 (by decide);clear h0 hr;go_wp2_with fail;refine leaves_cons (f:=51) (args:=#[I (w.heap.size+1) 0]) (by simp) (by simp[go_sem]) ?_;refine(catchA_idle (J (w.heap.size+1) 0) _).mono ?_;rintro e u' w'' ⟨rfl,rfl,rfl⟩;simp[Leaves,settle,results,Tryz.results20,go_sem,yN _ _ (H 0) z0];exact U ah _ _ (by rw[U HR]) (kp_far (U xv) (by omega)) (fun _=>⟨uB,by rw[U jH];exact gs_far (U vw) (by omega) (U HYT2)⟩)
theorem add_any {G B r:Nat}{vq:Value}{g:Gr}(e:Ev)(w:World)(h:GS G B r w vq g)(hi:GI g)(he:okE e=true)(X:e.cmd.g.size<=maxLen):Calls Tryz.prog 20 #[I G 0,evV e] w fun x w'=>AddE G B r g e w x w':=
 (add_kp e w h hi he X).mono fun _ _ ⟨a,b,c⟩=>⟨a,kp_to b h,c⟩
structure MUp (r:Nat) (w w':World):Prop where
 os:w'.os=w.os
 tape:w'.tape=w.tape
 output:w'.output=w.output
 size:w'.heap.size=w.heap.size
 block:∀k,k≠r->w'.heap[k]? = w.heap[k]?
theorem gK {r:Nat}{w w1 w2:World}(D:MUp r w w1)(Y:MUp r w1 w2):MUp r w w2:=
 ⟨Y.os.trans D.os,Y.tape.trans D.tape,Y.output.trans D.output,Y.size.trans D.size,fun k hk=>(Y.block k hk).trans (D.block k hk)⟩
theorem stepI {W:World}{r clk:Nat}{es:Array MapEntry}(k:Int)(f:FuncId)(E:W.heap[r]? = some (.map es clk))(hf:Instr.findNow (TypeDesc.int .i64) (H k) es.toList 0=some none) :
  ∃W1,(Instr.mapUpdate 61 (.map (some r)) (H k) (.func (.func f) #[] #[])).run Tryz.prog W = .ok () W1/\W1.heap[r]? = some (.map (es.push (mI k f clk)) (clk+1))/\MUp r W W1:=by
 have hk:=Tryz.underlying3;have hc:(Instr.checkKey false 10000 3 (H k)).run Tryz.prog W = .ok () W:=MapKept.run_checkKey (k:=H k) hk (by simp[MapKept.IsKey]) false 9999;refine⟨{ W with heap:=W.heap.setIfInBounds r (.map (es.push (mI k f clk)) (clk+1)) },?_,(MapKept.heap_set E).1,⟨rfl,rfl,rfl,by simp,fun j hj=>?_⟩⟩
 ·simp[Instr.mapUpdate,run_underlying Tryz.underlying61,MapKept.run_getObj_map E,hc,MapKept.run_findKey hk hf,MapKept.run_setObj_map _ E,Result.andThen,mI]
 ·show(W.heap.setIfInBounds r _)[j]? = _;exact Array.getElem?_setIfInBounds_ne (Ne.symm hj)
theorem gs_new {w W:World}{r:Nat}{next:Int}{vq:Value}{l:List Od}(E:yn w W)(Q:ORow W w.heap.size vq l)(hm:W.heap[r]? = some (.map chkM 9))(hr:w.heap.size<=r) :
  GS W.heap.size w.heap.size r (W.alloc (mq (gsV r vq (gr0 next l)).toArray 67)) vq (gr0 next l)/\yn w (W.alloc (mq (gsV r vq (gr0 next l)).toArray 67)):=by
 have qR:=mn W (mq (gsV r vq (gr0 next l)).toArray 67);exact⟨⟨zn W _ _,zt Q qR,⟨_,heap_alloc_new W _⟩,(qR.block r (yZ.1 hm).1).trans hm,E.size,hr⟩,E.trans (qR.mono E.size)⟩
theorem beginGroup_any (next:Int)(v:Value)(l:List Od)(w:World)(hr:RdR Od.vs 6 w v l)(hs:SlOk v)(hn:l.length<=1000) :
  Calls Tryz.prog 50 #[.agg #[H next,v]] w fun e w'=>∃G r vq,e = .returned (I G 0)/\GS G w.heap.size r w' vq (gr0 next l)/\yn w w':=by
 have kl:=@run_makeMap Tryz.prog;have hmp:=@run_makeMap_plain Tryz.prog;have xJ:(w.alloc (mq #[H next,v] 27)).heap.size=w.heap.size+1:=by simp
 have h0:((w.alloc (mq #[H next,v] 27)).alloc (Obj.map #[] 0)).heap[w.heap.size+1]? = some (.map #[] 0):=by
  have:=(MapKept.heap_alloc (w.alloc (mq #[H next,v] 27)) (Obj.map #[] 0)).1;rwa[xJ] at this
 have xD:yn w ((w.alloc (mq #[H next,v] 27)).alloc (Obj.map #[] 0)):=(mn _ _).alloc (by rw[xJ];omega) _;have hx0:Bx ((w.alloc (mq #[H next,v] 27)).alloc (Obj.map #[] 0)) w.heap.size [H next,v]:=zg (zn w [H next,v] 27) ((Below.refl (w.heap.size+1) _).alloc (by rw[xJ];omega) _) (by omega);obtain⟨W1,u1,o1,m1⟩:=stepI 1 94 h0 rfl;obtain⟨W2,u2,o2,m2⟩:=stepI 2 95 o1 rfl;obtain⟨W3,u3,o3,m3⟩:=stepI 3 96 o2 rfl;obtain⟨W4,u4,o4,m4⟩:=stepI 4 97 o3 rfl;obtain⟨W5,u5,o5,m5⟩:=stepI 5 98 o4 rfl;obtain⟨W6,u6,o6,m6⟩:=stepI 6 99 o5 rfl;obtain⟨W7,u7,o7,m7⟩:=stepI 7 100 o6 rfl;obtain⟨W8,u8,o8,m8⟩:=stepI 8 101 o7 rfl;obtain⟨W9,u9,o9,m9⟩:=stepI 9 102 o8 rfl;have hm:=gK (gK (gK (gK (gK (gK (gK (gK m1 m2) m3) m4) m5) m6) m7) m8) m9;have co:Hid (W9.heap[w.heap.size+1]? = some (.map chkM 9)):=o9;have ay:yn w W9:=⟨hm.os.trans xD.os,hm.tape.trans xD.tape,hm.output.trans xD.output,by rw[hm.size];exact xD.size,fun k hk=>(hm.block k (by omega)).trans (xD.block k hk)⟩;have HX9:Hid (Bx W9 w.heap.size [H next,v]):=dU hx0 (hm.block w.heap.size (by omega));have jE:=Z ay;have HR9:=Z (zi hr ay ya);have jg:=Z hs;clear h0 xD hx0 o1 o2 o3 o4 o5 o6 o7 o8 o9 m1 m2 m3 m4 m5 m6 m7 m8 m9 hm ay hr hs xJ;go_enter Tryz.func50,Tryz.ntmps50;obtain ⟨x0,x1⟩:=q0_2 (U HX9) rfl;go_wp2_with fail;refine(copyBook_any next v l W9 (U HR9) (U jg) hn).mono ?_;rintro e w3 ⟨vq,rfl,dM,xL⟩;have HGN:=Z (gs_new (next:=next) (mr (U jE) xL) (zU dM (U jE).size) ((xL.block (w.heap.size+1) (yZ.1 (U co)).1).trans (U co)) (Nat.le_succ _));clear dM xL u1 u2 u3 u4 u5 u6 u7 u8 u9 x0 x1;unfold gsV gr0 zCm zOd at HGN;go_wp2_with fail;go_ret;exact⟨_,_,vq,rfl,(U HGN).1,(U HGN).2⟩
theorem gs_base {G B B' r:Nat}{W:World}{vq:Value}{g:Gr}(h:GS G B r W vq g)(hB:B'<=B):GS G B' r W vq g:=
 ⟨h.box,zU h.row hB,h.typ,h.mp,yO hB h.hG,yO hB h.hr⟩
theorem runG_stop {g:Gr}{e:Ev}{r:List Ev}(h:zE g e≠0):runG g (e::r)=(g,zE g e):=by rw[runG,if_neg h]
theorem runG_go {g:Gr}{e:Ev}{r:List Ev}(h:zE g e=0):runG g (e::r)=runG (dQ g e) r:=by rw[runG,if_pos h]
def BehE (B:Nat)(w:World)(cs:Gr × Int)(x:Ending)(w':World):Prop:=∃G,x = .returned (.tuple #[I G 0,H cs.2])/\Below B w w'/\(cs.2=0->∃r vq,GS G B r w' vq cs.1/\GI cs.1)
theorem drop_ev {l:List Ev}{k:Nat}{c:Ev}(h:l[k]? = some c):l.drop k=c::l.drop (k+1):=by
 obtain⟨D,rfl⟩:=yH.1 h;exact xd D
theorem mg (next:Int)(vb:Value)(l:List Od)(v:Value)(es:List Ev)(w:World)(hr:RdR Od.vs 6 w vb l)(hs:SlOk vb)(hi:GI (gr0 next l))(he:RdR Ev.vs 14 w v es)(vD:∀e∈es,okE e=true)(km:∀e∈es,e.cmd.g.size<=maxLen) :
  Calls Tryz.prog 19 #[.agg #[H next,vb],v] w fun x w'=>BehE w.heap.size w (runG (gr0 next l) es) x w':=by
 have hsf:=sfl;have ah:Hid (∀G k w',k=(runG (gr0 next l) es).2->yn w w'->((runG (gr0 next l) es).2=0->∃r vq,GS G w.heap.size r w' vq (runG (gr0 next l) es).1/\GI (runG (gr0 next l) es).1)->BehE w.heap.size w (runG (gr0 next l) es) (.returned (.tuple #[I G 0,H k])) w'):=fun G k w' D Y h3=>⟨G,by rw[D],Y,h3⟩;have HF0:Hid (runG (gr0 next l) es=runG (gr0 next l) es):=rfl;generalize BehE w.heap.size w (runG (gr0 next l) es)=C at ah |-;generalize hF:runG (gr0 next l) es=cs at ah;have HF:=Z hF;clear hF HF0;have xD:=mn w (mq #[H next,vb] 27);have cW:=zi hr xD ya;have HEW:=Z he;have vv:=Z (fun W (h:RdR Od.vs 6 W vb l)=>beginGroup_any next vb l W h hs (yO hi.len (by decide)));have aR:=Z cW;have HI:=Z hi;have kt:=Z vD;have HSZ:=Z km;have ud:=Z xD;have HZ0:Hid ((w.alloc (mq #[H next,vb] 27)).heap.size=w.heap.size+1):=by show _ = _;simp
 have oQ:=Z (zn w [H next,vb] 27);obtain⟨a,cap,rfl,xC,hc⟩:=he;clear hr hs hi vD km xD cW hc;go_enter Tryz.func19,Tryz.ntmps19;refine ms fun mR HK=>?_;go_wp2_with fail;refine U HK _ _ ?_;clear HK;generalize (w.alloc (mq #[H next,vb] 27))=W1 at aR ud HZ0 oQ |-;obtain ⟨x0,x1⟩:=q0_2 (U oQ) rfl;go_wp2_with fail;refine(U vv W1 (U aR)).mono ?_;rintro e w2 ⟨G,r,vq,rfl,ug,xO⟩;have hz:=U HZ0;have uj:Hid (GS G w.heap.size r w2 vq (gr0 next l)):=gs_base ug (by omega);have xv:=Z (mr (U ud) xO);clear ug xO x0 x1 hz vv aR oQ ud HZ0;go_wp2_with fail;go_loopw [14] (fun iv wr=>∃(k:Nat) (g:Gr) (vq:Value),k<=es.length/\iv=H k/\Hid (GS G w.heap.size r wr vq g)/\Hid (GI g)/\Hid (cs=runG g (es.drop k))/\Hid (yn w wr)) (fun iv _=>es.length-(intOf iv).toNat)
 case atStart=>exact⟨0,gr0 next l,vq,Nat.zero_le _,rfl,uj,HI,(U HF).symm,xv⟩
 case round =>
  obtain⟨k,g,vq,hk,rfl,HG,HIG,ux,HB⟩:=hrel;have HE:=Z (zi (U HEW) (U HB) ya)
  by_cases xM:k<es.length
  ·obtain⟨e,jo⟩:∃e,es[k]? = some e:=⟨_,yI xM⟩;have uh:=Z (U ux);rw[drop_ev jo] at uh;have vr:=yP jo;have HOE:=Z (U kt e vr);have cz:=Z (U HSZ e vr);obtain⟨a2,cap2,e2,-,cJ⟩:=U HE;simp only[Value.slice.injEq,true_and] at e2;obtain⟨rfl,rfl⟩:=e2;obtain⟨b,off,rfl,pl,xW⟩:=cJ (by intro h;rw[h] at xM;simp at xM);have xn:=xW k e jo;have uL:(k:Int)<es.length:=by omega
   have qR:=mn wr (Obj.cells e.vs.toArray 37);have jr:=Z (add_any e (wr.alloc (Obj.cells e.vs.toArray 37)) (zA (U HG) qR) (U HIG) (U HOE) (U cz));have qh:=Z (mr (U HB) qR);have jG:Hid (zE g e=0->GI (dQ g e)):=fun h=>gi_step (U HIG) (U HOE) h;unfold AddE at jr;have uP:Hid (zE g e≠0->cs=(g,zE g e)):=fun h=>(U uh).trans (runG_stop h);have HGO:Hid (zE g e=0->cs=runG (dQ g e) (es.drop (k+1))):=fun h=>(U uh).trans (runG_go h);generalize zE g e=ru at jr jG uP HGO;generalize dQ g e=g2 at jr jG HGO;obtain⟨xm,⟨ck,F,ct,O,cq,ci,cp,cg⟩,id,xj,qty,xk,xh⟩:=e;unfold evV Ev.vs at jr;unfold Ev.vs at qh;simp only at jr qh;have x0:wr.cell? (J b (off+k*14)) = _:=xn 0 _ rfl;have x1:=xn 1 _ rfl;have x2:=xn 2 _ rfl;have x3:=xn 3 _ rfl;have x4:=xn 4 _ rfl;have x5:=xn 5 _ rfl;have x6:=xn 6 _ rfl;have x7:=xn 7 _ rfl;have x8:=xn 8 _ rfl;have x9:=xn 9 _ rfl;have kS:=xn 10 _ rfl;have kT:=xn 11 _ rfl;have kU:=xn 12 _ rfl;have kV:=xn 13 _ rfl;clear xn xW jo vr qR cJ uh;go_wp2_with fail;refine(U jr).mono ?_;rintro x w3 ⟨rfl,xL,oK⟩;have xI:=Z ((U qh).trans xL);have jT:=Z oK;clear xL oK jr qh x0 x1 x2 x3 x4 x5 x6 x7 x8 x9 kS kT kU kV
   by_cases h0:ru=0
   ·have b0:(ru != 0)=false:=by simpa using h0
    obtain⟨vq2,uM⟩:=U jT h0;have vw:=Z uM;have xU:=Z (U jG h0);have xT:=Z (U HGO h0);clear h0 uM uP HGO jG jT;go_wp2_with fail;go_roundw
    case rel=>exact⟨k+1,g2,vq2,by omega,by go_num,vw,xU,xT,xI⟩
    case measure=>simp[intOf];omega
   ·have b0:(ru != 0)=true:=by simpa using h0
    have HQ:=Z (U uP h0);have HN0:=Z h0;clear h0 uP HGO jG jT;go_wp2_with fail;exact U ah G ru _ (by rw[U HQ]) (U xI) (fun h=>absurd (by rw[U HQ] at h;exact h) (U HN0))
  ·have aC:k=es.length:=by omega
   have HQ:=Z (U ux);rw[aC,List.drop_length,runG] at HQ;go_wp2_with fail;exact U ah G 0 _ (by rw[U HQ]) (U HB) (fun _=>⟨r,vq,by rw[U HQ];exact U HG,by rw[U HQ];exact U HIG⟩)
end Go.Proofs.YthhkapcbocgcoaaGreatDoor
