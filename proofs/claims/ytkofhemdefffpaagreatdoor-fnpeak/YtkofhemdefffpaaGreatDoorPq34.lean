/-.-/
import Derived.Test.YtkofhemdefffpaaGreatDoorPq17
import Derived.Test.YtkofhemdefffpaaGreatDoorPq32
set_option linter.unusedVariables false
set_option maxHeartbeats 6400000
set_option maxRecDepth 100000
namespace Go.Proofs.YtkofhemdefffpaaGreatDoor
open Go.RowKit
theorem endDay_chk {G B r:Nat}{vq:Value}{g:Gr}(e:Ev)(w:World)(h:GS G B r w vq g)(hi:GI g)(he:okE e=true)(E:e.kind=8)(F:e.cmd.g.size<=maxLen):Calls Tryz.prog 100 #[h3 G 0,evV e] w fun x w'=>Chk G B r vq g e w x w':=by
 have hsf:=sfl;have hG:=h.lt;have kA:=h.base;have uP:Hid (zK g e=if df g e≠0 then df g e else if e.qty=((g.l.filter isDy).length:Int) then 0 else 7):=by show _ = _;simp[zK,E]
 have vJ:Hid (takG g e=⟨g.nx,g.l,g.bg,g.cm,g.tk⟩):=by show _ = _;rw[takG,step8 E]
 have vV:Hid (∀k w',zK g e=k->k≠0->Kp G vq w w'->Chk G B r vq g e w (.panicked (brk k)) w'):=fun k w' Z Q I=>chk_no Z Q I;have vG:Hid (∀w' uB,zK g e=0->Kp G vq w w'->GS G B r w' uB (takG g e)->Chk G B r vq g e w (.returned (.tuple #[])) w'):=fun w' uB Z Q I=>chk_ok Z Q I;have qy:Hid (∀W,GS G B r W vq g->Calls Tryz.prog 118 #[h3 G 0,evV e] W fun x w'=>x=outR (df g e)/\yp W w'):=fun W hW=>start_any e W hW hi (by rw[E];decide) F;have HI:=U hi;generalize Chk G B r vq g e w=C at vV vG |-;generalize zK g e=ru at vV vG uP;generalize takG g e=g' at vJ vG;generalize df g e=sr at qy uP;obtain⟨xn,⟨ck,cs,ct,cl,cq,ci,cp,cg⟩,id,xj,qty,xk,xi⟩:=e;simp only at E F
 try simp only at uP vJ
 unfold evV at qy;simp only at qy;unfold evV;simp only;obtain⟨xS,HX⟩:=mh w (yw xn ck cs ct cl cq ci cp cg id xj qty xk xi) 78;have HS:Hid ((w.alloc (me (yw xn ck cs ct cl cq ci cp cg id xj qty xk xi).toArray 78)).heap.size=w.heap.size+1):=by show _ = _;simp
 have HG:=U (zw h xS);have HB:Hid (Kp G vq w (w.alloc (me (yw xn ck cs ct cl cq ci cp cg id xj qty xk xi).toArray 78))):=kp_of xS;clear h xS hi he E F;go_enter Tryz.func100,Tryz.ntmps100;refine mg fun hb HK=>?_;go_wp2_with fail;refine O HK _ _ ?_;clear HK;generalize (w.alloc (me (yw xn ck cs ct cl cq ci cp cg id xj qty xk xi).toArray 78))=W1 at HS HX HG HB |-;obtain⟨e0,e1,e2,e3,e4,e5,e6,e7,e8,e9,vQ,vY,qq,qF⟩:=yz (O HX);go_wp2_with fail;refine(O qy W1 (O HG)).mono ?_;rintro x w2 ⟨hx,xy⟩;have xR:=U (zl (O HX) xy (by have:=O HS;omega));have uf:=U (zw (O HG) xy);have xz:=U (dU (O HB) xy);have hS2:w.heap.size<w2.heap.size:=by have:=O HS;have:=xy.size;omega
 clear xy e0 e1 e2 e3 e4 e5 e6 e7 e8 e9 vQ vY qq qF
 by_cases hs:sr=0
 case neg =>
  rw[outR_no hs] at hx;subst hx;go_wp2_with fail;exact⟨rfl,O vV _ _ (by rw[O uP,if_pos hs]) hs (O xz)⟩
 rw[outR_ok hs] at hx;subst hx;have HSR:=U hs;have uw:=U (O uP);rw[if_neg (not_not_intro hs)] at uw;clear hs uP;have hln:=(O HI).len;obtain⟨a,cap,rfl,xC,hc⟩:=zZ (O uf).row (by omega)
 have xp:∀(k:Nat) (c:Od),g.l[k]? = some c->∃b off,a=some (Y b off)/\b<w2.heap.size/\w2.rangeAt b (off+k*6) c.vs:=by
  intro k c E;obtain⟨b,off,Z,Q,I⟩:=hc (by intro h;rw[h] at E;simp at E);exact⟨b,off,Z,Q,I k c E⟩
 have HC:=U xp;clear xp hc xC;have c2:w2.cell? (Y G 2)=some (.slice a g.l.length cap):=J (O uf).box 2 rfl;go_wp2_with fail;clear c2;go_loopw [4,16] (fun cv iv wr=>∃k:Nat,k<=g.l.length/\cv=H (((g.l.take k).filter isDy).length:Int)/\iv=H k/\yp w2 wr) (fun _ iv _=>g.l.length-(intOf iv).toNat)
 case atStart=>exact⟨0,Nat.zero_le _,rfl,rfl,Below.refl _ _⟩
 case round =>
  obtain⟨k,E,rfl,rfl,xl⟩:=hrel;have uZ:=U xl;clear xl
  by_cases xK:k<g.l.length
  ·obtain⟨c,vX⟩:∃c,g.l[k]? = some c:=⟨_,yI xK⟩
   have HT:Hid (((g.l.take (k+1)).filter isDy).length=((g.l.take k).filter isDy).length+if isDy c=true then 1 else 0):=by
    show _ = _;rw[List.take_add_one,vX];simp[List.filter_cons];split <;> simp
   have hcn:((g.l.take k).filter isDy).length<=k:=yO (List.length_filter_le _ _) (by simp;omega);generalize ((g.l.take k).filter isDy).length=cn at HT hcn |-;obtain⟨b,off,rfl,K,xo⟩:=O HC k c vX;obtain⟨g0,g1,g2,g3,g4,g5⟩:=zL (zf xo (O uZ) K);have ux:(k:Int)<g.l.length:=by omega
   have xF:=mc wr (me (yx c.id c.side c.ticks c.left c.life c.tag).toArray 71);have xQ:=U (mf (O uZ) xF);clear vX xo K xF;go_wp2_with fail;refine(isOfDay_any c (wr.alloc (me (yx c.id c.side c.ticks c.left c.life c.tag).toArray 71))).mono ?_;rintro e w3 ⟨rfl,xV⟩;have xL:=U (mf (O xQ) xV);clear xV g0 g1 g2 g3 g4 g5;have hwr:IntKind.i64.wrap ((cn:Int)+1)=(cn:Int)+1:=by rw[IntKind.wrap_i64];omega
   by_cases vl:c.life=1
   ·have K:(c.life==1)=true:=by simpa using vl
    have qg:Hid (((g.l.take (k+1)).filter isDy).length=cn+1):=by show _ = _;rw[O HT,if_pos (by simpa[isDy] using vl)]
    clear vl HT;go_wp2_with fail;go_roundw
    case rel=>exact⟨k+1,by omega,by rw[O qg];rfl,by go_num,O xL⟩
    case measure=>simp[intOf];omega
   ·have K:(c.life==1)=false:=by simpa using vl
    have qg:Hid (((g.l.take (k+1)).filter isDy).length=cn):=by show _ = _;rw[O HT,if_neg (by simpa[isDy] using vl)];rfl
    clear vl HT;go_wp2_with fail;go_roundw
    case rel=>exact⟨k+1,by omega,by rw[O qg],by go_num,O xL⟩
    case measure=>simp[intOf];omega
  ·have hk':k=g.l.length:=by omega
   subst hk';rw[List.take_length];generalize hcn:(g.l.filter isDy).length=cn at uw;clear hcn;have xH:=U (zl (O xR) (O uZ) hS2);have uX:=U (zw (O uf) (O uZ));have xQ:=U (dU (O xz) (O uZ));have vY:=J (O xH) 11 rfl
   by_cases hq:qty=(cn:Int)
   case neg =>
    have b0:(qty==(cn:Int))=false:=by simpa using hq
    have HQ:=U (O uw);rw[if_neg hq] at HQ;clear hq;go_wp2_with fail;refine(eh 7 _).mono ?_;rintro e w6 ⟨rfl,rfl⟩;go_wp2_with fail;exact⟨rfl,O vV 7 _ (O HQ) (by decide) (O xQ)⟩
   have b0:(qty==(cn:Int))=true:=by simpa using hq
   have HQ:=U (O uw);rw[if_pos hq] at HQ;clear hq;go_wp2_with fail;refine(eB 7 _).mono ?_;rintro e w6 ⟨rfl,rfl⟩;go_wp2_with fail;go_end0;refine O vG _ (.slice a g.l.length cap) (O HQ) (O xQ) ?_;rw[O vJ];exact O uX
theorem drop_chk {G B r:Nat}{vq:Value}{g:Gr}(e:Ev)(w:World)(h:GS G B r w vq g)(hi:GI g)(he:okE e=true)(E:e.kind=5)(F:e.cmd.g.size<=maxLen):Calls Tryz.prog 97 #[h3 G 0,evV e] w fun x w'=>Chk G B r vq g e w x w':=by
 have hsf:=sfl;have hG:=h.lt;have kA:=h.base;have uP:Hid (zK g e=if dueR g e≠0 then dueR g e else if dW e (dueG g)=true then 0 else 13):=by show _ = _;simp[zK,E]
 have vJ:Hid (takG g e=⟨g.nx,g.l,g.bg,g.cm,{ g.tk with left:=0 }⟩):=by show _ = _;rw[takG,step5 E]
 have vV:Hid (∀k w',zK g e=k->k≠0->Kp G vq w w'->Chk G B r vq g e w (.panicked (brk k)) w'):=fun k w' Z Q I=>chk_no Z Q I;have vG:Hid (∀w' uB,zK g e=0->Kp G vq w w'->GS G B r w' uB (takG g e)->Chk G B r vq g e w (.returned (.tuple #[])) w'):=fun w' uB Z Q I=>chk_ok Z Q I;have kt:Hid (∀W,GS G B r W vq g->Calls Tryz.prog 123 #[h3 G 0,evV e] W fun x w'=>x=outD (dueR g e) (dueG g)/\yp W w'):=fun W hW=>lA e W hW hi;have bu:Hid (∀W,Calls Tryz.prog 125 #[evV e,duV (dueG g)] W fun r w'=>r = .returned (.bool (dW e (dueG g)))/\yp W w'):=fun W=>isJust_any e (dueG g) W;have HR45:Hid (zK g e=0->g.bg=1/\g.tk.left≠0):=rule45 (by omega);have HI:=U hi;generalize Chk G B r vq g e w=C at vV vG |-;generalize zK g e=ru at vV vG uP HR45;generalize takG g e=g' at vJ vG;generalize dueR g e=dr at kt uP;generalize dW e (dueG g)=jb at bu uP;generalize dueG g=d at kt bu;obtain⟨xn,⟨ck,cs,ct,cl,cq,ci,cp,cg⟩,id,xj,qty,xk,xi⟩:=e;simp only at E F
 try simp only at uP vJ
 obtain⟨dk,di,dt,dq,dp⟩:=d;unfold evV at kt bu;unfold duV at bu;simp only at kt bu;unfold evV;simp only;obtain⟨xS,HX⟩:=mh w (yw xn ck cs ct cl cq ci cp cg id xj qty xk xi) 78;have HS:Hid ((w.alloc (me (yw xn ck cs ct cl cq ci cp cg id xj qty xk xi).toArray 78)).heap.size=w.heap.size+1):=by show _ = _;simp
 have HG:=U (zw h xS);have HB:Hid (Kp G vq w (w.alloc (me (yw xn ck cs ct cl cq ci cp cg id xj qty xk xi).toArray 78))):=kp_of xS;clear h xS hi he E F;go_enter Tryz.func97,Tryz.ntmps97;refine mg fun hb HK=>?_;go_wp2_with fail;refine O HK _ _ ?_;clear HK;generalize (w.alloc (me (yw xn ck cs ct cl cq ci cp cg id xj qty xk xi).toArray 78))=W1 at HS HX HG HB |-;go_wp2_with fail;refine zA (RWA (fun f=>{ tmps:=#[h3 G 0,.agg (yw xn ck cs ct cl cq ci cp cg id xj qty xk xi).toArray,M,h3 w.heap.size 0,f 0,f 1,f 2,f 3,f 4,f 5,M,M,M,M],defers:=[] }) (CVw [some (.agg (yw xn ck cs ct cl cq ci cp cg id xj qty xk xi).toArray),some (h3 G 0),some (.agg (yw xn ck cs ct cl cq ci cp cg id xj qty xk xi).toArray),some (.agg #[H dk,H di,H dt,H dq,H dp]),some (.bool jb),some (.tuple #[])] (fun j=>(j=3->dr=0)/\(j=5->jb=true))) 5 (fun V=>V) W1) (by kernel_rfl) ?_ ?_ ?_
 ·exact⟨fun _=>M,rfl,⟨fun j hj=>by rw[yJ] at hj;split at hj <;> simp at hj,fun _=>⟨rfl,rfl,rfl,Nat.le_refl _,fun _ _=>rfl⟩,fun hj=>by rw[yJ] at hj;split at hj <;> simp at hj⟩⟩
 ·rintro x md V ⟨f,rfl,hR⟩ hx xY;have xq:=eM xY hx (acyc _ (by kernel_rfl));obtain⟨V0,xS,eV⟩:=hR.m (xq 5 (by simp));have jm:=(hR.c 3 (xq 3 (by simp))).2.1 rfl;have hjb:=(hR.c 5 (xq 5 (by simp))).2.2 rfl;have HQ:=U (O uP);rw[if_neg (not_not_intro jm),if_pos hjb] at HQ;subst eV;have uX:=U (zw (O HG) xS);have xQ:=U (dU (O HB) xS);clear hR xq xY hx xS jm hjb uP kt bu HX HS HG HB;dsimp only;generalize f 0=v0,f 1=v1,f 2=v2,f 3=v3,f 4=v4,f 5=v5;have c13:=J (O uX).box 13 rfl;have q13:=zg (O uX).box 13 (by show 13<16;decide);go_wp2_with fail;go_end0;refine O vG _ vq (O HQ) (kp_set (O xQ) 13 _) ?_;rw[O vJ];exact gs_set (O uX) 13 _ (by decide) rfl rfl
 ·rintro x md V i op ⟨f,rfl,hR⟩ xo hx D xA X;have xJ:=U hR
  have nw:i<5->x[5]? = some false:=fun xK=>by
   rcases fD hx (show 5<6 by omega) with hq|hw
   ·exact hq
   ·exfalso;have h4:=yh xo 5 rfl hw 4 rfl;have h0:=yh xo 4 rfl h4 0 rfl;have I:=yh xo 4 rfl h4 3 rfl;have Z:=yh xo 3 rfl I 1 rfl;have Q:=yh xo 3 rfl I 2 rfl;rcases(by omega:i=0\/i=1\/i=2\/i=3\/i=4) with rfl|rfl|rfl|rfl|rfl
    ·exact absurd (h0.symm.trans xA) (by simp)
    ·exact absurd (Z.symm.trans xA) (by simp)
    ·exact absurd (Q.symm.trans xA) (by simp)
    ·exact absurd (I.symm.trans xA) (by simp)
    ·exact absurd (h4.symm.trans xA) (by simp)
  have vw:i<5->yp W1 V:=fun h=>hR.b (nw h);have xm:i<5->∀(p:Addr) u,W1.cell? p=some u->V.cell? p=some u:=fun h p u hu=>((vw h).cell (yL W1 _ hu)).trans hu
  match i,D with
  | 0,D|2,D =>
   cases D;have CL:=xm (by omega);have e0:=CL (Y w.heap.size 0) _ (J (O HX) 0 rfl);have e1:=CL (Y w.heap.size 1) _ (J (O HX) 1 rfl);have e2:=CL (Y w.heap.size 2) _ (J (O HX) 2 rfl);have e3:=CL (Y w.heap.size 3) _ (J (O HX) 3 rfl);have e4:=CL (Y w.heap.size 4) _ (J (O HX) 4 rfl);have e5:=CL (Y w.heap.size 5) _ (J (O HX) 5 rfl);have e6:=CL (Y w.heap.size 6) _ (J (O HX) 6 rfl);have e7:=CL (Y w.heap.size 7) _ (J (O HX) 7 rfl);have e8:=CL (Y w.heap.size 8) _ (J (O HX) 8 rfl);have e9:=CL (Y w.heap.size 9) _ (J (O HX) 9 rfl);have vQ:=CL (Y w.heap.size 10) _ (J (O HX) 10 rfl);have vY:=CL (Y w.heap.size 11) _ (J (O HX) 11 rfl);have qq:=CL (Y w.heap.size 12) _ (J (O HX) 12 rfl);have qF:=CL (Y w.heap.size 13) _ (J (O HX) 13 rfl);clear X hR vw xm nw CL;go_simp;exact⟨upd f _ (.agg (yw xn ck cs ct cl cq ci cp cg id xj qty xk xi).toArray),by simp[upd],dx (O xJ) _ _ ⟨yj rfl,⟨fun h=>absurd h (by decide),fun h=>absurd h (by decide)⟩⟩ (by decide)⟩
  | 1,D =>
   cases D;have CL:=xm (by omega);clear X hR vw xm nw CL;go_simp;exact⟨upd f 1 (h3 G 0),by simp[upd],dx (O xJ) 1 _ ⟨yj rfl,⟨fun h=>absurd h (by decide),fun h=>absurd h (by decide)⟩⟩ (by decide)⟩
  | 3,D =>
   cases D;have g1:=(hR.c 1 (yf X 1 rfl)).1 _ rfl;have g2:=(hR.c 2 (yf X 2 rfl)).1 _ rfl;have CL:=xm (by omega);have hw:=nw (by omega);have uC:=U (dU (O HB) (vw (by omega)));have HGV:=U (zw (O HG) (vw (by omega)));clear X hR vw xm nw CL;go_simp;refine(O kt V (O HGV)).mono ?_;rintro y w4 ⟨hy,xF⟩
   by_cases hs:dr=0
   ·rw[outD_ok hs] at hy;subst hy;exact⟨upd f 3 (.agg #[H dk,H di,H dt,H dq,H dp]),by simp[upd,g1,g2,duV],dx (rw_grow (O xJ) hw xF) 3 _ ⟨yj rfl,fun _=>hs,fun h=>absurd h (by decide)⟩ (by decide)⟩
   ·rw[outD_no hs] at hy;subst hy;have HQ:=U (O uP);rw[if_pos hs] at HQ;have HSS:=U hs;have uY:=U (dU (O uC) xF);clear hs xF;go_wp2_with fail;exact⟨rfl,O vV _ _ (O HQ) (O HSS) (O uY)⟩
  | 4,D =>
   cases D;have g0:=(hR.c 0 (yf X 0 rfl)).1 _ rfl;have g3:=(hR.c 3 (yf X 3 rfl)).1 _ rfl;have CL:=xm (by omega);have hw:=nw (by omega);clear X hR vw xm nw CL;go_simp;refine(O bu V).mono ?_;rintro y w4 ⟨rfl,xF⟩;exact⟨upd f 4 (.bool jb),by simp[upd,g0,g3],dx (rw_grow (O xJ) hw xF) 4 _ ⟨yj rfl,⟨fun h=>absurd h (by decide),fun h=>absurd h (by decide)⟩⟩ (by decide)⟩
  | 5,D =>
   cases D;have g4:=(hR.c 4 (yf X 4 rfl)).1 _ rfl;have uC:=U (dU (O HB) (hR.b xA));have h4:=X ⟨4,.data⟩ (by simp) rfl;have I:=yh xo 4 rfl h4 3 rfl;have jm:=(hR.c 3 I).2.1 rfl;have HQ:=U (O uP);rw[if_neg (not_not_intro jm)] at HQ;clear X hR vw xm nw h4 I jm;go_simp
   by_cases hj:jb=true
   ·have hd:=eB 13 V;rw[<- hj] at hd;refine hd.mono ?_;rintro e w4 ⟨rfl,rfl⟩;exact⟨upd f 5 (.tuple #[]),by simp[upd,g4],rw_lastv (T:=fun V=>V) (O xJ) xA ⟨yj rfl,fun h=>absurd h (by decide),fun _=>hj⟩⟩
   ·have hj2:jb=false:=by simpa using hj
    have hd:=eh 13 V;rw[<- hj2] at hd;refine hd.mono ?_;rintro e w4 ⟨rfl,rfl⟩;rw[if_neg hj] at HQ;clear hj hj2 hd;go_wp2_with fail;exact⟨rfl,O vV 13 _ (O HQ) (by decide) (O uC)⟩
  | i+6,D=>simp at D
theorem trade_chk {G B r:Nat}{vq:Value}{g:Gr}(e:Ev)(w:World)(h:GS G B r w vq g)(hi:GI g)(he:okE e=true)(E:e.kind=3)(F:e.cmd.g.size<=maxLen):Calls Tryz.prog 95 #[h3 G 0,evV e] w fun x w'=>Chk G B r vq g e w x w':=by
 have hsf:=sfl;have hG:=h.lt;have kA:=h.base;have uP:Hid (zK g e=if dueR g e≠0 then dueR g e else trR (dueG g) e):=by show _ = _;simp[zK,E]
 have vJ:Hid (takG g e=⟨g.nx,hitI g.l e.other e.qty,g.bg,g.cm,{ g.tk with left:=g.tk.left-e.qty }⟩):=by show _ = _;rw[takG,step3 E]
 have vV:Hid (∀k w',zK g e=k->k≠0->Kp G vq w w'->Chk G B r vq g e w (.panicked (brk k)) w'):=fun k w' Z Q I=>chk_no Z Q I;have vG:Hid (∀w' uB,zK g e=0->Kp G vq w w'->GS G B r w' uB (takG g e)->Chk G B r vq g e w (.returned (.tuple #[])) w'):=fun w' uB Z Q I=>chk_ok Z Q I;have kt:Hid (∀W,GS G B r W vq g->Calls Tryz.prog 123 #[h3 G 0,evV e] W fun x w'=>x=outD (dueR g e) (dueG g)/\yp W w'):=fun W hW=>lA e W hW hi;have jP:Hid (zK g e=0->g.bg=1/\g.tk.left≠0/\∃o,dv g.l (othS g.cm.s)=some o/\dL g.cm o=true/\e.id=g.tk.id/\e.other=o.id/\e.qty=min g.tk.left o.left/\e.price=o.ticks):=rule3 E;have HI:=U hi;generalize Chk G B r vq g e w=C at vV vG |-;generalize zK g e=ru at vV vG uP jP;generalize takG g e=g' at vJ vG;generalize dueR g e=dr at kt uP;generalize dueG g=d at kt uP;obtain⟨xn,⟨ck,cs,ct,cl,cq,ci,cp,cg⟩,id,xj,qty,xk,xi⟩:=e;simp only at E F
 try simp only at uP vJ
 unfold trR at uP;unfold evV at kt;simp only at uP kt jP;unfold evV;simp only;obtain⟨xS,HX⟩:=mh w (yw xn ck cs ct cl cq ci cp cg id xj qty xk xi) 78;have HS:Hid ((w.alloc (me (yw xn ck cs ct cl cq ci cp cg id xj qty xk xi).toArray 78)).heap.size=w.heap.size+1):=by show _ = _;simp
 have HG:=U (zw h xS);have HB:Hid (Kp G vq w (w.alloc (me (yw xn ck cs ct cl cq ci cp cg id xj qty xk xi).toArray 78))):=kp_of xS;clear h xS hi he E F;go_enter Tryz.func95,Tryz.ntmps95;refine mg fun hb HK=>?_;go_wp2_with fail;refine O HK _ _ ?_;clear HK;generalize (w.alloc (me (yw xn ck cs ct cl cq ci cp cg id xj qty xk xi).toArray 78))=W1 at HS HX HG HB |-;obtain⟨e0,e1,e2,e3,e4,e5,e6,e7,e8,e9,vQ,vY,qq,qF⟩:=yz (O HX);go_wp2_with fail;refine(O kt W1 (O HG)).mono ?_;rintro x w2 ⟨hx,xy⟩
 by_cases hs:dr=0
 case neg =>
  rw[outD_no hs] at hx;subst hx;go_wp2_with fail;exact⟨rfl,O vV _ _ (by rw[O uP,if_pos hs]) hs (dU (O HB) xy)⟩
 rw[outD_ok hs] at hx;subst hx;have HDZ:=U hs;have uw:=U (O uP);rw[if_neg (not_not_intro hs)] at uw;clear hs uP;obtain⟨dk,di,dt,dq,dp⟩:=d;unfold duV;simp only at uw |-;have xV:=mc w2 (me #[H dk,H di,H dt,H dq,H dp] 167);have jG:=xy.trans (xV.mono xy.size);have xR:=U (zl (O HX) jG (by have:=O HS;omega));have uf:=U (zw (O HG) jG);have xz:=U (dU (O HB) jG);have HV2:=U (zo w2 [H dk,H di,H dt,H dq,H dp] 167);have bK:Hid (w.heap.size<w2.heap.size/\w2.heap.size<(w2.alloc (me #[H dk,H di,H dt,H dq,H dp] 167)).heap.size):=⟨by have:=O HS;have:=xy.size;omega,by simp⟩;clear xy xV jG e0 e1 e2 e3 e4 e5 e6 e7 e8 e9 vQ vY qq qF HX HG HB HS;have pm:=U (O xR)
 by_cases bW:dk=3
 case neg =>
  have b0:(dk==3)=false:=by simpa using bW
  have HQ:=U (O uw);rw[if_pos (fun h=>bW h.1)] at HQ;clear bW;go_wp2_with fail;refine(eh 9 _).mono ?_;rintro e w6 ⟨rfl,rfl⟩;go_wp2_with fail;exact⟨rfl,O vV 9 _ (O HQ) (by decide) (O xz)⟩
 have b0:(dk==3)=true:=by simpa using bW
 have e9:=J (O pm) 9 rfl
 by_cases vl:id=di
 case neg =>
  have b1:(id==di)=false:=by simpa using vl
  have HQ:=U (O uw);rw[if_pos (fun h=>vl h.2)] at HQ;clear bW vl;go_wp2_with fail;refine(eh 9 _).mono ?_;rintro e w6 ⟨rfl,rfl⟩;go_wp2_with fail;exact⟨rfl,O vV 9 _ (O HQ) (by decide) (O xz)⟩
 have b1:(id==di)=true:=by simpa using vl
 rw[if_neg (not_not_intro ⟨bW,vl⟩)] at uw;clear bW vl;go_wp2_with fail;refine(eB 9 _).mono ?_;rintro e xh ⟨rfl,hX⟩;rw[<- hX] at xR uf xz HV2 bK;clear hX b0 b1 e9 pm;obtain ⟨v0,v1,v2,v3,v4⟩:=q0_5 (O HV2) rfl;have vQ:=J (O xR) 10 rfl;have vY:=J (O xR) 11 rfl;have qq:=J (O xR) 12 rfl
 by_cases vj:xj=dt
 case neg =>
  have b10:(xj==dt)=false:=by simpa using vj
  have HQ:=U (O uw);rw[if_pos vj] at HQ;clear vj;go_wp2_with fail;refine(eh 10 _).mono ?_;rintro e w6 ⟨rfl,rfl⟩;go_wp2_with fail;exact⟨rfl,O vV 10 _ (O HQ) (by decide) (O xz)⟩
 have b10:(xj==dt)=true:=by simpa using vj
 rw[if_neg (not_not_intro vj)] at uw;clear vj;go_wp2_with fail;refine(eB 10 _).mono ?_;rintro e X10 ⟨rfl,hX⟩;rw[hX];clear hX b10
 by_cases jS:xk=dp
 case neg =>
  have b11:(xk==dp)=false:=by simpa using jS
  have HQ:=U (O uw);rw[if_pos jS] at HQ;clear jS;go_wp2_with fail;refine(eh 11 _).mono ?_;rintro e w6 ⟨rfl,rfl⟩;go_wp2_with fail;exact⟨rfl,O vV 11 _ (O HQ) (by decide) (O xz)⟩
 have b11:(xk==dp)=true:=by simpa using jS
 rw[if_neg (not_not_intro jS)] at uw;clear jS;go_wp2_with fail;refine(eB 11 _).mono ?_;rintro e X11 ⟨rfl,hX⟩;rw[hX];clear hX b11
 by_cases qP:qty=dq
 case neg =>
  have qE:(qty==dq)=false:=by simpa using qP
  have HQ:=U (O uw);rw[if_pos qP] at HQ;clear qP;go_wp2_with fail;refine(eh 12 _).mono ?_;rintro e w6 ⟨rfl,rfl⟩;go_wp2_with fail;exact⟨rfl,O vV 12 _ (O HQ) (by decide) (O xz)⟩
 have qE:(qty==dq)=true:=by simpa using qP
 rw[if_neg (not_not_intro qP)] at uw;clear qP;go_wp2_with fail;refine(eB 12 _).mono ?_;rintro e X12 ⟨rfl,hX⟩;rw[hX];clear hX qE;obtain⟨Z,Q,o,hf,hm,-,hot,hq,-⟩:=O jP (O uw);have jn:=(O HI).good (.inr Q);obtain⟨un,_⟩:=fL hf;obtain⟨i,hi⟩:=List.getElem?_of_mem un;have uO:plc g.l xj=i:=by rw[hot];exact fd jn.rise hi
 have pe:=jn.left o un;have oJ:=(O HI).l0;have hl1:=(O HI).l1;have aE:0<=qty:=by omega
 have aG:qty<=o.left:=by omega
 have hwr:IntKind.i64.wrap (g.tk.left-qty)=g.tk.left-qty:=by rw[IntKind.wrap_i64];omega
 have kU:=U uO;have HLI:=U hi;have HOL:=U pe;have HQ01:Hid (0<=qty/\qty<=o.left):=⟨aE,aG⟩;clear Z Q hf hm hq hot jn un hi uO pe oJ hl1 aE aG jP v0 v1 v2 v3 v4 vQ vY qq;have vT:Hid (Bx xh.drew w.heap.size (yw xn ck cs ct cl cq ci cp cg id xj qty xk xi)):=dK (O xR);have qf:Hid (GS G B r xh.drew vq g):=zw (O uf) ⟨rfl,rfl,rfl,Nat.le_refl _,fun _ _=>rfl⟩;have kJ:Hid (Kp G vq w xh.drew):=ip (O xz);have vY:=J (O vT) 11 rfl;have c13:=J (O qf).box 13 rfl;have q13:=zg (O qf).box 13 (by show 13<16;decide);go_wp2_with fail;refine ff 11 (by kernel_rfl) (by kernel_rfl) ?_;simp only[yU,List.take_zero,yV,List.drop_zero]
 repeat still_step
 refine wpStill_nil ?_;have uL:Hid (GS G B r (xh.drew.setCell (Y G 13) (H (g.tk.left-qty))) vq { g with tk:={ g.tk with left:=g.tk.left-qty } }):=gs_set (O qf) 13 _ (by decide) rfl rfl;have xL:=U (kp_set (O kJ) 13 (H (g.tk.left-qty)));have vz:Hid (Bx (xh.drew.setCell (Y G 13) (H (g.tk.left-qty))) w.heap.size (yw xn ck cs ct cl cq ci cp cg id xj qty xk xi)):=fO (O vT) (by omega);go_wp2_with fail;change Code.wp _ _ _ _ (xh.drew.setCell (Y G 13) (H (g.tk.left-qty)));generalize xh.drew.setCell (Y G 13) (H (g.tk.left-qty))=ya at uL xL vz |-;clear vY c13 q13;have xH:Hid (Bx ya.drew w.heap.size (yw xn ck cs ct cl cq ci cp cg id xj qty xk xi)):=dK (O vz);have uX:Hid (GS G B r ya.drew vq { g with tk:={ g.tk with left:=g.tk.left-qty } }):=zw (O uL) ⟨rfl,rfl,rfl,Nat.le_refl _,fun _ _=>rfl⟩;have xQ:Hid (Kp G vq w ya.drew):=ip (O xL);have vQ:=J (O xH) 10 rfl;have vY:=J (O xH) 11 rfl;refine ff 7 (by kernel_rfl) (by kernel_rfl) ?_;simp only[yU,List.take_zero,yV,List.drop_zero]
 repeat still_step
 refine wpStill_nil ?_;go_wp2_with fail;refine(lu G 1 B g.nx xj qty vq g.l i o _ (J (O uX).box 1 rfl) (J (O uX).box 2 rfl) (zg (O uX).box 2 (by show 2<16;decide)) (O uX).row (O uX).nq (O uX).lt (O uX).base (yO (O HI).len (by decide)) (O kU) (O HLI) (O HQ01).1 (O HQ01).2 (O HOL).2).mono ?_;rintro e w9 ⟨uB,rfl,hc9,ho9,cX⟩;have HG9:=U (gs_took (O uX) hc9 ho9 cX);have jh:=U (kp_took (O xQ) cX);clear hc9 ho9 cX;go_wp2_with fail;go_end0;refine O vG _ uB (O uw) (O jh) ?_;rw[O vJ];simp only[gE (O kU) (O HLI)];exact O HG9
theorem expire_chk {G B r:Nat}{vq:Value}{g:Gr}(e:Ev)(w:World)(h:GS G B r w vq g)(hi:GI g)(he:okE e=true)(E:e.kind=9)(F:e.cmd.g.size<=maxLen):Calls Tryz.prog 101 #[h3 G 0,evV e] w fun x w'=>Chk G B r vq g e w x w':=by
 have hsf:=sfl;have hG:=h.lt;have kA:=h.base;have uP:Hid (zK g e=if dueR g e≠0 then dueR g e else 0):=by show _ = _;simp[zK,E]
 have vJ:Hid (takG g e=⟨g.nx,hitI g.l (dueG g).id (dueG g).qty,g.bg,g.cm,g.tk⟩):=by show _ = _;rw[takG,step9 E]
 have vV:Hid (∀k w',zK g e=k->k≠0->Kp G vq w w'->Chk G B r vq g e w (.panicked (brk k)) w'):=fun k w' Z Q I=>chk_no Z Q I;have vG:Hid (∀w' uB,zK g e=0->Kp G vq w w'->GS G B r w' uB (takG g e)->Chk G B r vq g e w (.returned (.tuple #[])) w'):=fun w' uB Z Q I=>chk_ok Z Q I;have kt:Hid (∀W,GS G B r W vq g->Calls Tryz.prog 123 #[h3 G 0,evV e] W fun x w'=>x=outD (dueR g e) (dueG g)/\yp W w'):=fun W hW=>lA e W hW hi;have HR9:Hid (zK g e=0->g.bg=8/\∃o,g.l.find? isDy=some o/\dueG g=⟨9,o.id,0,o.left,0⟩/\e.id=o.id/\e.qty=o.left):=rule9 E;have HI:=U hi;generalize Chk G B r vq g e w=C at vV vG |-;generalize zK g e=ru at vV vG uP HR9;generalize takG g e=g' at vJ vG;generalize dueR g e=dr at kt uP;generalize dueG g=d at kt vJ HR9;obtain⟨xn,⟨ck,cs,ct,cl,cq,ci,cp,cg⟩,id,xj,qty,xk,xi⟩:=e;simp only at E F
 try simp only at uP vJ
 unfold evV at kt;simp only at kt HR9;unfold evV;simp only;obtain⟨xS,HX⟩:=mh w (yw xn ck cs ct cl cq ci cp cg id xj qty xk xi) 78;have HS:Hid ((w.alloc (me (yw xn ck cs ct cl cq ci cp cg id xj qty xk xi).toArray 78)).heap.size=w.heap.size+1):=by show _ = _;simp
 have HG:=U (zw h xS);have HB:Hid (Kp G vq w (w.alloc (me (yw xn ck cs ct cl cq ci cp cg id xj qty xk xi).toArray 78))):=kp_of xS;clear h xS hi he E F;go_enter Tryz.func101,Tryz.ntmps101;refine mg fun hb HK=>?_;go_wp2_with fail;refine O HK _ _ ?_;clear HK;generalize (w.alloc (me (yw xn ck cs ct cl cq ci cp cg id xj qty xk xi).toArray 78))=W1 at HS HX HG HB |-;obtain⟨e0,e1,e2,e3,e4,e5,e6,e7,e8,e9,vQ,vY,qq,qF⟩:=yz (O HX);go_wp2_with fail;refine(O kt W1 (O HG)).mono ?_;rintro x w2 ⟨hx,xy⟩
 by_cases hs:dr=0
 case neg =>
  rw[outD_no hs] at hx;subst hx;go_wp2_with fail;exact⟨rfl,O vV _ _ (by rw[O uP,if_pos hs]) hs (dU (O HB) xy)⟩
 rw[outD_ok hs] at hx;subst hx;have HDZ:=U hs;have uw:=U (O uP);rw[if_neg (not_not_intro hs)] at uw;clear hs uP;obtain⟨dk,di,dt,dq,dp⟩:=d;unfold duV;simp only at uw |-;have xV:=mc w2 (me #[H dk,H di,H dt,H dq,H dp] 167);have jG:=xy.trans (xV.mono xy.size);have xR:=U (zl (O HX) jG (by have:=O HS;omega));have uf:=U (zw (O HG) jG);have xz:=U (dU (O HB) jG);have HV2:=U (zo w2 [H dk,H di,H dt,H dq,H dp] 167);have bK:Hid (w.heap.size<w2.heap.size/\w2.heap.size<(w2.alloc (me #[H dk,H di,H dt,H dq,H dp] 167)).heap.size):=⟨by have:=O HS;have:=xy.size;omega,by simp⟩;clear xy xV jG e0 e1 e2 e3 e4 e5 e6 e7 e8 e9 vQ vY qq qF HX HG HB HS;obtain⟨h8,o,hf,hd,-⟩:=O HR9 (O uw);simp only[Du.mk.injEq] at hd;obtain⟨rfl,rfl,rfl,rfl,rfl⟩:=hd;have jn:=(O HI).good (.inl (by omega));obtain⟨i,hi⟩:=find_at hf;have uO:=fd jn.rise hi;have pe:=jn.left o (yP hi);have kU:=U uO;have HLI:=U hi;have HOL:=U pe;clear h8 hf jn hi uO pe HR9;go_wp2_with fail;generalize (w2.alloc (me #[H 9,H o.id,H 0,H o.left,H 0] 167))=xh at xR uf xz HV2 bK |-;have vT:Hid (Bx xh.drew w.heap.size (yw xn ck cs ct cl cq ci cp cg id xj qty xk xi)):=dK (O xR);have qf:Hid (GS G B r xh.drew vq g):=zw (O uf) ⟨rfl,rfl,rfl,Nat.le_refl _,fun _ _=>rfl⟩;have kJ:Hid (Kp G vq w xh.drew):=ip (O xz);have v1:xh.drew.cell? (Y w2.heap.size 1)=some (H o.id):=J (O HV2) 1 rfl;have v3:xh.drew.cell? (Y w2.heap.size 3)=some (H o.left):=J (O HV2) 3 rfl;refine ff 7 (by kernel_rfl) (by kernel_rfl) ?_;simp only[yU,List.take_zero,yV,List.drop_zero]
 repeat still_step
 refine wpStill_nil ?_;go_wp2_with fail;refine(lu G 1 B g.nx o.id o.left vq g.l i o _ (J (O qf).box 1 rfl) (J (O qf).box 2 rfl) (zg (O qf).box 2 (by show 2<16;decide)) (O qf).row (O qf).nq (O qf).lt (O qf).base (yO (O HI).len (by decide)) (O kU) (O HLI) (by have:=O HOL;omega) (Int.le_refl _) (O HOL).2).mono ?_;rintro e w9 ⟨uB,rfl,hc9,ho9,cX⟩;have HG9:=U (gs_took (O qf) hc9 ho9 cX);have jh:=U (kp_took (O kJ) cX);clear hc9 ho9 cX;go_wp2_with fail;go_end0;refine O vG _ uB (O uw) (O jh) ?_;rw[O vJ];simp only[gE (O kU) (O HLI)];exact O HG9
theorem refuse_chk {G B r:Nat}{vq:Value}{g:Gr}(e:Ev)(w:World)(h:GS G B r w vq g)(hi:GI g)(he:okE e=true)(E:e.kind=2)(F:e.cmd.g.size<=maxLen):Calls Tryz.prog 94 #[h3 G 0,evV e] w fun x w'=>Chk G B r vq g e w x w':=by
 have hsf:=sfl;have hG:=h.lt;have kA:=h.base;have uP:Hid (zK g e=if g.bg≠0 then 3 else if refR g.nx g.l e.cmd≠0/\refR g.nx g.l e.cmd=e.reason then 0 else 4):=by show _ = _;unfold zK;rw[if_neg (by rw[E];decide),if_pos E]
 have vJ:Hid (takG g e=⟨g.nx,g.l,g.bg,g.cm,g.tk⟩):=by show _ = _;rw[takG,step2 E]
 have vV:Hid (∀k w',zK g e=k->k≠0->Kp G vq w w'->Chk G B r vq g e w (.panicked (brk k)) w'):=fun k w' Z Q I=>chk_no Z Q I;have vG:Hid (∀w' uB,zK g e=0->Kp G vq w w'->GS G B r w' uB (takG g e)->Chk G B r vq g e w (.returned (.tuple #[])) w'):=fun w' uB Z Q I=>chk_ok Z Q I;have HTS:Hid (e.cmd.g.size<=maxLen):=F;have HI:=U hi;generalize Chk G B r vq g e w=C at vV vG |-;generalize zK g e=ru at vV vG uP;generalize takG g e=g' at vJ vG;obtain⟨xn,⟨ck,cs,ct,cl,cq,ci,cp,cg⟩,id,xj,qty,xk,xi⟩:=e;simp only at E F
 try simp only at uP vJ
 unfold evV;simp only;obtain⟨xS,HX⟩:=mh w (yw xn ck cs ct cl cq ci cp cg id xj qty xk xi) 78;have HS:Hid ((w.alloc (me (yw xn ck cs ct cl cq ci cp cg id xj qty xk xi).toArray 78)).heap.size=w.heap.size+1):=by show _ = _;simp
 have HG:=U (zw h xS);have HB:Hid (Kp G vq w (w.alloc (me (yw xn ck cs ct cl cq ci cp cg id xj qty xk xi).toArray 78))):=kp_of xS;clear h xS hi he E F;go_enter Tryz.func94,Tryz.ntmps94;refine mg fun hb HK=>?_;go_wp2_with fail;refine O HK _ _ ?_;clear HK;generalize (w.alloc (me (yw xn ck cs ct cl cq ci cp cg id xj qty xk xi).toArray 78))=W1 at HS HX HG HB |-;have c3:=J (O HG).box 3 rfl
 by_cases h0:g.bg=0
 case neg =>
  have b0:(g.bg==0)=false:=by simpa using h0
  have HQ:=U (O uP);rw[if_pos h0] at HQ;clear h0;go_wp2_with fail;refine(eh 3 _).mono ?_;rintro e w6 ⟨rfl,rfl⟩;go_wp2_with fail;exact⟨rfl,O vV 3 _ (O HQ) (by decide) (O HB)⟩
 have b0:(g.bg==0)=true:=by simpa using h0
 have kK:=U ((O HI).good (.inl (by omega)));have uM:=U ((O HI).start h0);have uw:=U (O uP);rw[if_neg (not_not_intro h0)] at uw;clear h0 uP;go_wp2_with fail;refine(eB 3 _).mono ?_;rintro e w2 ⟨rfl,cx⟩;rw[<- cx] at HG HX HB HS;clear cx c3 b0;have xR:=U (O HX);have uf:=U (O HG);have xz:=U (O HB);have hS2:w.heap.size<w2.heap.size:=by have:=O HS;omega
 clear HX HG HB HS;have vT:Hid (Bx w2.drew w.heap.size (yw xn ck cs ct cl cq ci cp cg id xj qty xk xi)):=dK (O xR);have qf:Hid (GS G B r w2.drew vq g):=zw (O uf) ⟨rfl,rfl,rfl,Nat.le_refl _,fun _ _=>rfl⟩;have kJ:Hid (Kp G vq w w2.drew):=ip (O xz);have e1:=J (O vT) 1 rfl;have e2:=J (O vT) 2 rfl;have e3:=J (O vT) 3 rfl;have e4:=J (O vT) 4 rfl;have e5:=J (O vT) 5 rfl;have e6:=J (O vT) 6 rfl;have e7:=J (O vT) 7 rfl;have e8:=J (O vT) 8 rfl;have c1:=J (O qf).box 1 rfl;have c2:=J (O qf).box 2 rfl;have qj:=U (zZ (O qf).row (yO (O HI).len (by decide)));have qJ:=U (iq (O qf).row);go_wp2_with fail;refine ff 6 (by kernel_rfl) (by kernel_rfl) ?_;simp only[yU,List.take_zero,yV,List.drop_zero]
 repeat still_step
 refine wpStill_nil ?_;clear c1 c2 e1 e2 e3 e4 e5 e6 e7 e8;go_wp2_with fail;refine(refusal_any g.nx vq g.l ⟨ck,cs,ct,cl,cq,ci,cp,cg⟩ _ (O qj) (O qJ) (O kK) (O uM).1 (O uM).2.1 (O HTS)).mono ?_;rintro e w5 ⟨rfl,uj⟩;have qz:=U (zl (O vT) uj hS2);have uE:=U (zw (O qf) uj);have uY:=U (dU (O kJ) uj);clear uj qj qJ;generalize refR g.nx g.l ⟨ck,cs,ct,cl,cq,ci,cp,cg⟩=rr at uw |-;have qF:=J (O qz) 13 rfl
 by_cases jM:rr=0
 case pos =>
  have b0:(rr != 0)=false:=by simpa using jM
  have HQ:=U (O uw);rw[if_neg (by simp[jM])] at HQ;clear jM;go_wp2_with fail;refine(eh 4 _).mono ?_;rintro e w6 ⟨rfl,rfl⟩;go_wp2_with fail;exact⟨rfl,O vV 4 _ (O HQ) (by decide) (O uY)⟩
 have b0:(rr != 0)=true:=by simpa using jM
 by_cases kn:rr=xi
 case neg =>
  have b1:(rr==xi)=false:=by simpa using kn
  have HQ:=U (O uw);rw[if_neg (by simp[kn])] at HQ;clear jM kn;go_wp2_with fail;refine(eh 4 _).mono ?_;rintro e w6 ⟨rfl,rfl⟩;go_wp2_with fail;exact⟨rfl,O vV 4 _ (O HQ) (by decide) (O uY)⟩
 have b1:(rr==xi)=true:=by simpa using kn
 have HQ:=U (O uw);rw[if_pos ⟨jM,kn⟩] at HQ;clear jM kn;go_wp2_with fail;refine(eB 4 _).mono ?_;rintro e w6 ⟨rfl,rfl⟩;go_wp2_with fail;go_end0;refine O vG _ vq (O HQ) (O uY) ?_;rw[O vJ];exact O uE
def sK (kd:Int):List Ev->Int
 | []=>0
 | e::es=>(if e.kind=kd then e.qty else 0)+sK kd es
theorem sK_append (kd:Int):∀a b:List Ev,sK kd (a++b)=sK kd a+sK kd b
 | [],b=>by simp[sK]
 | e::a,b=>by rw[List.cons_append,sK,sK,sK_append kd a b];omega
theorem matL_sums {c:Cm}{id:Int}:∀(n:Nat) (l:List Od) (left:Int) (ts:List Ev),GoodL l->0<=left->left<=1000000->(∀e∈ts,e.kind=3/\0<=e.qty/\e.qty<=1000000) ->
  (matL c id n l left ts).2.1+sK 3 (matL c id n l left ts).2.2=left+sK 3 ts/\∀e∈(matL c id n l left ts).2.2,e.kind=3/\0<=e.qty/\e.qty<=1000000
 | 0,l,left,ts,h,h0,Z,ht=>⟨rfl,ht⟩
 | n+1,l,left,ts,h,h0,Z,ht=>by
  rw[matL]
  by_cases hl:0<left
  ·rw[if_pos hl];cases hf:dv l (othS c.s) with
   | none=>exact⟨rfl,ht⟩
   | some o =>
    simp only
    by_cases hm:dL c o=true
    ·rw[if_pos hm];obtain⟨un,_⟩:=fL hf;obtain⟨k,E⟩:=List.getElem?_of_mem un;have D:=h.left o un;rw[fd h.rise E,Int.toNat_natCast]
     obtain⟨e1,e2⟩:=matL_sums (c:=c) (id:=id) n (db l k o (min left o.left)) (left-min left o.left) (ts ++ [trE id o.id (min left o.left) o.ticks]) (eT h E (by omega) (by omega)).1 (by omega) (by omega) (fun e he=>by
      rcases List.mem_append.1 he with he|he
      ·exact ht e he
      ·rw[List.mem_singleton.1 he];exact⟨rfl,by show 0<=min left o.left;omega,by show min left o.left<=1000000;omega⟩)
     refine⟨?_,e2⟩;rw[e1,sK_append];have:sK 3 [trE id o.id (min left o.left) o.ticks]=min left o.left:=by simp[sK,trE]
     rw[this];omega
    ·rw[if_neg hm];exact⟨rfl,ht⟩
  ·rw[if_neg hl];exact⟨rfl,ht⟩
end Go.Proofs.YtkofhemdefffpaaGreatDoor
