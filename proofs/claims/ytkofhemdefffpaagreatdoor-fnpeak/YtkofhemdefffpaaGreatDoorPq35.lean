/-.-/
import Derived.Test.YtkofhemdefffpaaGreatDoorPq32
set_option linter.unusedVariables false
set_option maxHeartbeats 6400000
set_option maxRecDepth 100000
namespace Go.Proofs.YtkofhemdefffpaaGreatDoor
open Go.RowKit
theorem accept_chk {G B r:Nat}{vq:Value}{g:Gr}(e:Ev)(w:World)(h:GS G B r w vq g)(hi:GI g)(he:okE e=true)(E:e.kind=1)(F:e.cmd.g.size<=maxLen):Calls Tryz.prog 93 #[h3 G 0,evV e] w fun x w'=>Chk G B r vq g e w x w':=by
 have hsf:=sfl;have hG:=h.lt;have kA:=h.base;have uP:Hid (zK g e=if df g e≠0 then df g e else if e.id=g.nx then 0 else 6):=by show _ = _;simp[zK,E]
 have vJ:Hid (takG g e=⟨g.nx+1,g.l,g.bg,e.cmd,ordO e.cmd e.id⟩):=by show _ = _;rw[takG,step1 E]
 have vV:Hid (∀k w',zK g e=k->k≠0->Kp G vq w w'->Chk G B r vq g e w (.panicked (brk k)) w'):=fun k w' Z Q I=>chk_no Z Q I;have vG:Hid (∀w' uB,zK g e=0->Kp G vq w w'->GS G B r w' uB (takG g e)->Chk G B r vq g e w (.returned (.tuple #[])) w'):=fun w' uB Z Q I=>chk_ok Z Q I;have qy:Hid (∀W,GS G B r W vq g->Calls Tryz.prog 118 #[h3 G 0,evV e] W fun x w'=>x=outR (df g e)/\yp W w'):=fun W hW=>start_any e W hW hi (by rw[E];decide) F;have uM:Hid (df g e=0->0<=g.nx/\g.nx<=1000000):=fun h0=>⟨(hi.start (fq h0).1).1,(hi.start (fq h0).1).2.1⟩;have HI:=U hi;generalize Chk G B r vq g e w=C at vV vG |-;generalize zK g e=ru at vV vG uP;generalize takG g e=g' at vJ vG;generalize df g e=sr at qy uM uP;obtain⟨xn,⟨ck,cs,ct,cl,cq,ci,cp,cg⟩,id,xj,qty,xk,xi⟩:=e;simp only at E F
 try simp only at uP vJ
 unfold evV at qy;simp only at qy;unfold evV;simp only;obtain⟨xS,HX⟩:=mh w (yw xn ck cs ct cl cq ci cp cg id xj qty xk xi) 78;have HS:Hid ((w.alloc (me (yw xn ck cs ct cl cq ci cp cg id xj qty xk xi).toArray 78)).heap.size=w.heap.size+1):=by show _ = _;simp
 have HG:=U (zw h xS);have HB:Hid (Kp G vq w (w.alloc (me (yw xn ck cs ct cl cq ci cp cg id xj qty xk xi).toArray 78))):=kp_of xS;clear h xS hi he E F;go_enter Tryz.func93,Tryz.ntmps93;refine mg fun hb HK=>?_;go_wp2_with fail;refine O HK _ _ ?_;clear HK;generalize (w.alloc (me (yw xn ck cs ct cl cq ci cp cg id xj qty xk xi).toArray 78))=W1 at HS HX HG HB |-;obtain⟨e0,e1,e2,e3,e4,e5,e6,e7,e8,e9,vQ,vY,qq,qF⟩:=yz (O HX);go_wp2_with fail;refine(O qy W1 (O HG)).mono ?_;rintro x w2 ⟨hx,xy⟩;have xR:=U (zl (O HX) xy (by have:=O HS;omega));have uf:=U (zw (O HG) xy);have xz:=U (dU (O HB) xy);have hS2:w.heap.size<w2.heap.size:=by have:=O HS;have:=xy.size;omega
 clear xy e0 e1 e2 e3 e4 e5 e6 e7 e8 e9 vQ vY qq qF
 by_cases hs:sr=0
 case neg =>
  rw[outR_no hs] at hx;subst hx;go_wp2_with fail;exact⟨rfl,O vV _ _ (by rw[O uP,if_pos hs]) hs (O xz)⟩
 rw[outR_ok hs] at hx;subst hx;have HSR:=U hs;have uw:=U (O uP);rw[if_neg (not_not_intro hs)] at uw;clear hs uP;have vT:Hid (Bx w2.drew w.heap.size (yw xn ck cs ct cl cq ci cp cg id xj qty xk xi)):=dK (O xR);have qf:Hid (GS G B r w2.drew vq g):=zw (O uf) ⟨rfl,rfl,rfl,Nat.le_refl _,fun _ _=>rfl⟩;have kJ:Hid (Kp G vq w w2.drew):=ip (O xz);have e9:=J (O vT) 9 rfl;have c1:=J (O qf).box 1 rfl;go_wp2_with fail;refine ff 8 (by kernel_rfl) (by kernel_rfl) ?_;simp only[yU,List.take_zero,yV,List.drop_zero]
 repeat still_step
 refine wpStill_nil ?_
 by_cases vl:id=g.nx
 case neg =>
  have b0:(id==g.nx)=false:=by simpa using vl
  have HQ:=U (O uw);rw[if_neg vl] at HQ;clear vl;go_wp2_with fail;refine(eh 6 _).mono ?_;rintro e w6 ⟨rfl,rfl⟩;go_wp2_with fail;exact⟨rfl,O vV 6 _ (O HQ) (by decide) (O kJ)⟩
 have b0:(id==g.nx)=true:=by simpa using vl
 have HQ:=U (O uw);rw[if_pos vl] at HQ;clear vl uw;go_wp2_with fail;refine(eB 6 _).mono ?_;rintro e xh ⟨rfl,hX⟩;rw[<- hX] at vT qf kJ;have aU:w.heap.size<xh.heap.size:=by rw[hX];exact hS2
 clear hX e9 c1 b0;have c1:=J (O qf).box 1 rfl;have q1:=zg (O qf).box 1 (by show 1<16;decide);have qu:=O uM (O HSR);have hwr:IntKind.i64.wrap (g.nx+1)=g.nx+1:=by rw[IntKind.wrap_i64];omega
 have uL:Hid (GS G B r (xh.setCell (Y G 1) (H (g.nx+1))) vq { g with nx:=g.nx+1 }):=gs_set (O qf) 1 _ (by decide) rfl rfl;have xL:=U (kp_set (O kJ) 1 (H (g.nx+1)));have vz:Hid (Bx (xh.setCell (Y G 1) (H (g.nx+1))) w.heap.size (yw xn ck cs ct cl cq ci cp cg id xj qty xk xi)):=fO (O vT) (by omega);have vm:w.heap.size<(xh.setCell (Y G 1) (H (g.nx+1))).heap.size:=by simpa[World.setCell] using aU
 have e1:=J (O vz) 1 rfl;have e2:=J (O vz) 2 rfl;have e3:=J (O vz) 3 rfl;have e4:=J (O vz) 4 rfl;have e5:=J (O vz) 5 rfl;have e6:=J (O vz) 6 rfl;have e7:=J (O vz) 7 rfl;have e8:=J (O vz) 8 rfl;have e9:=J (O vz) 9 rfl;go_wp2_with fail;refine(lY ⟨ck,cs,ct,cl,cq,ci,cp,cg⟩ _).mono ?_;rintro e ya ⟨rfl,uj⟩;have uE:=U (zw (O uL) uj);have qz:=U (zl (O vz) uj vm);have uY:=U (dU (O xL) uj);have hS5:w.heap.size<ya.heap.size:=yK vm uj.size;clear uj e1 e2 e3 e4 e5 e6 e7 e8 e9 c1 q1 hwr vm aU uL vz xL vT qf kJ;unfold noV;simp only;have c4:=J (O uE).box 4 rfl;have q4:=zg (O uE).box 4 (by show 4<16;decide);have c5:=J (O uE).box 5 rfl;have q5:=zg (O uE).box 5 (by show 5<16;decide);have c6:=J (O uE).box 6 rfl;have q6:=zg (O uE).box 6 (by show 6<16;decide);have c7:=J (O uE).box 7 rfl;have q7:=zg (O uE).box 7 (by show 7<16;decide);have c8:=J (O uE).box 8 rfl;have q8:=zg (O uE).box 8 (by show 8<16;decide);have c9:=J (O uE).box 9 rfl;have q9:=zg (O uE).box 9 (by show 9<16;decide);go_wp2_with fail;change Code.wp _ _ _ _ (World.setCells ya G 4 [H cs,H ct,H cl,H cq,yk cp,yl cg]);have qD:Hid (GS G B r (World.setCells ya G 4 [H cs,H ct,H cl,H cq,yk cp,yl cg]) vq ⟨g.nx+1,g.l,g.bg,⟨ck,cs,ct,cl,cq,ci,cp,cg⟩,g.tk⟩):=gs_sets (O uE) 4 _ (by simp) rfl rfl;have qb:Hid (Bx (World.setCells ya G 4 [H cs,H ct,H cl,H cq,yk cp,yl cg]) w.heap.size (yw xn ck cs ct cl cq ci cp cg id xj qty xk xi)):=dm (O qz) (bx_heap G w.heap.size (by omega) _ 4 ya);have qS:=U (kp_sets (O uY) 4 [H cs,H ct,H cl,H cq,yk cp,yl cg]);have hS6:w.heap.size<(World.setCells ya G 4 [H cs,H ct,H cl,H cq,yk cp,yl cg]).heap.size:=yL _ _ (J (O qb) 0 rfl);generalize World.setCells ya G 4 [H cs,H ct,H cl,H cq,yk cp,yl cg]=h1 at qD qb qS hS6 |-;clear c4 q4 c5 q5 c6 q6 c7 q7 c8 q8 c9 q9 uE qz uY hS5;have HOR:=U (fun W=>order_any ⟨ck,cs,ct,cl,cq,ci,cp,cg⟩ id W);unfold noV at HOR;unfold ordO at vJ;simp only at vJ HOR;generalize tk cp=tkp at vJ HOR;have hZG:=O qD;clear hZG;refine zA (RWA (fun f=>{ tmps:=#[h3 G 0,.agg (yw xn ck cs ct cl cq ci cp cg id xj qty xk xi).toArray,M,h3 w.heap.size 0,h3 G 0,.agg (yw xn ck cs ct cl cq ci cp cg id xj qty xk xi).toArray,.tuple #[],h3 w.heap.size 9,H id,h3 G 0,h3 G 0,h3 G 1,h3 G 1,H g.nx,.bool (id==g.nx),.tuple #[],h3 G 0,h3 G 0,h3 G 1,h3 G 1,H g.nx,H (g.nx+1),h3 G 0,h3 G 1,h3 G 1,h3 G 0,h3 w.heap.size 1,.agg (yy ck cs ct cl cq ci cp cg).toArray,.agg #[H cs,H ct,H cl,H cq,yk cp,yl cg],h3 G 0,h3 G 4,f 0,f 1,f 2,f 3,f 4,f 5,f 6,f 7,f 8,f 9],defers:=[] }) (CVw [some (h3 G 0),some (h3 G 0),some (h3 G 0),some (h3 G 4),some (.agg #[H cs,H ct,H cl,H cq,yk cp,yl cg]),some (h3 w.heap.size 9),some (H id),some (.agg (yx id cs tkp cq cl cg).toArray),some (h3 G 0),some (h3 G 10),none] (fun _=>True)) 10 (fun V=>World.setCells V G 10 (yx id cs tkp cq cl cg)) h1) (by kernel_rfl) ?_ ?_ ?_
 ·exact⟨fun _=>M,rfl,⟨fun j hj=>by rw[yJ] at hj;split at hj <;> simp at hj,fun _=>⟨rfl,rfl,rfl,Nat.le_refl _,fun _ _=>rfl⟩,fun hj=>by rw[yJ] at hj;split at hj <;> simp at hj⟩⟩
 ·rintro x md V ⟨f,rfl,hR⟩ hx xY;have xq:=eM xY hx (acyc _ (by kernel_rfl));obtain⟨V0,xS,eV⟩:=hR.m (xq 10 (by simp));have js:=U (zw (O qD) xS);have jA:=U (dU (O qS) xS);clear hR xq xY hx xS;subst eV;generalize f 0=v0,f 1=v1,f 2=v2,f 3=v3,f 4=v4,f 5=v5,f 6=v6,f 7=v7,f 8=v8,f 9=v9;go_end0;refine O vG _ vq (O HQ) (kp_sets (O jA) 10 _) ?_;rw[O vJ];exact gs_sets (O js) 10 _ (by simp) rfl rfl
 ·rintro x md V i op ⟨f,rfl,hR⟩ xo hx D xA X;have xJ:=U hR
  have nw:i<10->x[10]? = some false:=fun xK=>by
   rcases fD hx (show 10<11 by omega) with hq|hw
   ·exact hq
   ·exfalso;have h0:=yh xo 10 rfl hw 0 rfl;have Z:=yh xo 10 rfl hw 1 rfl;have Q:=yh xo 10 rfl hw 2 rfl;have I:=yh xo 10 rfl hw 3 rfl;have h4:=yh xo 10 rfl hw 4 rfl;have h5:=yh xo 10 rfl hw 5 rfl;have h6:=yh xo 10 rfl hw 6 rfl;have h7:=yh xo 10 rfl hw 7 rfl;have h9:=yh xo 10 rfl hw 9 rfl;have h8:=yh xo 9 rfl h9 8 rfl;rcases(by omega:i=0\/i=1\/i=2\/i=3\/i=4\/i=5\/i=6\/i=7\/i=8\/i=9) with rfl|rfl|rfl|rfl|rfl|rfl|rfl|rfl|rfl|rfl
    ·exact absurd (h0.symm.trans xA) (by simp)
    ·exact absurd (Z.symm.trans xA) (by simp)
    ·exact absurd (Q.symm.trans xA) (by simp)
    ·exact absurd (I.symm.trans xA) (by simp)
    ·exact absurd (h4.symm.trans xA) (by simp)
    ·exact absurd (h5.symm.trans xA) (by simp)
    ·exact absurd (h6.symm.trans xA) (by simp)
    ·exact absurd (h7.symm.trans xA) (by simp)
    ·exact absurd (h8.symm.trans xA) (by simp)
    ·exact absurd (h9.symm.trans xA) (by simp)
  have vw:i<10->yp h1 V:=fun h=>hR.b (nw h);have xm:i<10->∀(p:Addr) u,h1.cell? p=some u->V.cell? p=some u:=fun h p u hu=>((vw h).cell (yL h1 _ hu)).trans hu
  match i,D with
  | 0,D|1,D =>
   cases D;have CL:=xm (by omega);clear X hR vw xm nw CL;go_simp;exact⟨upd f _ (h3 G 0),by simp[upd],dx (O xJ) _ _ ⟨yj rfl,trivial⟩ (by decide)⟩
  | 2,D =>
   cases D;have g1:=(hR.c 1 (yf X 1 rfl)).1 _ rfl;have CL:=xm (by omega);clear X hR vw xm nw CL;go_simp;exact⟨upd f 2 (h3 G 0),by simp[upd,g1],dx (O xJ) 2 _ ⟨yj rfl,trivial⟩ (by decide)⟩
  | 3,D =>
   cases D;have g2:=(hR.c 2 (yf X 2 rfl)).1 _ rfl;have CL:=xm (by omega);clear X hR vw xm nw CL;go_simp;exact⟨upd f 3 (h3 G 4),by simp[upd,g2],dx (O xJ) 3 _ ⟨yj rfl,trivial⟩ (by decide)⟩
  | 4,D =>
   cases D;have g3:=(hR.c 3 (yf X 3 rfl)).1 _ rfl;have CL:=xm (by omega);have z4:=CL (Y G 4) _ (J (O qD).box 4 rfl);have z5:=CL (Y G 5) _ (J (O qD).box 5 rfl);have z6:=CL (Y G 6) _ (J (O qD).box 6 rfl);have z7:=CL (Y G 7) _ (J (O qD).box 7 rfl);have z8:=CL (Y G 8) _ (J (O qD).box 8 rfl);have z9:=CL (Y G 9) _ (J (O qD).box 9 rfl);clear X hR vw xm nw CL;go_simp;exact⟨upd f 4 (.agg #[H cs,H ct,H cl,H cq,yk cp,yl cg]),by simp[upd,g3],dx (O xJ) 4 _ ⟨yj rfl,trivial⟩ (by decide)⟩
  | 5,D =>
   cases D;have CL:=xm (by omega);clear X hR vw xm nw CL;go_simp;exact⟨upd f 5 (h3 w.heap.size 9),by simp[upd],dx (O xJ) 5 _ ⟨yj rfl,trivial⟩ (by decide)⟩
  | 6,D =>
   cases D;have g5:=(hR.c 5 (yf X 5 rfl)).1 _ rfl;have CL:=xm (by omega);have z:=CL (Y w.heap.size 9) _ (J (O qb) 9 rfl);clear X hR vw xm nw CL;go_simp;exact⟨upd f 6 (H id),by simp[upd,g5],dx (O xJ) 6 _ ⟨yj rfl,trivial⟩ (by decide)⟩
  | 7,D =>
   cases D;have g4:=(hR.c 4 (yf X 4 rfl)).1 _ rfl;have g6:=(hR.c 6 (yf X 6 rfl)).1 _ rfl;have CL:=xm (by omega);have vj:=nw (by omega);clear X hR vw xm nw CL;go_simp;refine(O HOR V).mono ?_;rintro e w4 ⟨rfl,xF⟩;exact⟨upd f 7 (.agg (yx id cs tkp cq cl cg).toArray),by simp[upd,g4,g6],dx (rw_grow (O xJ) vj xF) 7 _ ⟨yj rfl,trivial⟩ (by decide)⟩
  | 8,D =>
   cases D;have g0:=(hR.c 0 (yf X 0 rfl)).1 _ rfl;have CL:=xm (by omega);clear X hR vw xm nw CL;go_simp;exact⟨upd f 8 (h3 G 0),by simp[upd,g0],dx (O xJ) 8 _ ⟨yj rfl,trivial⟩ (by decide)⟩
  | 9,D =>
   cases D;have g8:=(hR.c 8 (yf X 8 rfl)).1 _ rfl;have CL:=xm (by omega);clear X hR vw xm nw CL;go_simp;exact⟨upd f 9 (h3 G 10),by simp[upd,g8],dx (O xJ) 9 _ ⟨yj rfl,trivial⟩ (by decide)⟩
  | 10,D =>
   cases D;have g9:=(hR.c 9 (yf X 9 rfl)).1 _ rfl;have g7:=(hR.c 7 (yf X 7 rfl)).1 _ rfl;have vH:=hR.b xA;have js:=U (zw (O qD) vH);have kI:=J (O js).box 10 rfl;have q10:=zg (O js).box 10 (by show 10<16;decide);have ox:=J (O js).box 11 rfl;have q11:=zg (O js).box 11 (by show 11<16;decide);have oO:=J (O js).box 12 rfl;have q12:=zg (O js).box 12 (by show 12<16;decide);have z13:=J (O js).box 13 rfl;have q13:=zg (O js).box 13 (by show 13<16;decide);have z14:=J (O js).box 14 rfl;have q14:=zg (O js).box 14 (by show 14<16;decide);have z15:=J (O js).box 15 rfl;have q15:=zg (O js).box 15 (by show 15<16;decide);clear X hR vw xm nw vH;go_simp;exact⟨f,by simp[g9,g7],rw_last (T:=fun V=>World.setCells V G 10 (yx id cs tkp cq cl cg)) (O xJ) xA (fun j hj hx=>⟨fun u hu=>(by subst hj;cases hu),trivial⟩)⟩
  | i+11,D=>simp at D
theorem chance_any (B:Nat)(v:Value)(l:List Int)(m n:Int)(w:World)(h:Src B w v l m)(hm:m<=1000000000)(Z:1<=n)(Q:n<=1073741824) :
  Calls Tryz.prog 39 #[h3 B 0,H n] w fun e w'=>∃b:Bool,e=yn (.bool b)/\du B w v l (m+3) w':=by
 have HS:=U h;clear h;go_enter Tryz.func39,Tryz.ntmps39;go_wp2_with fail;refine(ei B v l m n _ (O HS) hm Z Q).mono ?_;rintro e w1 ⟨y,rfl,ph,cz,hE⟩;have HE:=U hE;clear hE;go_wp2_with fail;go_ret;exact⟨_,rfl,O HE⟩
theorem fw (w:World)(o:Obj)(row:Option Nat):w.grownBy (w.alloc o) row:=
 ⟨rfl,rfl,rfl,by simp,fun k E _=>((Below.refl _ w).alloc yb o).block k E⟩
theorem src_lt {B:Nat}{w:World}{v:Value}{l:List Int}{m:Int}(h:Src B w v l m):B<w.heap.size:=yL w _ h.code
theorem gA {B:Nat}{w0 w:World}{v:Value}{l:List Int}{m:Int}(h:du B w0 v l m w)(o:Obj):du B w0 v l m (w.alloc o):=by
 have hB:=src_lt h.1;obtain⟨a,s,k1,k2,k3,k4,k5,k6⟩:=h.1.cells;have e:∀i,(w.alloc o).cell? (Y B i)=w.cell? (Y B i):=fun i=>yW _ _ (Y B i) hB;have f:∀i,(w.alloc o).frozen? (Y B i)=w.frozen? (Y B i):=fun i=>World.frozen?_of_block (a:=(Y B i)) ((fw w o none).block B hB (by simp));exact⟨⟨rd_grown h.1.rd (fw w o _) h.1.ne,h.1.ne,h.1.bts,(e 0).trans h.1.code,⟨a,s,k1,k2,k3,k4,(e 1).trans k5,(e 2).trans k6⟩,(f 1).trans h.1.free1,(f 2).trans h.1.free2⟩,zr h.2 (fw w o _)⟩
theorem rd_new {w:World}{v:Value}{l:List Int}(h:Rd w v l)(xE:l ≠ []):v.ownBlock≠some w.heap.size:=by
 obtain⟨a,cap,rfl,_,hc⟩:=h;obtain⟨b,off,rfl,xp⟩:=hc xE;have:=yL w _ (xp 0 (List.length_pos_iff.2 xE));simp only[Value.ownBlock,ne_eq,Option.some.injEq];intro e;simp only at this;omega
theorem source_any (v:Value)(l:List Int)(w:World)(h:Rd w v l)(K:Bts l) :
  Calls Tryz.prog 8 #[v] w fun e w'=>e=yn (yq w 0)/\Src w.heap.size w' v l 0/\yp w w':=by
 have HR:=U h;have HB:=U K;have HV:=U (fun xE=>rd_new h xE);obtain⟨a,cap,rfl,hl,_⟩:=h;clear K;go_enter Tryz.func8,Tryz.ntmps8;go_wp2_with fail;go_ret;refine⟨rfl,⟨rd_grown (O HR) (fw w _ _) (O HV),O HV,O HB,cell_of_row _ _ _ _ _ (0,0) (heap_alloc_new w _),⟨0,(l.length:Int) % 1000,by omega,by omega,by omega,by omega,cell_of_row _ _ _ _ _ (0,0) (heap_alloc_new w _),cell_of_row _ _ _ _ _ (0,0) (heap_alloc_new w _)⟩,?_,?_⟩,(Below.refl _ w).alloc yb _⟩
 all_goals
  unfold World.frozen?;rw[heap_alloc_new];simp
theorem own_below_grown {w w1 w':World}{B:Nat}(Z:yp w w1)(hB:w.heap.size<=B)(Q:w1.grownBy w' (some B)):yp w w':=
 Z.trans (gr_below Q hB Z.size)
def PrW (p:Nat):Prop:=tkOk p=true->1<=tk p/\tk p<=1000000
theorem reduce_chk {G B r:Nat}{vq:Value}{g:Gr}(e:Ev)(w:World)(h:GS G B r w vq g)(hi:GI g)(he:okE e=true)(E:e.kind=7)(F:e.cmd.g.size<=maxLen):Calls Tryz.prog 99 #[h3 G 0,evV e] w fun x w'=>Chk G B r vq g e w x w':=by
 have hsf:=sfl;have hG:=h.lt;have kA:=h.base;have uP:Hid (zK g e=if df g e≠0 then df g e else 0):=by show _ = _;rw[show zK g e=df g e by simp[zK,E]];split <;> simp_all
 have vJ:Hid (takG g e=⟨g.nx,setI g.l e.id e.qty,g.bg,g.cm,g.tk⟩):=by show _ = _;rw[takG,step7 E]
 have vV:Hid (∀k w',zK g e=k->k≠0->Kp G vq w w'->Chk G B r vq g e w (.panicked (brk k)) w'):=fun k w' Z Q I=>chk_no Z Q I;have vG:Hid (∀w' uB,zK g e=0->Kp G vq w w'->GS G B r w' uB (takG g e)->Chk G B r vq g e w (.returned (.tuple #[])) w'):=fun w' uB Z Q I=>chk_ok Z Q I;have qy:Hid (∀W,GS G B r W vq g->Calls Tryz.prog 118 #[h3 G 0,evV e] W fun x w'=>x=outR (df g e)/\yp W w'):=fun W hW=>start_any e W hW hi (by rw[E];decide) F;have HPC:Hid (df g e=0->∃(k:Nat) (o:Od),plc g.l e.id=k/\g.l[k]? = some o):=fun h0=>by have Q:=(fq h0).2;simp only[da,E] at Q;obtain⟨k,o,a,b,_⟩:=ref_red Q;exact⟨k,o,a,b⟩
 have HI:=U hi;generalize Chk G B r vq g e w=C at vV vG |-;generalize zK g e=ru at vV vG uP;generalize takG g e=g' at vJ vG;generalize df g e=sr at qy HPC uP;obtain⟨xn,⟨ck,cs,ct,cl,cq,ci,cp,cg⟩,id,xj,qty,xk,xi⟩:=e;simp only at E F
 try simp only at uP vJ
 unfold evV at qy;simp only at qy HPC;unfold evV;simp only;obtain⟨xS,HX⟩:=mh w (yw xn ck cs ct cl cq ci cp cg id xj qty xk xi) 78;have HS:Hid ((w.alloc (me (yw xn ck cs ct cl cq ci cp cg id xj qty xk xi).toArray 78)).heap.size=w.heap.size+1):=by show _ = _;simp
 have HG:=U (zw h xS);have HB:Hid (Kp G vq w (w.alloc (me (yw xn ck cs ct cl cq ci cp cg id xj qty xk xi).toArray 78))):=kp_of xS;clear h xS hi he E F;go_enter Tryz.func99,Tryz.ntmps99;refine mg fun hb HK=>?_;go_wp2_with fail;refine O HK _ _ ?_;clear HK;generalize (w.alloc (me (yw xn ck cs ct cl cq ci cp cg id xj qty xk xi).toArray 78))=W1 at HS HX HG HB |-;obtain⟨e0,e1,e2,e3,e4,e5,e6,e7,e8,e9,vQ,vY,qq,qF⟩:=yz (O HX);go_wp2_with fail;refine(O qy W1 (O HG)).mono ?_;rintro x w2 ⟨hx,xy⟩;have xR:=U (zl (O HX) xy (by have:=O HS;omega));have uf:=U (zw (O HG) xy);have xz:=U (dU (O HB) xy);have hS2:w.heap.size<w2.heap.size:=by have:=O HS;have:=xy.size;omega
 clear xy e0 e1 e2 e3 e4 e5 e6 e7 e8 e9 vQ vY qq qF
 by_cases hs:sr=0
 case neg =>
  rw[outR_no hs] at hx;subst hx;go_wp2_with fail;exact⟨rfl,O vV _ _ (by rw[O uP,if_pos hs]) hs (O xz)⟩
 rw[outR_ok hs] at hx;subst hx;have HSR:=U hs;have uw:=U (O uP);rw[if_neg (not_not_intro hs)] at uw;clear hs uP;obtain⟨k,o,uO,oC⟩:=O HPC (O HSR);have xE:g.l ≠ []:=by intro h;rw[h] at oC;simp at oC
 have bX:=(yH.1 oC).1;obtain⟨gb,cap,rfl,xW,hBg,hgw⟩:=iG (O uf).row xE;have hln:=(O HI).len;have qj:=U (zZ (O uf).row (by omega));have kU:=U uO;have bw:=U oC;have hkl':(k:Int)<g.l.length:=by omega
 have pP:(0:Int)<=k:=by omega
 clear uO oC xE HPC;go_wp2_with fail;have qx:Hid (yp w2 w2.drew):=(Below.refl _ _).drew;have hG2:=(O uf).lt;have c1:=J (O uf).box 1 rfl;have c2:=J (O uf).box 2 rfl;have e9:=J (O xR) 9 rfl;have vY:=J (O xR) 11 rfl;have HPO:Hid (∀V,yp w2 V->Calls Tryz.prog 126 #[.agg #[H g.nx,.slice (some (Y gb 0)) g.l.length cap],H id] V fun e w'=>e = .returned (H k)/\yp w2 w'):=fun V hV=>(iW g.nx _ g.l id V (zq (O qj) hV yb)).mono fun e w' ⟨Z,Q⟩=>⟨by rw[Z,O kU],hV.trans (Q.mono hV.size)⟩
 go_region_with (go_at_call 126;refine(O HPO _ (O qx)).mono ?_;rintro e w4 ⟨rfl,hq⟩;have y2:=(hq.cell (p:=(Y G 2)) hG2).trans c2;have y11:=(hq.cell (p:=(Y w.heap.size 11)) hS2).trans vY;have oS:=U (ie (zw (O uf) hq).row (by omega) (O bw));have z3:=(O oS).1 3 _ rfl;have q3:=(O oS).2 3 (by omega))
 all_goals
  go_end0;have HL:=oRow_left (zw (O uf) hq).row rfl (O bw) qty;refine O vG _ (.slice (some (Y gb 0)) g.l.length cap) (O uw) ?_ ?_
  ·exact kp_row (dU (O xz) hq) HL.2 rfl
  ·rw[O vJ];simp only[setI_at (O kU) (O bw)];exact gs_rowset (zw (O uf) hq) HL.1 HL.2 rfl
theorem sub_one (W:World):(binOp .sub 35 (yk 4607182418800017408) (yk 4607182418800017408)).run Tryz.prog W = .ok (yk 0) W:=by
 have h:FloatKind.f64.format.sub 4607182418800017408 4607182418800017408=some 0:=by kernel_rfl
 simp[binOp,Op.floatArith,h]
theorem neg_zero (W:World):(Op.unary .neg (yk 0)).run Tryz.prog W = .ok (yk 9223372036854775808) W:=by
 kernel_rfl
theorem one_zero (W:World):(binOp .quo 35 (yk 4607182418800017408) (yk 0)).run Tryz.prog W = .ok (yk 9218868437227405312) W:=by
 have h:FloatKind.f64.format.div 4607182418800017408 0=some 9218868437227405312:=by kernel_rfl
 simp[binOp,Op.floatArith,h]
theorem less_zero (W:World):(binOp .quo 35 (yk 13830554455654793216) (yk 0)).run Tryz.prog W = .ok (yk 18442240474082181120) W:=by
 have h:FloatKind.f64.format.div 13830554455654793216 0=some 18442240474082181120:=by kernel_rfl
 simp[binOp,Op.floatArith,h]
def nanOf (W:World):Nat:=(Question.nanBits .f64 0 0).cut (W.tape W.drawn (.nanBits .f64 0 0))
theorem zero_zero (W:World):(binOp .quo 35 (yk 0) (yk 0)).run Tryz.prog W = .ok (yk (nanOf W)) W.drew:=by
 have h:FloatKind.f64.format.div 0 0=none:=by kernel_rfl
 simp[binOp,Op.floatArith,h,nanOf,choose];rfl
theorem zero_any (w:World):Calls Tryz.prog 85 #[] w fun e w'=>e=yn (yk 0)/\w'=w:=by
 have h:=sub_one;go_enter Tryz.func85,Tryz.ntmps85;go_wp2_with fail;go_ret;exact⟨rfl,rfl⟩
theorem size_any (B:Nat)(v:Value)(l:List Int)(m most:Int)(w:World)(h:Src B w v l m)(h0:1<=most)(Z:most<=1000000) :
  Calls Tryz.prog 15 #[h3 B 0,H most] w fun e w'=>∃y:Int,e=yn (H y)/\1<=y/\y<=most/\w'=w:=by
 have c:=h.code;obtain⟨a,cap,rfl,hl,_⟩:=h.rd;clear h;go_enter Tryz.func15,Tryz.ntmps15;go_wp2_with fail
 all_goals go_ret
 all_goals exact⟨_,rfl,by omega,by omega,rfl⟩
theorem frombitsS (n:Int)(w:World):(callFunc 111 #[.int .u64 n]).run Tryz.prog w = .ok (.value (yk n.toNat)) w:=by
 rw[run_callFunc_extern (e:=Extern.MathFloatBits.float64frombits) Tryz.func111 (by kernel_rfl) (by kernel_rfl) (by kernel_rfl) (by kernel_rfl)];rfl
theorem odd_row (k:Nat)(w:World)(t:TypeId)(h:k<12) :
  ∃z:Int,-9223372036854775808<=z/\z<=9223372036854775807/\(w.alloc (.cells #[H 0,H (-1),H 1,H 2,H 63,H 64,H 65,H 4096,H 4097,H 9223372036854775807,H (-9223372036854775808),H 30] t)).cell? (yr w k)=some (H z):=by
 rcases(show k=0\/k=1\/k=2\/k=3\/k=4\/k=5\/k=6\/k=7\/k=8\/k=9\/k=10\/k=11 by omega) with rfl|rfl|rfl|rfl|rfl|rfl|rfl|rfl|rfl|rfl|rfl|rfl
 all_goals exact⟨_,by decide,by decide,cell_of_row _ _ _ _ _ (0,0) (heap_alloc_new w _)⟩
theorem odd_any (B:Nat)(v:Value)(l:List Int)(m:Int)(w:World)(h:Src B w v l m)(hm:m<=1000000000) :
  Calls Tryz.prog 84 #[h3 B 0] w fun e w'=>∃y:Int,e=yn (H y)/\-9223372036854775808<=y/\y<=9223372036854775807/\du B w v l (m+3) w':=by
 have HS:=U h;have hB:=src_lt h;clear h;go_enter Tryz.func84,Tryz.ntmps84;go_wp2_with fail;refine(ei B v l m 12 _ (gA (fP (O HS)) _).1 hm (by omega) (by omega)).mono ?_;rintro e w1 ⟨y,rfl,ph,cz,hE⟩;obtain⟨k,rfl⟩:=Int.eq_ofNat_of_zero_le ph;obtain⟨z,ub,xX,hz⟩:=odd_row k w 3 (by omega);have HE:=U (show du B w v l (m+3) w1 from⟨hE.1,zr (fw w _ _) hE.2⟩);have hc:=hE.2.cell hz (by simp;omega);clear hE hz;go_wp2_with fail;go_ret;exact⟨_,rfl,ub,xX,O HE⟩
theorem number_drawn (B:Nat)(v:Value)(l:List Int)(m:Int)(w:World)(h:Src B w v l m)(hm:m<=900000000) :
  Calls Tryz.prog 58 #[h3 B 0] w fun e w'=>∃y:Int,e=yn (H y)/\-9223372036854775808<=y/\y<=9223372036854775807/\du B w v l (m+6) w':=by
 have HS:=U h;clear h;go_enter Tryz.func58,Tryz.ntmps58;go_wp2_with fail;refine(chance_any B v l m 4 _ (O HS) (by omega) (by omega) (by omega)).mono ?_;rintro e w1 ⟨b,rfl,hE⟩;have HE:=U hE;clear hE;cases b
 ·go_wp2_with fail;refine(ei B v l _ 400 _ (O HE).1 (by omega) (by omega) (by omega)).mono ?_;rintro e w2 ⟨y,rfl,ph,cz,oa⟩;have pm:=U oa;clear oa;go_wp2_with fail;go_ret;exact⟨_,rfl,by omega,by omega,eY (O pm).1 (by omega),zr (O HE).2 (O pm).2⟩
 ·go_wp2_with fail;refine(odd_any B v l _ _ (O HE).1 (by omega)).mono ?_;rintro e w2 ⟨y,rfl,ph,cz,oa⟩;have pm:=U oa;clear oa;go_wp2_with fail;go_ret;exact⟨_,rfl,ph,cz,eY (O pm).1 (by omega),zr (O HE).2 (O pm).2⟩
end Go.Proofs.YtkofhemdefffpaaGreatDoor
