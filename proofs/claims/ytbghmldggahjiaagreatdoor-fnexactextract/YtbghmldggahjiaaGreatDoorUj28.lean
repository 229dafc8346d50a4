/-.-/
import Derived.Test.YtbghmldggahjiaaGreatDoorUj27
set_option linter.unusedVariables false
set_option maxHeartbeats 6400000
set_option maxRecDepth 100000
namespace Go.Proofs.YtbghmldggahjiaaGreatDoor
open Go.RowKit
def brV (k:Int):Value:=.iface 119 (H k)
def brk (k:Int):List PanicEntry:=[{ v:=.iface 119 (H k),recovered:=false }]
theorem eG (k:Int)(w:World):Calls Tryz.prog 96 #[.bool true,H k] w fun e w'=>e = .returned (.tuple #[])/\w'=w:=by
 go_enter Tryz.func96,Tryz.ntmps96;go_wp2_with fail;go_end0;exact⟨rfl,rfl⟩
theorem ez (k:Int)(w:World):Calls Tryz.prog 96 #[.bool false,H k] w fun e w'=>e = .panicked (brk k)/\w'=w:=by
 go_enter Tryz.func96,Tryz.ntmps96;go_wp2;exact⟨rfl,rfl,rfl⟩
theorem isJust_any (e:Ev)(d:Du)(w:World):Calls Tryz.prog 102 #[evV e,duV d] w fun r w'=>r = .returned (.bool (dO e d))/\yn w w':=by
 have hsf:=sfl;obtain⟨xl,⟨ck,cs,ct,cl,cq,ci,cp,cg⟩,id,xh,qty,xi,xg⟩:=e;obtain⟨dk,di,dot,dq,dp⟩:=d;unfold evV duV;simp only
 by_cases D:xl=dk
 ·have b1:(xl==dk)=true:=by simpa using D
  by_cases E:id=di
  ·have b2:(id==di)=true:=by simpa using E
   have hj:dO ⟨xl,⟨ck,cs,ct,cl,cq,ci,cp,cg⟩,id,xh,qty,xi,xg⟩ ⟨dk,di,dot,dq,dp⟩=(qty==dq):=by simp[dO,b1,b2]
   rw[hj];clear hj D E;go_enter Tryz.func102,Tryz.ntmps102;go_wp2_with fail;go_ret;exact⟨rfl,by go_grown⟩
  ·have b2:(id==di)=false:=by simpa using E
   have hj:dO ⟨xl,⟨ck,cs,ct,cl,cq,ci,cp,cg⟩,id,xh,qty,xi,xg⟩ ⟨dk,di,dot,dq,dp⟩=false:=by simp[dO,b1,b2]
   rw[hj];clear hj D E;go_enter Tryz.func102,Tryz.ntmps102;go_wp2_with fail;go_ret;exact⟨rfl,by go_grown⟩
 ·have b1:(xl==dk)=false:=by simpa using D
  have hj:dO ⟨xl,⟨ck,cs,ct,cl,cq,ci,cp,cg⟩,id,xh,qty,xi,xg⟩ ⟨dk,di,dot,dq,dp⟩=false:=by simp[dO,b1]
  rw[hj];clear hj D;go_enter Tryz.func102,Tryz.ntmps102;go_wp2_with fail;go_ret;exact⟨rfl,by go_grown⟩
def mI (k:Int)(f:FuncId)(b:Nat):MapEntry:={ key:=H k,val:=.func (.func f) #[] #[],born:=b }
def chkM:Array MapEntry:=#[mI 1 60 0,mI 2 61 1,mI 3 62 2,mI 4 63 3,mI 5 64 4,mI 6 65 5,mI 7 66 6,mI 8 67 7,mI 9 68 8]
def gsV (r:Nat)(vq:Value)(g:Gr):List Value:=[.map (some r),H g.nx,vq,H g.bg,H g.cm.s,H g.cm.t,H g.cm.l,H g.cm.q,yj g.cm.p,yk g.cm.g,H g.tk.id,H g.tk.side,H g.tk.ticks,H g.tk.left,H g.tk.life,yk g.tk.tag]
structure GS (G B r:Nat) (W:World) (vq:Value) (g:Gr):Prop where
 box:Bx W G (gsV r vq g)
 row:ORow W B vq g.l
 typ:∃cur,W.heap[G]? = some (.cells cur 100 (0,0))
 mp:W.heap[r]? = some (.map chkM 9)
 hG:B<=G
 hr:B<=r
section
variable {G B r:Nat} {w W W':World} {vq ux:Value} {g g':Gr}
theorem GS.lt (h:GS G B r W vq g):G<W.heap.size:=by
 obtain⟨xr,hc⟩:=h.typ;exact(yY.1 hc).1
theorem GS.rlt (h:GS G B r W vq g):r<W.heap.size:=(yY.1 h.mp).1
theorem GS.ne (h:GS G B r W vq g):r≠G:=by
 rintro rfl;obtain⟨xr,hc⟩:=h.typ;rw[h.mp] at hc;cases hc
theorem GS.nq (h:GS G B r W vq g):some G≠vq.ownBlock:=zy h.row h.typ (by decide)
theorem GS.nr (h:GS G B r W vq g):some r≠vq.ownBlock:=by
 rcases h.row.2 with⟨D,_⟩|⟨b,cap,xr,D,_,h3,_⟩
 ·rw[D];simp[Value.ownBlock]
 ·rw[D];intro e;simp only[Value.ownBlock,Option.some.injEq] at e;rw[<- e,h.mp] at h3;cases h3
theorem zu (h:GS G B r W vq g)(A:yn W W'):GS G B r W' vq g:=
 ⟨zf h.box A h.lt,zK h.row A,by obtain⟨xr,hc⟩:=h.typ;exact⟨xr,(A.block G h.lt).trans hc⟩,(A.block r h.rlt).trans h.mp,h.hG,h.hr⟩
theorem gs_set (h:GS G B r W vq g)(j:Nat)(u:Value)(hj:j<16)(he:gsV r vq g'=(gsV r vq g).set j u)(hl:g'.l=g.l):GS G B r (W.setCell (U G j) u) vq g':=
 ⟨by rw[he];exact eh h.box hj,by rw[hl];exact dT h.row h.nq j u,by obtain⟨xr,hc⟩:=h.typ;exact fd W G j u hc,(yS _ _ _ _ h.ne).trans h.mp,h.hG,h.hr⟩
theorem gs_took {l':List Od}(h:GS G B r W vq g)(hc:W'.cell? (U G 2)=some ux)(K:ORow W' B ux l')(ht:TookAt G 1 vq.ownBlock W W'):GS G B r W' ux { g with l:=l' }:=by
 refine⟨⟨fun j u hj=>?_,fun j hj=>⟨?_,?_⟩⟩,K,by obtain⟨xr,hc⟩:=h.typ;exact ht.kind _ _ _ hc,(ht.block r h.rlt h.ne h.nr).trans h.mp,h.hG,h.hr⟩
 ·rw[Nat.zero_add]
  by_cases E:j=2
  ·subst E;cases hj;exact hc
  ·rw[ht.cell j E];refine Y h.box j ?_;unfold gsV at hj |-
   match j,hj,E with
   | 0,hj,_=>exact hj
   | 1,hj,_=>exact hj
   | 2,hj,E=>exact absurd rfl E
   | j+3,hj,_=>exact hj
 ·rw[Nat.zero_add]
  by_cases E:j=2
  ·subst E;rw[hc];rfl
  ·rw[ht.cell j E];have:=(h.box.t j (by simpa[gsV] using hj)).1;rwa[Nat.zero_add] at this
 ·rw[ht.frozen];exact(h.box.t j (by simpa[gsV] using hj)).2
end
theorem fdyF_find:∀(l:List Od) (k:Nat),(fdyF l k = -1/\l.find? isDy=none) \/ ∃(i:Nat) (o:Od),fdyF l k=((k+i:Nat):Int)/\l[i]? = some o/\l.find? isDy=some o
 | [],_=>.inl ⟨rfl,rfl⟩
 | a::r,k=>by
  by_cases h:a.life=1
  ·exact .inr ⟨0,a,by rw[fdyF,if_pos h,Nat.add_zero],rfl,by simp[isDy,h]⟩
  ·rcases fdyF_find r (k+1) with⟨D,E⟩|⟨i,o,D,E,h3⟩
   ·exact .inl ⟨by rw[fdyF,if_neg h,D],by simp[isDy,h];simpa[isDy] using E⟩
   ·exact .inr ⟨i+1,o,by rw[fdyF,if_neg h,D];congr 1;omega,by simpa using E,by rw[List.find?_cons_of_neg (by simpa[isDy] using h)];exact h3⟩
theorem fdy_find (l:List Od):(fdy l = -1/\l.find? isDy=none) \/ ∃(i:Nat) (o:Od),fdy l=i/\l[i]? = some o/\l.find? isDy=some o:=by
 rcases fdyF_find l 0 with h|⟨i,o,D,E,h3⟩
 ·exact .inl h
 ·exact .inr ⟨i,o,by rw[fdy,D,Nat.zero_add],E,h3⟩
theorem dayDue_any {G B r:Nat}{vq:Value}{g:Gr}(w:World)(h:GS G B r w vq g)(hn:g.l.length<=1000):Calls Tryz.prog 109 #[xj G 0] w fun e w'=>e = .returned (duV (dayD g.l))/\yn w w':=by
 have hG:=h.lt;obtain⟨xA,HX⟩:=lY w [H 0,H 0,H 0,H 0,H 0] 123;have HS:Hid ((w.alloc (J #[H 0,H 0,H 0,H 0,H 0] 123)).heap.size=w.heap.size+1):=by show _ = _;simp
 have HG:=Q (zu h xA);have HB:=Q xA;clear h xA;obtain⟨nx,l,bg,cm,tk⟩:=g;simp only at hn |-;go_enter Tryz.func109,Tryz.ntmps109;refine lX fun ho HK=>?_;go_wp2_with fail;refine Z HK _ _ ?_;clear HK;generalize (w.alloc (J #[H 0,H 0,H 0,H 0,H 0] 123))=W1 at HX HS HG HB |-;have c2:W1.cell? (U G 2)=some vq:=Y (Z HG).box 2 rfl;have uU:=Q (zP (Z HG).row (yN hn (by decide)));go_wp2_with fail;refine(indexDay_any vq l W1 (Z uU)).mono ?_;rintro e w2 ⟨rfl,xE⟩;have ua:=Q (zu (Z HG) xE);have hz:=Z HS;have xF:=Q (zf (Z HX) xE (by omega));have xq:=Q (lW (Z HB) xE);obtain ⟨z0,z1,z2,z3,z4⟩:=q0_5 (Z xF) rfl;obtain ⟨f0,f1,f2,f3,f4⟩:=r0_5 (Z xF) rfl;have HRD2:=Q (zP (Z ua).row (yN hn (by decide)));clear c2 xE hz HX HS HG HB uU;rcases fdy_find l with⟨D,E⟩|⟨i,o,D,E,h3⟩
 ·have HD:Hid (dayD l=zDu):=by show _ = _;unfold dayD;rw[E]
  rw[D];clear D E;go_wp2_with fail
  try simp +zetaDelta only[Exit.noGoto_ret]
  change bodyPost _ _ _ _ _ (World.setCells w2 w.heap.size 0 [H 0,H 0,H 0,H 0,H 0]);have xo:Hid ((World.setCells w2 w.heap.size 0 [H 0,H 0,H 0,H 0,H 0]).rangeAt w.heap.size 0 [H 0,H 0,H 0,H 0,H 0]/\yn w (World.setCells w2 w.heap.size 0 [H 0,H 0,H 0,H 0,H 0])):=⟨(zk (Z xF) (by simp only[List.length_cons,List.length_nil])).r,zg w.heap.size ya [H 0,H 0,H 0,H 0,H 0] 0 w2 (Z xq)⟩;generalize World.setCells w2 w.heap.size 0 [H 0,H 0,H 0,H 0,H 0]=WE at xo |-;obtain⟨d0,d1,d2,d3,d4⟩:=yB (Z xo).1
  try simp only[Exit.inBlock,Exit.then]
  refine bodyPost_ret (by simp[results,Tryz.results109,go_sem,d0,d1,d2,d3,d4];try rfl) rfl ?_;exact⟨by rw[Z HD];rfl,(Z xo).2⟩
 ·have HD:Hid (dayD l=⟨9,o.id,0,o.left,0⟩):=by show _ = _;unfold dayD;rw[h3]
  obtain⟨a,cap,rfl,hl,hc⟩:=Z HRD2;obtain⟨b,off,rfl,oP,xm⟩:=hc (by rintro rfl;simp at E);obtain⟨y0,-,-,y3,-,-⟩:=zM (xm i o E);have hil:(i:Int)<l.length:=by have:=(yG.1 E).1;omega
  have vA:¬ ((i:Int)<0):=by omega
  have hi0':(0:Int)<=i:=by omega
  have c2:w2.cell? (U G 2)=some (.slice (some (U b off)) l.length cap):=Y (Z ua).box 2 rfl;rw[D];clear D E h3 hc xm HRD2;go_wp2_with fail;refine zw 19 (by kernel_rfl) (by kernel_rfl) ?_;simp only[yT,List.take_zero,yU,List.drop_zero];have c2d:w2.drew.cell? (U G 2)=some (.slice (some (U b off)) l.length cap):=c2;have y0d:w2.drew.cell? (U b (off+i*6))=some (H o.id):=y0;have y3d:w2.drew.cell? (U b (off+i*6+3))=some (H o.left):=y3;have HB2d:Hid (yn w w2.drew):=⟨(Z xq).os,(Z xq).tape,(Z xq).output,(Z xq).size,(Z xq).block⟩
  repeat still_step
  refine wpStill_nil ?_;have oh:Hid (Bx w2.drew w.heap.size [H 0,H 0,H 0,H 0,H 0]):=zm (Z xF);clear c2d y0d y3d c2 y0 y3 z0 z1 z2 z3 z4 f0 f1 f2 f3 f4 xF ua xq;generalize w2.drew=W3 at oh HB2d |-;obtain ⟨z0,z1,z2,z3,z4⟩:=q0_5 (Z oh) rfl;obtain ⟨f0,f1,f2,f3,f4⟩:=r0_5 (Z oh) rfl;go_wp2_with fail
  try simp +zetaDelta only[Exit.noGoto_ret]
  change bodyPost _ _ _ _ _ (World.setCells W3 w.heap.size 0 [H 9,H o.id,H 0,H o.left,H 0]);have xo:Hid ((World.setCells W3 w.heap.size 0 [H 9,H o.id,H 0,H o.left,H 0]).rangeAt w.heap.size 0 [H 9,H o.id,H 0,H o.left,H 0]/\yn w (World.setCells W3 w.heap.size 0 [H 9,H o.id,H 0,H o.left,H 0])):=⟨(zk (Z oh) (by simp only[List.length_cons,List.length_nil])).r,zg w.heap.size ya [H 9,H o.id,H 0,H o.left,H 0] 0 W3 (Z HB2d)⟩;generalize World.setCells W3 w.heap.size 0 [H 9,H o.id,H 0,H o.left,H 0]=WE at xo |-;obtain⟨d0,d1,d2,d3,d4⟩:=yB (Z xo).1
  try simp only[Exit.inBlock,Exit.then]
  refine bodyPost_ret (by simp[results,Tryz.results109,go_sem,d0,d1,d2,d3,d4];try rfl) rfl ?_;exact⟨by rw[Z HD];rfl,(Z xo).2⟩
def DTk (vs:List (Option Value))(base:World)(l:List Od)(sd:Int)(x:Od)(p:Prop)(V:World)(j:Nat)(v:Value):Prop:=
 (j=10->¬ p->SdV V v l sd)/\(j=11->¬ p->FrV V v l sd)/\(j=16->∃pb,v=xj pb 0/\base.heap.size<=pb/\(¬ p->V.there pb 0 6/\pb<V.heap.size)/\(p->V.rangeAt pb 0 x.vs/\pb<V.heap.size))/\∀u,vs[j]? = some (some u)->v=u
section
variable {vs:List (Option Value)} {base V V':World} {l:List Od} {sd:Int} {x:Od} {p:Prop}
theorem dtk_grow (hp:¬ p)(A:yn V V'):∀j v,DTk vs base l sd x p V j v->DTk vs base l sd x p V' j v:=by
 rintro j v ⟨D,E,h3,h4⟩;refine⟨fun hj hp=>?_,fun hj hp=>?_,fun hj=>?_,h4⟩
 ·rcases D hj hp with⟨D,b,E,h3⟩|⟨D,b,E,h3⟩
  ·exact .inl ⟨D,b,E,zH h3 (A.block _ (zZ h3))⟩
  ·exact .inr ⟨D,b,E,zH h3 (A.block _ (zZ h3))⟩
 ·rcases E hj hp with⟨D,b,E,h3⟩|⟨D,b,E,h3⟩
  ·exact .inl ⟨D,b,E,zH h3 (A.block _ (zZ h3))⟩
  ·exact .inr ⟨D,b,E,zH h3 (A.block _ (zZ h3))⟩
 ·obtain⟨pb,h5,h6,h7,h8⟩:=h3 hj;refine⟨pb,h5,h6,fun hp=>?_,fun h=>absurd h hp⟩;obtain⟨h9,vv⟩:=h7 hp;exact⟨zl h9 A vv,yJ vv A.size⟩
theorem dtk_last {v:Value}:∀j,DTk vs base l sd x False V j v->(j=16->∃pb,v=xj pb 0/\base.heap.size<=pb/\(¬ True->V'.there pb 0 6/\pb<V'.heap.size)/\(True->V'.rangeAt pb 0 x.vs/\pb<V'.heap.size))->DTk vs base l sd x True V' j v:=
 fun j h h16=>⟨fun _ hp=>absurd trivial hp,fun _ hp=>absurd trivial hp,h16,h.2.2.2⟩
end
theorem takerDue_any {G B r:Nat}{vq:Value}{g:Gr}(w:World)(h:GS G B r w vq g)(oS:0<=g.tk.left)(M:g.tk.left≠0->GoodL g.l):Calls Tryz.prog 108 #[xj G 0] w fun e w'=>e = .returned (duV (takD g.l g.cm g.tk))/\yn w w':=by
 have hsf:=sfl;have hG:=h.lt;obtain⟨xA,HX⟩:=lY w [H 0,H 0,H 0,H 0,H 0] 123;have HS:Hid ((w.alloc (J #[H 0,H 0,H 0,H 0,H 0] 123)).heap.size=w.heap.size+1):=by show _ = _;simp
 have HG:=Q (zu h xA);have HB:=Q xA;clear h xA;obtain⟨nx,l,bg,⟨ck,cs,ct,cl,cq,ci,cp,cg⟩,⟨ti,pN,tt,tl,uY,tg⟩⟩:=g;simp only at oS M |-;go_enter Tryz.func108,Tryz.ntmps108;refine lX fun ho HK=>?_;go_wp2_with fail;refine Z HK _ _ ?_;clear HK;generalize (w.alloc (J #[H 0,H 0,H 0,H 0,H 0] 123))=W1 at HX HS HG HB |-;have c10:W1.cell? (U G 10)=some (H ti):=Y (Z HG).box 10 rfl;have c13:W1.cell? (U G 13)=some (H tl):=Y (Z HG).box 13 rfl;go_wp2_with fail;go_quiet (fail);have kH:Hid (Bx (W1.drewN nq) w.heap.size [H 0,H 0,H 0,H 0,H 0]):=fN (Z HX) nq;have cN:Hid (GS G B r (W1.drewN nq) vq ⟨nx,l,bg,⟨ck,cs,ct,cl,cq,ci,cp,cg⟩,⟨ti,pN,tt,tl,uY,tg⟩⟩):=zu (Z HG) ⟨rfl,rfl,rfl,Nat.le_refl _,fun _ _=>rfl⟩;have HBB:Hid (yn w (W1.drewN nq)):=zp (Z HB) nq;have kw:Hid ((W1.drewN nq).heap.size=w.heap.size+1):=Z HS;clear HX HG HB HS c10 c13;generalize W1.drewN nq=hk at kH cN HBB kw |-
 by_cases h0:tl=0
 ·have HD:Hid (takD l ⟨ck,cs,ct,cl,cq,ci,cp,cg⟩ ⟨ti,pN,tt,tl,uY,tg⟩=zDu):=by show _ = _;unfold takD;rw[if_pos h0]
  have b0:(tl==0)=true:=by simpa using h0
  clear h0;obtain ⟨z0,z1,z2,z3,z4⟩:=q0_5 (Z kH) rfl;obtain ⟨f0,f1,f2,f3,f4⟩:=r0_5 (Z kH) rfl;go_wp2_with fail
  try simp +zetaDelta only[Exit.noGoto_ret]
  change bodyPost _ _ _ _ _ (World.setCells hk w.heap.size 0 [H 0,H 0,H 0,H 0,H 0]);have xo:Hid ((World.setCells hk w.heap.size 0 [H 0,H 0,H 0,H 0,H 0]).rangeAt w.heap.size 0 [H 0,H 0,H 0,H 0,H 0]/\yn w (World.setCells hk w.heap.size 0 [H 0,H 0,H 0,H 0,H 0])):=⟨(zk (Z kH) (by simp only[List.length_cons,List.length_nil])).r,zg w.heap.size ya [H 0,H 0,H 0,H 0,H 0] 0 hk (Z HBB)⟩;generalize World.setCells hk w.heap.size 0 [H 0,H 0,H 0,H 0,H 0]=WE at xo |-;obtain⟨d0,d1,d2,d3,d4⟩:=yB (Z xo).1
  try simp only[Exit.inBlock,Exit.then]
  refine bodyPost_ret (by simp[results,Tryz.results108,go_sem,d0,d1,d2,d3,d4];try rfl) rfl ?_;exact⟨by rw[Z HD];rfl,(Z xo).2⟩
 have jM:=Q (M h0);have b0:(tl==0)=false:=by simpa using h0
 have HLB:Hid (∀o'∈l,0<=o'.left/\o'.left<=1000000):=fun o' qF=>by have:=(Z jM).left o' qF;omega
 have qy:=Q (zP (Z cN).row (yN (Z jM).len (by decide)));generalize vh:othS cs=sd;have bT:=Q vh;generalize hq:quOf (decide (sd=1)) (zB l sd)=q;have qz:=frOf_eq q;generalize hx:hdO q=x at qz;generalize cy:hdF q=fb at qz;have aj:Hid (frOf (quOf (decide (sd=1)) (zB l sd)) = .tuple #[.agg (yw x.id x.side x.ticks x.left x.life x.tag).toArray,.bool fb]):=by show _ = _;rw[hq];exact qz
 have HFO:Hid (dN l (othS cs)=if fb=true then some x else none):=by
  show _ = _;rw[dN,vh,hq,<- hx,<- cy,hdO,hdF];cases q.head? <;> rfl
 clear vh hq qz hx cy q M;have HC1:Hid (hk.cell? (U G 1)=some (H nx)):=Y (Z cN).box 1 rfl;have HC2:Hid (hk.cell? (U G 2)=some vq):=Y (Z cN).box 2 rfl;have jw:Hid (hk.cell? (U G 4)=some (H cs)):=Y (Z cN).box 4 rfl;go_wp2_with fail;refine zL (RG hk (fun f=>{ tmps:=#[xj G 0,F,xj w.heap.size 0,H ti,H tl,f 16,f 18,xj G 0,xj G 0,xj G 10,xj G 10,H ti,xj G 0,xj G 0,xj G 10,xj G 13,H tl,H tl,.bool false,F,f 13,f 0,f 1,f 2,f 3,f 4,f 5,f 6,f 7,f 8,f 9,f 10,f 11,f 12,f 14,f 15,F,F,F,F,F,F,F,F,F,F,F,F,F,F,F,F,F,F,F,F,F,F,F,F,F,F,F,F,F,F,F,F],defers:=[] }) 17 (DTk [some (xj G 0),some (xj G 0),some (xj G 1),some (.agg #[H nx,vq]),some (xj G 0),some (xj G 0),some (xj G 4),some (xj G 4),some (H cs),some (H sd),none,none,some (.tuple #[.agg (yw x.id x.side x.ticks x.left x.life x.tag).toArray,.bool fb]),some (.tuple #[.agg (yw x.id x.side x.ticks x.left x.life x.tag).toArray,.bool fb]),some (.agg (yw x.id x.side x.ticks x.left x.life x.tag).toArray),some (.bool fb),none,none,some (.bool fb)] hk l sd x)) (by kernel_rfl) ?_ ?_ ?_
 ·exact⟨fun _=>F,rfl,⟨rfl,rfl,rfl,Nat.le_refl _,fun _ _=>rfl⟩,fun j hj=>by rw[yI] at hj;split at hj <;> simp at hj⟩
 ·rintro xx hb V ⟨f,rfl,xk,hD⟩ hx xU;have xv:=iw xU hx (by kernel_rfl);have aX:xx[17]? = some true:=xv 17 (by simp);have g18:f 18 = .bool fb:=(hD 18 (xv 18 (by simp))).2.2.2 _ rfl;obtain⟨pb,g16,hpb,-,qi⟩:=(hD 16 (xv 16 (by simp))).2.2.1 rfl;obtain⟨hrg,cF⟩:=qi aX;have uD:=Q (zu (Z cN) xk);have hss:=Z kw;have kH:=Q (zf (Z kH) xk (by omega));have xZ:=Q (lW (Z HBB) xk);have HRG:=Q hrg;dsimp only;simp only[g18,g16];generalize f 0=v0,f 1=v1,f 2=v2,f 3=v3,f 4=v4,f 5=v5,f 6=v6,f 7=v7,f 8=v8,f 9=v9,f 10=v10,f 11=v11,f 12=v12,f 13=v13,f 14=v14,f 15=v15;clear hD xv xU hx aX qi xk g16 g18 hrg f xx HC1 HC2 jw hss cN HBB kw;cases fb
  ·have HFO:Hid (dN l (othS cs)=none):=by show _ = _;have:=Z HFO;simpa using this
   have HD:Hid (takD l ⟨ck,cs,ct,cl,cq,ci,cp,cg⟩ ⟨ti,pN,tt,tl,uY,tg⟩=lftD ⟨ck,cs,ct,cl,cq,ci,cp,cg⟩ ⟨ti,pN,tt,tl,uY,tg⟩):=by show _ = _;unfold takD;rw[if_neg h0];simp only[Z HFO]
   clear h0;go_wp2_with fail;go_quiet (fail);have uK:Hid (Bx (V.drewN nq) w.heap.size [H 0,H 0,H 0,H 0,H 0]):=fN (Z kH) _;have uQ:Hid (GS G B r (V.drewN nq) vq ⟨nx,l,bg,⟨ck,cs,ct,cl,cq,ci,cp,cg⟩,⟨ti,pN,tt,tl,uY,tg⟩⟩):=zu (Z uD) ⟨rfl,rfl,rfl,Nat.le_refl _,fun _ _=>rfl⟩;have uT:Hid (yn w (V.drewN nq)):=zp (Z xZ) _;have HZ5:Hid (w.heap.size<(V.drewN nq).heap.size):=yK _ _ (Y (Z uK) 0 rfl);clear kH uD xZ;generalize V.drewN nq=zb at uK uQ uT HZ5 |-;have c4:=Y (Z uQ).box 4 rfl;have c5:=Y (Z uQ).box 5 rfl;have c6:=Y (Z uQ).box 6 rfl;have c7:=Y (Z uQ).box 7 rfl;have c8:=Y (Z uQ).box 8 rfl;have c9:=Y (Z uQ).box 9 rfl;go_wp2_with fail;refine(iC ⟨ck,cs,ct,cl,cq,ci,cp,cg⟩ zb).mono ?_;rintro e w5 ⟨rfl,xX⟩;have vE:=Q (zf (Z uK) xX (by have:=Z HZ5;omega));have kh:=Q (lW (Z uT) xX);clear xX c4 c5 c6 c7 c8 c9 uK uT uQ;obtain ⟨z0,z1,z2,z3,z4⟩:=q0_5 (Z vE) rfl;obtain ⟨f0,f1,f2,f3,f4⟩:=r0_5 (Z vE) rfl;have HQ:Hid (lftD ⟨ck,cs,ct,cl,cq,ci,cp,cg⟩ ⟨ti,pN,tt,tl,uY,tg⟩=if dP ct=true then⟨4,ti,0,tl,0⟩ else⟨5,ti,0,tl,0⟩):=rfl
   cases hre:dP ct
   ·have HQ2:Hid (lftD ⟨ck,cs,ct,cl,cq,ci,cp,cg⟩ ⟨ti,pN,tt,tl,uY,tg⟩=⟨5,ti,0,tl,0⟩):=by show _ = _;rw[Z HQ,hre];rfl
    clear hre HQ;go_wp2_with fail
    try simp +zetaDelta only[Exit.noGoto_ret]
    change bodyPost _ _ _ _ _ (World.setCells w5 w.heap.size 0 [H 5,H ti,H 0,H tl,H 0]);have xo:Hid ((World.setCells w5 w.heap.size 0 [H 5,H ti,H 0,H tl,H 0]).rangeAt w.heap.size 0 [H 5,H ti,H 0,H tl,H 0]/\yn w (World.setCells w5 w.heap.size 0 [H 5,H ti,H 0,H tl,H 0])):=⟨(zk (Z vE) (by simp only[List.length_cons,List.length_nil])).r,zg w.heap.size ya [H 5,H ti,H 0,H tl,H 0] 0 w5 (Z kh)⟩;generalize World.setCells w5 w.heap.size 0 [H 5,H ti,H 0,H tl,H 0]=WE at xo |-;obtain⟨d0,d1,d2,d3,d4⟩:=yB (Z xo).1
    try simp only[Exit.inBlock,Exit.then]
    refine bodyPost_ret (by simp[results,Tryz.results108,go_sem,d0,d1,d2,d3,d4];try rfl) rfl ?_;exact⟨by rw[Z HD,Z HQ2];rfl,(Z xo).2⟩
   ·have HQ2:Hid (lftD ⟨ck,cs,ct,cl,cq,ci,cp,cg⟩ ⟨ti,pN,tt,tl,uY,tg⟩=⟨4,ti,0,tl,0⟩):=by show _ = _;rw[Z HQ,hre];rfl
    clear hre HQ;go_wp2_with fail
    try simp +zetaDelta only[Exit.noGoto_ret]
    change bodyPost _ _ _ _ _ (World.setCells w5 w.heap.size 0 [H 4,H ti,H 0,H tl,H 0]);have xo:Hid ((World.setCells w5 w.heap.size 0 [H 4,H ti,H 0,H tl,H 0]).rangeAt w.heap.size 0 [H 4,H ti,H 0,H tl,H 0]/\yn w (World.setCells w5 w.heap.size 0 [H 4,H ti,H 0,H tl,H 0])):=⟨(zk (Z vE) (by simp only[List.length_cons,List.length_nil])).r,zg w.heap.size ya [H 4,H ti,H 0,H tl,H 0] 0 w5 (Z kh)⟩;generalize World.setCells w5 w.heap.size 0 [H 4,H ti,H 0,H tl,H 0]=WE at xo |-;obtain⟨d0,d1,d2,d3,d4⟩:=yB (Z xo).1
    try simp only[Exit.inBlock,Exit.then]
    refine bodyPost_ret (by simp[results,Tryz.results108,go_sem,d0,d1,d2,d3,d4];try rfl) rfl ?_;exact⟨by rw[Z HD,Z HQ2];rfl,(Z xo).2⟩
  ·have HFS:Hid (dN l (othS cs)=some x):=by show _ = _;have:=Z HFO;simpa using this
   have uP:Hid (GS G B r V.drew vq ⟨nx,l,bg,⟨ck,cs,ct,cl,cq,ci,cp,cg⟩,⟨ti,pN,tt,tl,uY,tg⟩⟩):=zu (Z uD) ⟨rfl,rfl,rfl,Nat.le_refl _,fun _ _=>rfl⟩;have HRG4:Hid (V.drew.rangeAt pb 0 x.vs):=Z HRG;have c4:=Y (Z uP).box 4 rfl;have c5:=Y (Z uP).box 5 rfl;have c6:=Y (Z uP).box 6 rfl;have c7:=Y (Z uP).box 7 rfl;have c8:=Y (Z uP).box 8 rfl;have c9:=Y (Z uP).box 9 rfl;obtain⟨p0,p1,p2,p3,p4,p5⟩:=zM (Z HRG4);simp only[Nat.zero_add] at p0 p1 p2 p3 p4 p5;go_wp2_with fail;refine zw 7 (by kernel_rfl) (by kernel_rfl) ?_;simp only[yT,List.take_zero,yU,List.drop_zero]
   repeat still_step
   refine wpStill_nil ?_;go_wp2_with fail;refine(meets_any ⟨ck,cs,ct,cl,cq,ci,cp,cg⟩ x V.drew).mono ?_;rintro e zb ⟨rfl,xX⟩;have hzV:w.heap.size<V.heap.size:=yK _ _ (Y (Z kH) 0 rfl);have uK:=Q (zf (zm (Z kH)) xX hzV);have uQ:=Q (zu (Z uP) xX);have uT:Hid (yn w zb):=⟨xX.os.trans (Z xZ).os,xX.tape.trans (Z xZ).tape,xX.output.trans (Z xZ).output,yN (Z xZ).size xX.size,fun k X=>(xX.block k (Nat.lt_trans X hzV)).trans ((Z xZ).block k X)⟩;have HZ5:Hid (w.heap.size<zb.heap.size):=yJ hzV xX.size;obtain⟨p0,p1,p2,p3,p4,p5⟩:=zM (zd (Z HRG4) xX cF);simp only[Nat.zero_add] at p0 p1 p2 p3 p4 p5;clear c4 c5 c6 c7 c8 c9 xX HRG4 uP hzV kH uD xZ hsf;cases hme:dY ⟨ck,cs,ct,cl,cq,ci,cp,cg⟩ x
   ·have HD:Hid (takD l ⟨ck,cs,ct,cl,cq,ci,cp,cg⟩ ⟨ti,pN,tt,tl,uY,tg⟩=lftD ⟨ck,cs,ct,cl,cq,ci,cp,cg⟩ ⟨ti,pN,tt,tl,uY,tg⟩):=by show _ = _;unfold takD;rw[if_neg h0];simp only[Z HFS,hme];rfl
    clear h0 hme p0 p1 p2 p3 p4 p5;have hsf:=sfl;have c4:=Y (Z uQ).box 4 rfl;have c5:=Y (Z uQ).box 5 rfl;have c6:=Y (Z uQ).box 6 rfl;have c7:=Y (Z uQ).box 7 rfl;have c8:=Y (Z uQ).box 8 rfl;have c9:=Y (Z uQ).box 9 rfl;go_wp2_with fail;refine(iC ⟨ck,cs,ct,cl,cq,ci,cp,cg⟩ zb).mono ?_;rintro e w5 ⟨rfl,xX⟩;have vE:=Q (zf (Z uK) xX (by have:=Z HZ5;omega));have kh:=Q (lW (Z uT) xX);clear xX c4 c5 c6 c7 c8 c9 uK uT uQ;obtain ⟨z0,z1,z2,z3,z4⟩:=q0_5 (Z vE) rfl;obtain ⟨f0,f1,f2,f3,f4⟩:=r0_5 (Z vE) rfl;have HQ:Hid (lftD ⟨ck,cs,ct,cl,cq,ci,cp,cg⟩ ⟨ti,pN,tt,tl,uY,tg⟩=if dP ct=true then⟨4,ti,0,tl,0⟩ else⟨5,ti,0,tl,0⟩):=rfl
    cases hre:dP ct
    ·have HQ2:Hid (lftD ⟨ck,cs,ct,cl,cq,ci,cp,cg⟩ ⟨ti,pN,tt,tl,uY,tg⟩=⟨5,ti,0,tl,0⟩):=by show _ = _;rw[Z HQ,hre];rfl
     clear hre HQ;go_wp2_with fail
     try simp +zetaDelta only[Exit.noGoto_ret]
     change bodyPost _ _ _ _ _ (World.setCells w5 w.heap.size 0 [H 5,H ti,H 0,H tl,H 0]);have xo:Hid ((World.setCells w5 w.heap.size 0 [H 5,H ti,H 0,H tl,H 0]).rangeAt w.heap.size 0 [H 5,H ti,H 0,H tl,H 0]/\yn w (World.setCells w5 w.heap.size 0 [H 5,H ti,H 0,H tl,H 0])):=⟨(zk (Z vE) (by simp only[List.length_cons,List.length_nil])).r,zg w.heap.size ya [H 5,H ti,H 0,H tl,H 0] 0 w5 (Z kh)⟩;generalize World.setCells w5 w.heap.size 0 [H 5,H ti,H 0,H tl,H 0]=WE at xo |-;obtain⟨d0,d1,d2,d3,d4⟩:=yB (Z xo).1
     try simp only[Exit.inBlock,Exit.then]
     refine bodyPost_ret (by simp[results,Tryz.results108,go_sem,d0,d1,d2,d3,d4];try rfl) rfl ?_;exact⟨by rw[Z HD,Z HQ2];rfl,(Z xo).2⟩
    ·have HQ2:Hid (lftD ⟨ck,cs,ct,cl,cq,ci,cp,cg⟩ ⟨ti,pN,tt,tl,uY,tg⟩=⟨4,ti,0,tl,0⟩):=by show _ = _;rw[Z HQ,hre];rfl
     clear hre HQ;go_wp2_with fail
     try simp +zetaDelta only[Exit.noGoto_ret]
     change bodyPost _ _ _ _ _ (World.setCells w5 w.heap.size 0 [H 4,H ti,H 0,H tl,H 0]);have xo:Hid ((World.setCells w5 w.heap.size 0 [H 4,H ti,H 0,H tl,H 0]).rangeAt w.heap.size 0 [H 4,H ti,H 0,H tl,H 0]/\yn w (World.setCells w5 w.heap.size 0 [H 4,H ti,H 0,H tl,H 0])):=⟨(zk (Z vE) (by simp only[List.length_cons,List.length_nil])).r,zg w.heap.size ya [H 4,H ti,H 0,H tl,H 0] 0 w5 (Z kh)⟩;generalize World.setCells w5 w.heap.size 0 [H 4,H ti,H 0,H tl,H 0]=WE at xo |-;obtain⟨d0,d1,d2,d3,d4⟩:=yB (Z xo).1
     try simp only[Exit.inBlock,Exit.then]
     refine bodyPost_ret (by simp[results,Tryz.results108,go_sem,d0,d1,d2,d3,d4];try rfl) rfl ?_;exact⟨by rw[Z HD,Z HQ2];rfl,(Z xo).2⟩
   ·have HD:Hid (takD l ⟨ck,cs,ct,cl,cq,ci,cp,cg⟩ ⟨ti,pN,tt,tl,uY,tg⟩=⟨3,ti,x.id,min tl x.left,x.ticks⟩):=by show _ = _;unfold takD;rw[if_neg h0];simp only[Z HFS,hme];rfl
    clear h0 hme uQ;generalize hq:min tl x.left=qty at HD
    have hmin:∀W,(Builtin.min_ #[3,3] 3 #[H tl,H x.left]).run Tryz.prog W = .ok (H qty) W:=fun W=>by
     rw[<- hq]
     by_cases uB:tl<=x.left
     ·rw[Int.min_eq_left uB];go_simp;omega
     ·rw[Int.min_eq_right (by omega)];go_simp
    clear hq;obtain ⟨z0,z1,z2,z3,z4⟩:=q0_5 (Z uK) rfl;obtain ⟨f0,f1,f2,f3,f4⟩:=r0_5 (Z uK) rfl;go_wp2_with fail
    try simp +zetaDelta only[Exit.noGoto_ret]
    change bodyPost _ _ _ _ _ (World.setCells zb w.heap.size 0 [H 3,H ti,H x.id,H qty,H x.ticks]);have xo:Hid ((World.setCells zb w.heap.size 0 [H 3,H ti,H x.id,H qty,H x.ticks]).rangeAt w.heap.size 0 [H 3,H ti,H x.id,H qty,H x.ticks]/\yn w (World.setCells zb w.heap.size 0 [H 3,H ti,H x.id,H qty,H x.ticks])):=⟨(zk (Z uK) (by simp only[List.length_cons,List.length_nil])).r,zg w.heap.size ya [H 3,H ti,H x.id,H qty,H x.ticks] 0 zb (Z uT)⟩;generalize World.setCells zb w.heap.size 0 [H 3,H ti,H x.id,H qty,H x.ticks]=WE at xo |-;obtain⟨d0,d1,d2,d3,d4⟩:=yB (Z xo).1
    try simp only[Exit.inBlock,Exit.then]
    refine bodyPost_ret (by simp[results,Tryz.results108,go_sem,d0,d1,d2,d3,d4];try rfl) rfl ?_;exact⟨by rw[Z HD];rfl,(Z xo).2⟩
 ·rintro xx hb V i op ⟨f,rfl,xk,hD⟩ xm hx K xJ I
  have py:i≠15->i<17->¬ xx[17]? = some true:=fun xy xH jV=>by
   have h16:=yf xm 17 rfl jV 16 rfl;have h14:=yf xm 17 rfl jV 14 rfl;have pU:=yf xm 14 rfl h14 13 rfl;have qv:=yf xm 13 rfl pU 12 rfl;have jz:=yf xm 12 rfl qv 11 rfl;have vv:=yf xm 11 rfl jz 10 rfl;have h3:=yf xm 10 rfl vv 3 rfl;have h9:=yf xm 10 rfl vv 9 rfl;have E:=yf xm 3 rfl h3 2 rfl;have D:=yf xm 2 rfl E 1 rfl;have h0:=yf xm 1 rfl D 0 rfl;have h8:=yf xm 9 rfl h9 8 rfl;have h7:=yf xm 8 rfl h8 7 rfl;have h6:=yf xm 7 rfl h7 6 rfl;have h5:=yf xm 6 rfl h6 5 rfl;have h4:=yf xm 5 rfl h5 4 rfl
   have jr:∀j,j≠15->j<17->xx[j]? = some true:=fun j hj0 hj=>by
    rcases(by omega:j=0\/j=1\/j=2\/j=3\/j=4\/j=5\/j=6\/j=7\/j=8\/j=9\/j=10\/j=11\/j=12\/j=13\/j=14\/j=16) with rfl|rfl|rfl|rfl|rfl|rfl|rfl|rfl|rfl|rfl|rfl|rfl|rfl|rfl|rfl|rfl <;> assumption
   rw[jr i xy xH] at xJ;cases xJ
  clear xm;have xM:=Q xk;have HD:=Q hD;have oF:=Q (zq (Z qy) xk ya);have xn:∀(p:Addr) u,hk.cell? p=some u->V.cell? p=some u:=fun p u hu=>(xk.cell (yK hk _ hu)).trans hu
  match i,K with
  | 0,K|4,K =>
   obtain rfl:=yb K;clear I hD xk xn;rw[if_pos (by rfl)];unfold Oper.wp;go_simp;exact⟨upd f _ (xj G 0),by simp[upd],zF (Z xM) (Z HD) (by decide) ⟨fun h=>absurd h (by decide),fun h=>absurd h (by decide),fun h=>absurd h (by decide),yi rfl⟩⟩
  | 1,K =>
   obtain rfl:=yb K;have g0:=(hD 0 (ye I 0 rfl)).2.2.2 _ rfl;clear I hD xk xn;rw[if_pos (by rfl)];unfold Oper.wp;go_simp;exact⟨upd f 1 (xj G 0),by simp[upd,g0],zF (Z xM) (Z HD) (by decide) ⟨fun h=>absurd h (by decide),fun h=>absurd h (by decide),fun h=>absurd h (by decide),yi rfl⟩⟩
  | 2,K =>
   obtain rfl:=yb K;have g1:=(hD 1 (ye I 1 rfl)).2.2.2 _ rfl;clear I hD xk xn;rw[if_pos (by rfl)];unfold Oper.wp;go_simp;exact⟨upd f 2 (xj G 1),by simp[upd,g1],zF (Z xM) (Z HD) (by decide) ⟨fun h=>absurd h (by decide),fun h=>absurd h (by decide),fun h=>absurd h (by decide),yi rfl⟩⟩
  | 3,K =>
   obtain rfl:=yb K;have g2:=(hD 2 (ye I 2 rfl)).2.2.2 _ rfl;have z1:=xn (U G 1) _ (Z HC1);have z2:=xn (U G 2) _ (Z HC2);clear I hD xk xn;rw[if_pos (by rfl)];unfold Oper.wp;go_simp;exact⟨upd f 3 (.agg #[H nx,vq]),by simp[upd,g2],zF (Z xM) (Z HD) (by decide) ⟨fun h=>absurd h (by decide),fun h=>absurd h (by decide),fun h=>absurd h (by decide),yi rfl⟩⟩
  | 5,K =>
   obtain rfl:=yb K;have g4:=(hD 4 (ye I 4 rfl)).2.2.2 _ rfl;clear I hD xk xn;rw[if_pos (by rfl)];unfold Oper.wp;go_simp;exact⟨upd f 5 (xj G 0),by simp[upd,g4],zF (Z xM) (Z HD) (by decide) ⟨fun h=>absurd h (by decide),fun h=>absurd h (by decide),fun h=>absurd h (by decide),yi rfl⟩⟩
  | 6,K =>
   obtain rfl:=yb K;have g5:=(hD 5 (ye I 5 rfl)).2.2.2 _ rfl;clear I hD xk xn;rw[if_pos (by rfl)];unfold Oper.wp;go_simp;exact⟨upd f 6 (xj G 4),by simp[upd,g5],zF (Z xM) (Z HD) (by decide) ⟨fun h=>absurd h (by decide),fun h=>absurd h (by decide),fun h=>absurd h (by decide),yi rfl⟩⟩
  | 7,K =>
   obtain rfl:=yb K;have g6:=(hD 6 (ye I 6 rfl)).2.2.2 _ rfl;clear I hD xk xn;rw[if_pos (by rfl)];unfold Oper.wp;go_simp;exact⟨upd f 7 (xj G 4),by simp[upd,g6],zF (Z xM) (Z HD) (by decide) ⟨fun h=>absurd h (by decide),fun h=>absurd h (by decide),fun h=>absurd h (by decide),yi rfl⟩⟩
  | 8,K =>
   obtain rfl:=yb K;have g7:=(hD 7 (ye I 7 rfl)).2.2.2 _ rfl;have z4:=xn (U G 4) _ (Z jw);clear I hD xk xn;rw[if_pos (by rfl)];unfold Oper.wp;go_simp;exact⟨upd f 8 (H cs),by simp[upd,g7],zF (Z xM) (Z HD) (by decide) ⟨fun h=>absurd h (by decide),fun h=>absurd h (by decide),fun h=>absurd h (by decide),yi rfl⟩⟩
  | 9,K =>
   obtain rfl:=yb K;have g8:=(hD 8 (ye I 8 rfl)).2.2.2 _ rfl;clear I hD xk xn;rw[if_pos (by rfl)];unfold Oper.wp;go_simp;refine(otherSide_any cs V).mono ?_;rw[Z bT];rintro e w4 ⟨rfl,rfl⟩;exact⟨upd f 9 (H sd),by simp[upd,g8],zF (Z xM) (Z HD) (by decide) ⟨fun h=>absurd h (by decide),fun h=>absurd h (by decide),fun h=>absurd h (by decide),yi rfl⟩⟩
  | 10,K =>
   obtain rfl:=yb K;have g3:=(hD 3 (ye I 3 rfl)).2.2.2 _ rfl;have g9:=(hD 9 (ye I 9 rfl)).2.2.2 _ rfl;have kS:=py (by omega) (by omega);clear I hD xk xn;rw[if_pos (by rfl)];unfold Oper.wp;go_simp
   by_cases vh:sd=1
   ·subst vh;refine(lz nx _ l V (Z oF) (Z jM).len (Z HLB)).mono ?_;rintro e w4 ⟨b,rfl,ht,uB,xz⟩;exact⟨upd f 10 (fo b),by simp[upd,g3,g9],ff (Z xM) (Z HD) xz (by decide) (dtk_grow kS xz) ⟨fun _ _=>.inl ⟨rfl,b,rfl,ht⟩,fun h=>absurd h (by decide),fun h=>absurd h (by decide),fun u hu=>by cases hu⟩⟩
   ·skip
    refine(ln nx sd vh _ l V (Z oF) (Z jM).len (Z HLB)).mono ?_;rintro e w4 ⟨b,rfl,ht,uB,xz⟩;exact⟨upd f 10 (fq b),by simp[upd,g3,g9],ff (Z xM) (Z HD) xz (by decide) (dtk_grow kS xz) ⟨fun _ _=>.inr ⟨vh,b,rfl,ht⟩,fun h=>absurd h (by decide),fun h=>absurd h (by decide),fun u hu=>by cases hu⟩⟩
  | 11,K =>
   obtain rfl:=yb K;have kS:=py (by omega) (by omega);rcases(hD 10 (ye I 10 rfl)).1 rfl kS with⟨vh,b,oi,ht⟩|⟨vh,b,oi,ht⟩
   ·subst vh;have HT:=Q ht;have hfl:=field0_bm b V;clear I hD xk xn ht;rw[if_pos (by rfl)];unfold Oper.wp;go_simp;exact⟨upd f 11 (.func (.func 156) #[xj b 0] #[]),by simp[upd,oi],zF (Z xM) (Z HD) (by decide) ⟨fun h=>absurd h (by decide),fun _ _=>.inl ⟨rfl,b,rfl,Z HT⟩,fun h=>absurd h (by decide),fun u hu=>by cases hu⟩⟩
   ·skip
    have HT:=Q ht;have hfl:=field0_sm b V;clear I hD xk xn ht;rw[if_pos (by rfl)];unfold Oper.wp;go_simp;exact⟨upd f 11 (.func (.func 160) #[xj b 0] #[]),by simp[upd,oi],zF (Z xM) (Z HD) (by decide) ⟨fun h=>absurd h (by decide),fun _ _=>.inr ⟨vh,b,rfl,Z HT⟩,fun h=>absurd h (by decide),fun u hu=>by cases hu⟩⟩
  | 12,K =>
   obtain rfl:=yb K;have kS:=py (by omega) (by omega);rcases(hD 11 (ye I 11 rfl)).2.1 rfl kS with⟨vh,b,jU,ht⟩|⟨vh,b,jU,ht⟩
   ·subst vh;have HT:=Q ht;have HE:Hid (frOf (quOf true (zB l 1)) = .tuple #[.agg (yw x.id x.side x.ticks x.left x.life x.tag).toArray,.bool fb]):=by show _ = _;have:=Z aj;simpa using this
    clear I hD xk xn ht;rw[if_pos (by rfl)];unfold Oper.wp;go_simp;refine(front_b b 1 (zB l 1) V (Z HT) (yN (List.length_filter_le _ _) (Z jM).len)).mono ?_;rw[Z HE];rintro e w4 ⟨rfl,xz⟩;exact⟨upd f 12 (.tuple #[.agg (yw x.id x.side x.ticks x.left x.life x.tag).toArray,.bool fb]),by simp[upd,jU],ff (Z xM) (Z HD) xz (by decide) (dtk_grow kS xz) ⟨fun h=>absurd h (by decide),fun h=>absurd h (by decide),fun h=>absurd h (by decide),yi rfl⟩⟩
   ·skip
    have HT:=Q ht;have HE:Hid (frOf (quOf false (zB l sd)) = .tuple #[.agg (yw x.id x.side x.ticks x.left x.life x.tag).toArray,.bool fb]):=by show _ = _;have:=Z aj;rw[decide_eq_false vh] at this;exact this
    clear I hD xk xn ht;rw[if_pos (by rfl)];unfold Oper.wp;go_simp;refine(front_s b sd (zB l sd) V (Z HT) (yN (List.length_filter_le _ _) (Z jM).len)).mono ?_;rw[Z HE];rintro e w4 ⟨rfl,xz⟩;exact⟨upd f 12 (.tuple #[.agg (yw x.id x.side x.ticks x.left x.life x.tag).toArray,.bool fb]),by simp[upd,jU],ff (Z xM) (Z HD) xz (by decide) (dtk_grow kS xz) ⟨fun h=>absurd h (by decide),fun h=>absurd h (by decide),fun h=>absurd h (by decide),yi rfl⟩⟩
  | 13,K =>
   obtain rfl:=yb K;have qh:=(hD 12 (ye I 12 rfl)).2.2.2 _ rfl;clear I hD xk xn;rw[if_pos (by rfl)];unfold Oper.wp;go_simp;exact⟨upd f 13 (.tuple #[.agg (yw x.id x.side x.ticks x.left x.life x.tag).toArray,.bool fb]),by simp[upd,qh],zF (Z xM) (Z HD) (by decide) ⟨fun h=>absurd h (by decide),fun h=>absurd h (by decide),fun h=>absurd h (by decide),yi rfl⟩⟩
  | 14,K =>
   obtain rfl:=yb K;have oZ:=(hD 13 (ye I 13 rfl)).2.2.2 _ rfl;clear I hD xk xn;rw[if_pos (by rfl)];unfold Oper.wp;go_simp;exact⟨upd f 14 (.agg (yw x.id x.side x.ticks x.left x.life x.tag).toArray),by simp[upd,oZ],zF (Z xM) (Z HD) (by decide) ⟨fun h=>absurd h (by decide),fun h=>absurd h (by decide),fun h=>absurd h (by decide),yi rfl⟩⟩
  | 15,K =>
   obtain rfl:=yb K;have oZ:=(hD 13 (ye I 13 rfl)).2.2.2 _ rfl;clear I hD xk xn;rw[if_pos (by rfl)];unfold Oper.wp;go_simp;exact⟨upd f 15 (.bool fb),by simp[upd,oZ],zF (Z xM) (Z HD) (by decide) ⟨fun h=>absurd h (by decide),fun h=>absurd h (by decide),fun h=>absurd h (by decide),yi rfl⟩⟩
  | 16,K =>
   obtain rfl:=yb K;have kS:=py (by omega) (by omega);clear I hD xk xn;rw[if_pos (by rfl)];unfold Oper.wp;go_simp;have xz:=lT V (J (yw 0 0 0 0 0 ⟨#[]⟩).toArray 98);exact⟨upd f 16 (xj V.heap.size 0),by simp[upd],ff (Z xM) (Z HD) xz (by decide) (dtk_grow kS xz) ⟨fun h=>absurd h (by decide),fun h=>absurd h (by decide),fun _=>⟨V.heap.size,rfl,(Z xM).size,fun _=>⟨zT V (yw 0 0 0 0 0 ⟨#[]⟩) _,by rw[zh];omega⟩,fun h=>absurd h kS⟩,fun u hu=>by cases hu⟩⟩
  | 17,K =>
   obtain rfl:=yb K;have kS:¬ xx[17]? = some true:=by rw[xJ];simp
   have bp:=(hD 14 (ye I 14 rfl)).2.2.2 _ rfl;obtain⟨pb,g16,hpb,ub,-⟩:=(hD 16 (ye I 16 rfl)).2.2.1 rfl;obtain⟨ub,cF⟩:=ub kS;have HTH:=Q ub;obtain⟨u0,y0,q0⟩:=zI ub 0 (by omega);obtain⟨u1,y1,q1⟩:=zI ub 1 (by omega);obtain⟨u2,y2,q2⟩:=zI ub 2 (by omega);obtain⟨u3,y3,q3⟩:=zI ub 3 (by omega);obtain⟨u4,y4,q4⟩:=zI ub 4 (by omega);obtain⟨u5,y5,q5⟩:=zI ub 5 (by omega);simp only[Nat.zero_add] at y0 q0 y1 q1 y2 q2 y3 q3 y4 q4 y5 q5;clear ub;clear I hD xk xn;rw[if_pos (by rfl)];unfold Oper.wp;go_simp;refine⟨upd f 17 F,by simp[upd,bp,g16],rgx_last (zg pb hpb (yw x.id x.side x.ticks x.left x.life x.tag) 0 V (Z xM)) (Z HD) xJ (fun j hj hxj h=>dtk_last j h (fun hj16=>?_)) ⟨fun h=>absurd h (by decide),fun h=>absurd h (by decide),fun h=>absurd h (by decide),fun u hu=>by cases hu⟩⟩;rw[hj16];refine⟨pb,g16,hpb,fun h=>absurd trivial h,fun _=>⟨?_,?_⟩⟩
   ·exact yX V pb 0 (yw x.id x.side x.ticks x.left x.life x.tag) (fun j hj=>Z HTH j hj)
   ·show pb<(V.setCells pb 0 (yw x.id x.side x.ticks x.left x.life x.tag)).heap.size;simp only[World.setCells,World.setCell,Array.size_modify];exact cF
  | 18,K =>
   obtain rfl:=yb K;have g15:=(hD 15 (ye I 15 rfl)).2.2.2 _ rfl;clear I hD xk xn;rw[if_pos (by rfl)];unfold Oper.wp;go_simp;exact⟨upd f 18 (.bool fb),by simp[upd,g15],zF (Z xM) (Z HD) (by decide) ⟨fun h=>absurd h (by decide),fun h=>absurd h (by decide),fun h=>absurd h (by decide),yi rfl⟩⟩
  | i+19,K=>simp at K
theorem due_any {G B r:Nat}{vq:Value}{g:Gr}(w:World)(h:GS G B r w vq g)(hi:GI g):Calls Tryz.prog 73 #[xj G 0] w fun e w'=>e = .returned (duV (dueG g))/\yn w w':=by
 have hsf:=sfl;have hG:=h.lt;obtain⟨xA,HX⟩:=lY w [H 0,H 0,H 0,H 0,H 0] 123;have HS:Hid ((w.alloc (J #[H 0,H 0,H 0,H 0,H 0] 123)).heap.size=w.heap.size+1):=by show _ = _;simp
 have HG:=Q (zu h xA);have HB:=Q xA;have HI:=Q hi;clear h xA hi;go_enter Tryz.func73,Tryz.ntmps73;refine lX fun ho HK=>?_;go_wp2_with fail;refine Z HK _ _ ?_;clear HK;generalize (w.alloc (J #[H 0,H 0,H 0,H 0,H 0] 123))=W1 at HX HS HG HB |-;have c3:W1.cell? (U G 3)=some (H g.bg):=Y (Z HG).box 3 rfl
 by_cases D:g.bg=1
 ·have HQ:Hid (duV (dueG g)=duV (takD g.l g.cm g.tk)):=by show _ = _;unfold dueG;rw[if_pos D]
  have b1:(g.bg==1)=true:=by simpa using D
  clear D;go_wp2_with fail;refine(takerDue_any W1 (Z HG) (Z HI).l0 (fun h0=>(Z HI).good (.inr h0))).mono ?_;rintro e w2 ⟨rfl,xE⟩;have xF:=Q (zf (Z HX) xE (by have:=Z HS;omega));have xq:=Q (lW (Z HB) xE);clear xE c3;generalize hd:takD g.l g.cm g.tk=d at HQ |-;clear hd;obtain⟨dk,di,dt,dq,dp⟩:=d;unfold duV at HQ |-;simp only at HQ |-;obtain ⟨z0,z1,z2,z3,z4⟩:=q0_5 (Z xF) rfl;obtain ⟨f0,f1,f2,f3,f4⟩:=r0_5 (Z xF) rfl;go_wp2_with fail
  try simp +zetaDelta only[Exit.noGoto_ret]
  change bodyPost _ _ _ _ _ (World.setCells w2 w.heap.size 0 [H dk,H di,H dt,H dq,H dp]);have xo:Hid ((World.setCells w2 w.heap.size 0 [H dk,H di,H dt,H dq,H dp]).rangeAt w.heap.size 0 [H dk,H di,H dt,H dq,H dp]/\yn w (World.setCells w2 w.heap.size 0 [H dk,H di,H dt,H dq,H dp])):=⟨(zk (Z xF) (by simp only[List.length_cons,List.length_nil])).r,zg w.heap.size (by omega) [H dk,H di,H dt,H dq,H dp] 0 w2 (Z xq)⟩;generalize World.setCells w2 w.heap.size 0 [H dk,H di,H dt,H dq,H dp]=WE at xo |-;obtain⟨d0,d1,d2,d3,d4⟩:=yB (Z xo).1
  try simp only[Exit.inBlock,Exit.then]
  refine bodyPost_ret (by simp[results,Tryz.results73,go_sem,d0,d1,d2,d3,d4];try rfl) rfl ?_;exact⟨congrArg Ending.returned (Z HQ).symm,(Z xo).2⟩
 ·have b1:(g.bg==1)=false:=by simpa using D
  by_cases h8:g.bg=8
  ·have HQ:Hid (duV (dueG g)=duV (dayD g.l)):=by show _ = _;unfold dueG;rw[if_neg D,if_pos h8]
   have b8:(g.bg==8)=true:=by simpa using h8
   clear D h8;go_wp2_with fail;refine(dayDue_any W1 (Z HG) (yN (Z HI).len (by decide))).mono ?_;rintro e w2 ⟨rfl,xE⟩;have xF:=Q (zf (Z HX) xE (by have:=Z HS;omega));have xq:=Q (lW (Z HB) xE);clear xE c3;generalize hd:dayD g.l=d at HQ |-;clear hd;obtain⟨dk,di,dt,dq,dp⟩:=d;unfold duV at HQ |-;simp only at HQ |-;obtain ⟨z0,z1,z2,z3,z4⟩:=q0_5 (Z xF) rfl;obtain ⟨f0,f1,f2,f3,f4⟩:=r0_5 (Z xF) rfl;go_wp2_with fail
   try simp +zetaDelta only[Exit.noGoto_ret]
   change bodyPost _ _ _ _ _ (World.setCells w2 w.heap.size 0 [H dk,H di,H dt,H dq,H dp]);have xo:Hid ((World.setCells w2 w.heap.size 0 [H dk,H di,H dt,H dq,H dp]).rangeAt w.heap.size 0 [H dk,H di,H dt,H dq,H dp]/\yn w (World.setCells w2 w.heap.size 0 [H dk,H di,H dt,H dq,H dp])):=⟨(zk (Z xF) (by simp only[List.length_cons,List.length_nil])).r,zg w.heap.size (by omega) [H dk,H di,H dt,H dq,H dp] 0 w2 (Z xq)⟩;generalize World.setCells w2 w.heap.size 0 [H dk,H di,H dt,H dq,H dp]=WE at xo |-;obtain⟨d0,d1,d2,d3,d4⟩:=yB (Z xo).1
   try simp only[Exit.inBlock,Exit.then]
   refine bodyPost_ret (by simp[results,Tryz.results73,go_sem,d0,d1,d2,d3,d4];try rfl) rfl ?_;exact⟨congrArg Ending.returned (Z HQ).symm,(Z xo).2⟩
  ·have HQ:Hid (dueG g=zDu):=by show _ = _;unfold dueG;rw[if_neg D,if_neg h8]
   have b8:(g.bg==8)=false:=by simpa using h8
   clear D h8;obtain ⟨z0,z1,z2,z3,z4⟩:=q0_5 (Z HX) rfl;obtain ⟨f0,f1,f2,f3,f4⟩:=r0_5 (Z HX) rfl;go_wp2_with fail
   try simp +zetaDelta only[Exit.noGoto_ret]
   change bodyPost _ _ _ _ _ (World.setCells W1 w.heap.size 0 [H 0,H 0,H 0,H 0,H 0]);have xo:Hid ((World.setCells W1 w.heap.size 0 [H 0,H 0,H 0,H 0,H 0]).rangeAt w.heap.size 0 [H 0,H 0,H 0,H 0,H 0]/\yn w (World.setCells W1 w.heap.size 0 [H 0,H 0,H 0,H 0,H 0])):=⟨(zk (Z HX) (by simp only[List.length_cons,List.length_nil])).r,zg w.heap.size (by omega) [H 0,H 0,H 0,H 0,H 0] 0 W1 (Z HB)⟩;generalize World.setCells W1 w.heap.size 0 [H 0,H 0,H 0,H 0,H 0]=WE at xo |-;obtain⟨d0,d1,d2,d3,d4⟩:=yB (Z xo).1
   try simp only[Exit.inBlock,Exit.then]
   refine bodyPost_ret (by simp[results,Tryz.results73,go_sem,d0,d1,d2,d3,d4];try rfl) rfl ?_;exact⟨by rw[Z HQ];rfl,(Z xo).2⟩
end Go.Proofs.YtbghmldggahjiaaGreatDoor
