/-.-/
import Derived.Test.YthhkapcbocgcoaaGreatDoorKj21
import Derived.Test.YthhkapcbocgcoaaGreatDoorKj23
set_option linter.unusedVariables false
set_option maxHeartbeats 6400000
set_option maxRecDepth 100000
namespace Go.Proofs.YthhkapcbocgcoaaGreatDoor
open Go.RowKit
theorem allRight_any (v:Value)(l:List Ev)(w:World)(hr:RdR Ev.vs 14 w v l)(hf:∀e∈l,e.fit)(hE:ErrT w):Calls Tryz.prog 44 #[v] w fun r w'=>r = .returned (.bool (l.all okE))/\yn w w':=by
 have hsf:=sfl;have HE:=Z hE;obtain⟨a,cap,rfl,hl,hc⟩:=hr;have HC:=Z hc;have HF:=Z hf;clear hc hf hE;go_enter Tryz.func44,Tryz.ntmps44;go_wp2_with fail;go_loopw [7] (fun iv wr=>∃k:Nat,k<=l.length/\iv=H k/\(l.take k).all okE=true/\yn w wr) (fun iv _=>l.length-(intOf iv).toNat)
 case atStart=>exact⟨0,Nat.zero_le _,rfl,rfl,Below.refl _ _⟩
 case round =>
  obtain⟨k,hk,rfl,R,E⟩:=hrel;have HB:=Z E;have HA:=Z R;clear E R
  by_cases xM:k<l.length
  ·obtain⟨e,jo⟩:∃e,l[k]? = some e:=⟨_,yI xM⟩;obtain⟨b,off,rfl,pl,xW⟩:=U HC (by intro h;rw[h] at xM;simp at xM);have xn:=zc (xW k e jo) (U HB) pl;have uL:(k:Int)<l.length:=by omega
   have qV:=U HF e (yP jo);have qR:=mn wr (Obj.cells e.vs.toArray 37);have xv:=Z (mr (U HB) qR);have HO:=Z (implOK_any e qV (wr.alloc (Obj.cells e.vs.toArray 37)) (fK (U HE) (U xv) ya))
   have HT:Hid ((l.take (k+1)).all okE=((l.take k).all okE&&okE e)):=by
    show(l.take (k+1)).all okE = _;rw[List.take_add_one,jo];simp
   have HNo:Hid (okE e=false->l.all okE=false):=fun h=>List.all_eq_false.2 ⟨e,yP jo,by rw[h];decide⟩;generalize okE e=ok at *;obtain⟨xm,⟨ck,F,ct,O,cq,ci,cp,cg⟩,id,xj,qty,xk,xh⟩:=e;unfold evV at HO;unfold Ev.vs at HO xv;simp only at HO xv;have x0:wr.cell? (J b (off+k*14)) = _:=xn 0 _ rfl;have x1:=xn 1 _ rfl;have x2:=xn 2 _ rfl;have x3:=xn 3 _ rfl;have x4:=xn 4 _ rfl;have x5:=xn 5 _ rfl;have x6:=xn 6 _ rfl;have x7:=xn 7 _ rfl;have x8:=xn 8 _ rfl;have x9:=xn 9 _ rfl;have kS:=xn 10 _ rfl;have kT:=xn 11 _ rfl;have kU:=xn 12 _ rfl;have kV:=xn 13 _ rfl;clear xn xW jo qV qR;go_wp2_with fail;refine(U HO).mono ?_;rintro r W3 ⟨rfl,xL⟩;have xI:=Z (mr (U xv) xL);clear xL x0 x1 x2 x3 x4 x5 x6 x7 x8 x9 kS kT kU kV;cases ok with
   | true =>
    go_wp2_with fail;go_roundw
    case rel=>exact⟨k+1,by omega,by go_num,by rw[U HT,U HA];rfl,U xI⟩
    case measure=>simp[intOf];omega
   | false =>
    have HNN:=Z (U HNo rfl);go_wp2_with fail;go_ret;exact⟨by rw[U HNN];rfl,U xI⟩
  ·have aC:k=l.length:=by omega
   have HY:Hid (l.all okE=true):=by
    have:=U HA;rwa[aC,List.take_length] at this
   go_wp2_with fail;go_ret;exact⟨by rw[U HY];rfl,U HB⟩
def brV (k:Int):Value:=.iface 106 (H k)
def brk (k:Int):List PanicEntry:=[{ v:=.iface 106 (H k),recovered:=false }]
theorem eO (k:Int)(w:World):Calls Tryz.prog 149 #[.bool true,H k] w fun e w'=>e = .returned (.tuple #[])/\w'=w:=by
 go_enter Tryz.func149,Tryz.ntmps149;go_wp2_with fail;go_end0;exact⟨rfl,rfl⟩
theorem eD (k:Int)(w:World):Calls Tryz.prog 149 #[.bool false,H k] w fun e w'=>e = .panicked (brk k)/\w'=w:=by
 go_enter Tryz.func149,Tryz.ntmps149;go_wp2;exact⟨rfl,rfl,rfl⟩
theorem isJust_any (e:Ev)(d:Du)(w:World):Calls Tryz.prog 155 #[evV e,duV d] w fun r w'=>r = .returned (.bool (ed e d))/\yn w w':=by
 have hsf:=sfl;obtain⟨xm,⟨ck,F,ct,O,cq,ci,cp,cg⟩,id,xj,qty,xk,xh⟩:=e;obtain⟨dk,di,dot,dq,dp⟩:=d;unfold evV duV;simp only
 by_cases D:xm=dk
 ·have b1:(xm==dk)=true:=by simpa using D
  by_cases Y:id=di
  ·have b2:(id==di)=true:=by simpa using Y
   have hj:ed ⟨xm,⟨ck,F,ct,O,cq,ci,cp,cg⟩,id,xj,qty,xk,xh⟩ ⟨dk,di,dot,dq,dp⟩=(qty==dq):=by simp[ed,b1,b2]
   rw[hj];clear hj D Y;go_enter Tryz.func155,Tryz.ntmps155;go_wp2_with fail;go_ret;exact⟨rfl,by go_grown⟩
  ·have b2:(id==di)=false:=by simpa using Y
   have hj:ed ⟨xm,⟨ck,F,ct,O,cq,ci,cp,cg⟩,id,xj,qty,xk,xh⟩ ⟨dk,di,dot,dq,dp⟩=false:=by simp[ed,b1,b2]
   rw[hj];clear hj D Y;go_enter Tryz.func155,Tryz.ntmps155;go_wp2_with fail;go_ret;exact⟨rfl,by go_grown⟩
 ·have b1:(xm==dk)=false:=by simpa using D
  have hj:ed ⟨xm,⟨ck,F,ct,O,cq,ci,cp,cg⟩,id,xj,qty,xk,xh⟩ ⟨dk,di,dot,dq,dp⟩=false:=by simp[ed,b1]
  rw[hj];clear hj D;go_enter Tryz.func155,Tryz.ntmps155;go_wp2_with fail;go_ret;exact⟨rfl,by go_grown⟩
def mI (k:Int)(f:FuncId)(b:Nat):MapEntry:={ key:=H k,val:=.func (.func f) #[] #[],born:=b }
def chkM:Array MapEntry:=#[mI 1 94 0,mI 2 95 1,mI 3 96 2,mI 4 97 3,mI 5 98 4,mI 6 99 5,mI 7 100 6,mI 8 101 7,mI 9 102 8]
def gsV (r:Nat)(vq:Value)(g:Gr):List Value:=[.map (some r),H g.nx,vq,H g.bg,H g.cm.s,H g.cm.t,H g.cm.l,H g.cm.q,yj g.cm.p,yk g.cm.g,H g.tk.id,H g.tk.side,H g.tk.ticks,H g.tk.left,H g.tk.life,yk g.tk.tag]
structure GS (G B r:Nat) (W:World) (vq:Value) (g:Gr):Prop where
 box:Bx W G (gsV r vq g)
 row:ORow W B vq g.l
 typ:∃cur,W.heap[G]? = some (.cells cur 67 (0,0))
 mp:W.heap[r]? = some (.map chkM 9)
 hG:B<=G
 hr:B<=r
section
variable {G B r:Nat} {w W W':World} {vq uB:Value} {g g':Gr}
theorem GS.lt (h:GS G B r W vq g):G<W.heap.size:=by
 obtain⟨xA,hc⟩:=h.typ;exact(yZ.1 hc).1
theorem GS.rlt (h:GS G B r W vq g):r<W.heap.size:=(yZ.1 h.mp).1
theorem GS.ne (h:GS G B r W vq g):r≠G:=by
 rintro rfl;obtain⟨xA,hc⟩:=h.typ;rw[h.mp] at hc;cases hc
theorem GS.nq (h:GS G B r W vq g):some G≠vq.ownBlock:=fC h.row h.typ (by decide)
theorem GS.nr (h:GS G B r W vq g):some r≠vq.ownBlock:=by
 rcases h.row.2 with⟨D,_⟩|⟨b,cap,xA,D,_,h3,_⟩
 ·rw[D];simp[Value.ownBlock]
 ·rw[D];intro e;simp only[Value.ownBlock,Option.some.injEq] at e;rw[<- e,h.mp] at h3;cases h3
theorem zA (h:GS G B r W vq g)(E:yn W W'):GS G B r W' vq g:=
 ⟨zg h.box E h.lt,zt h.row E,by obtain⟨xA,hc⟩:=h.typ;exact⟨xA,(E.block G h.lt).trans hc⟩,(E.block r h.rlt).trans h.mp,h.hG,h.hr⟩
theorem gs_set (h:GS G B r W vq g)(j:Nat)(u:Value)(hj:j<16)(he:gsV r vq g'=(gsV r vq g).set j u)(hl:g'.l=g.l):GS G B r (W.setCell (J G j) u) vq g':=
 ⟨by rw[he];exact fi h.box hj,by rw[hl];exact ek h.row h.nq j u,by obtain⟨xA,hc⟩:=h.typ;exact fF W G j u hc,(yT _ _ _ _ h.ne).trans h.mp,h.hG,h.hr⟩
theorem gs_took {l':List Od}(h:GS G B r W vq g)(hc:W'.cell? (J G 2)=some uB)(Q:ORow W' B uB l')(ht:TookAt G 1 vq.ownBlock W W'):GS G B r W' uB { g with l:=l' }:=by
 refine⟨⟨fun j u hj=>?_,fun j hj=>⟨?_,?_⟩⟩,Q,by obtain⟨xA,hc⟩:=h.typ;exact ht.kind _ _ _ hc,(ht.block r h.rlt h.ne h.nr).trans h.mp,h.hG,h.hr⟩
 ·rw[Nat.zero_add]
  by_cases Y:j=2
  ·subst Y;cases hj;exact hc
  ·rw[ht.cell j Y];refine A h.box j ?_;unfold gsV at hj |-
   match j,hj,Y with
   | 0,hj,_=>exact hj
   | 1,hj,_=>exact hj
   | 2,hj,Y=>exact absurd rfl Y
   | j+3,hj,_=>exact hj
 ·rw[Nat.zero_add]
  by_cases Y:j=2
  ·subst Y;rw[hc];rfl
  ·rw[ht.cell j Y];have:=(h.box.t j (by simpa[gsV] using hj)).1;rwa[Nat.zero_add] at this
 ·rw[ht.frozen];exact(h.box.t j (by simpa[gsV] using hj)).2
end
theorem fdyF_find:∀(l:List Od) (k:Nat),(fdyF l k = -1/\l.find? isDy=none) \/ ∃(i:Nat) (o:Od),fdyF l k=((k+i:Nat):Int)/\l[i]? = some o/\l.find? isDy=some o
 | [],_=>.inl ⟨rfl,rfl⟩
 | a::r,k=>by
  by_cases h:a.life=1
  ·exact .inr ⟨0,a,by rw[fdyF,if_pos h,Nat.add_zero],rfl,by simp[isDy,h]⟩
  ·rcases fdyF_find r (k+1) with⟨D,Y⟩|⟨i,o,D,Y,h3⟩
   ·exact .inl ⟨by rw[fdyF,if_neg h,D],by simp[isDy,h];simpa[isDy] using Y⟩
   ·exact .inr ⟨i+1,o,by rw[fdyF,if_neg h,D];congr 1;omega,by simpa using Y,by rw[List.find?_cons_of_neg (by simpa[isDy] using h)];exact h3⟩
theorem fdy_find (l:List Od):(fdy l = -1/\l.find? isDy=none) \/ ∃(i:Nat) (o:Od),fdy l=i/\l[i]? = some o/\l.find? isDy=some o:=by
 rcases fdyF_find l 0 with h|⟨i,o,D,Y,h3⟩
 ·exact .inl h
 ·exact .inr ⟨i,o,by rw[fdy,D,Nat.zero_add],Y,h3⟩
theorem dayDue_any {G B r:Nat}{vq:Value}{g:Gr}(w:World)(h:GS G B r w vq g)(hn:g.l.length<=1000):Calls Tryz.prog 53 #[I G 0] w fun e w'=>e = .returned (duV (dayD g.l))/\yn w w':=by
 have hG:=h.lt;obtain⟨xD,HX⟩:=mu w [H 0,H 0,H 0,H 0,H 0] 39;have HS:Hid ((w.alloc (mq #[H 0,H 0,H 0,H 0,H 0] 39)).heap.size=w.heap.size+1):=by show _ = _;simp
 have HG:=Z (zA h xD);have HB:=Z xD;clear h xD;obtain⟨nx,l,bg,cm,tk⟩:=g;simp only at hn |-;go_enter Tryz.func53,Tryz.ntmps53;refine ms fun mR HK=>?_;go_wp2_with fail;refine U HK _ _ ?_;clear HK;generalize (w.alloc (mq #[H 0,H 0,H 0,H 0,H 0] 39))=W1 at HX HS HG HB |-;have c2:W1.cell? (J G 2)=some vq:=A (U HG).box 2 rfl;have vn:=Z (zI (U HG).row (yO hn (by decide)));go_wp2_with fail;refine(indexDay_any vq l W1 (U vn)).mono ?_;rintro e w2 ⟨rfl,xO⟩;have uj:=Z (zA (U HG) xO);have hz:=U HS;have xG:=Z (zg (U HX) xO (by omega));have xv:=Z (mr (U HB) xO);obtain ⟨z0,z1,z2,z3,z4⟩:=q0_5 (U xG) rfl;obtain ⟨f0,f1,f2,f3,f4⟩:=r0_5 (U xG) rfl;have HRD2:=Z (zI (U uj).row (yO hn (by decide)));clear c2 xO hz HX HS HG HB vn;rcases fdy_find l with⟨D,Y⟩|⟨i,o,D,Y,h3⟩
 ·have HD:Hid (dayD l=zDu):=by show _ = _;unfold dayD;rw[Y]
  rw[D];clear D Y;go_wp2_with fail
  try simp +zetaDelta only[Exit.noGoto_ret]
  change bodyPost _ _ _ _ _ (World.setCells w2 w.heap.size 0 [H 0,H 0,H 0,H 0,H 0]);have xp:Hid ((World.setCells w2 w.heap.size 0 [H 0,H 0,H 0,H 0,H 0]).rangeAt w.heap.size 0 [H 0,H 0,H 0,H 0,H 0]/\yn w (World.setCells w2 w.heap.size 0 [H 0,H 0,H 0,H 0,H 0])):=⟨(zq (U xG) (by simp only[List.length_cons,List.length_nil])).r,zh w.heap.size ya [H 0,H 0,H 0,H 0,H 0] 0 w2 (U xv)⟩;generalize World.setCells w2 w.heap.size 0 [H 0,H 0,H 0,H 0,H 0]=WE at xp |-;obtain⟨d0,d1,d2,d3,d4⟩:=yC (U xp).1
  try simp only[Exit.inBlock,Exit.then]
  refine bodyPost_ret (by simp[results,Tryz.results53,go_sem,d0,d1,d2,d3,d4];try rfl) rfl ?_;exact⟨by rw[U HD];rfl,(U xp).2⟩
 ·have HD:Hid (dayD l=⟨9,o.id,0,o.left,0⟩):=by show _ = _;unfold dayD;rw[h3]
  obtain⟨a,cap,rfl,hl,hc⟩:=U HRD2;obtain⟨b,off,rfl,pl,xn⟩:=hc (by rintro rfl;simp at Y);obtain⟨y0,-,-,y3,-,-⟩:=zF (xn i o Y);have hil:(i:Int)<l.length:=by have:=(yH.1 Y).1;omega
  have vk:¬ ((i:Int)<0):=by omega
  have hi0':(0:Int)<=i:=by omega
  have c2:w2.cell? (J G 2)=some (.slice (some (J b off)) l.length cap):=A (U uj).box 2 rfl;rw[D];clear D Y h3 hc xn HRD2;go_wp2_with fail;refine zD 19 (by kernel_rfl) (by kernel_rfl) ?_;simp only[yU,List.take_zero,yV,List.drop_zero];have c2d:w2.drew.cell? (J G 2)=some (.slice (some (J b off)) l.length cap):=c2;have y0d:w2.drew.cell? (J b (off+i*6))=some (H o.id):=y0;have y3d:w2.drew.cell? (J b (off+i*6+3))=some (H o.left):=y3;have HB2d:Hid (yn w w2.drew):=⟨(U xv).os,(U xv).tape,(U xv).output,(U xv).size,(U xv).block⟩
  repeat still_step
  refine wpStill_nil ?_;have kE:Hid (Bx w2.drew w.heap.size [H 0,H 0,H 0,H 0,H 0]):=zM (U xG);clear c2d y0d y3d c2 y0 y3 z0 z1 z2 z3 z4 f0 f1 f2 f3 f4 xG uj xv;generalize w2.drew=W3 at kE HB2d |-;obtain ⟨z0,z1,z2,z3,z4⟩:=q0_5 (U kE) rfl;obtain ⟨f0,f1,f2,f3,f4⟩:=r0_5 (U kE) rfl;go_wp2_with fail
  try simp +zetaDelta only[Exit.noGoto_ret]
  change bodyPost _ _ _ _ _ (World.setCells W3 w.heap.size 0 [H 9,H o.id,H 0,H o.left,H 0]);have xp:Hid ((World.setCells W3 w.heap.size 0 [H 9,H o.id,H 0,H o.left,H 0]).rangeAt w.heap.size 0 [H 9,H o.id,H 0,H o.left,H 0]/\yn w (World.setCells W3 w.heap.size 0 [H 9,H o.id,H 0,H o.left,H 0])):=⟨(zq (U kE) (by simp only[List.length_cons,List.length_nil])).r,zh w.heap.size ya [H 9,H o.id,H 0,H o.left,H 0] 0 W3 (U HB2d)⟩;generalize World.setCells W3 w.heap.size 0 [H 9,H o.id,H 0,H o.left,H 0]=WE at xp |-;obtain⟨d0,d1,d2,d3,d4⟩:=yC (U xp).1
  try simp only[Exit.inBlock,Exit.then]
  refine bodyPost_ret (by simp[results,Tryz.results53,go_sem,d0,d1,d2,d3,d4];try rfl) rfl ?_;exact⟨by rw[U HD];rfl,(U xp).2⟩
def DTk (vs:List (Option Value))(base:World)(l:List Od)(sd:Int)(x:Od)(p:Prop)(V:World)(j:Nat)(v:Value):Prop:=
 (j=10->¬ p->SdV V v l sd)/\(j=11->¬ p->FrV V v l sd)/\(j=16->∃pb,v=I pb 0/\base.heap.size<=pb/\(¬ p->V.there pb 0 6/\pb<V.heap.size)/\(p->V.rangeAt pb 0 x.vs/\pb<V.heap.size))/\∀u,vs[j]? = some (some u)->v=u
section
variable {vs:List (Option Value)} {base V V':World} {l:List Od} {sd:Int} {x:Od} {p:Prop}
theorem dtk_grow (hp:¬ p)(E:yn V V'):∀j v,DTk vs base l sd x p V j v->DTk vs base l sd x p V' j v:=by
 rintro j v ⟨D,Y,h3,h4⟩;refine⟨fun hj hp=>?_,fun hj hp=>?_,fun hj=>?_,h4⟩
 ·rcases D hj hp with⟨D,b,Y,h3⟩|⟨D,b,Y,h3⟩
  ·exact .inl ⟨D,b,Y,zx h3 (E.block _ (zL h3))⟩
  ·exact .inr ⟨D,b,Y,zx h3 (E.block _ (zL h3))⟩
 ·rcases Y hj hp with⟨D,b,Y,h3⟩|⟨D,b,Y,h3⟩
  ·exact .inl ⟨D,b,Y,zx h3 (E.block _ (zL h3))⟩
  ·exact .inr ⟨D,b,Y,zx h3 (E.block _ (zL h3))⟩
 ·obtain⟨pb,h5,h6,h7,h8⟩:=h3 hj;refine⟨pb,h5,h6,fun hp=>?_,fun h=>absurd h hp⟩;obtain⟨h9,qi⟩:=h7 hp;exact⟨zl h9 E qi,yK qi E.size⟩
theorem dtk_last {v:Value}:∀j,DTk vs base l sd x False V j v->(j=16->∃pb,v=I pb 0/\base.heap.size<=pb/\(¬ True->V'.there pb 0 6/\pb<V'.heap.size)/\(True->V'.rangeAt pb 0 x.vs/\pb<V'.heap.size))->DTk vs base l sd x True V' j v:=
 fun j h dC=>⟨fun _ hp=>absurd trivial hp,fun _ hp=>absurd trivial hp,dC,h.2.2.2⟩
end
theorem takerDue_any {G B r:Nat}{vq:Value}{g:Gr}(w:World)(h:GS G B r w vq g)(jN:0<=g.tk.left)(X:g.tk.left≠0->GoodL g.l):Calls Tryz.prog 52 #[I G 0] w fun e w'=>e = .returned (duV (takD g.l g.cm g.tk))/\yn w w':=by
 have hsf:=sfl;have hG:=h.lt;obtain⟨xD,HX⟩:=mu w [H 0,H 0,H 0,H 0,H 0] 39;have HS:Hid ((w.alloc (mq #[H 0,H 0,H 0,H 0,H 0] 39)).heap.size=w.heap.size+1):=by show _ = _;simp
 have HG:=Z (zA h xD);have HB:=Z xD;clear h xD;obtain⟨nx,l,bg,⟨ck,F,ct,O,cq,ci,cp,cg⟩,⟨ti,pK,tt,tl,pJ,tg⟩⟩:=g;simp only at jN X |-;go_enter Tryz.func52,Tryz.ntmps52;refine ms fun mR HK=>?_;go_wp2_with fail;refine U HK _ _ ?_;clear HK;generalize (w.alloc (mq #[H 0,H 0,H 0,H 0,H 0] 39))=W1 at HX HS HG HB |-;have c10:W1.cell? (J G 10)=some (H ti):=A (U HG).box 10 rfl;have c13:W1.cell? (J G 13)=some (H tl):=A (U HG).box 13 rfl;go_wp2_with fail;go_quiet (fail);have kf:Hid (Bx (W1.drewN nq) w.heap.size [H 0,H 0,H 0,H 0,H 0]):=gL (U HX) nq;have HGG:Hid (GS G B r (W1.drewN nq) vq ⟨nx,l,bg,⟨ck,F,ct,O,cq,ci,cp,cg⟩,⟨ti,pK,tt,tl,pJ,tg⟩⟩):=zA (U HG) ⟨rfl,rfl,rfl,Nat.le_refl _,fun _ _=>rfl⟩;have HBB:Hid (yn w (W1.drewN nq)):=zR (U HB) nq;have HSS:Hid ((W1.drewN nq).heap.size=w.heap.size+1):=U HS;clear HX HG HB HS c10 c13;generalize W1.drewN nq=hg at kf HGG HBB HSS |-
 by_cases h0:tl=0
 ·have HD:Hid (takD l ⟨ck,F,ct,O,cq,ci,cp,cg⟩ ⟨ti,pK,tt,tl,pJ,tg⟩=zDu):=by show _ = _;unfold takD;rw[if_pos h0]
  have b0:(tl==0)=true:=by simpa using h0
  clear h0;obtain ⟨z0,z1,z2,z3,z4⟩:=q0_5 (U kf) rfl;obtain ⟨f0,f1,f2,f3,f4⟩:=r0_5 (U kf) rfl;go_wp2_with fail
  try simp +zetaDelta only[Exit.noGoto_ret]
  change bodyPost _ _ _ _ _ (World.setCells hg w.heap.size 0 [H 0,H 0,H 0,H 0,H 0]);have xp:Hid ((World.setCells hg w.heap.size 0 [H 0,H 0,H 0,H 0,H 0]).rangeAt w.heap.size 0 [H 0,H 0,H 0,H 0,H 0]/\yn w (World.setCells hg w.heap.size 0 [H 0,H 0,H 0,H 0,H 0])):=⟨(zq (U kf) (by simp only[List.length_cons,List.length_nil])).r,zh w.heap.size ya [H 0,H 0,H 0,H 0,H 0] 0 hg (U HBB)⟩;generalize World.setCells hg w.heap.size 0 [H 0,H 0,H 0,H 0,H 0]=WE at xp |-;obtain⟨d0,d1,d2,d3,d4⟩:=yC (U xp).1
  try simp only[Exit.inBlock,Exit.then]
  refine bodyPost_ret (by simp[results,Tryz.results52,go_sem,d0,d1,d2,d3,d4];try rfl) rfl ?_;exact⟨by rw[U HD];rfl,(U xp).2⟩
 have qQ:=Z (X h0);have b0:(tl==0)=false:=by simpa using h0
 have HLB:Hid (∀o'∈l,0<=o'.left/\o'.left<=1000000):=fun o' vW=>by have:=(U qQ).left o' vW;omega
 have HRW:=Z (zI (U HGG).row (yO (U qQ).len (by decide)));generalize uX:othS F=sd;have cy:=Z uX;generalize hq:quOf (decide (sd=1)) (zv l sd)=q;have oD:=frOf_eq q;generalize hx:hdO q=x at oD;generalize pB:hdF q=fb at oD;have HFR:Hid (frOf (quOf (decide (sd=1)) (zv l sd)) = .tuple #[.agg (yw x.id x.side x.ticks x.left x.life x.tag).toArray,.bool fb]):=by show _ = _;rw[hq];exact oD
 have HFO:Hid (dZ l (othS F)=if fb=true then some x else none):=by
  show _ = _;rw[dZ,uX,hq,<- hx,<- pB,hdO,hdF];cases q.head? <;> rfl
 clear uX hq oD hx pB q X;have HC1:Hid (hg.cell? (J G 1)=some (H nx)):=A (U HGG).box 1 rfl;have dm:Hid (hg.cell? (J G 2)=some vq):=A (U HGG).box 2 rfl;have HC4:Hid (hg.cell? (J G 4)=some (H F)):=A (U HGG).box 4 rfl;go_wp2_with fail;refine zu (RG hg (fun f=>{ tmps:=#[I G 0,M,I w.heap.size 0,H ti,H tl,f 16,f 18,I G 0,I G 0,I G 10,I G 10,H ti,I G 0,I G 0,I G 10,I G 13,H tl,H tl,.bool false,M,f 13,f 0,f 1,f 2,f 3,f 4,f 5,f 6,f 7,f 8,f 9,f 10,f 11,f 12,f 14,f 15,M,M,M,M,M,M,M,M,M,M,M,M,M,M,M,M,M,M,M,M,M,M,M,M,M,M,M,M,M,M,M,M],defers:=[] }) 17 (DTk [some (I G 0),some (I G 0),some (I G 1),some (.agg #[H nx,vq]),some (I G 0),some (I G 0),some (I G 4),some (I G 4),some (H F),some (H sd),none,none,some (.tuple #[.agg (yw x.id x.side x.ticks x.left x.life x.tag).toArray,.bool fb]),some (.tuple #[.agg (yw x.id x.side x.ticks x.left x.life x.tag).toArray,.bool fb]),some (.agg (yw x.id x.side x.ticks x.left x.life x.tag).toArray),some (.bool fb),none,none,some (.bool fb)] hg l sd x)) (by kernel_rfl) ?_ ?_ ?_
 ·exact⟨fun _=>M,rfl,⟨rfl,rfl,rfl,Nat.le_refl _,fun _ _=>rfl⟩,fun j hj=>by rw[yJ] at hj;split at hj <;> simp at hj⟩
 ·rintro xx zb V ⟨f,rfl,xo,hD⟩ hx xS;have xq:=fP xS hx (by kernel_rfl);have bE:xx[17]? = some true:=xq 17 (by simp);have g18:f 18 = .bool fb:=(hD 18 (xq 18 (by simp))).2.2.2 _ rfl;obtain⟨pb,g16,hpb,-,qv⟩:=(hD 16 (xq 16 (by simp))).2.2.1 rfl;obtain⟨po,cU⟩:=qv bE;have vw:=Z (zA (U HGG) xo);have hss:=U HSS;have kf:=Z (zg (U kf) xo (by omega));have xI:=Z (mr (U HBB) xo);have dx:=Z po;dsimp only;simp only[g18,g16];generalize f 0=v0,f 1=v1,f 2=v2,f 3=v3,f 4=v4,f 5=v5,f 6=v6,f 7=v7,f 8=v8,f 9=v9,f 10=v10,f 11=v11,f 12=v12,f 13=v13,f 14=v14,f 15=v15;clear hD xq xS hx bE qv xo g16 g18 po f xx HC1 dm HC4 hss HGG HBB HSS;cases fb
  ·have HFO:Hid (dZ l (othS F)=none):=by show _ = _;have:=U HFO;simpa using this
   have HD:Hid (takD l ⟨ck,F,ct,O,cq,ci,cp,cg⟩ ⟨ti,pK,tt,tl,pJ,tg⟩=lftD ⟨ck,F,ct,O,cq,ci,cp,cg⟩ ⟨ti,pK,tt,tl,pJ,tg⟩):=by show _ = _;unfold takD;rw[if_neg h0];simp only[U HFO]
   clear h0;go_wp2_with fail;go_quiet (fail);have vj:Hid (Bx (V.drewN nq) w.heap.size [H 0,H 0,H 0,H 0,H 0]):=gL (U kf) _;have xT:Hid (GS G B r (V.drewN nq) vq ⟨nx,l,bg,⟨ck,F,ct,O,cq,ci,cp,cg⟩,⟨ti,pK,tt,tl,pJ,tg⟩⟩):=zA (U vw) ⟨rfl,rfl,rfl,Nat.le_refl _,fun _ _=>rfl⟩;have ui:Hid (yn w (V.drewN nq)):=zR (U xI) _;have HZ5:Hid (w.heap.size<(V.drewN nq).heap.size):=yL _ _ (A (U vj) 0 rfl);clear kf vw xI;generalize V.drewN nq=h2 at vj xT ui HZ5 |-;have c4:=A (U xT).box 4 rfl;have c5:=A (U xT).box 5 rfl;have c6:=A (U xT).box 6 rfl;have c7:=A (U xT).box 7 rfl;have c8:=A (U xT).box 8 rfl;have c9:=A (U xT).box 9 rfl;go_wp2_with fail;refine(iL ⟨ck,F,ct,O,cq,ci,cp,cg⟩ h2).mono ?_;rintro e w5 ⟨rfl,uc⟩;have vJ:=Z (zg (U vj) uc (by have:=U HZ5;omega));have vZ:=Z (mr (U ui) uc);clear uc c4 c5 c6 c7 c8 c9 vj ui xT;obtain ⟨z0,z1,z2,z3,z4⟩:=q0_5 (U vJ) rfl;obtain ⟨f0,f1,f2,f3,f4⟩:=r0_5 (U vJ) rfl;have HQ:Hid (lftD ⟨ck,F,ct,O,cq,ci,cp,cg⟩ ⟨ti,pK,tt,tl,pJ,tg⟩=if dT ct=true then⟨4,ti,0,tl,0⟩ else⟨5,ti,0,tl,0⟩):=rfl
   cases jP:dT ct
   ·have pR:Hid (lftD ⟨ck,F,ct,O,cq,ci,cp,cg⟩ ⟨ti,pK,tt,tl,pJ,tg⟩=⟨5,ti,0,tl,0⟩):=by show _ = _;rw[U HQ,jP];rfl
    clear jP HQ;go_wp2_with fail
    try simp +zetaDelta only[Exit.noGoto_ret]
    change bodyPost _ _ _ _ _ (World.setCells w5 w.heap.size 0 [H 5,H ti,H 0,H tl,H 0]);have xp:Hid ((World.setCells w5 w.heap.size 0 [H 5,H ti,H 0,H tl,H 0]).rangeAt w.heap.size 0 [H 5,H ti,H 0,H tl,H 0]/\yn w (World.setCells w5 w.heap.size 0 [H 5,H ti,H 0,H tl,H 0])):=⟨(zq (U vJ) (by simp only[List.length_cons,List.length_nil])).r,zh w.heap.size ya [H 5,H ti,H 0,H tl,H 0] 0 w5 (U vZ)⟩;generalize World.setCells w5 w.heap.size 0 [H 5,H ti,H 0,H tl,H 0]=WE at xp |-;obtain⟨d0,d1,d2,d3,d4⟩:=yC (U xp).1
    try simp only[Exit.inBlock,Exit.then]
    refine bodyPost_ret (by simp[results,Tryz.results52,go_sem,d0,d1,d2,d3,d4];try rfl) rfl ?_;exact⟨by rw[U HD,U pR];rfl,(U xp).2⟩
   ·have pR:Hid (lftD ⟨ck,F,ct,O,cq,ci,cp,cg⟩ ⟨ti,pK,tt,tl,pJ,tg⟩=⟨4,ti,0,tl,0⟩):=by show _ = _;rw[U HQ,jP];rfl
    clear jP HQ;go_wp2_with fail
    try simp +zetaDelta only[Exit.noGoto_ret]
    change bodyPost _ _ _ _ _ (World.setCells w5 w.heap.size 0 [H 4,H ti,H 0,H tl,H 0]);have xp:Hid ((World.setCells w5 w.heap.size 0 [H 4,H ti,H 0,H tl,H 0]).rangeAt w.heap.size 0 [H 4,H ti,H 0,H tl,H 0]/\yn w (World.setCells w5 w.heap.size 0 [H 4,H ti,H 0,H tl,H 0])):=⟨(zq (U vJ) (by simp only[List.length_cons,List.length_nil])).r,zh w.heap.size ya [H 4,H ti,H 0,H tl,H 0] 0 w5 (U vZ)⟩;generalize World.setCells w5 w.heap.size 0 [H 4,H ti,H 0,H tl,H 0]=WE at xp |-;obtain⟨d0,d1,d2,d3,d4⟩:=yC (U xp).1
    try simp only[Exit.inBlock,Exit.then]
    refine bodyPost_ret (by simp[results,Tryz.results52,go_sem,d0,d1,d2,d3,d4];try rfl) rfl ?_;exact⟨by rw[U HD,U pR];rfl,(U xp).2⟩
  ·have HFS:Hid (dZ l (othS F)=some x):=by show _ = _;have:=U HFO;simpa using this
   have xU:Hid (GS G B r V.drew vq ⟨nx,l,bg,⟨ck,F,ct,O,cq,ci,cp,cg⟩,⟨ti,pK,tt,tl,pJ,tg⟩⟩):=zA (U vw) ⟨rfl,rfl,rfl,Nat.le_refl _,fun _ _=>rfl⟩;have HRG4:Hid (V.drew.rangeAt pb 0 x.vs):=U dx;have c4:=A (U xU).box 4 rfl;have c5:=A (U xU).box 5 rfl;have c6:=A (U xU).box 6 rfl;have c7:=A (U xU).box 7 rfl;have c8:=A (U xU).box 8 rfl;have c9:=A (U xU).box 9 rfl;obtain⟨p0,p1,p2,p3,p4,p5⟩:=zF (U HRG4);simp only[Nat.zero_add] at p0 p1 p2 p3 p4 p5;go_wp2_with fail;refine zD 7 (by kernel_rfl) (by kernel_rfl) ?_;simp only[yU,List.take_zero,yV,List.drop_zero]
   repeat still_step
   refine wpStill_nil ?_;go_wp2_with fail;refine(meets_any ⟨ck,F,ct,O,cq,ci,cp,cg⟩ x V.drew).mono ?_;rintro e h2 ⟨rfl,uc⟩;have hzV:w.heap.size<V.heap.size:=yL _ _ (A (U kf) 0 rfl);have vj:=Z (zg (zM (U kf)) uc hzV);have xT:=Z (zA (U xU) uc);have ui:Hid (yn w h2):=⟨uc.os.trans (U xI).os,uc.tape.trans (U xI).tape,uc.output.trans (U xI).output,yO (U xI).size uc.size,fun k hk=>(uc.block k (Nat.lt_trans hk hzV)).trans ((U xI).block k hk)⟩;have HZ5:Hid (w.heap.size<h2.heap.size):=yK hzV uc.size;obtain⟨p0,p1,p2,p3,p4,p5⟩:=zF (zc (U HRG4) uc cU);simp only[Nat.zero_add] at p0 p1 p2 p3 p4 p5;clear c4 c5 c6 c7 c8 c9 uc HRG4 xU hzV kf vw xI hsf;cases hme:eB ⟨ck,F,ct,O,cq,ci,cp,cg⟩ x
   ·have HD:Hid (takD l ⟨ck,F,ct,O,cq,ci,cp,cg⟩ ⟨ti,pK,tt,tl,pJ,tg⟩=lftD ⟨ck,F,ct,O,cq,ci,cp,cg⟩ ⟨ti,pK,tt,tl,pJ,tg⟩):=by show _ = _;unfold takD;rw[if_neg h0];simp only[U HFS,hme];rfl
    clear h0 hme p0 p1 p2 p3 p4 p5;have hsf:=sfl;have c4:=A (U xT).box 4 rfl;have c5:=A (U xT).box 5 rfl;have c6:=A (U xT).box 6 rfl;have c7:=A (U xT).box 7 rfl;have c8:=A (U xT).box 8 rfl;have c9:=A (U xT).box 9 rfl;go_wp2_with fail;refine(iL ⟨ck,F,ct,O,cq,ci,cp,cg⟩ h2).mono ?_;rintro e w5 ⟨rfl,uc⟩;have vJ:=Z (zg (U vj) uc (by have:=U HZ5;omega));have vZ:=Z (mr (U ui) uc);clear uc c4 c5 c6 c7 c8 c9 vj ui xT;obtain ⟨z0,z1,z2,z3,z4⟩:=q0_5 (U vJ) rfl;obtain ⟨f0,f1,f2,f3,f4⟩:=r0_5 (U vJ) rfl;have HQ:Hid (lftD ⟨ck,F,ct,O,cq,ci,cp,cg⟩ ⟨ti,pK,tt,tl,pJ,tg⟩=if dT ct=true then⟨4,ti,0,tl,0⟩ else⟨5,ti,0,tl,0⟩):=rfl
    cases jP:dT ct
    ·have pR:Hid (lftD ⟨ck,F,ct,O,cq,ci,cp,cg⟩ ⟨ti,pK,tt,tl,pJ,tg⟩=⟨5,ti,0,tl,0⟩):=by show _ = _;rw[U HQ,jP];rfl
     clear jP HQ;go_wp2_with fail
     try simp +zetaDelta only[Exit.noGoto_ret]
     change bodyPost _ _ _ _ _ (World.setCells w5 w.heap.size 0 [H 5,H ti,H 0,H tl,H 0]);have xp:Hid ((World.setCells w5 w.heap.size 0 [H 5,H ti,H 0,H tl,H 0]).rangeAt w.heap.size 0 [H 5,H ti,H 0,H tl,H 0]/\yn w (World.setCells w5 w.heap.size 0 [H 5,H ti,H 0,H tl,H 0])):=⟨(zq (U vJ) (by simp only[List.length_cons,List.length_nil])).r,zh w.heap.size ya [H 5,H ti,H 0,H tl,H 0] 0 w5 (U vZ)⟩;generalize World.setCells w5 w.heap.size 0 [H 5,H ti,H 0,H tl,H 0]=WE at xp |-;obtain⟨d0,d1,d2,d3,d4⟩:=yC (U xp).1
     try simp only[Exit.inBlock,Exit.then]
     refine bodyPost_ret (by simp[results,Tryz.results52,go_sem,d0,d1,d2,d3,d4];try rfl) rfl ?_;exact⟨by rw[U HD,U pR];rfl,(U xp).2⟩
    ·have pR:Hid (lftD ⟨ck,F,ct,O,cq,ci,cp,cg⟩ ⟨ti,pK,tt,tl,pJ,tg⟩=⟨4,ti,0,tl,0⟩):=by show _ = _;rw[U HQ,jP];rfl
     clear jP HQ;go_wp2_with fail
     try simp +zetaDelta only[Exit.noGoto_ret]
     change bodyPost _ _ _ _ _ (World.setCells w5 w.heap.size 0 [H 4,H ti,H 0,H tl,H 0]);have xp:Hid ((World.setCells w5 w.heap.size 0 [H 4,H ti,H 0,H tl,H 0]).rangeAt w.heap.size 0 [H 4,H ti,H 0,H tl,H 0]/\yn w (World.setCells w5 w.heap.size 0 [H 4,H ti,H 0,H tl,H 0])):=⟨(zq (U vJ) (by simp only[List.length_cons,List.length_nil])).r,zh w.heap.size ya [H 4,H ti,H 0,H tl,H 0] 0 w5 (U vZ)⟩;generalize World.setCells w5 w.heap.size 0 [H 4,H ti,H 0,H tl,H 0]=WE at xp |-;obtain⟨d0,d1,d2,d3,d4⟩:=yC (U xp).1
     try simp only[Exit.inBlock,Exit.then]
     refine bodyPost_ret (by simp[results,Tryz.results52,go_sem,d0,d1,d2,d3,d4];try rfl) rfl ?_;exact⟨by rw[U HD,U pR];rfl,(U xp).2⟩
   ·have HD:Hid (takD l ⟨ck,F,ct,O,cq,ci,cp,cg⟩ ⟨ti,pK,tt,tl,pJ,tg⟩=⟨3,ti,x.id,min tl x.left,x.ticks⟩):=by show _ = _;unfold takD;rw[if_neg h0];simp only[U HFS,hme];rfl
    clear h0 hme xT;generalize hq:min tl x.left=qty at HD
    have hmin:∀W,(Builtin.min_ #[3,3] 3 #[H tl,H x.left]).run Tryz.prog W = .ok (H qty) W:=fun W=>by
     rw[<- hq]
     by_cases qS:tl<=x.left
     ·rw[Int.min_eq_left qS];go_simp;omega
     ·rw[Int.min_eq_right (by omega)];go_simp
    clear hq;obtain ⟨z0,z1,z2,z3,z4⟩:=q0_5 (U vj) rfl;obtain ⟨f0,f1,f2,f3,f4⟩:=r0_5 (U vj) rfl;go_wp2_with fail
    try simp +zetaDelta only[Exit.noGoto_ret]
    change bodyPost _ _ _ _ _ (World.setCells h2 w.heap.size 0 [H 3,H ti,H x.id,H qty,H x.ticks]);have xp:Hid ((World.setCells h2 w.heap.size 0 [H 3,H ti,H x.id,H qty,H x.ticks]).rangeAt w.heap.size 0 [H 3,H ti,H x.id,H qty,H x.ticks]/\yn w (World.setCells h2 w.heap.size 0 [H 3,H ti,H x.id,H qty,H x.ticks])):=⟨(zq (U vj) (by simp only[List.length_cons,List.length_nil])).r,zh w.heap.size ya [H 3,H ti,H x.id,H qty,H x.ticks] 0 h2 (U ui)⟩;generalize World.setCells h2 w.heap.size 0 [H 3,H ti,H x.id,H qty,H x.ticks]=WE at xp |-;obtain⟨d0,d1,d2,d3,d4⟩:=yC (U xp).1
    try simp only[Exit.inBlock,Exit.then]
    refine bodyPost_ret (by simp[results,Tryz.results52,go_sem,d0,d1,d2,d3,d4];try rfl) rfl ?_;exact⟨by rw[U HD];rfl,(U xp).2⟩
 ·rintro xx zb V i op ⟨f,rfl,xo,hD⟩ xn hx Q xu R
  have ps:i≠15->i<17->¬ xx[17]? = some true:=fun xr xM jC=>by
   have dC:=yf xn 17 rfl jC 16 rfl;have ph:=yf xn 17 rfl jC 14 rfl;have pg:=yf xn 14 rfl ph 13 rfl;have vT:=yf xn 13 rfl pg 12 rfl;have jc:=yf xn 12 rfl vT 11 rfl;have qi:=yf xn 11 rfl jc 10 rfl;have h3:=yf xn 10 rfl qi 3 rfl;have h9:=yf xn 10 rfl qi 9 rfl;have Y:=yf xn 3 rfl h3 2 rfl;have D:=yf xn 2 rfl Y 1 rfl;have h0:=yf xn 1 rfl D 0 rfl;have h8:=yf xn 9 rfl h9 8 rfl;have h7:=yf xn 8 rfl h8 7 rfl;have h6:=yf xn 7 rfl h7 6 rfl;have h5:=yf xn 6 rfl h6 5 rfl;have h4:=yf xn 5 rfl h5 4 rfl
   have vU:∀j,j≠15->j<17->xx[j]? = some true:=fun j cR hj=>by
    rcases(by omega:j=0\/j=1\/j=2\/j=3\/j=4\/j=5\/j=6\/j=7\/j=8\/j=9\/j=10\/j=11\/j=12\/j=13\/j=14\/j=16) with rfl|rfl|rfl|rfl|rfl|rfl|rfl|rfl|rfl|rfl|rfl|rfl|rfl|rfl|rfl|rfl <;> assumption
   rw[vU i xr xM] at xu;cases xu
  clear xn;have xK:=Z xo;have HD:=Z hD;have aw:=Z (zi (U HRW) xo ya);have xl:∀(p:Addr) u,hg.cell? p=some u->V.cell? p=some u:=fun p u hu=>(xo.cell (yL hg _ hu)).trans hu
  match i,Q with
  | 0,Q|4,Q =>
   cases Q;clear R hD xo xl;go_simp;exact⟨upd f _ (I G 0),by simp[upd],zG (U xK) (U HD) (by decide) ⟨fun h=>absurd h (by decide),fun h=>absurd h (by decide),fun h=>absurd h (by decide),yi rfl⟩⟩
  | 1,Q =>
   cases Q;have g0:=(hD 0 (ye R 0 rfl)).2.2.2 _ rfl;clear R hD xo xl;go_simp;exact⟨upd f 1 (I G 0),by simp[upd,g0],zG (U xK) (U HD) (by decide) ⟨fun h=>absurd h (by decide),fun h=>absurd h (by decide),fun h=>absurd h (by decide),yi rfl⟩⟩
  | 2,Q =>
   cases Q;have g1:=(hD 1 (ye R 1 rfl)).2.2.2 _ rfl;clear R hD xo xl;go_simp;exact⟨upd f 2 (I G 1),by simp[upd,g1],zG (U xK) (U HD) (by decide) ⟨fun h=>absurd h (by decide),fun h=>absurd h (by decide),fun h=>absurd h (by decide),yi rfl⟩⟩
  | 3,Q =>
   cases Q;have g2:=(hD 2 (ye R 2 rfl)).2.2.2 _ rfl;have z1:=xl (J G 1) _ (U HC1);have z2:=xl (J G 2) _ (U dm);clear R hD xo xl;go_simp;exact⟨upd f 3 (.agg #[H nx,vq]),by simp[upd,g2],zG (U xK) (U HD) (by decide) ⟨fun h=>absurd h (by decide),fun h=>absurd h (by decide),fun h=>absurd h (by decide),yi rfl⟩⟩
  | 5,Q =>
   cases Q;have g4:=(hD 4 (ye R 4 rfl)).2.2.2 _ rfl;clear R hD xo xl;go_simp;exact⟨upd f 5 (I G 0),by simp[upd,g4],zG (U xK) (U HD) (by decide) ⟨fun h=>absurd h (by decide),fun h=>absurd h (by decide),fun h=>absurd h (by decide),yi rfl⟩⟩
  | 6,Q =>
   cases Q;have g5:=(hD 5 (ye R 5 rfl)).2.2.2 _ rfl;clear R hD xo xl;go_simp;exact⟨upd f 6 (I G 4),by simp[upd,g5],zG (U xK) (U HD) (by decide) ⟨fun h=>absurd h (by decide),fun h=>absurd h (by decide),fun h=>absurd h (by decide),yi rfl⟩⟩
  | 7,Q =>
   cases Q;have g6:=(hD 6 (ye R 6 rfl)).2.2.2 _ rfl;clear R hD xo xl;go_simp;exact⟨upd f 7 (I G 4),by simp[upd,g6],zG (U xK) (U HD) (by decide) ⟨fun h=>absurd h (by decide),fun h=>absurd h (by decide),fun h=>absurd h (by decide),yi rfl⟩⟩
  | 8,Q =>
   cases Q;have g7:=(hD 7 (ye R 7 rfl)).2.2.2 _ rfl;have z4:=xl (J G 4) _ (U HC4);clear R hD xo xl;go_simp;exact⟨upd f 8 (H F),by simp[upd,g7],zG (U xK) (U HD) (by decide) ⟨fun h=>absurd h (by decide),fun h=>absurd h (by decide),fun h=>absurd h (by decide),yi rfl⟩⟩
  | 9,Q =>
   cases Q;have g8:=(hD 8 (ye R 8 rfl)).2.2.2 _ rfl;clear R hD xo xl;go_simp;refine(otherSide_any F V).mono ?_;rw[U cy];rintro e w4 ⟨rfl,rfl⟩;exact⟨upd f 9 (H sd),by simp[upd,g8],zG (U xK) (U HD) (by decide) ⟨fun h=>absurd h (by decide),fun h=>absurd h (by decide),fun h=>absurd h (by decide),yi rfl⟩⟩
  | 10,Q =>
   cases Q;have g3:=(hD 3 (ye R 3 rfl)).2.2.2 _ rfl;have g9:=(hD 9 (ye R 9 rfl)).2.2.2 _ rfl;have kn:=ps (by omega) (by omega);clear R hD xo xl;go_simp
   by_cases uX:sd=1
   ·subst uX;refine(lM nx _ l V (U aw) (U qQ).len (U HLB)).mono ?_;rintro e w4 ⟨b,rfl,ht,qS,xy⟩;exact⟨upd f 10 (eX b),by simp[upd,g3,g9],fG (U xK) (U HD) xy (by decide) (dtk_grow kn xy) ⟨fun _ _=>.inl ⟨rfl,b,rfl,ht⟩,fun h=>absurd h (by decide),fun h=>absurd h (by decide),fun u hu=>by cases hu⟩⟩
   ·skip
    refine(lA nx sd uX _ l V (U aw) (U qQ).len (U HLB)).mono ?_;rintro e w4 ⟨b,rfl,ht,qS,xy⟩;exact⟨upd f 10 (eZ b),by simp[upd,g3,g9],fG (U xK) (U HD) xy (by decide) (dtk_grow kn xy) ⟨fun _ _=>.inr ⟨uX,b,rfl,ht⟩,fun h=>absurd h (by decide),fun h=>absurd h (by decide),fun u hu=>by cases hu⟩⟩
  | 11,Q =>
   cases Q;have kn:=ps (by omega) (by omega);rcases(hD 10 (ye R 10 rfl)).1 rfl kn with⟨uX,b,jL,ht⟩|⟨uX,b,jL,ht⟩
   ·subst uX;have HT:=Z ht;have cO:=field0_bm b V;clear R hD xo xl ht;go_simp;exact⟨upd f 11 (.func (.func 164) #[I b 0] #[]),by simp[upd,jL],zG (U xK) (U HD) (by decide) ⟨fun h=>absurd h (by decide),fun _ _=>.inl ⟨rfl,b,rfl,U HT⟩,fun h=>absurd h (by decide),fun u hu=>by cases hu⟩⟩
   ·skip
    have HT:=Z ht;have cO:=field0_sm b V;clear R hD xo xl ht;go_simp;exact⟨upd f 11 (.func (.func 168) #[I b 0] #[]),by simp[upd,jL],zG (U xK) (U HD) (by decide) ⟨fun h=>absurd h (by decide),fun _ _=>.inr ⟨uX,b,rfl,U HT⟩,fun h=>absurd h (by decide),fun u hu=>by cases hu⟩⟩
  | 12,Q =>
   cases Q;have kn:=ps (by omega) (by omega);rcases(hD 11 (ye R 11 rfl)).2.1 rfl kn with⟨uX,b,jB,ht⟩|⟨uX,b,jB,ht⟩
   ·subst uX;have HT:=Z ht;have HE:Hid (frOf (quOf true (zv l 1)) = .tuple #[.agg (yw x.id x.side x.ticks x.left x.life x.tag).toArray,.bool fb]):=by show _ = _;have:=U HFR;simpa using this
    clear R hD xo xl ht;go_simp;refine(front_b b 1 (zv l 1) V (U HT) (yO (List.length_filter_le _ _) (U qQ).len)).mono ?_;rw[U HE];rintro e w4 ⟨rfl,xy⟩;exact⟨upd f 12 (.tuple #[.agg (yw x.id x.side x.ticks x.left x.life x.tag).toArray,.bool fb]),by simp[upd,jB],fG (U xK) (U HD) xy (by decide) (dtk_grow kn xy) ⟨fun h=>absurd h (by decide),fun h=>absurd h (by decide),fun h=>absurd h (by decide),yi rfl⟩⟩
   ·skip
    have HT:=Z ht;have HE:Hid (frOf (quOf false (zv l sd)) = .tuple #[.agg (yw x.id x.side x.ticks x.left x.life x.tag).toArray,.bool fb]):=by show _ = _;have:=U HFR;rw[decide_eq_false uX] at this;exact this
    clear R hD xo xl ht;go_simp;refine(front_s b sd (zv l sd) V (U HT) (yO (List.length_filter_le _ _) (U qQ).len)).mono ?_;rw[U HE];rintro e w4 ⟨rfl,xy⟩;exact⟨upd f 12 (.tuple #[.agg (yw x.id x.side x.ticks x.left x.life x.tag).toArray,.bool fb]),by simp[upd,jB],fG (U xK) (U HD) xy (by decide) (dtk_grow kn xy) ⟨fun h=>absurd h (by decide),fun h=>absurd h (by decide),fun h=>absurd h (by decide),yi rfl⟩⟩
  | 13,Q =>
   cases Q;have vY:=(hD 12 (ye R 12 rfl)).2.2.2 _ rfl;clear R hD xo xl;go_simp;exact⟨upd f 13 (.tuple #[.agg (yw x.id x.side x.ticks x.left x.life x.tag).toArray,.bool fb]),by simp[upd,vY],zG (U xK) (U HD) (by decide) ⟨fun h=>absurd h (by decide),fun h=>absurd h (by decide),fun h=>absurd h (by decide),yi rfl⟩⟩
  | 14,Q =>
   cases Q;have kI:=(hD 13 (ye R 13 rfl)).2.2.2 _ rfl;clear R hD xo xl;go_simp;exact⟨upd f 14 (.agg (yw x.id x.side x.ticks x.left x.life x.tag).toArray),by simp[upd,kI],zG (U xK) (U HD) (by decide) ⟨fun h=>absurd h (by decide),fun h=>absurd h (by decide),fun h=>absurd h (by decide),yi rfl⟩⟩
  | 15,Q =>
   cases Q;have kI:=(hD 13 (ye R 13 rfl)).2.2.2 _ rfl;clear R hD xo xl;go_simp;exact⟨upd f 15 (.bool fb),by simp[upd,kI],zG (U xK) (U HD) (by decide) ⟨fun h=>absurd h (by decide),fun h=>absurd h (by decide),fun h=>absurd h (by decide),yi rfl⟩⟩
  | 16,Q =>
   cases Q;have kn:=ps (by omega) (by omega);clear R hD xo xl;go_simp;have xy:=mn V (mq (yw 0 0 0 0 0 ⟨#[]⟩).toArray 65);exact⟨upd f 16 (I V.heap.size 0),by simp[upd],fG (U xK) (U HD) xy (by decide) (dtk_grow kn xy) ⟨fun h=>absurd h (by decide),fun h=>absurd h (by decide),fun _=>⟨V.heap.size,rfl,(U xK).size,fun _=>⟨zW V (yw 0 0 0 0 0 ⟨#[]⟩) _,by rw[zf];omega⟩,fun h=>absurd h kn⟩,fun u hu=>by cases hu⟩⟩
  | 17,Q =>
   cases Q;have kn:¬ xx[17]? = some true:=by rw[xu];simp
   have pf:=(hD 14 (ye R 14 rfl)).2.2.2 _ rfl;obtain⟨pb,g16,hpb,ue,-⟩:=(hD 16 (ye R 16 rfl)).2.2.1 rfl;obtain⟨ue,cU⟩:=ue kn;have cA:=Z ue;obtain⟨u0,y0,q0⟩:=zJ ue 0 (by omega);obtain⟨u1,y1,q1⟩:=zJ ue 1 (by omega);obtain⟨u2,y2,q2⟩:=zJ ue 2 (by omega);obtain⟨u3,y3,q3⟩:=zJ ue 3 (by omega);obtain⟨u4,y4,q4⟩:=zJ ue 4 (by omega);obtain⟨u5,y5,q5⟩:=zJ ue 5 (by omega);simp only[Nat.zero_add] at y0 q0 y1 q1 y2 q2 y3 q3 y4 q4 y5 q5;clear ue;clear R hD xo xl;go_simp;refine⟨upd f 17 M,by simp[upd,pf,g16],rgx_last (zh pb hpb (yw x.id x.side x.ticks x.left x.life x.tag) 0 V (U xK)) (U HD) xu (fun j hj hxj h=>dtk_last j h (fun hj16=>?_)) ⟨fun h=>absurd h (by decide),fun h=>absurd h (by decide),fun h=>absurd h (by decide),fun u hu=>by cases hu⟩⟩;rw[hj16];refine⟨pb,g16,hpb,fun h=>absurd trivial h,fun _=>⟨?_,?_⟩⟩
   ·exact yY V pb 0 (yw x.id x.side x.ticks x.left x.life x.tag) (fun j hj=>U cA j hj)
   ·show pb<(V.setCells pb 0 (yw x.id x.side x.ticks x.left x.life x.tag)).heap.size;simp only[World.setCells,World.setCell,Array.size_modify];exact cU
  | 18,Q =>
   cases Q;have g15:=(hD 15 (ye R 15 rfl)).2.2.2 _ rfl;clear R hD xo xl;go_simp;exact⟨upd f 18 (.bool fb),by simp[upd,g15],zG (U xK) (U HD) (by decide) ⟨fun h=>absurd h (by decide),fun h=>absurd h (by decide),fun h=>absurd h (by decide),yi rfl⟩⟩
  | i+19,Q=>simp at Q
theorem due_any {G B r:Nat}{vq:Value}{g:Gr}(w:World)(h:GS G B r w vq g)(hi:GI g):Calls Tryz.prog 21 #[I G 0] w fun e w'=>e = .returned (duV (dueG g))/\yn w w':=by
 have hsf:=sfl;have hG:=h.lt;obtain⟨xD,HX⟩:=mu w [H 0,H 0,H 0,H 0,H 0] 39;have HS:Hid ((w.alloc (mq #[H 0,H 0,H 0,H 0,H 0] 39)).heap.size=w.heap.size+1):=by show _ = _;simp
 have HG:=Z (zA h xD);have HB:=Z xD;have HI:=Z hi;clear h xD hi;go_enter Tryz.func21,Tryz.ntmps21;refine ms fun mR HK=>?_;go_wp2_with fail;refine U HK _ _ ?_;clear HK;generalize (w.alloc (mq #[H 0,H 0,H 0,H 0,H 0] 39))=W1 at HX HS HG HB |-;have c3:W1.cell? (J G 3)=some (H g.bg):=A (U HG).box 3 rfl
 by_cases D:g.bg=1
 ·have HQ:Hid (duV (dueG g)=duV (takD g.l g.cm g.tk)):=by show _ = _;unfold dueG;rw[if_pos D]
  have b1:(g.bg==1)=true:=by simpa using D
  clear D;go_wp2_with fail;refine(takerDue_any W1 (U HG) (U HI).l0 (fun h0=>(U HI).good (.inr h0))).mono ?_;rintro e w2 ⟨rfl,xO⟩;have xG:=Z (zg (U HX) xO (by have:=U HS;omega));have xv:=Z (mr (U HB) xO);clear xO c3;generalize hd:takD g.l g.cm g.tk=d at HQ |-;clear hd;obtain⟨dk,di,dt,dq,dp⟩:=d;unfold duV at HQ |-;simp only at HQ |-;obtain ⟨z0,z1,z2,z3,z4⟩:=q0_5 (U xG) rfl;obtain ⟨f0,f1,f2,f3,f4⟩:=r0_5 (U xG) rfl;go_wp2_with fail
  try simp +zetaDelta only[Exit.noGoto_ret]
  change bodyPost _ _ _ _ _ (World.setCells w2 w.heap.size 0 [H dk,H di,H dt,H dq,H dp]);have xp:Hid ((World.setCells w2 w.heap.size 0 [H dk,H di,H dt,H dq,H dp]).rangeAt w.heap.size 0 [H dk,H di,H dt,H dq,H dp]/\yn w (World.setCells w2 w.heap.size 0 [H dk,H di,H dt,H dq,H dp])):=⟨(zq (U xG) (by simp only[List.length_cons,List.length_nil])).r,zh w.heap.size (by omega) [H dk,H di,H dt,H dq,H dp] 0 w2 (U xv)⟩;generalize World.setCells w2 w.heap.size 0 [H dk,H di,H dt,H dq,H dp]=WE at xp |-;obtain⟨d0,d1,d2,d3,d4⟩:=yC (U xp).1
  try simp only[Exit.inBlock,Exit.then]
  refine bodyPost_ret (by simp[results,Tryz.results21,go_sem,d0,d1,d2,d3,d4];try rfl) rfl ?_;exact⟨congrArg Ending.returned (U HQ).symm,(U xp).2⟩
 ·have b1:(g.bg==1)=false:=by simpa using D
  by_cases h8:g.bg=8
  ·have HQ:Hid (duV (dueG g)=duV (dayD g.l)):=by show _ = _;unfold dueG;rw[if_neg D,if_pos h8]
   have b8:(g.bg==8)=true:=by simpa using h8
   clear D h8;go_wp2_with fail;refine(dayDue_any W1 (U HG) (yO (U HI).len (by decide))).mono ?_;rintro e w2 ⟨rfl,xO⟩;have xG:=Z (zg (U HX) xO (by have:=U HS;omega));have xv:=Z (mr (U HB) xO);clear xO c3;generalize hd:dayD g.l=d at HQ |-;clear hd;obtain⟨dk,di,dt,dq,dp⟩:=d;unfold duV at HQ |-;simp only at HQ |-;obtain ⟨z0,z1,z2,z3,z4⟩:=q0_5 (U xG) rfl;obtain ⟨f0,f1,f2,f3,f4⟩:=r0_5 (U xG) rfl;go_wp2_with fail
   try simp +zetaDelta only[Exit.noGoto_ret]
   change bodyPost _ _ _ _ _ (World.setCells w2 w.heap.size 0 [H dk,H di,H dt,H dq,H dp]);have xp:Hid ((World.setCells w2 w.heap.size 0 [H dk,H di,H dt,H dq,H dp]).rangeAt w.heap.size 0 [H dk,H di,H dt,H dq,H dp]/\yn w (World.setCells w2 w.heap.size 0 [H dk,H di,H dt,H dq,H dp])):=⟨(zq (U xG) (by simp only[List.length_cons,List.length_nil])).r,zh w.heap.size (by omega) [H dk,H di,H dt,H dq,H dp] 0 w2 (U xv)⟩;generalize World.setCells w2 w.heap.size 0 [H dk,H di,H dt,H dq,H dp]=WE at xp |-;obtain⟨d0,d1,d2,d3,d4⟩:=yC (U xp).1
   try simp only[Exit.inBlock,Exit.then]
   refine bodyPost_ret (by simp[results,Tryz.results21,go_sem,d0,d1,d2,d3,d4];try rfl) rfl ?_;exact⟨congrArg Ending.returned (U HQ).symm,(U xp).2⟩
  ·have HQ:Hid (dueG g=zDu):=by show _ = _;unfold dueG;rw[if_neg D,if_neg h8]
   have b8:(g.bg==8)=false:=by simpa using h8
   clear D h8;obtain ⟨z0,z1,z2,z3,z4⟩:=q0_5 (U HX) rfl;obtain ⟨f0,f1,f2,f3,f4⟩:=r0_5 (U HX) rfl;go_wp2_with fail
   try simp +zetaDelta only[Exit.noGoto_ret]
   change bodyPost _ _ _ _ _ (World.setCells W1 w.heap.size 0 [H 0,H 0,H 0,H 0,H 0]);have xp:Hid ((World.setCells W1 w.heap.size 0 [H 0,H 0,H 0,H 0,H 0]).rangeAt w.heap.size 0 [H 0,H 0,H 0,H 0,H 0]/\yn w (World.setCells W1 w.heap.size 0 [H 0,H 0,H 0,H 0,H 0])):=⟨(zq (U HX) (by simp only[List.length_cons,List.length_nil])).r,zh w.heap.size (by omega) [H 0,H 0,H 0,H 0,H 0] 0 W1 (U HB)⟩;generalize World.setCells W1 w.heap.size 0 [H 0,H 0,H 0,H 0,H 0]=WE at xp |-;obtain⟨d0,d1,d2,d3,d4⟩:=yC (U xp).1
   try simp only[Exit.inBlock,Exit.then]
   refine bodyPost_ret (by simp[results,Tryz.results21,go_sem,d0,d1,d2,d3,d4];try rfl) rfl ?_;exact⟨by rw[U HQ];rfl,(U xp).2⟩
def outR (k:Int):Ending:=if k=0 then .returned (.tuple #[]) else .panicked (brk k)
theorem outR_ok {k:Int}(h:k=0):outR k = .returned (.tuple #[]):=if_pos h
theorem outR_no {k:Int}(h:k≠0):outR k = .panicked (brk k):=if_neg h
theorem iE {e:Ev}(X:e.cmd.g.size<=maxLen):(dV e).g.size<=maxLen:=by
 have hz:(⟨#[]⟩:ByteArray).size<=maxLen:=by decide
 unfold dV zCm
 repeat' split
 all_goals first|exact X|exact hz
theorem start_any {G B r:Nat}{vq:Value}{g:Gr}(e:Ev)(w:World)(h:GS G B r w vq g)(hi:GI g)(hk:1<=e.kind/\e.kind<=9)(X:e.cmd.g.size<=maxLen):Calls Tryz.prog 148 #[I G 0,evV e] w fun x w'=>x=outR (dW g e)/\yn w w':=by
 have hsf:=sfl;have hG:=h.lt;have pd:=Z (fun W=>toldCmd_any e W hk);have pS:=Z (iE X);have uP:Hid (dW g e=if g.bg≠0 then 3 else if refR g.nx g.l (dV e)≠0 then 5 else 0):=rfl
 generalize dV e=c at pd pS uP;generalize zX e.kind=sb at pd;generalize dW g e=sr at uP |-;obtain⟨xm,⟨ck,F,ct,O,cq,ci,cp,cg⟩,id,xj,qty,xk,xh⟩:=e;unfold evV at pd |-;simp only at pd |-;obtain⟨xD,HX⟩:=mu w (yv xm ck F ct O cq ci cp cg id xj qty xk xh) 37;have HS:Hid ((w.alloc (mq (yv xm ck F ct O cq ci cp cg id xj qty xk xh).toArray 37)).heap.size=w.heap.size+1):=by show _ = _;simp
 have HG:=Z (zA h xD);have HB:=Z xD;have HI:=Z hi;clear h xD hi hk X;go_enter Tryz.func148,Tryz.ntmps148;refine ms fun mR HK=>?_;go_wp2_with fail;refine U HK _ _ ?_;clear HK;generalize (w.alloc (mq (yv xm ck F ct O cq ci cp cg id xj qty xk xh).toArray 37))=W1 at HS HX HG HB |-;have c3:W1.cell? (J G 3)=some (H g.bg):=A (U HG).box 3 rfl
 by_cases h0:g.bg=0
 ·have b0:(g.bg==0)=true:=by simpa using h0
  have qQ:=Z ((U HI).good (.inl (by omega)));have bK:=Z ((U HI).start h0);have HST2:Hid (sr=if refR g.nx g.l c≠0 then 5 else 0):=by show _ = _;rw[U uP,if_neg (by simpa using h0)]
  clear h0 uP;go_wp2_with fail;refine(eO 3 _).mono ?_;rintro e w2 ⟨rfl,rfl⟩;clear c3 b0;obtain⟨e0,e1,e2,e3,e4,e5,e6,e7,e8,e9,uW,uE,vS,vH⟩:=yz (U HX);go_wp2_with fail;refine(U pd w2).mono ?_;rintro e w3 ⟨rfl,xL⟩;have vw:=Z (zA (U HG) xL);have xI:=Z (mr (U HB) xL);clear e0 e1 e2 e3 e4 e5 e6 e7 e8 e9 uW uE vS vH xL;obtain⟨dk,ds,dt,dl,dq,di,dp,dg⟩:=c;unfold cmV;simp only;obtain⟨xy,xH⟩:=mu w3 (yx dk ds dt dl dq di dp dg) 33;have xU:=Z (zA (U vw) xy);have xF:=Z (mr (U xI) xy);clear xy vw xI;have HZ4:Hid (w3.heap.size<(w3.alloc (mq (yx dk ds dt dl dq di dp dg).toArray 33)).heap.size):=by show _ < _;simp
  go_wp2_with fail;generalize (w3.alloc (mq (yx dk ds dt dl dq di dp dg).toArray 33))=hg at xH xU xF HZ4 |-;have xR:Hid (Bx hg.drew w3.heap.size (yx dk ds dt dl dq di dp dg)):=zM (U xH);have qm:Hid (GS G B r hg.drew vq g):=zA (U xU) ⟨rfl,rfl,rfl,Nat.le_refl _,fun _ _=>rfl⟩;have vC:Hid (yn w hg.drew):=⟨(U xF).os,(U xF).tape,(U xF).output,(U xF).size,(U xF).block⟩;clear xH xU xF HX;obtain⟨d0,d1,d2,d3,d4,d5,d6,d7⟩:=yA (U xR);have c1:hg.drew.cell? (J G 1)=some (H g.nx):=A (U qm).box 1 rfl;have c2:hg.drew.cell? (J G 2)=some vq:=A (U qm).box 2 rfl;have vn:=Z (zI (U qm).row (yO (U HI).len (by decide)));have jg:=Z (oRow_sl (U qm).row);refine zD 5 (by kernel_rfl) (by kernel_rfl) ?_;simp only[yU,List.take_zero,yV,List.drop_zero]
  repeat still_step
  refine wpStill_nil ?_;clear d0 d1 d2 d3 d4 d5 d6 d7 c1 c2;go_wp2_with fail;refine(refusal_any g.nx vq g.l ⟨dk,ds,dt,dl,dq,di,dp,dg⟩ hg.drew (U vn) (U jg) (U qQ) (U bK).1 (U bK).2.1 (U pS)).mono ?_;rintro e w5 ⟨rfl,uc⟩;have ui:=Z (mr (U vC) uc);clear uc;generalize refR g.nx g.l ⟨dk,ds,dt,dl,dq,di,dp,dg⟩=rr at HST2 |-
  by_cases jY:rr=0
  ·have b1:(rr==0)=true:=by simpa using jY
   have jT:Hid (sr=0):=by show _ = _;rw[U HST2,if_neg (by simpa using jY)]
   clear jY;go_wp2_with fail;refine(eO 5 _).mono ?_;rintro e w6 ⟨rfl,rfl⟩;go_wp2_with fail;go_end0;exact⟨by rw[U jT];rfl,U ui⟩
  ·have b1:(rr==0)=false:=by simpa using jY
   have jT:Hid (sr=5):=by show _ = _;rw[U HST2,if_pos jY]
   clear jY;go_wp2_with fail;refine(eD 5 _).mono ?_;rintro e w6 ⟨rfl,rfl⟩;go_wp2_with fail;exact⟨rfl,by rw[U jT];rfl,U ui⟩
 ·have b0:(g.bg==0)=false:=by simpa using h0
  have HST2:Hid (sr=3):=by show _ = _;rw[U uP,if_pos h0]
  clear h0;go_wp2_with fail;refine(eD 3 _).mono ?_;rintro e w2 ⟨rfl,rfl⟩;go_wp2_with fail;exact⟨rfl,by rw[U HST2];rfl,U HB⟩
def outD (k:Int)(d:Du):Ending:=if k=0 then .returned (duV d) else .panicked (brk k)
theorem outD_ok {k:Int}{d:Du}(h:k=0):outD k d = .returned (duV d):=if_pos h
theorem outD_no {k:Int}{d:Du}(h:k≠0):outD k d = .panicked (brk k):=if_neg h
theorem lD {G B r:Nat}{vq:Value}{g:Gr}(e:Ev)(w:World)(h:GS G B r w vq g)(hi:GI g):Calls Tryz.prog 153 #[I G 0,evV e] w fun x w'=>x=outD (dueR g e) (dueG g)/\yn w w':=by
 have hsf:=sfl;have hG:=h.lt;have HJ:=Z (fun W=>isJust_any e (dueG g) W);have oe:=Z (fun W hW=>due_any (G:=G) (B:=B) (r:=r) (vq:=vq) (g:=g) W hW hi);have aM:Hid (dueR g e=if g.bg=0 then 3 else if (dueG g).kind=0 then 8 else if ((dueG g).kind=9\/e.kind=9)/\ed e (dueG g)=false then 14 else 0):=rfl
 generalize dueR g e=dr at aM |-;generalize ed e (dueG g)=jb at HJ aM;generalize dueG g=d at HJ oe aM |-;obtain⟨xm,⟨ck,F,ct,O,cq,ci,cp,cg⟩,id,xj,qty,xk,xh⟩:=e;obtain⟨dk,di,dt,dq,dp⟩:=d;unfold evV duV at HJ;unfold evV;unfold duV at oe;simp only at HJ oe aM |-;have qJ:(w.alloc (mq (yv xm ck F ct O cq ci cp cg id xj qty xk xh).toArray 37)).heap.size=w.heap.size+1:=by simp
 have xD:=mn w (mq (yv xm ck F ct O cq ci cp cg id xj qty xk xh).toArray 37);have uw:Below (w.heap.size+1) (w.alloc (mq (yv xm ck F ct O cq ci cp cg id xj qty xk xh).toArray 37)) ((w.alloc (mq (yv xm ck F ct O cq ci cp cg id xj qty xk xh).toArray 37)).alloc (mq #[H 0,H 0,H 0,H 0,H 0] 39)):=(Below.refl _ _).alloc (by rw[qJ];omega) _;have HS:Hid (((w.alloc (mq (yv xm ck F ct O cq ci cp cg id xj qty xk xh).toArray 37)).alloc (mq #[H 0,H 0,H 0,H 0,H 0] 39)).heap.size=w.heap.size+1+1):=by show _ = _;simp
 have HX:=Z (zg (zn w (yv xm ck F ct O cq ci cp cg id xj qty xk xh) 37) uw (by omega))
 have HY:Hid (Bx ((w.alloc (mq (yv xm ck F ct O cq ci cp cg id xj qty xk xh).toArray 37)).alloc (mq #[H 0,H 0,H 0,H 0,H 0] 39)) (w.heap.size+1) [H 0,H 0,H 0,H 0,H 0]):=by
  have:=zn (w.alloc (mq (yv xm ck F ct O cq ci cp cg id xj qty xk xh).toArray 37)) [H 0,H 0,H 0,H 0,H 0] 39;rwa[qJ] at this
 have HB:Hid (yn w ((w.alloc (mq (yv xm ck F ct O cq ci cp cg id xj qty xk xh).toArray 37)).alloc (mq #[H 0,H 0,H 0,H 0,H 0] 39))):=xD.trans (uw.mono (by omega));have HG:=Z (zA h (U HB));clear h xD hi uw qJ;go_enter Tryz.func153,Tryz.ntmps153;refine ms fun mR HK=>?_;go_wp2_with fail;refine U HK _ _ ?_;clear HK;generalize ((w.alloc (mq (yv xm ck F ct O cq ci cp cg id xj qty xk xh).toArray 37)).alloc (mq #[H 0,H 0,H 0,H 0,H 0] 39))=W1 at HS HX HY HG HB |-;have c3:W1.cell? (J G 3)=some (H g.bg):=A (U HG).box 3 rfl
 by_cases h0:g.bg=0
 ·have b0:(g.bg != 0)=false:=by simpa using h0
  have HQ:Hid (dr=3):=by show _ = _;rw[U aM,if_pos h0]
  clear h0;go_wp2_with fail;refine(eD 3 _).mono ?_;rintro e w6 ⟨rfl,rfl⟩;go_wp2_with fail;exact⟨rfl,by rw[U HQ];rfl,U HB⟩
 have b0:(g.bg != 0)=true:=by simpa using h0
 have HDR2:Hid (dr=if dk=0 then 8 else if (dk=9\/xm=9)/\jb=false then 14 else 0):=by show _ = _;rw[U aM,if_neg h0]
 clear h0 aM;go_wp2_with fail;refine(eO 3 _).mono ?_;rintro e w6 ⟨rfl,rfl⟩;clear c3 b0;go_wp2_with fail;refine(U oe w6 (U HG)).mono ?_;rintro e w3 ⟨rfl,xL⟩;have hz:=U HS;have xy:=mn w3 (mq #[H dk,H di,H dt,H dq,H dp] 39);have uY:=xL.trans (xy.mono xL.size);have xH:=Z (zg (U HX) uY (by omega));have uo:=Z (zg (U HY) uY (by omega));have xU:=Z (zA (U HG) uY);have xF:=Z (mr (U HB) uY);have vR:=Z (zn w3 [H dk,H di,H dt,H dq,H dp] 39);have HZ4:Hid (w3.heap.size<(w3.alloc (mq #[H dk,H di,H dt,H dq,H dp] 39)).heap.size/\w.heap.size+1<w3.heap.size):=⟨by simp,by have:=xL.size;omega⟩;clear xL xy uY hz HX HY HG HB HS oe
 by_cases oT:dk=0
 ·have b0:(dk != 0)=false:=by simpa using oT
  have HQ:Hid (dr=8):=by show _ = _;rw[U HDR2,if_pos oT]
  clear oT;go_wp2_with fail;refine(eD 8 _).mono ?_;rintro e w6 ⟨rfl,rfl⟩;go_wp2_with fail;exact⟨rfl,by rw[U HQ];rfl,U xF⟩
 have b0:(dk != 0)=true:=by simpa using oT
 have HDR3:Hid (dr=if (dk=9\/xm=9)/\jb=false then 14 else 0):=by show _ = _;rw[U HDR2,if_neg oT]
 clear oT HDR2;go_wp2_with fail;refine(eO 8 _).mono ?_;rintro e hg ⟨rfl,hX⟩;rw[<- hX] at xH uo xU xF vR HZ4;clear hX b0;have v0:=A (U vR) 0 rfl;have e0:=A (U xH) 0 rfl
 by_cases h9:dk=9
 ·have b9:(dk==9)=true:=by simpa using h9
  have HOR:Hid (dk=9\/xm=9):=.inl h9;clear h9;obtain⟨e0,e1,e2,e3,e4,e5,e6,e7,e8,e9,uW,uE,vS,vH⟩:=yz (U xH);obtain ⟨v0,v1,v2,v3,v4⟩:=q0_5 (U vR) rfl;go_wp2_with fail;refine(U HJ hg).mono ?_;rintro e w7 ⟨rfl,qE⟩;have jK:=Z (zg (U uo) qE (by have:=U HZ4;omega));have HV7:=Z (zg (U vR) qE (U HZ4).1);have qP:=Z (mr (U xF) qE);clear qE e0 e1 e2 e3 e4 e5 e6 e7 e8 e9 uW uE vS vH v0 v1 v2 v3 v4;cases jb
  ·have HQ:Hid (dr=14):=by show _ = _;rw[U HDR3,if_pos ⟨U HOR,rfl⟩]
   go_wp2_with fail;refine(eD 14 _).mono ?_;rintro e w6 ⟨rfl,rfl⟩;go_wp2_with fail;exact⟨rfl,by rw[U HQ];rfl,U qP⟩
  ·have HQ:Hid (dr=0):=by show _ = _;rw[U HDR3,if_neg (by simp)]
   go_wp2_with fail;refine(eO 14 _).mono ?_;rintro e w6 ⟨rfl,rfl⟩;obtain ⟨v0,v1,v2,v3,v4⟩:=q0_5 (U HV7) rfl;obtain ⟨z0,z1,z2,z3,z4⟩:=q0_5 (U jK) rfl;obtain ⟨f0,f1,f2,f3,f4⟩:=r0_5 (U jK) rfl;go_wp2_with fail
   try simp +zetaDelta only[Exit.noGoto_ret]
   change bodyPost _ _ _ _ _ (World.setCells w6 (w.heap.size+1) 0 [H dk,H di,H dt,H dq,H dp]);have xp:Hid ((World.setCells w6 (w.heap.size+1) 0 [H dk,H di,H dt,H dq,H dp]).rangeAt (w.heap.size+1) 0 [H dk,H di,H dt,H dq,H dp]/\yn w (World.setCells w6 (w.heap.size+1) 0 [H dk,H di,H dt,H dq,H dp])):=⟨(zq (U jK) (by simp only[List.length_cons,List.length_nil])).r,zh (w.heap.size+1) (by omega) [H dk,H di,H dt,H dq,H dp] 0 w6 (U qP)⟩;generalize World.setCells w6 (w.heap.size+1) 0 [H dk,H di,H dt,H dq,H dp]=WE at xp |-;obtain⟨d0,d1,d2,d3,d4⟩:=yC (U xp).1
   try simp only[Exit.inBlock,Exit.then]
   refine bodyPost_ret (by simp[results,Tryz.results153,go_sem,d0,d1,d2,d3,d4];try rfl) rfl ?_;exact⟨by rw[U HQ];rfl,(U xp).2⟩
 have b9:(dk==9)=false:=by simpa using h9
 by_cases jW:xm=9
 ·have bk9:(xm==9)=true:=by simpa using jW
  have HOR:Hid (dk=9\/xm=9):=.inr jW;clear h9 jW;obtain⟨e0,e1,e2,e3,e4,e5,e6,e7,e8,e9,uW,uE,vS,vH⟩:=yz (U xH);obtain ⟨v0,v1,v2,v3,v4⟩:=q0_5 (U vR) rfl;go_wp2_with fail;refine(U HJ hg).mono ?_;rintro e w7 ⟨rfl,qE⟩;have jK:=Z (zg (U uo) qE (by have:=U HZ4;omega));have HV7:=Z (zg (U vR) qE (U HZ4).1);have qP:=Z (mr (U xF) qE);clear qE e0 e1 e2 e3 e4 e5 e6 e7 e8 e9 uW uE vS vH v0 v1 v2 v3 v4;cases jb
  ·have HQ:Hid (dr=14):=by show _ = _;rw[U HDR3,if_pos ⟨U HOR,rfl⟩]
   go_wp2_with fail;refine(eD 14 _).mono ?_;rintro e w6 ⟨rfl,rfl⟩;go_wp2_with fail;exact⟨rfl,by rw[U HQ];rfl,U qP⟩
  ·have HQ:Hid (dr=0):=by show _ = _;rw[U HDR3,if_neg (by simp)]
   go_wp2_with fail;refine(eO 14 _).mono ?_;rintro e w6 ⟨rfl,rfl⟩;obtain ⟨v0,v1,v2,v3,v4⟩:=q0_5 (U HV7) rfl;obtain ⟨z0,z1,z2,z3,z4⟩:=q0_5 (U jK) rfl;obtain ⟨f0,f1,f2,f3,f4⟩:=r0_5 (U jK) rfl;go_wp2_with fail
   try simp +zetaDelta only[Exit.noGoto_ret]
   change bodyPost _ _ _ _ _ (World.setCells w6 (w.heap.size+1) 0 [H dk,H di,H dt,H dq,H dp]);have xp:Hid ((World.setCells w6 (w.heap.size+1) 0 [H dk,H di,H dt,H dq,H dp]).rangeAt (w.heap.size+1) 0 [H dk,H di,H dt,H dq,H dp]/\yn w (World.setCells w6 (w.heap.size+1) 0 [H dk,H di,H dt,H dq,H dp])):=⟨(zq (U jK) (by simp only[List.length_cons,List.length_nil])).r,zh (w.heap.size+1) (by omega) [H dk,H di,H dt,H dq,H dp] 0 w6 (U qP)⟩;generalize World.setCells w6 (w.heap.size+1) 0 [H dk,H di,H dt,H dq,H dp]=WE at xp |-;obtain⟨d0,d1,d2,d3,d4⟩:=yC (U xp).1
   try simp only[Exit.inBlock,Exit.then]
   refine bodyPost_ret (by simp[results,Tryz.results153,go_sem,d0,d1,d2,d3,d4];try rfl) rfl ?_;exact⟨by rw[U HQ];rfl,(U xp).2⟩
 have bk9:(xm==9)=false:=by simpa using jW
 have HQ:Hid (dr=0):=by show _ = _;rw[U HDR3,if_neg (by simp[h9,jW])]
 clear h9 jW;obtain ⟨v0,v1,v2,v3,v4⟩:=q0_5 (U vR) rfl;obtain ⟨z0,z1,z2,z3,z4⟩:=q0_5 (U uo) rfl;obtain ⟨f0,f1,f2,f3,f4⟩:=r0_5 (U uo) rfl;go_wp2_with fail
 try simp +zetaDelta only[Exit.noGoto_ret]
 change bodyPost _ _ _ _ _ (World.setCells hg (w.heap.size+1) 0 [H dk,H di,H dt,H dq,H dp]);have xp:Hid ((World.setCells hg (w.heap.size+1) 0 [H dk,H di,H dt,H dq,H dp]).rangeAt (w.heap.size+1) 0 [H dk,H di,H dt,H dq,H dp]/\yn w (World.setCells hg (w.heap.size+1) 0 [H dk,H di,H dt,H dq,H dp])):=⟨(zq (U uo) (by simp only[List.length_cons,List.length_nil])).r,zh (w.heap.size+1) (by omega) [H dk,H di,H dt,H dq,H dp] 0 hg (U xF)⟩;generalize World.setCells hg (w.heap.size+1) 0 [H dk,H di,H dt,H dq,H dp]=WE at xp |-;obtain⟨d0,d1,d2,d3,d4⟩:=yC (U xp).1
 try simp only[Exit.inBlock,Exit.then]
 refine bodyPost_ret (by simp[results,Tryz.results153,go_sem,d0,d1,d2,d3,d4];try rfl) rfl ?_;exact⟨by rw[U HQ];rfl,(U xp).2⟩
def takG (g:Gr)(e:Ev):Gr:={ dQ g e with bg:=g.bg }
structure Kp (G:Nat) (vq:Value) (w w':World):Prop where
 os:w'.os=w.os
 tape:w'.tape=w.tape
 output:w'.output=w.output
 size:w.heap.size<=w'.heap.size
 block:∀k,k<w.heap.size->k≠G->some k≠vq.ownBlock->w'.heap[k]? = w.heap[k]?
section
variable {G:Nat} {vq:Value} {w W W':World}
theorem kp_of (h:yn w W):Kp G vq w W:=⟨h.os,h.tape,h.output,h.size,fun k hk _ _=>h.block k hk⟩
theorem ew (h:Kp G vq w W)(E:yn W W'):Kp G vq w W':=
 ⟨E.os.trans h.os,E.tape.trans h.tape,E.output.trans h.output,yO h.size E.size,fun k hk D Y=>(E.block k (yK hk h.size)).trans (h.block k hk D Y)⟩
theorem ir (h:Kp G vq w W):Kp G vq w W.drew:=⟨h.os,h.tape,h.output,h.size,h.block⟩
theorem kp_set (h:Kp G vq w W)(j:Nat)(u:Value):Kp G vq w (W.setCell (J G j) u):=
 ⟨h.os,h.tape,h.output,by have:=h.size;simpa[World.setCell] using this,fun k hk D Y=>(yT _ _ _ _ D).trans (h.block k hk D Y)⟩
theorem kp_sets:∀ {W:World}(h:Kp G vq w W)(o:Nat)(us:List Value),Kp G vq w (W.setCells G o us)
 | _,h,_,[]=>h
 | _,h,o,u::us=>by rw[World.setCells];exact kp_sets (kp_set h o u) (o+1) us
theorem kp_took (h:Kp G vq w W)(ht:TookAt G 1 vq.ownBlock W W'):Kp G vq w W':=
 ⟨ht.os.trans h.os,ht.tape.trans h.tape,ht.output.trans h.output,yO h.size ht.size,fun k hk D Y=>(ht.block k (yK hk h.size) D Y).trans (h.block k hk D Y)⟩
theorem kp_row {b:Nat}(h:Kp G vq w W)(X:W.grownBy W' (some b))(E:vq.ownBlock=some b):Kp G vq w W':=
 ⟨X.os.trans h.os,X.tape.trans h.tape,X.output.trans h.output,yO h.size X.size,fun k hk D Y=>(X.block k (yK hk h.size) (by rw[<- E];exact Y)).trans (h.block k hk D Y)⟩
theorem kp_to {B r:Nat}{g:Gr}(h:Kp G vq w W)(hs:GS G B r w vq g):Below B w W:=
 ⟨h.os,h.tape,h.output,h.size,fun k hk=>h.block k (yK hk (yO hs.hG (Nat.le_of_lt hs.lt))) (by have:=hs.hG;omega) (fun e=>by have:=(hs.row.lt k e.symm).1;omega)⟩
end
def Chk (G B r:Nat)(vq:Value)(g:Gr)(e:Ev)(w:World)(x:Ending)(w':World):Prop:=x=outR (zE g e)/\Kp G vq w w'/\(zE g e=0->∃uB,GS G B r w' uB (takG g e))
section
variable {G B r:Nat} {vq:Value} {g:Gr} {e:Ev} {w w':World}
theorem chk_no {k:Int}(h:zE g e=k)(hk:k≠0)(E:Kp G vq w w'):Chk G B r vq g e w (.panicked (brk k)) w':=
 ⟨by rw[h,outR_no hk],E,fun h0=>absurd (h.symm.trans h0) hk⟩
theorem chk_ok {uB:Value}(h:zE g e=0)(E:Kp G vq w w')(hs:GS G B r w' uB (takG g e)):Chk G B r vq g e w (.returned (.tuple #[])) w':=
 ⟨by rw[outR_ok h],E,fun _=>⟨uB,hs⟩⟩
end
theorem GS.base {G B r:Nat}{W:World}{vq:Value}{g:Gr}(h:GS G B r W vq g):B<=W.heap.size:=yO h.hG (Nat.le_of_lt h.lt)
theorem bx_setAt {b:Nat}:∀(us:List Value) (o:Nat) (W:World) (vs:List Value),Bx W b vs->o+us.length<=vs.length->Bx (W.setCells b o us) b (vs.take o++us++vs.drop (o+us.length))
 | [],o,W,vs,h,_=>by simpa[World.setCells] using h
 | u::us,o,W,vs,h,hl=>by
  have Q:o<vs.length:=by simp at hl;omega
  have D:=bx_setAt us (o+1) (W.setCell (J b o) u) (vs.set o u) (fi h Q) (by simp at hl |-;omega);rw[World.setCells]
  have e:(vs.set o u).take (o+1)++us++(vs.set o u).drop (o+1+us.length)=vs.take o++(u::us)++vs.drop (o+(u::us).length):=by
   rw[List.drop_set_of_lt (by omega),List.take_add_one,List.take_set_of_le ya,List.getElem?_set_self Q];simp[Nat.add_assoc,Nat.add_comm 1 us.length]
  rwa[e] at D
theorem gQ {B e sz n:Nat}{v:Value}{xs:List Value}{b:Nat}(E:some b≠v.ownBlock):∀(us:List Value) (o:Nat) (W:World),W.ownsRow B e sz v n xs->(W.setCells b o us).ownsRow B e sz v n xs
 | [],_,_,h=>h
 | u::us,o,W,h=>by rw[World.setCells];exact gQ E us (o+1) _ (ek h E o u)
theorem iH {p:Nat}{t:TypeId}{x:Nat × Nat}:∀(us:List Value) (o:Nat) (W:World),(∃xA,W.heap[p]? = some (.cells xA t x))->∃xA,(W.setCells p o us).heap[p]? = some (.cells xA t x)
 | [],_,_,h=>h
 | u::us,o,W,⟨xA,h⟩=>by rw[World.setCells];exact iH us (o+1) _ (fF W p o u h)
theorem gs_sets {G B r:Nat}{W:World}{vq:Value}{g g':Gr}(h:GS G B r W vq g)(o:Nat)(us:List Value)(hl:o+us.length<=16)(he:gsV r vq g'=(gsV r vq g).take o++us++(gsV r vq g).drop (o+us.length))(hll:g'.l=g.l):GS G B r (W.setCells G o us) vq g':=
 ⟨by rw[he];exact bx_setAt us o W _ h.box hl,by rw[hll];exact gQ h.nq us o W h.row,iH us o W h.typ,(et G r h.ne us o W).trans h.mp,h.hG,h.hr⟩
theorem gs_rowset {G B r:Nat}{W W':World}{vq:Value}{g:Gr}{l':List Od}{b:Nat}(h:GS G B r W vq g)(Q:ORow W' B vq l')(X:W.grownBy W' (some b))(E:vq.ownBlock=some b):GS G B r W' vq { g with l:=l' }:=by
 have nG:some G≠some b:=by rw[<- E];exact h.nq
 have nr:some r≠some b:=by rw[<- E];exact h.nr
 refine⟨dU h.box (X.block G h.lt nG),Q,?_,(X.block r h.rlt nr).trans h.mp,h.hG,h.hr⟩;obtain⟨xA,hc⟩:=h.typ;exact⟨xA,(X.block G h.lt nG).trans hc⟩
section
variable {C:Nat->Value->Prop} {n m:Nat} {p:Addr} {zb:World->Value->Prop} {base W W':World} {x:List Bool} {f:Nat->Value}
end
end Go.Proofs.YthhkapcbocgcoaaGreatDoor
