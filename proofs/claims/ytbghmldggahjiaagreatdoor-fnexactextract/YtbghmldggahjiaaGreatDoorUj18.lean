/-.-/
import Derived.Test.YtbghmldggahjiaaGreatDoorUj17
import Derived.Deep.AppendLies
import Derived.Deep.RegionLaw
set_option linter.unusedVariables false
set_option maxHeartbeats 6400000
set_option maxRecDepth 100000
namespace Go.Proofs.YtbghmldggahjiaaGreatDoor
open Go.RowKit
structure MatS (mb B:Nat) (W:World) (next:Int) (vq:Value) (l:List Od) (t:Od) (vt:Value) (ts:List Ev):Prop where
 cells:W.rangeAt mb 0 [.int .i64 next,vq,.int .i64 t.id,.int .i64 t.side,.int .i64 t.ticks,.int .i64 t.left,.int .i64 t.life,.string t.tag,vt]
 there:W.there mb 0 9
 orow:ORow W B vq l
 erow:ERow W B vt ts
 box:∃cur,W.heap[mb]? = some (.cells cur 276 (0,0))
 le:B<=W.heap.size
structure KeptBut (mb B:Nat) (w w':World):Prop where
 os:w'.os=w.os
 tape:w'.tape=w.tape
 output:w'.output=w.output
 size:w.heap.size<=w'.heap.size
 block:∀k,k<B->k≠mb->w'.heap[k]? = w.heap[k]?
theorem gV {mb B:Nat}{w w1 w2:World}(D:KeptBut mb B w w1)(E:KeptBut mb B w1 w2):KeptBut mb B w w2:=
 ⟨E.os.trans D.os,E.tape.trans D.tape,E.output.trans D.output,yN D.size E.size,fun k X hm=>(E.block k X hm).trans (D.block k X hm)⟩
theorem lu {mb B C:Nat}{w w1:World}(h:Below C w w1)(hC:B<=C):KeptBut mb B w w1:=
 ⟨h.os,h.tape,h.output,h.size,fun k X _=>h.block k (by omega)⟩
theorem kept_took {mb B o:Nat}{G:Option Nat}{w w1:World}(h:TookAt mb o G w w1)(hB:B<=w.heap.size)(hG:∀g,G=some g->B<=g):KeptBut mb B w w1:=
 ⟨h.os,h.tape,h.output,h.size,fun k X hm=>h.block k (by omega) hm (fun e=>by have:=hG k e.symm;omega)⟩
theorem kept_set {mb B:Nat}(w:World)(o:Nat)(u:Value):KeptBut mb B w (w.setCell (U mb o) u):=
 ⟨rfl,rfl,rfl,by simp[World.setCell],fun k _ hm=>yS _ _ _ _ hm⟩
theorem kept_drew {mb B:Nat}{w w1:World}(h:KeptBut mb B w w1):KeptBut mb B w w1.drew:=⟨h.os,h.tape,h.output,h.size,h.block⟩
theorem row_took {p o B e sz n:Nat}{G:Option Nat}{v:Value}{xs:List Value}{w w':World}(h:w.ownsRow B e sz v n xs)(ht:TookAt p o G w w')(hp:some p≠v.ownBlock)(xy:v.ownBlock=none\/v.ownBlock≠G):w'.ownsRow B e sz v n xs:=by
 refine⟨h.1,?_⟩;rcases h.2 with hn|⟨g,cap,xr,rfl,A,hgg,rest⟩
 ·exact .inl hn
 ·refine .inr ⟨g,cap,xr,rfl,A,?_,rest⟩;rw[ht.block g (yY.1 hgg).1 (by simpa[Value.ownBlock] using Ne.symm hp) (by simpa[Value.ownBlock] using xy)];exact hgg
theorem zy {B e sz n b:Nat}{T:TypeId}{v:Value}{xs:List Value}{w:World}(h:w.ownsRow B e sz v n xs)(A:∃xr,w.heap[b]? = some (.cells xr T (0,0)))(xy:T≠e):some b≠v.ownBlock:=by
 obtain⟨cb,A⟩:=A;rcases h.2 with⟨rfl,_⟩|⟨g,cap,xr,rfl,_,hgg,rest⟩
 ·simp[Value.ownBlock]
 ·intro e0;simp only[Value.ownBlock,Option.some.injEq] at e0;subst e0;rw[A] at hgg;simp only[Option.some.injEq,Obj.cells.injEq] at hgg;exact xy hgg.2.1
theorem MatS.nq {mb B:Nat}{W:World}{next:Int}{vq:Value}{l:List Od}{t:Od}{vt:Value}{ts:List Ev}(h:MatS mb B W next vq l t vt ts):some mb≠vq.ownBlock:=zy h.orow h.box (by decide)
theorem MatS.nt {mb B:Nat}{W:World}{next:Int}{vq:Value}{l:List Od}{t:Od}{vt:Value}{ts:List Ev}(h:MatS mb B W next vq l t vt ts):some mb≠vt.ownBlock:=zy h.erow h.box (by decide)
theorem MatS.lt {mb B:Nat}{W:World}{next:Int}{vq:Value}{l:List Od}{t:Od}{vt:Value}{ts:List Ev}(h:MatS mb B W next vq l t vt ts):mb<W.heap.size:=by
 obtain⟨xr,h⟩:=h.box;exact(yY.1 h).1
theorem gF {B B' e e' sz sz' n n':Nat}{v v':Value}{xs xs':List Value}{w:World}(h:w.ownsRow B e sz v n xs)(h':w.ownsRow B' e' sz' v' n' xs')(xy:e≠e'):v.ownBlock=none\/v.ownBlock≠v'.ownBlock:=by
 rcases h.2 with⟨rfl,_⟩|⟨g,cap,xr,rfl,A,hgg,rest⟩
 ·exact .inl rfl
 ·refine .inr ?_;rcases h'.2 with⟨rfl,_⟩|⟨g',qP,cur',rfl,cj,hgg',rest'⟩
  ·simp[Value.ownBlock]
  ·intro e0;simp only[Value.ownBlock,Option.some.injEq] at e0;subst e0;rw[hgg] at hgg';simp only[Option.some.injEq,Obj.cells.injEq] at hgg';exact xy hgg'.2.1
theorem trade_any (mb B:Nat)(next:Int)(vq:Value)(l:List Od)(t:Od)(vt:Value)(ts:List Ev)(o:Od)(k:Nat)(w:World)(h:MatS mb B w next vq l t vt ts)
  (X:plc l o.id=k) (hc:l[k]? = some o) (hn:l.length<=1000) (hts:ts.length<=1000) (ht0:0<=t.left) (ht1:t.left<=1000000) (ho0:0<=o.left) (jQ:o.left<=1000000) (qty:Int) (hq:qty=min t.left o.left) :
  Calls Tryz.prog 221 #[xj mb 0,.agg (yw o.id o.side o.ticks o.left o.life o.tag).toArray] w fun e w' =>
   ∃ux vU,e=ym (.tuple #[])/\MatS mb B w' next ux (dL l k o qty) { t with left:=t.left-qty } vU (ts ++ [trE t.id o.id qty o.ticks])/\KeptBut mb B w w':=by
 obtain⟨vi,vI,xB,xO,vH,jh⟩:=o;simp only at *;have HM:=Q h;have hmw:=h.lt;have jA:=h.le;have hnq:=h.nq;have hnt:=h.nt;have ud:Hid (yn w (w.alloc (J (yw vi vI xB xO vH jh).toArray 98))):=lT _ _;have kX:=zd h.cells (Z ud) hmw;have hf1:=zo w (yw vi vI xB xO vH jh) 98;have y5:=kX 5 _ rfl;have z3:=hf1 3 _ rfl;simp only[Nat.zero_add] at y5 z3;have vW:=Q kX;have HF1:=Q hf1;have HK:=Q X;have HC:=Q hc;have HQ:=Q hq;clear h kX hf1 X hc hq;go_enter Tryz.func221,Tryz.ntmps221;go_wp2_with fail;have HF1:Hid (World.rangeAt (w.alloc (J (yw vi vI xB xO vH jh).toArray 98)) w.heap.size 0 (yw vi vI xB xO vH jh)):=Z HF1;have z3:World.cell? (w.alloc (J (yw vi vI xB xO vH jh).toArray 98)) (yq w 3)=some (H xO):=z3;generalize (w.alloc (J (yw vi vI xB xO vH jh).toArray 98))=W1 at ud vW HF1 y5 z3 |-
 have hmin:∀W,(Builtin.min_ #[3,3] 3 #[H t.left,H xO]).run Tryz.prog W = .ok (H qty) W:=fun W=>by
  rw[Z HQ]
  by_cases uB:t.left<=xO
  ·rw[Int.min_eq_left uB];go_simp;omega
  ·rw[Int.min_eq_right (by omega)];go_simp
 go_quiet (fail);go_wp2_with fail;have hB0:Hid (yn w (W1.drewN nq)):=zp (Z ud) nq;have hM:Hid ((W1.drewN nq).rangeAt mb 0 [H next,vq,H t.id,H t.side,H t.ticks,H t.left,H t.life,yk t.tag,vt]):=Z vW;have hFF:Hid ((W1.drewN nq).rangeAt w.heap.size 0 (yw vi vI xB xO vH jh)):=Z HF1;have hT9:Hid ((W1.drewN nq).there mb 0 9):=zl (Z HM).there (Z hB0) hmw;have HROW:Hid (ERow (W1.drewN nq) B vt ts):=fc (Z HM).erow (Z hB0);have vV:Hid (∃xr,(W1.drewN nq).heap[mb]? = some (.cells xr 276 (0,0))):=by obtain⟨xr,hc⟩:=(Z HM).box;exact⟨xr,((Z hB0).block mb hmw).trans hc⟩
 have HORO:Hid (ORow (W1.drewN nq) B vq l):=zK (Z HM).orow (Z hB0);have xI:w.heap.size<(W1.drewN nq).heap.size:=yK (W1.drewN nq) (yq w (0+0)) (Z hFF 0 _ rfl);clear y5 z3 hmin vW HF1 ud;generalize W1.drewN nq=W0 at hB0 hM hFF hT9 HROW HORO vV xI |-;have HM8:Hid (W0.cell? (U mb 8)=some vt):=Z hM 8 _ rfl;have xT:Hid (W0.cell? (U mb 2)=some (H t.id)):=Z hM 2 _ rfl;have HF0:Hid (W0.cell? (yq w 0)=some (H vi)):=Z hFF 0 _ rfl;have ka:Hid (W0.cell? (yq w 2)=some (H xB)):=Z hFF 2 _ rfl;have HF8:Hid (W0.frozen? (U mb 8)=false):=by have:=(Z hT9 8 (by omega)).2;rwa[Nat.zero_add] at this
 have hmw0:mb<W0.heap.size:=by omega
 have hBW0:B<=W0.heap.size:=by omega
 obtain⟨i0,vA,uE,uw,uC⟩:=info_parts infoEv;refine zL (RT (fun V=>yn W0 V) (fun f=>{ tmps:=#[xj mb 0,.agg (yw vi vI xB xO vH jh).toArray,F,yp w 0,H qty,xj mb 0,xj mb 0,xj mb 2,xj mb 5,H t.left,yp w 3,H xO,H qty,f 0,f 1,f 2,f 3,f 4,f 5,f 6,f 7,f 8,f 9,f 10,f 11,f 12,f 13,f 14,f 15,f 16,f 17,f 18,f 19,F,F,F,F,F,F,F,F,F,F,F,F,F,F,F,F,F],defers:=[] }) 17 20 (DT mb w.heap.size B W0 vt ts t.id vi qty xB)) (by kernel_rfl) ?_ ?_ ?_
 ·exact⟨fun _=>F,rfl,fun _=>⟨rfl,rfl,rfl,Nat.le_refl _,fun _ _=>rfl⟩,fun j hj=>by rw[yI] at hj;split at hj <;> simp at hj⟩
 ·rintro x hb V ⟨f,rfl,-,hD⟩ hx xU;have xv:=eJ xU hx (acyc _ (by kernel_rfl));have aX:x[17]? = some true:=xv 17 (by simp);have k20:x[20]? = some true:=xv 20 (by simp);obtain⟨va,vc,-,-,-,qi⟩:=hD 17 aX;obtain⟨q1,q2,q3⟩:=qi k20;have ax:Hid (_/\_/\_):=⟨q1,q2,q3⟩;clear hD xv xU hx aX k20 qi q1 q2 q3;dsimp only;generalize f 17=v17 at ax |-;generalize f 0=a0,f 1=a1,f 2=a2,f 3=a3,f 4=a4,f 5=a5,f 6=a6,f 7=a7,f 8=a8,f 9=a9,f 10=a10,f 11=a11,f 12=a12,f 13=a13,f 14=a14,f 15=a15,f 16=a16,f 18=a18,f 19=a19;obtain⟨q1,q2,q3⟩:=Z ax;have hvtB:∀g,vt.ownBlock=some g->B<=g/\g<w.heap.size:=(Z HM).erow.lt;have z0:V.cell? (yq w 0)=some (H vi):=(yQ (a:=(yq w 0)) (q3.block w.heap.size xI (by omega) (fun e=>by have:=hvtB _ e.symm;omega))).trans (Z HF0);have y5:V.cell? (U mb 5)=some (H t.left):=(q3.cell 5 (by omega)).trans (Z hM 5 _ rfl);have f5:V.frozen? (U mb 5)=false:=(q3.frozen 5).trans (by have:=(Z hT9 5 (by omega)).2;rwa[Nat.zero_add] at this);have hwr:IntKind.i64.wrap (t.left-qty)=t.left-qty:=by rw[IntKind.wrap_i64];have:=Z HQ;omega
  have hbxV:∃xr,V.heap[mb]? = some (.cells xr 276 (0,0)):=by obtain⟨xr,hc⟩:=Z vV;exact q3.kind _ _ _ hc
  have hn17:some mb≠v17.ownBlock:=zy q2 hbxV (by decide);have HBX2:Hid (∃xr,(V.setCell (U mb 5) (H (t.left-qty))).drew.heap[mb]? = some (.cells xr 276 (0,0))):=by obtain⟨xr,hc⟩:=hbxV;exact fd V mb 5 _ hc
  have hms2:mb<(V.setCell (U mb 5) (H (t.left-qty))).drew.heap.size:=by
   have:=q3.size;show mb<(V.setCell (U mb 5) (H (t.left-qty))).heap.size;simp[World.setCell];omega
  have q4:ORow V B vq l:=row_took (Z HORO) q3 hnq (gF (Z HORO) (Z HROW) (by decide));have Z0:(V.setCell (U mb 5) (H (t.left-qty))).drew.cell? (yq w 0)=some (H vi):=(yL _ _ _ _ (fun e=>by have:=congrArg Addr.block e;simp at this;omega)).trans z0;have pQ:Hid (ORow (V.setCell (U mb 5) (H (t.left-qty))).drew B vq l):=dT q4 hnq 5 _;have HE2:Hid (ERow (V.setCell (U mb 5) (H (t.left-qty))).drew B v17 (ts ++ [trE t.id vi qty xB])):=dT q2 (zy q2 hbxV (by decide)) 5 _;have HC5:Hid ((V.setCell (U mb 5) (H (t.left-qty))).drew.cell? (U mb 5)=some (H (t.left-qty))):=yM _ _ _ y5;have uF:Hid (∀j,j≠5->(V.setCell (U mb 5) (H (t.left-qty))).drew.cell? (U mb j)=V.cell? (U mb j)):=fun j hj=>yL _ _ _ _ (eu (fun e=>hj e.symm));have aj:Hid (∀j,(V.setCell (U mb 5) (H (t.left-qty))).drew.frozen? (U mb j)=V.frozen? (U mb j)):=fun j=>World.frozen?_setCell _ _ _ _;have xV:Hid (KeptBut mb B w (V.setCell (U mb 5) (H (t.left-qty))).drew):=kept_drew (gV (gV (lu (Z hB0) (by omega)) (kept_took q3 (by omega) (fun g M=>(hvtB g M).1))) (kept_set V 5 _))
  have uc:B<=(V.setCell (U mb 5) (H (t.left-qty))).drew.heap.size:=by
   have:=q3.size;show B<=(V.setCell (U mb 5) (H (t.left-qty))).heap.size;simp[World.setCell];omega
  clear q2 q4 ax hbxV;have Q1:=Q q1;have Q3:=Q q3;clear q1 q3 z0;go_wp2_with fail;generalize pW:V.setCell (U mb 5) (H (t.left-qty))=V2 at Z0 pQ HE2 HC5 uF aj xV uc HBX2 hms2 |-;clear pW y5 f5 hwr;refine zw 6 (by kernel_rfl) (by kernel_rfl) ?_;simp only[yT,List.take_zero,yU,List.drop_zero]
  repeat still_step
  refine wpStill_nil ?_;go_wp2_with fail;refine(lh mb 0 B next vi qty vq l k ⟨vi,vI,xB,xO,vH,jh⟩ _ ((Z uF 0 (by omega)).trans (((Z Q3).cell 0 (by omega)).trans (Z hM 0 _ rfl))) ((Z uF 1 (by omega)).trans (((Z Q3).cell 1 (by omega)).trans (Z hM 1 _ rfl))) ((Z aj 1).trans (((Z Q3).frozen 1).trans (by have:=(Z hT9 1 (by omega)).2;rwa[Nat.zero_add] at this))) (Z pQ) hnq hms2 uc hn (Z HK) (Z HC) (by have:=Z HQ;omega) (by have:=Z HQ;show qty<=xO;omega) jQ).mono ?_;rintro e w9 ⟨ux,rfl,qV,bD,dI⟩;have HC1:=Q qV;have HO9:=Q bD;have HT9:=Q dI;clear qV bD dI;go_wp2_with fail;go_end0;have xp:∀j,j≠1->j≠5->j≠8->w9.cell? (U mb j)=W0.cell? (U mb j):=fun j D h5 h8=>((Z HT9).cell j (by omega)).trans ((Z uF j h5).trans ((Z Q3).cell j (by omega)))
  have vz:w9.rangeAt mb 0 [H next,ux,H t.id,H t.side,H t.ticks,H (t.left-qty),H t.life,yk t.tag,v17]:=by
   intro j u hj;rw[Nat.zero_add]
   match j,hj with
   | 0,hj=>cases hj;exact(xp 0 (by omega) (by omega) (by omega)).trans (Z hM 0 _ rfl)
   | 1,hj=>cases hj;exact Z HC1
   | 2,hj=>cases hj;exact(xp 2 (by omega) (by omega) (by omega)).trans (Z hM 2 _ rfl)
   | 3,hj=>cases hj;exact(xp 3 (by omega) (by omega) (by omega)).trans (Z hM 3 _ rfl)
   | 4,hj=>cases hj;exact(xp 4 (by omega) (by omega) (by omega)).trans (Z hM 4 _ rfl)
   | 5,hj=>cases hj;exact((Z HT9).cell 5 (by omega)).trans (Z HC5)
   | 6,hj=>cases hj;exact(xp 6 (by omega) (by omega) (by omega)).trans (Z hM 6 _ rfl)
   | 7,hj=>cases hj;exact(xp 7 (by omega) (by omega) (by omega)).trans (Z hM 7 _ rfl)
   | 8,hj=>cases hj;exact((Z HT9).cell 8 (by omega)).trans ((Z uF 8 (by omega)).trans (Z Q1))
   | j+9,hj=>simp at hj
  refine⟨ux,v17,rfl,⟨vz,fun j hj=>⟨?_,?_⟩,Z HO9,row_took (Z HE2) (Z HT9) hn17 (gF (Z HE2) (Z pQ) (by decide)),by obtain⟨xr,hc⟩:=Z HBX2;exact(Z HT9).kind _ _ _ hc,yN uc (Z HT9).size⟩,gV (Z xV) (kept_took (Z HT9) uc (fun g M=>((Z pQ).lt g M).1))⟩
  ·match j,hj with
   | 0,_=>exact Option.isSome_iff_exists.2 ⟨_,vz 0 _ rfl⟩
   | 1,_=>exact Option.isSome_iff_exists.2 ⟨_,vz 1 _ rfl⟩
   | 2,_=>exact Option.isSome_iff_exists.2 ⟨_,vz 2 _ rfl⟩
   | 3,_=>exact Option.isSome_iff_exists.2 ⟨_,vz 3 _ rfl⟩
   | 4,_=>exact Option.isSome_iff_exists.2 ⟨_,vz 4 _ rfl⟩
   | 5,_=>exact Option.isSome_iff_exists.2 ⟨_,vz 5 _ rfl⟩
   | 6,_=>exact Option.isSome_iff_exists.2 ⟨_,vz 6 _ rfl⟩
   | 7,_=>exact Option.isSome_iff_exists.2 ⟨_,vz 7 _ rfl⟩
   | 8,_=>exact Option.isSome_iff_exists.2 ⟨_,vz 8 _ rfl⟩
   | j+9,h=>omega
  ·have:=(Z hT9 j hj).2;rw[Nat.zero_add] at this |-;exact((Z HT9).frozen j).trans ((Z aj j).trans (((Z Q3).frozen j).trans this))
 ·rintro x hb V i op ⟨f,rfl,aL,hD⟩ xm hx K xJ I;have pB:=Q aL;have HD:=Q hD
  have py:i<17->0<i->¬ x[17]? = some true:=fun xH ot jV=>by
   have h16:=yf xm 17 rfl jV 16 rfl;have h4:=yf xm 17 rfl jV 4 rfl;have jJ:=yf xm 16 rfl h16 15 rfl;have h9:=yf xm 15 rfl jJ 9 rfl;have jz:=yf xm 15 rfl jJ 11 rfl;have qv:=yf xm 15 rfl jJ 12 rfl;have h14:=yf xm 15 rfl jJ 14 rfl;have h8:=yf xm 9 rfl h9 8 rfl;have h7:=yf xm 8 rfl h8 7 rfl;have h6:=yf xm 7 rfl h7 6 rfl;have h5:=yf xm 6 rfl h6 5 rfl;have vv:=yf xm 11 rfl jz 10 rfl;have pU:=yf xm 14 rfl h14 13 rfl;have h3:=yf xm 4 rfl h4 3 rfl;have E:=yf xm 3 rfl h3 2 rfl;have D:=yf xm 2 rfl E 1 rfl
   have jr:∀j,0<j->j<17->x[j]? = some true:=fun j hj0 hj=>by
    rcases(by omega:j=1\/j=2\/j=3\/j=4\/j=5\/j=6\/j=7\/j=8\/j=9\/j=10\/j=11\/j=12\/j=13\/j=14\/j=15\/j=16) with rfl|rfl|rfl|rfl|rfl|rfl|rfl|rfl|rfl|rfl|rfl|rfl|rfl|rfl|rfl|rfl <;> assumption
   rw[jr i ot xH] at xJ;cases xJ
  have n20':i<20->¬ x[20]? = some true:=fun xH h20=>by
   have h19:=yf xm 20 rfl h20 19 rfl;have jV:=yf xm 20 rfl h20 17 rfl;have br:=yf xm 19 rfl h19 18 rfl;have h16:=yf xm 17 rfl jV 16 rfl;have h4:=yf xm 17 rfl jV 4 rfl;have jJ:=yf xm 16 rfl h16 15 rfl;have h9:=yf xm 15 rfl jJ 9 rfl;have jz:=yf xm 15 rfl jJ 11 rfl;have qv:=yf xm 15 rfl jJ 12 rfl;have h14:=yf xm 15 rfl jJ 14 rfl;have h8:=yf xm 9 rfl h9 8 rfl;have h7:=yf xm 8 rfl h8 7 rfl;have h6:=yf xm 7 rfl h7 6 rfl;have h5:=yf xm 6 rfl h6 5 rfl;have vv:=yf xm 11 rfl jz 10 rfl;have pU:=yf xm 14 rfl h14 13 rfl;have h3:=yf xm 4 rfl h4 3 rfl;have E:=yf xm 3 rfl h3 2 rfl;have D:=yf xm 2 rfl E 1 rfl;have h0:=yf xm 18 rfl br 0 rfl
   have jr:∀j,j<20->x[j]? = some true:=fun j hj=>by
    rcases(by omega:j=0\/j=1\/j=2\/j=3\/j=4\/j=5\/j=6\/j=7\/j=8\/j=9\/j=10\/j=11\/j=12\/j=13\/j=14\/j=15\/j=16\/j=17\/j=18\/j=19) with rfl|rfl|rfl|rfl|rfl|rfl|rfl|rfl|rfl|rfl|rfl|rfl|rfl|rfl|rfl|rfl|rfl|rfl|rfl|rfl <;> assumption
   rw[jr i xH] at xJ;cases xJ
  have xn:∀(b o:Nat) (u:Value),W0.cell? (U b o)=some u->¬ x[17]? = some true->V.cell? (U b o)=some u:=fun b o u hu hn17=>((aL hn17).cell (p:=(U b o)) (yK W0 _ hu)).trans hu;clear aL xm
  match i,K with
  | 0,K|1,K|5,K =>
   obtain rfl:=yb K;clear I hD;rw[if_pos (by rfl)];unfold Oper.wp;go_simp;exact⟨upd f _ (xj mb 0),by simp[upd],eC (Z HD) (by decide) (by decide) (fun _ _ h=>h) (Z pB) rfl⟩
  | 2,K =>
   obtain rfl:=yb K;have g:f 1=xj mb 0:=hD 1 (ye I 1 rfl);clear I hD;rw[if_pos (by rfl)];unfold Oper.wp;go_simp;exact⟨upd f 2 (xj mb 0),by simp[upd,g],eC (Z HD) (by decide) (by decide) (fun _ _ h=>h) (Z pB) rfl⟩
  | 3,K =>
   obtain rfl:=yb K;have g:f 2=xj mb 0:=hD 2 (ye I 2 rfl);clear I hD;rw[if_pos (by rfl)];unfold Oper.wp;go_simp;exact⟨upd f 3 (xj mb 8),by simp[upd,g],eC (Z HD) (by decide) (by decide) (fun _ _ h=>h) (Z pB) rfl⟩
  | 4,K =>
   obtain rfl:=yb K;have g:f 3=xj mb 8:=hD 3 (ye I 3 rfl);have kS:=py (by omega) (by omega);have y8:=xn mb 8 _ (Z HM8) kS;clear I hD;rw[if_pos (by rfl)];unfold Oper.wp;go_simp;exact⟨upd f 4 (vt),by simp[upd,g],eC (Z HD) (by decide) (by decide) (fun _ _ h=>h) (Z pB) rfl⟩
  | 6,K =>
   obtain rfl:=yb K;have g:f 5=xj mb 0:=hD 5 (ye I 5 rfl);clear I hD;rw[if_pos (by rfl)];unfold Oper.wp;go_simp;exact⟨upd f 6 (xj mb 0),by simp[upd,g],eC (Z HD) (by decide) (by decide) (fun _ _ h=>h) (Z pB) rfl⟩
  | 7,K =>
   obtain rfl:=yb K;have g:f 6=xj mb 0:=hD 6 (ye I 6 rfl);clear I hD;rw[if_pos (by rfl)];unfold Oper.wp;go_simp;exact⟨upd f 7 (xj mb 2),by simp[upd,g],eC (Z HD) (by decide) (by decide) (fun _ _ h=>h) (Z pB) rfl⟩
  | 8,K =>
   obtain rfl:=yb K;have g:f 7=xj mb 2:=hD 7 (ye I 7 rfl);clear I hD;rw[if_pos (by rfl)];unfold Oper.wp;go_simp;exact⟨upd f 8 (xj mb 2),by simp[upd,g],eC (Z HD) (by decide) (by decide) (fun _ _ h=>h) (Z pB) rfl⟩
  | 9,K =>
   obtain rfl:=yb K;have g:f 8=xj mb 2:=hD 8 (ye I 8 rfl);have kS:=py (by omega) (by omega);have y2:=xn mb 2 _ (Z xT) kS;clear I hD;rw[if_pos (by rfl)];unfold Oper.wp;go_simp;exact⟨upd f 9 (H t.id),by simp[upd,g],eC (Z HD) (by decide) (by decide) (fun _ _ h=>h) (Z pB) rfl⟩
  | 10,K =>
   obtain rfl:=yb K;clear I hD;rw[if_pos (by rfl)];unfold Oper.wp;go_simp;exact⟨upd f 10 (yp w 0),by simp[upd],eC (Z HD) (by decide) (by decide) (fun _ _ h=>h) (Z pB) rfl⟩
  | 11,K =>
   obtain rfl:=yb K;have g:f 10=yp w 0:=hD 10 (ye I 10 rfl);have kS:=py (by omega) (by omega);have z0:=xn w.heap.size 0 _ (Z HF0) kS;clear I hD;rw[if_pos (by rfl)];unfold Oper.wp;go_simp;exact⟨upd f 11 (H vi),by simp[upd,g],eC (Z HD) (by decide) (by decide) (fun _ _ h=>h) (Z pB) rfl⟩
  | 12,K =>
   obtain rfl:=yb K;clear I hD;rw[if_pos (by rfl)];unfold Oper.wp;go_simp;exact⟨upd f 12 (H qty),by simp[upd],eC (Z HD) (by decide) (by decide) (fun _ _ h=>h) (Z pB) rfl⟩
  | 13,K =>
   obtain rfl:=yb K;clear I hD;rw[if_pos (by rfl)];unfold Oper.wp;go_simp;exact⟨upd f 13 (yp w 2),by simp[upd],eC (Z HD) (by decide) (by decide) (fun _ _ h=>h) (Z pB) rfl⟩
  | 14,K =>
   obtain rfl:=yb K;have g:f 13=yp w 2:=hD 13 (ye I 13 rfl);have kS:=py (by omega) (by omega);have z2:=xn w.heap.size 2 _ (Z ka) kS;clear I hD;rw[if_pos (by rfl)];unfold Oper.wp;go_simp;exact⟨upd f 14 (H xB),by simp[upd,g],eC (Z HD) (by decide) (by decide) (fun _ _ h=>h) (Z pB) rfl⟩
  | 15,K =>
   obtain rfl:=yb K;have g9:f 9=H t.id:=hD 9 (ye I 9 rfl);have jU:f 11=H vi:=hD 11 (ye I 11 rfl);have qh:f 12=H qty:=hD 12 (ye I 12 rfl);have bp:f 14=H xB:=hD 14 (ye I 14 rfl);clear I hD;rw[if_pos (by rfl)];unfold Oper.wp;go_simp;exact⟨upd f 15 (evV (trE t.id vi qty xB)),by simp[upd,g9,jU,qh,bp,evV,trE,zCm],eC (Z HD) (by decide) (by decide) (fun _ _ h=>h) (Z pB) rfl⟩
  | 16,K =>
   obtain rfl:=yb K;have g:f 15=evV (trE t.id vi qty xB):=hD 15 (ye I 15 rfl);have kS:=py (by omega) (by omega);have kg:=Z pB kS;clear I hD;unfold evV trE at g;rw[if_pos (by rfl)];unfold Oper.wp;go_simp;refine⟨upd f 16 (.slice (some (yq V 0)) 1 1),by simp[upd,g],eC (Z HD) (by decide) (by decide) (dt_alloc kS) (fun _=>kg.alloc kg.size _) ⟨V.heap.size,rfl,fun _=>?_⟩⟩;exact cellsT V (trE t.id vi qty xB) 89
  | 17,K =>
   obtain rfl:=yb K;have g4:f 4=vt:=hD 4 (ye I 4 rfl);obtain⟨s,g16,bz⟩:=hD 16 (ye I 16 rfl);have kS:¬ x[17]? = some true:=by rw[xJ];simp
   have n20:=n20' (by omega);have kg:=Z pB kS;have xS:ERow V B vt ts:=fc (Z HROW) kg;rw[if_pos (by rfl)];refine wp_append_own V (.tmp 17) (.tmp 29) 87 rfl B 89 i0 _ 14 120 Tryz.underlying87 vA uE uw uC rfl (by decide) vt ts.length (ts.flatMap Ev.vs) g4 xS (U s 0) 1 1 (trE t.id vi qty xB).vs g16 rfl (bz kS) (one_ev _) (by unfold maxLen;omega) (by omega) (by have:=kg.size;omega) ?_;intro v' w' xL vY _;obtain⟨ga,gc,rfl⟩:=row_sliceT xL (by omega);refine⟨upd f 17 (.slice (some (U ga 0)) (ts.length+1) gc),rfl,rt_one (by decide) (Z HD) xJ n20 (fun j v hj h=>dt_one j v hj h) ⟨some (U ga 0),gc,rfl,trivial,fun _=>⟨?_,?_⟩,fun h=>h.elim⟩⟩
   ·show World.ownsRow _ _ _ _ _ (ts ++ [trE t.id vi qty xB]).length _;rw[yP,List.flatMap_append];simpa using xL
   ·exact(gf kg ya).trans vY
  | 18,K =>
   obtain rfl:=yb K;have g:f 0=xj mb 0:=hD 0 (ye I 0 rfl);clear I hD;rw[if_pos (by rfl)];unfold Oper.wp;go_simp;exact⟨upd f 18 (xj mb 0),by simp[upd,g],eC (Z HD) (by decide) (by decide) (fun _ _ h=>h) (Z pB) rfl⟩
  | 19,K =>
   obtain rfl:=yb K;have g:f 18=xj mb 0:=hD 18 (ye I 18 rfl);clear I hD;rw[if_pos (by rfl)];unfold Oper.wp;go_simp;exact⟨upd f 19 (xj mb 8),by simp[upd,g],eC (Z HD) (by decide) (by decide) (fun _ _ h=>h) (Z pB) rfl⟩
  | 20,K =>
   obtain rfl:=yb K;have g19:f 19=xj mb 8:=hD 19 (ye I 19 rfl);have aX:x[17]? = some true:=I ⟨17,.data⟩ (by simp) rfl;have n20:¬ x[20]? = some true:=by rw[xJ];simp
   obtain⟨ga,gc,g17,-,hfa,-⟩:=hD 17 aX;obtain⟨her,vY⟩:=hfa n20;have hmbV:some mb≠vt.ownBlock:=hnt;have y8:=vY.cell (Z HM8) hmbV;have f8:V.frozen? (U mb 8)=false:=(World.frozen?_of_block (a:=(U mb 8)) (vY.block mb (by omega) hmbV)).trans (Z HF8);have pC:=Q (g17 ▸ her);have HBXV:Hid (∃xr,V.heap[mb]? = some (.cells xr 276 (0,0))):=by obtain⟨xr,hc⟩:=Z vV;exact⟨xr,(vY.block mb (by omega) hmbV).trans hc⟩
   have qm:=Q vY;clear I hD her vY hfa;rw[if_pos (by rfl)];unfold Oper.wp;go_simp;refine⟨upd f 20 F,by simp[upd,g19,g17],rt_two (by decide) (Z HD) aX xJ (fun j hj hxj h=>dt_two j hj h (fun hj17=>?_)) trivial⟩;subst hj17;obtain⟨-,-,-,-,-,-⟩:=h;refine⟨ga,gc,g17,trivial,fun h=>absurd trivial h,fun _=>?_⟩;rw[g17];refine⟨yM _ _ _ y8,dT (Z pC) (zy (Z pC) (Z HBXV) (by decide)) 8 _,?_⟩;exact gX (gG (Z qm) (by omega) hmbV) (took_set (o:=7) _ _)
  | i+21,K=>simp at K
theorem one_od (o:Od):∀u∈o.vs,u.oneCell'=true:=by
 intro u hu;simp[Od.vs] at hu;rcases hu with rfl|rfl|rfl|rfl|rfl|rfl <;> rfl
section
variable {mb B:Nat} {W0 V V':World} {vq:Value} {l:List Od} {t:Od} {p q:Prop}
end
theorem matS_took {mb B:Nat}{W w':World}{next:Int}{vq ux:Value}{l l':List Od}{t:Od}{vt:Value}{ts:List Ev}(h:MatS mb B W next vq l t vt ts)(ht:TookAt mb 0 vq.ownBlock W w')(hc:w'.cell? (U mb 1)=some ux)(K:ORow w' B ux l'):MatS mb B w' next ux l' t vt ts:=by
 have xp:∀j,j≠1->w'.cell? (U mb j)=W.cell? (U mb j):=fun j D=>ht.cell j (by omega);refine⟨?_,fun j hj=>⟨?_,?_⟩,K,row_took h.erow ht h.nt (gF h.erow h.orow (by decide)),by obtain⟨xr,hc⟩:=h.box;exact ht.kind _ _ _ hc,yN h.le ht.size⟩
 ·intro j u hj
  by_cases D:j=1
  ·subst D;cases hj;exact hc
  ·rw[Nat.zero_add,xp j D]
   have:W.cell? (U mb (0+j))=some u:=h.cells j u (by
    rcases j with _ | _ | j
    ·exact hj
    ·exact absurd rfl D
    ·exact hj)
   rwa[Nat.zero_add] at this
 ·by_cases D:j=1
  ·subst D;rw[Nat.zero_add,hc];rfl
  ·rw[Nat.zero_add,xp j D];have:=(h.there j hj).1;rwa[Nat.zero_add] at this
 ·rw[Nat.zero_add,ht.frozen];have:=(h.there j hj).2;rwa[Nat.zero_add] at this
theorem cells_of_mk (w:World)(cs:List Value)(t:TypeId)(j:Nat)(u:Value)(h:cs[j]? = some u):((w.alloc (Obj.cells cs.toArray t)).drew).cell? (((yq w 0):Addr).add j)=some u:=
 World.news_of_block (heap_alloc_new w (Obj.cells cs.toArray t)) j u (by simpa using h)
theorem rest_any (mb B:Nat)(next:Int)(vq:Value)(l:List Od)(t:Od)(vt:Value)(ts:List Ev)(w:World)(h:MatS mb B w next vq l t vt ts)(hn:l.length<=1000) :
  Calls Tryz.prog 208 #[xj mb 0] w fun e w'=>∃ux,e=ym (.tuple #[])/\MatS mb B w' next ux (l ++ [t]) t vt ts/\KeptBut mb B w w':=by
 have HM:=Q h;have hmw:=h.lt;have jA:=h.le;have hnq:=h.nq;have vV:=Q h.box;have HORO:=Q h.orow;have hM:=Q h.cells;have jx:Hid (w.cell? (U mb 1)=some vq):=Z hM 1 _ rfl;have HF1:Hid (w.frozen? (U mb 1)=false):=by have:=(h.there 1 (by omega)).2;rwa[Nat.zero_add] at this
 clear h;obtain⟨i0,vA,uE,uw,uC⟩:=info_parts Tryz.infoOrder;go_enter Tryz.func208,Tryz.ntmps208;go_wp2_with fail;have hj1:=Z jx;have hf1:=Z HF1;have k2:=Z hM 2 _ rfl;have k3:=Z hM 3 _ rfl;have k4:=Z hM 4 _ rfl;have k5:=Z hM 5 _ rfl;have k6:=Z hM 6 _ rfl;have k7:=Z hM 7 _ rfl;rw[Nat.zero_add] at k2 k3 k4 k5 k6 k7
 go_region_law ((refine step_append_lies _ (by rfl) _ _ _ (by rfl) B 98 i0 _ 6 56 Tryz.underlying39 vA uE uw uC rfl (by decide) _ l.length (l.flatMap Od.vs) (by rfl) (zK (Z HORO) ((Below.refl w.heap.size w).alloc ya _).drew) (yq w 0) 1 1 t.vs (by rfl) rfl (cells_of_mk w t.vs _) (one_od t) (by decide) (by unfold maxLen;omega) (by omega) (by show B<=(w.alloc _).heap.size;rw[zh];omega) (w.heap.size+1) (by simp) ?_;intro gq cq w5 qC kN hat5 hlt5;have y1:=(kN.cell_far (U mb 1) (by show mb<(w.alloc _).heap.size;rw[zh];omega) hnq).trans ((((Below.refl w.heap.size w).alloc ya _).drew.cell (p:=(U mb 1)) (by show mb < _;omega)).trans hj1);have r1:=(kN.frozen_far (U mb 1) (by show mb<(w.alloc _).heap.size;rw[zh];omega) hnq).trans ((World.frozen?_of_block (a:=(U mb 1)) (((Below.refl w.heap.size w).alloc ya _).drew.block mb (by omega))).trans hf1)))
 all_goals
  have kf:yn w ((w.alloc (Obj.cells t.vs.toArray 98)).drew):=((Below.refl w.heap.size w).alloc ya _).drew;have vY:w.grownBy w5 vq.ownBlock:=zC (gf kf ya) kN;have oD:TookAt mb 0 vq.ownBlock w (w5.setCell (U mb 1) (.slice (some (U gq 0)) (l.length+1) cq)):=gX (gG vY (by omega) hnq) (took_set (o:=0) _ _);have jm:∃xr,w5.heap[mb]? = some (.cells xr 276 (0,0)):=by obtain⟨xr,hc⟩:=Z vV;exact⟨xr,(vY.block mb (by omega) hnq).trans hc⟩
  have hrw:ORow w5 B (.slice (some (U gq 0)) (l.length+1) cq) (l ++ [t]):=by show World.ownsRow _ _ _ _ _ _ _;rw[yP,List.flatMap_append];simpa using qC
  go_end0;exact⟨_,rfl,matS_took (Z HM) oD (yM _ _ _ y1) (dT hrw (zy hrw jm (by decide)) 1 _),kept_took oD jA (fun g M=>((Z HORO).lt g M).1)⟩
def fullB (l:List Od):Bool:=if 20<l.length then true else decide (8<((dX true 1 (zB l 1)).length:Int)+(dX false 2 (zB l 2)).length)
def DF (mb:Nat)(BV:Value)(q1 q2:List Od)(N:Int)(p:Prop)(W:World):Nat->Value->Prop
 | 0,v=>v=xj mb 0
 | 1,v=>v=xj mb 0
 | 2,v=>v=xj mb 0
 | 3,v=>v=BV
 | 4,v=>∃b,v=fo b/\Tb W b q1
 | 5,v=>v=xj mb 0
 | 6,v=>v=xj mb 0
 | 7,v=>v=xj mb 0
 | 8,v=>v=BV
 | 9,v=>∃b,v=fq b/\Ts W b q2
 | 10,v=>v=H N
 | 11,v=>v = .bool (decide (8<N))
 | 12,v=>v = .bool (decide (8<N))
 | _,_=>True
theorem df_mono {mb:Nat}{BV:Value}{q1 q2:List Od}{N:Int}:∀p W W' j v,yn W W'->DF mb BV q1 q2 N p W j v->DF mb BV q1 q2 N p W' j v:=by
 intro p W W' j v A h
 match j with
 | 0|1|2|3|5|6|7|8|10|11|12=>exact h
 | 4=>obtain⟨b,D,E⟩:=h;exact⟨b,D,zH E (A.block _ (zZ E))⟩
 | 9=>obtain⟨b,D,E⟩:=h;exact⟨b,D,zH E (A.block _ (zZ E))⟩
 | n+13=>trivial
theorem isTooFull_any (mb B:Nat)(next:Int)(vq:Value)(l:List Od)(t:Od)(vt:Value)(ts:List Ev)(w:World)(h:MatS mb B w next vq l t vt ts)(hm:l.length<=1000)(hl:∀o'∈l,0<=o'.left/\o'.left<=1000000) :
  Calls Tryz.prog 209 #[xj mb 0] w fun e w'=>e=ym (.bool (fullB l))/\yn w w':=by
 have hmw:=h.lt;have jA:=h.le;have HR:=Q (zP h.orow (by omega));obtain⟨a,cap,rfl,_,_⟩:=zP h.orow (by omega);have HM:=Q h.cells;have z0:w.cell? (U mb 0)=some (H next):=h.cells 0 _ rfl;have z1:w.cell? (U mb 1)=some (.slice a l.length cap):=h.cells 1 _ rfl;have HLB:=Q hl;clear h hl;go_enter Tryz.func209,Tryz.ntmps209
 by_cases h20:20<l.length
 ·have h20':(20:Int)<l.length:=by omega
  have HF:Hid (fullB l=true):=if_pos h20;clear h20;go_wp2_with fail;go_ret;exact⟨zO (Z HF).symm,Below.refl _ _⟩
 have h20':¬ (20:Int)<l.length:=by omega
 have hn:l.length<=20:=by omega
 have n1:(zB l 1).length<=20:=yN (List.length_filter_le _ _) hn;have n2:(zB l 2).length<=20:=yN (List.length_filter_le _ _) hn;generalize hN:((dX true 1 (zB l 1)).length:Int)+(dX false 2 (zB l 2)).length=N;have HF:Hid (fullB l=decide (8<N)):=by show _ = _;rw[fullB,if_neg h20,hN]
 have HNN:=Q hN;clear hN h20;go_wp2_with fail;clear z0 z1;refine zL (RG w (fun f=>{ tmps:=#[xj mb 0,F,f 12,xj mb 0,xj mb 0,xj mb 0,xj mb 1,.slice a l.length cap,H l.length,.bool false,f 0,f 1,f 2,f 3,f 4,f 5,f 6,f 7,f 8,f 9,f 10,f 11],defers:=[] }) 99 (DF mb (.agg #[H next,.slice a l.length cap]) (zB l 1) (zB l 2) N)) (by kernel_rfl) ?_ ?_ ?_
 ·exact⟨fun j=>if j=12 then .bool false else F,rfl,⟨rfl,rfl,rfl,Nat.le_refl _,fun _ _=>rfl⟩,fun j hj=>by rw[yI] at hj;split at hj <;> simp at hj⟩
 ·rintro x hb V ⟨f,rfl,xk,hD⟩ hx xU;have xv:=eJ xU hx (acyc _ (by kernel_rfl));have vJ:f 12 = .bool (decide (8<N)):=hD 12 (xv 12 (by simp));have xM:=Q xk;simp only[vJ];clear hD xv vJ xU hx xk;go_wp2_with fail;go_ret;exact⟨zO (Z HF).symm,Z xM⟩
 ·rintro x hb V i o ⟨f,rfl,xk,hD⟩ xm hx K xJ I;clear xm;have xM:=Q xk;have HD:=Q hD;have z0:=zd (Z HM) xk hmw 0 _ rfl;have z1:=zd (Z HM) xk hmw 1 _ rfl;rw[Nat.zero_add] at z0 z1;have uU:=Q (zq (Z HR) xk ya)
  match i,K with
  | 0,K|5,K =>
   obtain rfl:=yb K;clear I hD xk;rw[if_pos (by rfl)];unfold Oper.wp;go_simp;exact⟨upd f _ (xj mb 0),by simp[upd],zF (Z xM) (Z HD) (by decide) rfl⟩
  | 1,K =>
   obtain rfl:=yb K;have g:f 0=xj mb 0:=hD 0 (ye I 0 rfl);clear I hD xk;rw[if_pos (by rfl)];unfold Oper.wp;go_simp;exact⟨upd f 1 (xj mb 0),by simp[upd,g],zF (Z xM) (Z HD) (by decide) rfl⟩
  | 2,K =>
   obtain rfl:=yb K;have g:f 1=xj mb 0:=hD 1 (ye I 1 rfl);clear I hD xk;rw[if_pos (by rfl)];unfold Oper.wp;go_simp;exact⟨upd f 2 (xj mb 0),by simp[upd,g],zF (Z xM) (Z HD) (by decide) rfl⟩
  | 3,K =>
   obtain rfl:=yb K;have g:f 2=xj mb 0:=hD 2 (ye I 2 rfl);clear I hD xk;rw[if_pos (by rfl)];unfold Oper.wp;go_simp;exact⟨upd f 3 (.agg #[H next,.slice a l.length cap]),by simp[upd,g],zF (Z xM) (Z HD) (by decide) rfl⟩
  | 4,K =>
   obtain rfl:=yb K;have g:f 3 = .agg #[H next,.slice a l.length cap]:=hD 3 (ye I 3 rfl);clear I hD xk;rw[if_pos (by rfl)];unfold Oper.wp;go_simp;refine(lz next _ l V (Z uU) hn (Z HLB)).mono ?_;rintro e w4 ⟨b,rfl,ht,uB,xz⟩;exact⟨upd f 4 (fo b),by simp[upd,g],rg_grow df_mono (Z xM) (Z HD) xz (by decide) ⟨b,rfl,ht⟩⟩
  | 6,K =>
   obtain rfl:=yb K;have g:f 5=xj mb 0:=hD 5 (ye I 5 rfl);clear I hD xk;rw[if_pos (by rfl)];unfold Oper.wp;go_simp;exact⟨upd f 6 (xj mb 0),by simp[upd,g],zF (Z xM) (Z HD) (by decide) rfl⟩
  | 7,K =>
   obtain rfl:=yb K;have g:f 6=xj mb 0:=hD 6 (ye I 6 rfl);clear I hD xk;rw[if_pos (by rfl)];unfold Oper.wp;go_simp;exact⟨upd f 7 (xj mb 0),by simp[upd,g],zF (Z xM) (Z HD) (by decide) rfl⟩
  | 8,K =>
   obtain rfl:=yb K;have g:f 7=xj mb 0:=hD 7 (ye I 7 rfl);clear I hD xk;rw[if_pos (by rfl)];unfold Oper.wp;go_simp;exact⟨upd f 8 (.agg #[H next,.slice a l.length cap]),by simp[upd,g],zF (Z xM) (Z HD) (by decide) rfl⟩
  | 9,K =>
   obtain rfl:=yb K;have g:f 8 = .agg #[H next,.slice a l.length cap]:=hD 8 (ye I 8 rfl);clear I hD xk;rw[if_pos (by rfl)];unfold Oper.wp;go_simp;refine(ln next 2 (by omega) _ l V (Z uU) hn (Z HLB)).mono ?_;rintro e w4 ⟨b,rfl,ht,uB,xz⟩;exact⟨upd f 9 (fq b),by simp[upd,g],rg_grow df_mono (Z xM) (Z HD) xz (by decide) ⟨b,rfl,ht⟩⟩
  | 10,K =>
   obtain rfl:=yb K;obtain⟨b1,g4,t4⟩:=hD 4 (ye I 4 rfl);obtain⟨b2,g9,t9⟩:=hD 9 (ye I 9 rfl);have bU:=Q t4;have HT9:=Q t9;clear I hD xk t4 t9;rw[if_pos (by rfl)];unfold Oper.wp;go_simp;refine(lO b1 b2 1 2 (zB l 1) (zB l 2) V (Z bU) (Z HT9) n1 n2).mono ?_;rw[Z HNN];rintro e w4 ⟨rfl,xz⟩;exact⟨upd f 10 (H N),by simp[upd,g4,g9],rg_grow df_mono (Z xM) (Z HD) xz (by decide) rfl⟩
  | 11,K =>
   obtain rfl:=yb K;have g:f 10=H N:=hD 10 (ye I 10 rfl);clear I hD xk;rw[if_pos (by rfl)];unfold Oper.wp;go_simp;exact⟨upd f 11 (.bool (decide (8<N))),by simp[upd,g],zF (Z xM) (Z HD) (by decide) rfl⟩
  | 12,K =>
   obtain rfl:=yb K;have g:f 11 = .bool (decide (8<N)):=hD 11 (ye I 11 rfl);clear I hD xk;rw[if_pos (by rfl)];unfold Oper.wp;go_simp;exact⟨upd f 12 (.bool (decide (8<N))),by simp[upd,g],zF (Z xM) (Z HD) (by decide) rfl⟩
  | n+13,K=>simp at K
end Go.Proofs.YtbghmldggahjiaaGreatDoor
