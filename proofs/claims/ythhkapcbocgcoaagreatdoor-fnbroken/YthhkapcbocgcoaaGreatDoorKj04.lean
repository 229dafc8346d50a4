/-.-/
import Derived.Test.YthhkapcbocgcoaaGreatDoorKj01
set_option linter.unusedVariables false
set_option maxHeartbeats 6400000
set_option maxRecDepth 100000
namespace Go.Proofs.YthhkapcbocgcoaaGreatDoor
open Go.RowKit
theorem better_s (a c:Int)(w:World) :
  Calls Tryz.prog 233 #[.agg #[],H a,H c] w fun e w'=>e=ym (.bool (decide (a<c)))/\w.grownBy w' none:=by
 go_enter Tryz.func233,Tryz.ntmps233;go_wp2_with fail;go_ret;exact⟨rfl,World.grownBy_alloc _ _ _⟩
theorem method_s (w:World):Sem.run Tryz.prog (method 390 158 (.agg #[]) "loop.example/g00092/impl.better") w = .ok (233,.agg #[]) w:=by kernel_rfl
theorem part_s {w:World}{b:Nat}(h:∃xA,w.heap[b]? = some (.cells xA 200 (0,0))):Sem.run Tryz.prog (partAt (J b 0) 0 0) w = .ok (J b 0) w:=by
 obtain⟨xA,h⟩:=h;have hc:Tryz.prog.cellsOf 200 = 318:=by kernel_rfl
 have hy:byteOfCell Tryz.prog Tryz.prog.depth 200 0=some 0:=by kernel_rfl
 have hs:w.shape? b=some (200,xA.size):=by simp[World.shape?,h]
 simp[partAt,byteOf,noView,viewAt,hs,hc,hy]
theorem levelFor_s (b:Nat)(S:TS)(t:Tr)(o:Od)(w:World)(hT:TM 200 w b S)(hi:TI false S t)(qw:S.lc<20) :
  Calls Tryz.prog 195 #[I b 0,.agg (yw o.id o.side o.ticks o.left o.life o.tag).toArray] w fun e w' =>
   ∃(h:Nat),e=ym (H h)/\LFEnd false 200 b S t o w h w':=by
 have HT:=Z hT;have HI:=Z hi;clear hT hi;go_enter Tryz.func195,Tryz.ntmps195;go_wp2_with fail
 have HW:Hid (∃W,W=(w.alloc (mq (yw o.id o.side o.ticks o.left o.life o.tag).toArray 65))/\W.rangeAt w.heap.size 0 o.vs/\TM 200 W b S/\w.grownBy W (some b)/\w.heap.size<W.heap.size/\b≠w.heap.size):=
  ⟨_,rfl,zm w o.vs _,eT (U HT) (Below.heap_alloc w _ _ (tm_lt (U HT))),World.grownBy_alloc _ _ _,by rw[zf];omega,by have:=tm_lt (U HT);omega⟩
 obtain⟨W,hW,hWW⟩:=U HW;rw[<- hW];have cC:=Z hWW;clear hW hWW HW HT
 go_loopg [5] (t.hs.length) (fun k p wr=>LFI false b S t o.ticks W k p wr)
 case atStart=>exact⟨[],t,rfl,Nat.le_refl _,way_start (U HI) _,yS _ _⟩
 case round =>
  obtain⟨c,u,rfl,hk,hw,X⟩:=hrel;have om:=Z hw;have HG:=Z X;have HK:=Z hk;have hT:=iO (U cC).2.1 X (by simp);have c0:=cur_cell hT (dP c) (cur_ok (U HI) hw qw);obtain⟨o0,o1,o2,o3,o4,o5⟩:=zF (zr (U cC).1 X (U cC).2.2.2.1 (by simp));clear hk hw X
  by_cases ha:S.rd (dP c)=0
  ·have jY:=hT.lc;have hf:=hT.fr;have HA0:=Z ha;rw[ha] at c0;have hlc':(S.lc:Int)<20:=by omega
   have e1:((S.lc+1:Nat):Int)=(S.lc:Int)+1:=by omega
   have vD:=cur_ok (U HI) (U om) qw;have t1:=tm_lc hT (S.lc+1);have t2:=tm_cur t1 (dP c) vD (S.lc+1);rw[e1] at t1 t2;have d2:_ = _:=(cur_cell t1 (dP c) vD).trans (congrArg (fun x:Nat=>some (H x)) (show TS.rd _ (dP c)=0 from by rw[<- ha];cases (dP c) <;> rfl));have d3:_ = _:=t2.lc;rw[(wr_same _ _ _).1] at d3;simp only[e1] at d3;have g1:=t1.fr;have g2:=t2.fr;obtain⟨n0,n1,n2,n3,-⟩:=zS (t2.nd (S.lc+1) (by omega));have E:b≠w.heap.size:=(U cC).2.2.2.2
   have p1:((wr.setCell (J b 1) (H ((S.lc:Int)+1))).setCell (J b ((dP c).off)) (H ((S.lc:Int)+1))).cell? (yq w (0+1))=some (H o.side):=by
    rw[yM _ _ _ _ (fun e=>E (congrArg Addr.block e)),yM _ _ _ _ (fun e=>E (congrArg Addr.block e))];exact o1
   have p2:((wr.setCell (J b 1) (H ((S.lc:Int)+1))).setCell (J b ((dP c).off)) (H ((S.lc:Int)+1))).cell? (yq w (0+2))=some (H o.ticks):=by
    rw[yM _ _ _ _ (fun e=>E (congrArg Addr.block e)),yM _ _ _ _ (fun e=>E (congrArg Addr.block e))];exact o2
   have un:=Z t2;have HB:=Z E;clear ha hT t1 t2 vD E;go_wp2_with fail;have xU:Hid (wr.grownBy ((wr.setCell (J b 1) (H ((S.lc:Int)+1))).setCell (J b ((dP c).off)) (H ((S.lc:Int)+1))) (some b)):=zT (zT (yS _ _) _ _) _ _;generalize hW4:((wr.setCell (J b 1) (H ((S.lc:Int)+1))).setCell (J b ((dP c).off)) (H ((S.lc:Int)+1)))=W4 at *;rw[<- e1] at d3;obtain⟨m,hm⟩:∃m,m=S.lc+1:=⟨_,rfl⟩;rw[<- hm] at d3 n0 n1 n2 n3;have hm21:(m:Int)<21:=by omega
   have HM:=Z hm;clear hW4 hm e1 d2 jY hf g1 c0 o0 o1 o2 o3 o4 o5 hlc'
   go_region
   have t3:=U un;have t4:=eu t3 (S.lc+1) 0 (by omega) (by omega) (H o.side) { (TS.nd _ (S.lc+1)) with side:=o.side } rfl _ rfl;have t5:=eu t4 (S.lc+1) 1 (by omega) (by omega) (H o.ticks) { (TS.nd _ (S.lc+1)) with ticks:=o.ticks } rfl _ rfl;have t6:=eu t5 (S.lc+1) 2 (by omega) (by omega) (H 0) { (TS.nd _ (S.lc+1)) with qty:=0 } rfl _ rfl;have t7:=eu t6 (S.lc+1) 3 (by omega) (by omega) (H 0) { (TS.nd _ (S.lc+1)) with count:=0 } rfl _ rfl;have jt:=Z (gr_drew (zT (zT (zT (zT (U xU) (2+m*8) (H o.side)) (2+m*8+1) (H o.ticks)) (2+m*8+2) (H 0)) (2+m*8+3) (H 0)));rw[<- U HM] at t7;simp only[gF,zo] at t7;have hS:_ = S.grow (dP c) o.side o.ticks:=grow_eq S (dP c) o m (U HM);rw[hS] at t7;have d7:_ = some (H (m:Int)):=t7.lc.trans (by rw[U HM];rfl);have HT7:=Z t7;clear t3 t4 t5 t6 t7 n0 n1 n2 n3 d3 p1 p2;generalize (((W4.setCell (J b (2+m*8)) (H o.side)).setCell (J b (2+m*8+1)) (H o.ticks)).setCell (J b (2+m*8+2)) (H 0)).setCell (J b (2+m*8+3)) (H 0)=W7 at *;go_wp2_with fail;go_ret;exact⟨m,rfl,_,eT (U HT7) rfl,(U cC).2.2.1.trans (((U HG).but _).trans (U jt)),.inr ⟨c,u,U om,U HA0,U HM,rfl⟩⟩
  ·have ham:=way_at (U om) rfl ha;have har:=(U HI).range _ ham;obtain⟨a,pV⟩:∃a,a=S.rd (dP c):=⟨_,rfl⟩;rw[<- pV] at c0 ha ham har;have HAE:=Z pV;have ha':¬ ((a:Int)=0):=by omega
   have ha21:(a:Int)<21:=by omega
   obtain⟨n0,n1,n2,n3,n4,n5,n6,n7⟩:=zS (hT.nd a (by omega));have HTM:=Z hT;have pD:∀w',wr.grownBy w' none->Sem.run Tryz.prog (partAt (J b 0) 0 0) w' = .ok (J b 0) w':=fun w' h=>part_s (iO (U HTM) h (by simp)).obj;have HPT:=Z pD;have HN1:=Z (fun w' (h:wr.grownBy w' none)=>h.cell n1 (by simp));have je:=Z (fun w' (h:wr.grownBy w' none)=>h.cell o2 (by simp));clear pV hT pD;go_wp2_with fail;go_quiet (fail);go_wp2_with fail;refine ix (W:=wr) (by kernel_rfl) (by kernel_rfl) ⟨rfl,rfl,rfl,Nat.le_refl _,fun _ _ _=>rfl⟩ ?_
   iterate 12 (
    refine eG (v:=?_) ?_ ?_ ?_;rotate_left
    ·rfl
    ·intro w' uq;have f1:=U HN1 w' uq;have f2:=U je w' uq;have f3:=U HPT w' uq;go_simp
     try rfl
    intro mR hK;go_simp;refine hK _ ?_;clear hK mR)
   refine eG (v:=.bool (decide (o.ticks<(S.nd a).ticks))) ?_ ?_ ?_
   ·rfl
   ·intro w' uq;have hm:=method_s w';go_simp;refine(better_s _ _ _).mono ?_;rintro e w3 ⟨rfl,uM⟩;exact⟨rfl,uq.trans uM⟩
   intro mR hK;go_simp;refine hK _ ?_;clear hK mR;refine eG (v:=?_) ?_ ?_ ?_;rotate_left
   ·rfl
   ·intro w' uq;go_simp
    try rfl
   intro mR hK;go_simp;refine hK _ ?_;clear hK mR;refine wpQuiet_nil ?_;intro w2 uD;have uj:=Z uD;clear uD
   by_cases D:o.ticks<(S.nd a).ticks
   ·have h1':decide (o.ticks<(S.nd a).ticks)=true:=by simpa using D
    go_wp2_with fail;obtain⟨l,r,rfl,hw2⟩:=way_be (U HI) (U om) (U HAE).symm ha D
    go_roundg (l.hs.length)
    case measure=>have:=U HK;simp[Tr.hs] at this;omega
    case rel=>exact⟨_,l,rfl,Nat.le_refl _,hw2,(U HG).trans (U uj)⟩
   ·have h1':decide (o.ticks<(S.nd a).ticks)=false:=by simpa using D
    go_wp2_with fail;refine ix (W:=wr) (by kernel_rfl) (by kernel_rfl) (U uj) ?_
    iterate 12 (
     refine eG (v:=?_) ?_ ?_ ?_;rotate_left
     ·rfl
     ·intro w' uq;have f1:=U HN1 w' uq;have f2:=U je w' uq;have f3:=U HPT w' uq;go_simp
      try rfl
     intro mR hK;go_simp;refine hK _ ?_;clear hK mR)
    refine eG (v:=.bool (decide ((S.nd a).ticks<o.ticks))) ?_ ?_ ?_
    ·rfl
    ·intro w' uq;have hm:=method_s w';go_simp;refine(better_s _ _ _).mono ?_;rintro e w3 ⟨rfl,uM⟩;exact⟨rfl,uq.trans uM⟩
    intro mR hK;go_simp;refine hK _ ?_;clear hK mR;refine eG (v:=?_) ?_ ?_ ?_;rotate_left
    ·rfl
    ·intro w' uq;go_simp
     try rfl
    intro mR hK;go_simp;refine hK _ ?_;clear hK mR;refine wpQuiet_nil ?_;intro w3 uM;have vw:=Z uM;clear uM
    by_cases Y:(S.nd a).ticks<o.ticks
    ·have dD:decide ((S.nd a).ticks<o.ticks)=true:=by simpa using Y
     go_wp2_with fail;obtain⟨l,r,rfl,hw2⟩:=way_wo (U HI) (U om) (U HAE).symm ha Y
     go_roundg (r.hs.length)
     case measure=>have:=U HK;simp[Tr.hs] at this;omega
     case rel=>exact⟨_,r,rfl,Nat.le_refl _,hw2,(U HG).trans (U vw)⟩
    ·have dD:decide ((S.nd a).ticks<o.ticks)=false:=by simpa using Y
     have c3:=(U vw).cell c0 (by simp);go_wp2_with fail;go_ret;have hG:=(U HG).trans (U vw);exact⟨a,rfl,S,iO (U cC).2.1 hG (by simp),(U cC).2.2.1.trans (hG.but _),.inl ⟨ham,by omega,rfl⟩⟩
theorem add_s (b:Nat)(sd:Int)(seq:List Od)(o:Od)(w:World)(h:eh 200 false w b sd seq)(uX:o.side=sd)(hn:seq.length<20)(hl:∀o'∈seq,0<=o'.left/\o'.left<=1000000)(dL:0<=o.left/\o.left<=1000000) :
  Calls Tryz.prog 171 #[I b 0,.agg (yw o.id o.side o.ticks o.left o.life o.tag).toArray] w fun e w' =>
   e=ym (.tuple #[])/\eh 200 false w' b sd (seq ++ [o])/\w.grownBy w' (some b):=by
 obtain⟨S,t,hT,hi,hq,qw⟩:=h;have HI:=Z hi;have HQ:=Z hq;have HT:=Z hT;have HLC:=Z qw;have HL:=Z hl;have cy:=Z uX;have HOC:=Z hq.oc;have hoc':(S.oc:Int)<20:=by have:=hq.oc;omega
 have e1:((S.oc+1:Nat):Int)=(S.oc:Int)+1:=by omega
 have E:b≠w.heap.size:=by have:=tm_lt hT;omega
 have oI:World.rangeAt (w.alloc (mq (yw o.id o.side o.ticks o.left o.life o.tag).toArray 65)) w.heap.size 0 o.vs:=zm w o.vs 65;have qT:TM 200 (w.alloc (mq (yw o.id o.side o.ticks o.left o.life o.tag).toArray 65)) b S:=eT hT (Below.heap_alloc w _ _ (tm_lt hT));have c1:=qT.oc;have f1:=qT.fr;have hT1:=tm_oc qT (S.oc+1)
 have hR1:Hid (World.rangeAt (World.setCell (w.alloc (mq (yw o.id o.side o.ticks o.left o.life o.tag).toArray 65)) (J b 170) (H ((S.oc+1:Nat):Int))) w.heap.size 0 o.vs):=fun j u hu=>by
  rw[yM _ _ _ _ (fun e=>E (congrArg Addr.block e))];exact oI j u hu
 have hG1:Hid (w.grownBy (World.setCell (w.alloc (mq (yw o.id o.side o.ticks o.left o.life o.tag).toArray 65)) (J b 170) (H ((S.oc+1:Nat):Int))) (some b)):=zT (World.grownBy_alloc w (mq (yw o.id o.side o.ticks o.left o.life o.tag).toArray 65) _) _ _;have jJ:=Z hT1
 have xJ:Hid (w.heap.size<(World.heap (World.setCell (w.alloc (mq (yw o.id o.side o.ticks o.left o.life o.tag).toArray 65)) (J b 170) (H ((S.oc+1:Nat):Int)))).size):=(by
  have:=yL _ _ (hR1 0 _ rfl);exact this)
 clear hi hq qw hl uX hT qT oI hT1;go_enter Tryz.func171,Tryz.ntmps171;go_wp2_with fail;rw[<- e1];have em:∃m,m=S.oc+1:=⟨_,rfl⟩;obtain⟨m,hm⟩:=em;rw[<- hm] at hR1 hG1 jJ xJ |-;generalize hW1:World.setCell (w.alloc (mq (yw o.id o.side o.ticks o.left o.life o.tag).toArray 65)) (J b 170) (H (m:Int))=W1 at hR1 hG1 jJ xJ |-;have HM:=Z hm;have hm21:(m:Int)<21:=by omega
 obtain⟨o0,o1,o2,o3,o4,o5⟩:=zF (U hR1);obtain⟨q0,q1,q2,q3,q4,q5,q6⟩:=iN ((U jJ).qo m (by omega));have f2:=(U jJ).fr;have bj:S.lc<20:=by have:=U HLC;omega
 have HB:=Z E;clear hW1 hm e1 c1 f1 hoc' E
 go_region
 have un:=Z (tm_put (U jJ) m (by omega) o);have uj:=Z (gr_put (w:=W1) (b:=b) o m)
 generalize hW2:(((((((W1.setCell (J b (171+m*7)) (H o.id)).setCell (J b (171+m*7+1)) (H o.side)).setCell (J b (171+m*7+2)) (H o.ticks)).setCell (J b (171+m*7+3)) (H o.left)).setCell
   (J b (171+m*7+4)) (H o.life)).setCell (J b (171+m*7+5)) (yk o.tag)).setCell (J b (171+m*7+6)) (H 0))=W2 at un uj |-
 clear hW2 o0 o1 o2 o3 o4 o5 q0 q1 q2 q3 q4 q5 q6 f2;rw[show({ root:=S.root,lc:=S.lc,oc:=m,nd:=S.nd,qo:=upd S.qo m ⟨o,0⟩ }:TS)=S.lay o from by rw[U HM];rfl] at un;have hR2:=Z (zr (U hR1) (U uj) (U xJ) (fun e=>U HB (Option.some.inj e).symm));obtain⟨o0,o1,o2,o3,o4,o5⟩:=zF (U hR2);have HTI:=Z (ti_lay o (U HI));have HT2d:Hid (TM 200 W2.drew.drew b (S.lay o)):=eT (U un) rfl;go_wp2_with fail
 go_region_with (go_at_call 195;refine(levelFor_s b (S.lay o) t o W2.drew.drew (U HT2d) (U HTI) bj).mono ?_;rintro e W3 ⟨h,rfl,vB⟩;have HE:=Z vB;have jw:(h:Int)<21:=lf_lt vB (U HTI) bj;clear vB)
 obtain⟨S3,hT3,uM,qI⟩:=U HE;rw[<- U cy] at HQ;obtain⟨r1,r2,r3,r4,r5,t',r6,r7⟩:=add_ready (U HI) (U HQ) qI;have R4:=Z r4;have R6:=Z r6;have R7:=Z r7
 have R23:Hid ((0:Int)<=(S3.nd h).qty/\(S3.nd h).qty<=20000000/\(0:Int)<=(S3.nd h).count/\(S3.nd h).count<=20):=by
  have E:=sumL_bound (atK seq o.ticks) (fun o' vW=>U HL o' (List.mem_filter.1 vW).1);have qS:(atK seq o.ticks).length<=seq.length:=List.length_filter_le _ _;rw[r2,r3];refine⟨E.1,?_,by omega,by omega⟩;have:=E.2;have h20:((atK seq o.ticks).length:Int)<=20:=by omega
  omega
 have kw:=Z hT3;have vw:Hid (W2.grownBy W3 (some b)):=⟨uM.os,uM.tape,uM.output,uM.size,uM.block⟩;have hR3:=Z (zr (U hR2) (U vw) (yK (U xJ) (U uj).size) (fun e=>U HB (Option.some.inj e).symm));have hy21:(S3.nd h).yo<21:=by omega
 have hm1:m=1+seq.length:=by have:=U HM;have:=U HOC;omega
 have HM1:=Z hm1;clear hT3 uM qI r1 r2 r3 r4 r5 r6 r7 o0 o1 o2 o3 o4 o5 hm1 HE;have xL:=(U kw).fr;obtain⟨n0,n1,n2,n3,n4,n5,n6,n7⟩:=zS ((U kw).nd h (by omega));have qD:h<21:=by omega
 clear n0 n1 n2 n3 n4 n5
 by_cases hy:(S3.nd h).yo=0
 ·have t5:=eu (U kw) h 6 qD (by omega) (H m) { S3.nd h with el:=m } rfl _ rfl;have t6:=eu t5 h 7 qD (by omega) (H m) { (TS.nd _ h) with yo:=m } rfl _ rfl;simp only[gF,zo] at t6;obtain⟨-,-,-,-,-,-,-,k7⟩:=zS (t5.nd h qD);have f5:=t5.fr;rw[hy] at n7;have qL:=Z (zT (zT (yS W3 (some b)) (2+h*8+6) (H m)) (2+h*8+7) (H m));have jU:=Z t6;clear t5 t6;go_wp2_with fail;generalize hW6:(W3.setCell (J b (2+h*8+6)) (H m)).setCell (J b (2+h*8+7)) (H m)=W6 at qL jU |-;clear kw hW6;have f6:=(U jU).fr;obtain⟨-,-,m2,m3,-⟩:=zS ((U jU).nd h qD);simp only[zo] at m2 m3;have hR6:=zr (U hR3) (U qL) (yK (U xJ) (yO (U uj).size (U vw).size)) (fun e=>U HB (Option.some.inj e).symm);obtain⟨-,-,-,x3,-⟩:=zF hR6;obtain⟨b1,b2,b3,b4⟩:=U R23;have t7:=eu (U jU) h 2 qD (by omega) (H ((S3.nd h).qty+o.left)) { (TS.nd _ h) with qty:=(S3.nd h).qty+o.left } rfl _ rfl;have t8:=eu t7 h 3 qD (by omega) (H ((S3.nd h).count+1)) { (TS.nd _ h) with count:=(S3.nd h).count+1 } rfl _ rfl;obtain⟨-,-,-,y3,-⟩:=zS (t7.nd h qD);have f7:=t7.fr;simp only[gF,zo] at t8 y3;have ax:=Z t8;have HG8:=Z (zT (zT (yS W6 (some b)) (2+h*8+2) (H ((S3.nd h).qty+o.left))) (2+h*8+3) (H ((S3.nd h).count+1)));have cX:wrap64 ((S3.nd h).qty+o.left)=(S3.nd h).qty+o.left:=by unfold wrap64;omega
  clear t7 t8 hR6
  go_region
  try simp only[IntKind.wrap_i64]
  try rw[show(IntKind.i64.wrap ((S3.nd h).qty+o.left))=(S3.nd h).qty+o.left from by rw[IntKind.wrap_i64];exact cX]
  generalize hW7:W6.setCell (J b (2+h*8+2)) (H ((S3.nd h).qty+o.left))=W7 at *;go_wp2_with fail;go_end0;have HS8:Hid (_ = S3.link h m o.left):=link_eq0 S3 h m o.left hy;rw[U HS8] at ax;rw[U HM1] at ax;refine⟨rfl,?_,?_⟩
  ·rw[<- U cy];refine⟨_,t',eT (U ax) rfl,U R6,U R7,?_⟩;have D:=U R4;have Y:=U HLC;show S3.lc <= _;simp;omega
  ·exact gx (((((U hG1).trans (U uj)).trans (U vw)).trans (U qL)).trans (U HG8)) rfl rfl rfl rfl
 ·have t5:=tm_qo (U kw) (S3.nd h).yo 6 hy21 (by omega) (H m) { S3.qo (S3.nd h).yo with yg:=m } rfl _ rfl;have t6:=eu t5 h 7 qD (by omega) (H m) { (TS.nd _ h) with yo:=m } rfl _ rfl;obtain⟨-,-,-,-,-,-,-,k7⟩:=zS (t5.nd h qD);obtain⟨-,-,-,-,-,-,q6⟩:=iN ((U kw).qo (S3.nd h).yo hy21);have f5:=t5.fr;have hyi:((S3.nd h).yo:Int)<21:=by omega
  have jj:¬ (((S3.nd h).yo:Int)=0):=by omega
  have qL:=Z (zT (zT (yS W3 (some b)) (171+(S3.nd h).yo*7+6) (H m)) (2+h*8+7) (H m));have jU:=Z t6;clear t5 t6;go_wp2_with fail
  go_region
  go_wp2_with fail;generalize hW6:(W3.setCell (J b (171+(S3.nd h).yo*7+6)) (H m)).setCell (J b (2+h*8+7)) (H m)=W6 at qL jU |-;clear kw hW6;have f6:=(U jU).fr;obtain⟨-,-,m2,m3,-⟩:=zS ((U jU).nd h qD);simp only[zo] at m2 m3;have hR6:=zr (U hR3) (U qL) (yK (U xJ) (yO (U uj).size (U vw).size)) (fun e=>U HB (Option.some.inj e).symm);obtain⟨-,-,-,x3,-⟩:=zF hR6;obtain⟨b1,b2,b3,b4⟩:=U R23;have t7:=eu (U jU) h 2 qD (by omega) (H ((S3.nd h).qty+o.left)) { (TS.nd _ h) with qty:=(S3.nd h).qty+o.left } rfl _ rfl;have t8:=eu t7 h 3 qD (by omega) (H ((S3.nd h).count+1)) { (TS.nd _ h) with count:=(S3.nd h).count+1 } rfl _ rfl;obtain⟨-,-,-,y3,-⟩:=zS (t7.nd h qD);have f7:=t7.fr;simp only[gF,zo] at t8 y3;have ax:=Z t8;have HG8:=Z (zT (zT (yS W6 (some b)) (2+h*8+2) (H ((S3.nd h).qty+o.left))) (2+h*8+3) (H ((S3.nd h).count+1)));have cX:wrap64 ((S3.nd h).qty+o.left)=(S3.nd h).qty+o.left:=by unfold wrap64;omega
  clear t7 t8 hR6
  go_region
  try simp only[IntKind.wrap_i64]
  try rw[show(IntKind.i64.wrap ((S3.nd h).qty+o.left))=(S3.nd h).qty+o.left from by rw[IntKind.wrap_i64];exact cX]
  generalize hW7:W6.setCell (J b (2+h*8+2)) (H ((S3.nd h).qty+o.left))=W7 at *;go_wp2_with fail;go_end0;have HS8:Hid (_ = S3.link h m o.left):=link_eq1 S3 h m o.left hy;rw[U HS8] at ax;rw[U HM1] at ax;refine⟨rfl,?_,?_⟩
  ·rw[<- U cy];refine⟨_,t',eT (U ax) rfl,U R6,U R7,?_⟩;have D:=U R4;have Y:=U HLC;show S3.lc <= _;simp;omega
  ·exact gx (((((U hG1).trans (U uj)).trans (U vw)).trans (U qL)).trans (U HG8)) rfl rfl rfl rfl
theorem zNd_s:∀i,i<21->(Tryz.zeroCells200.toList.drop (2+i*8)).take 8=zNd.vs
 | 0,_=>by kernel_rfl
 | 1,_=>by kernel_rfl
 | 2,_=>by kernel_rfl
 | 3,_=>by kernel_rfl
 | 4,_=>by kernel_rfl
 | 5,_=>by kernel_rfl
 | 6,_=>by kernel_rfl
 | 7,_=>by kernel_rfl
 | 8,_=>by kernel_rfl
 | 9,_=>by kernel_rfl
 | 10,_=>by kernel_rfl
 | 11,_=>by kernel_rfl
 | 12,_=>by kernel_rfl
 | 13,_=>by kernel_rfl
 | 14,_=>by kernel_rfl
 | 15,_=>by kernel_rfl
 | 16,_=>by kernel_rfl
 | 17,_=>by kernel_rfl
 | 18,_=>by kernel_rfl
 | 19,_=>by kernel_rfl
 | 20,_=>by kernel_rfl
 | n+21,h=>absurd h (by omega)
theorem zQo_s:∀i,i<21->(Tryz.zeroCells200.toList.drop (171+i*7)).take 7=zQo.vs
 | 0,_=>by kernel_rfl
 | 1,_=>by kernel_rfl
 | 2,_=>by kernel_rfl
 | 3,_=>by kernel_rfl
 | 4,_=>by kernel_rfl
 | 5,_=>by kernel_rfl
 | 6,_=>by kernel_rfl
 | 7,_=>by kernel_rfl
 | 8,_=>by kernel_rfl
 | 9,_=>by kernel_rfl
 | 10,_=>by kernel_rfl
 | 11,_=>by kernel_rfl
 | 12,_=>by kernel_rfl
 | 13,_=>by kernel_rfl
 | 14,_=>by kernel_rfl
 | 15,_=>by kernel_rfl
 | 16,_=>by kernel_rfl
 | 17,_=>by kernel_rfl
 | 18,_=>by kernel_rfl
 | 19,_=>by kernel_rfl
 | 20,_=>by kernel_rfl
 | n+21,h=>absurd h (by omega)
theorem zTree_s (w:World)(sd:Int):eh 200 false (w.alloc (Obj.cells Tryz.zeroCells200 200)) w.heap.size sd []:=
 ⟨zTS,.nil,tm_zero w _ _ (by kernel_rfl) (by kernel_rfl) zNd_s (by kernel_rfl) zQo_s,ti_zero _,qi_zero _,Nat.le_refl _⟩
theorem plant_s (v:Value)(l:List Od)(sd:Int)(w:World)(hr:RdR Od.vs 6 w v l)(hn:l.length<=20)(hl:∀o'∈l,0<=o'.left/\o'.left<=1000000) :
  Calls Tryz.prog 125 #[v,H sd] w fun e w' =>
   e=ym (yp w 0)/\eh 200 false w' w.heap.size sd (zv l sd)/\yn w w':=by
 obtain⟨a,cap,rfl,xC,hc⟩:=hr
 have xt:∀(k:Nat) (c:Od),l[k]? = some c->∃b off,a=some (J b off)/\b<w.heap.size/\w.rangeAt b (off+k*6) c.vs:=by
  intro k c hk;obtain⟨b,off,D,Y,h3⟩:=hc (by intro h;rw[h] at hk;simp at hk);exact⟨b,off,D,Y,h3 k c hk⟩
 have HC:=Z xt;have HL:=Z hl;have HN:=Z hn;clear xt hc hl;have HZ:=Z (zTree_s w sd);have ud:Hid (yn w (w.alloc (Obj.cells Tryz.zeroCells200 200))):=mn _ _;go_enter Tryz.func125,Tryz.ntmps125;go_wp2_with fail;generalize (w.alloc (Obj.cells Tryz.zeroCells200 200))=W0 at HZ ud |-;go_loopw [11] (fun i wr=>∃k:Nat,k<=l.length/\i=H k/\eh 200 false wr w.heap.size sd (zv (l.take k) sd)/\yn w wr) (fun i _=>l.length-(intOf i).toNat)
 case atStart=>exact⟨0,Nat.zero_le _,rfl,U HZ,U ud⟩
 case round =>
  obtain⟨k,hk,rfl,htr,xo⟩:=hrel;have ju:=Z htr;have vv:=Z xo;clear htr xo HZ ud
  by_cases xM:k<l.length
  ·obtain⟨c,vf⟩:∃c,l[k]? = some c:=⟨_,yI xM⟩;have pv:=Z vf;obtain⟨b,off,rfl,E,xn⟩:=U HC k c vf;obtain⟨g0,g1,g2,g3,g4,g5⟩:=zF (zc xn (U vv) E);have uL:(k:Int)<l.length:=by omega
   clear vf xn E
   by_cases uX:c.side=sd
   ·have HIT:Hid (zv (l.take (k+1)) c.side=zv (l.take k) c.side ++ [c]):=ofSide_snoc l k c (U pv);subst uX
    have vp:(zv (l.take k) c.side).length<20:=by
     have D:(zv (l.take k) c.side).length<=(l.take k).length:=List.length_filter_le _ _;have Y:(l.take k).length<=k:=List.length_take_le _ _;have h3:=U HN;omega
    have ai:=Z vp;have xn:=U HL c (yP (U pv));have jZ:=Z xn;clear vp xn;go_wp2_with fail;refine(add_s w.heap.size c.side (zv (l.take k) c.side) c _ (zx (U ju) (Below.heap_alloc wr _ _ (zL (U ju)))) rfl (U ai) (fun o' vW=>U HL o' (List.mem_of_mem_take (List.mem_filter.1 vW).1)) (U jZ)).mono ?_;rintro e w2 ⟨rfl,cZ,uD⟩;rw[<- U HIT] at cZ;have cB:=Z cZ;have xv:=Z (((U vv).alloc (U vv).size _).grown uD (by rw[zf];have:=(U vv).size;omega) (fun g X=>by obtain rfl:=Option.some.inj X;exact Nat.le_refl _));clear cZ uD;go_wp2_with fail;go_roundw
    case rel=>exact⟨k+1,by omega,by go_num,U cB,U xv⟩
    case measure=>simp[intOf];omega
   ·have HIT:Hid (zv (l.take (k+1)) sd=zv (l.take k) sd):=ofSide_skip l k c (U pv) uX;go_wp2_with fail;go_roundw
    case rel =>
     refine⟨k+1,by omega,by go_num,?_,?_⟩
     ·rw[U HIT];exact zx (U ju) (Below.heap_alloc wr _ _ (zL (U ju)))
     ·exact(U vv).alloc (U vv).size _
    case measure=>simp[intOf];omega
  ·go_wp2_with fail;go_ret;have h:=U ju;rw[xa (by omega)] at h;exact⟨rfl,h,U vv⟩
theorem infoH_s:(Tryz.prog.info? 187).map (fun i=>(i.zero,i.size,i.bytes))=some (some (H 0),1,8):=by kernel_rfl
theorem cellsH_s (w:World)(F:List Value)(t:TypeId)(j:Nat)(u:Value)(h:F[j]? = some u):(w.alloc (Obj.cells F.toArray t)).cell? (((yq w 0):Addr).add j)=some u:=by
 rw[Addr.add_mid,cell_of_row _ w.heap.size (0+j) F.toArray t (0,0) (heap_alloc_new w _)];simpa using h
def hval_s (h:Nat):Value:=H h
theorem ranked_s (S:TS)(b B:Nat)(dG:b<B):∀(t:Tr) (w:World) (v:Value) (done:List Nat) (part:Nat),TM 200 w b S->Rep S.nd t part->(∀h∈t.hs,h<21)->B<=w.heap.size ->
  w.ownsRow B 187 1 v done.length (done.map hval_s)->done.length+t.hs.length<=1000 ->
  Calls Tryz.prog 194 #[I b 0,v,H part] w fun e w' =>
   ∃v',e=ym v'/\w'.ownsRow B 187 1 v' (done++t.hs).length ((done++t.hs).map hval_s)/\Below B w w'
 | .nil,w,v,done,part,hT,hrep,hh,hB,xY,xC=>by
  obtain rfl:part=0:=hrep;have HO:=Z xY;clear xY hT hh;go_enter Tryz.func194,Tryz.ntmps194;go_wp2_with fail;go_ret;exact⟨v,rfl,by simpa[Tr.hs] using U HO,Below.refl _ _⟩
 | .node h l r,w,v,done,part,hT,hrep,hh,hB,xY,xC=>by
  obtain⟨rfl,h0,hl,hr⟩:=hrep;have HO:=Z xY;have HT:=Z hT;have HL:=Z hl;have HR:=Z hr;have bm:done.length+(l.hs.length+1+r.hs.length)<=1000:=by simp[Tr.hs] at xC;omega
  have qD:=hh part (by simp[Tr.hs]);have HHL:=Z (fun a (ha:a∈l.hs)=>hh a (by simp[Tr.hs,ha]));have HHR:=Z (fun a (ha:a∈r.hs)=>hh a (by simp[Tr.hs,ha]));have h21':(part:Int)<21:=by omega
  have h0':¬ ((part:Int)=0):=by omega
  have oh:=Z bm;obtain⟨-,-,-,-,n4,-⟩:=zS (hT.nd part qD);obtain⟨i0,hi,uI,uG,uZ⟩:=info_parts infoH_s;clear xY hT hh hl hr xC bm;go_enter Tryz.func194,Tryz.ntmps194;go_wp2_with fail;refine(ranked_s S b B dG l w v done _ (U HT) (U HL) (U HHL) hB (U HO) (by have:=U oh;omega)).mono ?_;rintro e w1 ⟨v1,rfl,oF,uw⟩;have jI:=Z oF;have uf:=Z uw;have hsz1:=uw.size;have hla:(done++l.hs).length<=999:=by have:=U oh;rw[yQ];omega
  obtain⟨-,-,-,-,-,n5,-⟩:=zS ((gR (U HT) uw dG).nd part qD);clear oF uw n4;go_wp2_with (at_builtin;go_must (refine wpList_append_own _ rfl _ _ 220 rfl B 187 i0 _ 1 8 Tryz.underlying220 hi uI uG uZ rfl (by decide) v1 (done++l.hs).length ((done++l.hs).map hval_s) rfl ((U jI).alloc _) (yq w1 0) 1 1 [hval_s part] rfl rfl (cellsH_s w1 _ _) (by simp[Value.oneCell',hval_s]) (by unfold maxLen;omega) (by omega) (by simp at hla |-;omega) ?_);intro v2 w2 bw uD _;have je:=Z bw;have xv:=Z (((U uf).alloc (yO hB hsz1) _).grown uD (by rw[zf];omega) (fun k hk=>((U jI).lt k hk).1));have m5:=(zS ((gR (U HT) (U xv) dG).nd part qD)).2.2.2.2.2.1;clear bw uD n5)
  have hsz2:=(U xv).size;refine(ranked_s S b B dG r w2 v2 (done++l.hs ++ [part]) _ (gR (U HT) (U xv) dG) (U HR) (U HHR) (by omega) (by simpa[Nat.add_assoc] using U je) (by have:=U oh;simp;omega)).mono ?_;rintro e w3 ⟨v3,rfl,dM,xL⟩;have ka:=Z dM;have xI:=Z ((U xv).trans xL);clear dM xL m5;go_wp2_with fail;go_ret;exact⟨v3,rfl,by simpa[Tr.hs] using U ka,U xI⟩
theorem infoLv_s:(Tryz.prog.info? 189).map (fun i=>(i.zero,i.size,i.bytes))=some (some (.agg #[H 0,H 0,H 0,H 0]),4,32):=by kernel_rfl
theorem takeR_s {α:Type}(l:List α)(k:Nat)(c:α)(h:l[k]? = some c):l.take (k+1)=l.take k ++ [c]:=by
 obtain⟨hk,rfl⟩:=yH.1 h;rw[List.take_succ_eq_append_getElem hk]
theorem rowBase_s {W:World}{B B':Nat}{e:TypeId}{sz:Nat}{v:Value}{n:Nat}{xs:List Value}(h:W.ownsRow B e sz v n xs)(hB:B'<=B):W.ownsRow B' e sz v n xs:=
 ⟨h.1,by
  rcases h.2 with D|⟨g',c',xA,D,Y,h3⟩
  ·exact .inl D
  ·exact .inr ⟨g',c',xA,D,yO hB Y,h3⟩⟩
theorem flat1_s (l:List Nat):(l.flatMap fun h=>[hval_s h])=l.map hval_s:=by
 induction l with
 | nil=>rfl
 | cons a r ih=>rw[List.flatMap_cons,ih];rfl
theorem levelsO_s (b:Nat)(sd:Int)(seq:List Od)(w:World)(h:eh 200 false w b sd seq)(hn:seq.length<=20) :
  Calls Tryz.prog 170 #[I b 0] w fun e w' =>
   ∃v',e=ym v'/\w'.ownsRow w.heap.size 189 4 v' (ef false sd seq).length ((ef false sd seq).flatMap Lv.vs)/\yn w w':=by
 obtain⟨S,t,hT,hi,hq,qw⟩:=h;have hlv:=lB hi hq;rw[<- hlv];have jw:∀a∈t.hs,a<21:=fun a ha=>by have:=(hi.range a ha).2;omega
 have xC:t.hs.length<=20:=by rw[hi.len];omega
 have HT:=Z hT;have HR:=Z hi.rep;have HH:=Z jw;have oJ:=hT.root;have kZ:=tm_lt hT;generalize ht:t.hs=hs at *;have HHS:=Z ht;have HNIL:=Z (World.ownsRow_nil w w.heap.size 187 1);obtain⟨i0,vk,uI,uG,uZ⟩:=info_parts infoLv_s;clear hi hq qw hlv hT jw ht;go_enter Tryz.func170,Tryz.ntmps170;go_wp2_with fail;refine(ranked_s S b w.heap.size kZ t w _ [] S.root (U HT) (U HR) (by rw[U HHS];exact U HH) ya (U HNIL) (by rw[U HHS];simp;omega)).mono ?_;rintro e w1 ⟨v1,rfl,oF,uw⟩;rw[List.nil_append,U HHS] at oF;have uf:=Z uw;have HOR:=Z (il (f:=fun h=>[hval_s h]) (fun _=>rfl) (by omega) (show w1.ownsRow w.heap.size 187 1 v1 hs.length (hs.flatMap fun h=>[hval_s h]) by rw[flat1_s];exact oF));obtain⟨a,cap,rfl,_,hc⟩:=U HOR
 have xt:∀k h,hs[k]? = some h->∃g,a=some (J g 0)/\g<w1.heap.size/\w1.cell? (J g (0+k*1+0))=some (H (h:Nat)):=fun k h hk=>by
  obtain⟨g,D,_,h3,h4,_⟩:=hc (by intro e;rw[e] at hk;simp at hk);exact⟨g,D,h3,h4 k h hk 0 _ rfl⟩
 have HC:=Z xt;clear oF uw hc xt oJ;go_wp2_with fail;have uw:=(U uf).size;go_loopw [3,13] (fun ov iv wr=>∃(k:Nat) (done:List Lv),k<=hs.length/\iv=H k/\Hid (done=(hs.map fun h=>(S.nd h).lv).take k)/\wr.ownsRow w1.heap.size 189 4 ov done.length (done.flatMap Lv.vs)/\yn w1 wr) (fun _ iv _=>hs.length-(intOf iv).toNat)
 case atStart=>exact⟨0,[],Nat.zero_le _,rfl,by simp[Hid],World.ownsRow_nil _ _ _ _,Below.refl _ _⟩
 case round =>
  obtain⟨k,done,hk,rfl,hd,xY,xo⟩:=hrel;have HOW:=Z xY;have HB:=Z xo;have dJ:done.length=k:=by rw[U hd,List.length_take,List.length_map];omega
  clear xY xo
  by_cases xM:k<hs.length
  ·obtain⟨h,hkh⟩:∃h,hs[k]? = some h:=⟨_,yI xM⟩;have pv:Hid ((hs.map fun h=>(S.nd h).lv)[k]? = some (S.nd h).lv):=by show _ = _;rw[List.getElem?_map,hkh];rfl
   obtain⟨g,rfl,X,xn⟩:=U HC k h hkh;have qD:=U HH h (yP hkh);have h21':(h:Int)<21:=by omega
   have kL:=((U HB).cell (p:=(J g (0+k*1+0))) X).trans xn;rw[show 0+k*1+0=k by omega] at kL;have hTr:=gR (U HT) ((U uf).trans ((U HB).mono uw)) kZ;obtain⟨n0,n1,n2,n3,-⟩:=zS (hTr.nd h qD);have uL:(k:Int)<hs.length:=by omega
   have hsr:=(U HB).size;clear hkh xn hTr X;go_wp2_with (at_builtin;go_must (refine wpList_append_own _ rfl _ _ 161 rfl w1.heap.size 189 i0 _ 4 32 Tryz.underlying161 vk uI uG uZ rfl (by decide) _ done.length (done.flatMap Lv.vs) rfl ((U HOW).alloc _) (yq wr 0) 1 1 (S.nd h).lv.vs rfl rfl (cellsH_s wr _ _) (by simp[Value.oneCell',Lv.vs,Nd.lv]) (by unfold maxLen;omega) (by omega) (by simp;omega) ?_);intro v4 w4 qg jv _);go_roundw
   case rel =>
    refine⟨k+1,done ++ [(S.nd h).lv],by omega,by go_num,?_,?_,?_⟩
    ·show done ++ [(S.nd h).lv] = _;rw[takeR_s _ k _ (U pv),<- U hd]
    ·simpa using qg
    ·exact((U HB).alloc hsr _).grown jv (by simp;omega) fun k hk=>((U HOW).lt k hk).1
   case measure=>simp[intOf];omega
  ·go_wp2_with fail;go_ret;have h:=U hd;rw[xa (by rw[List.length_map];omega)] at h;subst h;exact⟨_,rfl,rowBase_s (U HOW) uw,(U uf).trans ((U HB).mono uw)⟩
theorem levels_s (b:Nat)(sd:Int)(seq:List Od)(w:World)(h:eh 200 false w b sd seq)(hn:seq.length<=20) :
  Calls Tryz.prog 170 #[I b 0] w fun e w' =>
   ∃v',e=ym v'/\OwnR Lv.vs 4 w.heap.size w' v' (ef false sd seq)/\yn w w':=by
 have xC:(ef false sd seq).length<=20:=by
  obtain⟨S,t,hT,hi,hq,qw⟩:=h;rw[<- lB hi hq,List.length_map,hi.len];omega
 refine(levelsO_s b sd seq w h hn).mono ?_;rintro e w' ⟨v',rfl,Q,E⟩;exact⟨v',rfl,il Lv.len (by omega) Q,E⟩
structure Cm where
 k:Int
 s:Int
 t:Int
 l:Int
 q:Int
 i:Int
 p:Nat
 g:ByteArray
def Cm.vs (c:Cm):List Value:=(yx c.k c.s c.t c.l c.q c.i c.p c.g)
theorem Cm.len (c:Cm):c.vs.length=8:=rfl
theorem cm_cells {w:World}{b o:Nat}{c:Cm}(h:w.rangeAt b o c.vs) :
  w.cell? (J b o)=some (H c.k)/\w.cell? (J b (o+1))=some (H c.s)/\w.cell? (J b (o+2))=some (H c.t)/\w.cell? (J b (o+3))=some (H c.l) /\
  w.cell? (J b (o+4))=some (H c.q)/\w.cell? (J b (o+5))=some (H c.i)/\w.cell? (J b (o+6))=some (yj c.p)/\w.cell? (J b (o+7))=some (yk c.g):=
 ⟨h 0 _ rfl,h 1 _ rfl,h 2 _ rfl,h 3 _ rfl,h 4 _ rfl,h 5 _ rfl,h 6 _ rfl,h 7 _ rfl⟩
theorem zJ {w:World}{b o n:Nat}(h:w.there b o n)(j:Nat)(hj:j<n):∃v,w.cell? (J b (o+j))=some v/\w.frozen? (J b (o+j))=false:=by
 obtain⟨v,hv⟩:=Option.isSome_iff_exists.1 (h j hj).1;exact⟨v,hv,(h j hj).2⟩
theorem sfl (a:Addr)(x:Nat)(m:Mode)(w:World):(store a (yj x) m).run Tryz.prog w=stored Tryz.prog w a (yj x) m:=run_store _ w a _ m rfl
structure Ev where
 kind:Int
 cmd:Cm
 id:Int
 other:Int
 qty:Int
 price:Int
 reason:Int
def cmV (c:Cm):Value:=.agg (yx c.k c.s c.t c.l c.q c.i c.p c.g).toArray
def evV (e:Ev):Value:=.agg (yv e.kind e.cmd.k e.cmd.s e.cmd.t e.cmd.l e.cmd.q e.cmd.i e.cmd.p e.cmd.g e.id e.other e.qty e.price e.reason).toArray
def vlV (e:Ev):Value:=.agg #[H e.kind,H e.id,H e.other,H e.qty,H e.price,H e.reason,H e.cmd.k,H e.cmd.s,H e.cmd.t,H e.cmd.l,H e.cmd.q,H e.cmd.i,.int .u64 (fbit e.cmd.p),yk e.cmd.g]
def Ev.vs (e:Ev):List Value:=(yv e.kind e.cmd.k e.cmd.s e.cmd.t e.cmd.l e.cmd.q e.cmd.i e.cmd.p e.cmd.g e.id e.other e.qty e.price e.reason)
theorem Ev.len (e:Ev):e.vs.length=14:=rfl
def zCm:Cm:=⟨0,0,0,0,0,0,0,⟨#[]⟩⟩
theorem best_s {S:TS}:∀ {t:Tr} {v:Nat},Rep S.nd t v->t ≠ .nil->v∈t.hs/\((S.nd v).be=0->t.hs.head? = some v)/\((S.nd v).be≠0->∃l,Rep S.nd l (S.nd v).be/\l ≠ .nil/\l.hs.head? = t.hs.head?/\l.hs.length<t.hs.length/\∀a∈l.hs,a∈t.hs)
 | .nil,_,_,h=>absurd rfl h
 | .node h l r,v,⟨e,h0,D,Y⟩,_=>by
  subst e;refine⟨by simp[Tr.hs],fun E=>?_,fun E=>⟨l,D,?_,?_,?_,fun a ha=>by simp[Tr.hs,ha]⟩⟩
  ·rw[E] at D;obtain rfl:=rep_nil D;rfl
  ·rintro rfl;exact E D
  ·cases l with
   | nil=>exact absurd D E
   | node a l' r'=>simp[Tr.hs]
  ·simp[Tr.hs]
def FrI_s (S:TS)(hd:Option Nat)(w0:World)(k:Nat)(p:Value)(wr:World):Prop:=∃(t:Tr) (v:Nat),p=H v/\Rep S.nd t v/\t ≠ .nil/\t.hs.head? = hd/\t.hs.length<=k/\(∀a∈t.hs,a<21)/\w0=wr
theorem front_s (b:Nat)(sd:Int)(seq:List Od)(w:World)(h:eh 200 false w b sd seq)(hn:seq.length<=20) :
  Calls Tryz.prog 168 #[I b 0] w fun e w'=>e=ym (frOf (quOf false seq))/\yn w w':=by
 obtain⟨S,t,hT,hi,hq,qw⟩:=h;have hou:=tree_orders hi hq;have jw:∀a∈t.hs,a<21:=fun a ha=>by have:=(hi.range a ha).2;omega
 have HT:=Z hT;have oJ:=hT.root;have kZ:=tm_lt hT
 by_cases jY:S.root=0
 ·have ht:=hi.rep;rw[jY] at ht oJ;obtain rfl:=rep_nil ht;have HF:Hid (frOf (quOf false seq) = .tuple #[zOdv,.bool false]):=by show _ = _;rw[<- hou];rfl
  clear hi hq qw hou hT ht jw;go_enter Tryz.func168,Tryz.ntmps168;go_wp2_with fail;go_returns;refine⟨by rw[U HF];rfl,?_⟩;go_grown
 ·have xr:t ≠ .nil:=by rintro rfl;exact jY hi.rep
  have HI:=Z hi;have HQ:=Z hq;have HOU:=Z hou;have HH:=Z jw;have HNE:=Z xr;have hr0':¬ ((S.root:Int)=0):=by omega
  clear hi hq qw hou hT jw xr;go_enter Tryz.func168,Tryz.ntmps168;go_wp2_with fail
  go_loopg [4] (t.hs.length) (fun k p wr=>FrI_s S t.hs.head? (w.alloc (mq (yw 0 0 0 0 0 ⟨#[]⟩).toArray 65)) k p wr)
  case atStart=>exact⟨t,S.root,rfl,(U HI).rep,U HNE,rfl,Nat.le_refl _,U HH,rfl⟩
  case round =>
   obtain⟨t1,v,rfl,D,Y,h3,h4,h5,rfl⟩:=hrel;obtain⟨b1,b2,b3⟩:=best_s D Y;have hv21:=h5 v b1;have hv21':(v:Int)<21:=by omega
   have qT:=eT (U HT) (Below.heap_alloc w (mq (yw 0 0 0 0 0 ⟨#[]⟩).toArray 65) b kZ);obtain⟨-,-,-,-,n4,-,n6,-⟩:=zS (qT.nd v hv21);have H3:=Z h3;have H4:=Z h4;have H5:=Z h5
   by_cases kK:(S.nd v).be=0
   ·have bi:=b2 kK;rw[h3] at bi;have hvm:v∈t.hs:=List.mem_of_head? bi;have hQ:=(U HQ).q v hvm
    obtain⟨e,rest,hqs⟩:∃e rest,qs seq (S.nd v).ticks=e::rest:=by
     cases hqq:qs seq (S.nd v).ticks with
     | nil=>exact absurd hqq hQ.ne
     | cons e rest=>exact⟨e,rest,rfl⟩
    have hch:=hQ.chain;rw[hqs] at hch;obtain⟨he,he0,-⟩:=hch
    have he21:e<21:=by
     have:=(fS (S.nd v).ticks seq 1 e (by have h:e∈qs seq (S.nd v).ticks:=(by rw[hqs];simp);exact h)).2.1
     omega
    have he21':(e:Int)<21:=by omega
    have HF:Hid (frOf (quOf false seq) = .tuple #[(S.qo e).od.val,.bool true]):=by
     show _ = _;rw[<- U HOU]
     obtain⟨tl,htl⟩:∃tl,t.hs=v::tl:=by
      cases hh:t.hs with
      | nil=>rw[hh] at bi;simp at bi
      | cons a r=>rw[hh] at bi;simp at bi;rw[bi];exact⟨r,rfl⟩
     rw[htl,List.flatMap_cons,hqs];rfl
    obtain⟨q0,q1,q2,q3,q4,q5,-⟩:=iN (qT.qo e he21);rw[he] at n6;rw[kK] at n4;clear D Y h3 h4 h5 b1 b2 b3 qT bi hvm hQ hqs he kK;go_wp2_with fail
    go_region
    go_wp2_with fail;go_returns;refine⟨by rw[U HF];rfl,?_⟩;go_grown
   ·obtain⟨l,l1,l2,l3,l4,l5⟩:=b3 kK;have hbe':¬ (((S.nd v).be:Int)=0):=by omega
    have HL:Hid (Rep S.nd l (S.nd v).be/\l ≠ .nil/\l.hs.head? = t1.hs.head?/\l.hs.length<t1.hs.length/\∀a∈l.hs,a∈t1.hs):=⟨l1,l2,l3,l4,l5⟩;clear D Y h3 h4 h5 b1 b2 b3 qT l1 l2 l3 l4 l5 kK;go_wp2_with fail
    go_roundg (l.hs.length)
    case measure=>have:=U H4;have:=(U HL).2.2.2.1;omega
    case rel=>exact⟨l,_,rfl,(U HL).1,(U HL).2.1,(U HL).2.2.1.trans (U H3),Nat.le_refl _,fun a ha=>U H5 a ((U HL).2.2.2.2 a ha),rfl⟩
end Go.Proofs.YthhkapcbocgcoaaGreatDoor
