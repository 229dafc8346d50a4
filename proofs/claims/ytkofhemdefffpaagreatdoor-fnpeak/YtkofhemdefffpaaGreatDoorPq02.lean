/-.-/
import Derived.Test.YtkofhemdefffpaaGreatDoorPq01
import Derived.Laws.EntriesVeiled
set_option linter.unusedVariables false
set_option maxHeartbeats 6400000
set_option maxRecDepth 100000
namespace Go.Proofs.YtkofhemdefffpaaGreatDoor
open Go.RowKit
theorem better_b (a c:Int)(w:World) :
  Calls Tryz.prog 237 #[.agg #[],H a,H c] w fun e w'=>e=yn (.bool (decide (c<a)))/\w.grownBy w' none:=by
 go_enter Tryz.func237,Tryz.ntmps237;go_wp2_with fail;go_ret;exact⟨rfl,World.grownBy_alloc _ _ _⟩
theorem method_b (w:World):Sem.run Tryz.prog (method 411 216 (.agg #[]) "loop.example/g00092/impl.better") w = .ok (237,.agg #[]) w:=by kernel_rfl
theorem part_b {w:World}{b:Nat}(h:∃xt,w.heap[b]? = some (.cells xt 261 (0,0))):Sem.run Tryz.prog (partAt (Y b 0) 0 0) w = .ok (Y b 0) w:=by
 obtain⟨xt,h⟩:=h;have hc:Tryz.prog.cellsOf 261 = 318:=by kernel_rfl
 have hy:byteOfCell Tryz.prog Tryz.prog.depth 261 0=some 0:=by kernel_rfl
 have hs:w.shape? b=some (261,xt.size):=by simp[World.shape?,h]
 simp[partAt,byteOf,noView,viewAt,hs,hc,hy]
theorem levelFor_b (b:Nat)(S:TS)(t:Tr)(o:Od)(w:World)(hT:TM 261 w b S)(hi:TI true S t)(qd:S.lc<20) :
  Calls Tryz.prog 199 #[h3 b 0,.agg (yx o.id o.side o.ticks o.left o.life o.tag).toArray] w fun e w' =>
   ∃(h:Nat),e=yn (H h)/\LFEnd true 261 b S t o w h w':=by
 have HT:=U hT;have HI:=U hi;clear hT hi;go_enter Tryz.func199,Tryz.ntmps199;go_wp2_with fail
 have HW:Hid (∃W,W=(w.alloc (me (yx o.id o.side o.ticks o.left o.life o.tag).toArray 71))/\W.rangeAt w.heap.size 0 o.vs/\TM 261 W b S/\w.grownBy W (some b)/\w.heap.size<W.heap.size/\b≠w.heap.size):=
  ⟨_,rfl,zm w o.vs _,eC (O HT) (Below.heap_alloc w _ _ (tm_lt (O HT))),World.grownBy_alloc _ _ _,by rw[zi];omega,by have:=tm_lt (O HT);omega⟩
 obtain⟨W,hW,hWW⟩:=O HW;rw[<- hW];have bI:=U hWW;clear hW hWW HW HT
 go_loopg [5] (t.hs.length) (fun k p wr=>LFI true b S t o.ticks W k p wr)
 case atStart=>exact⟨[],t,rfl,Nat.le_refl _,way_start (O HI) _,yS _ _⟩
 case round =>
  obtain⟨c,u,rfl,E,hw,F⟩:=hrel;have kW:=U hw;have HG:=U F;have HK:=U E;have hT:=iP (O bI).2.1 F (by simp);have c0:=cur_cell hT (cZ c) (cur_ok (O HI) hw qd);obtain⟨o0,o1,o2,o3,o4,o5⟩:=zL (zv (O bI).1 F (O bI).2.2.2.1 (by simp));clear E hw F
  by_cases ha:S.rd (cZ c)=0
  ·have jM:=hT.lc;have hf:=hT.fr;have HA0:=U ha;rw[ha] at c0;have hlc':(S.lc:Int)<20:=by omega
   have e1:((S.lc+1:Nat):Int)=(S.lc:Int)+1:=by omega
   have uA:=cur_ok (O HI) (O kW) qd;have t1:=tm_lc hT (S.lc+1);have t2:=tm_cur t1 (cZ c) uA (S.lc+1);rw[e1] at t1 t2;have d2:_ = _:=(cur_cell t1 (cZ c) uA).trans (congrArg (fun x:Nat=>some (H x)) (show TS.rd _ (cZ c)=0 from by rw[<- ha];cases (cZ c) <;> rfl));have d3:_ = _:=t2.lc;rw[(wr_same _ _ _).1] at d3;simp only[e1] at d3;have g1:=t1.fr;have g2:=t2.fr;obtain⟨n0,n1,n2,n3,-⟩:=zT (t2.nd (S.lc+1) (by omega));have K:b≠w.heap.size:=(O bI).2.2.2.2
   have p1:((wr.setCell (Y b 1) (H ((S.lc:Int)+1))).setCell (Y b ((cZ c).off)) (H ((S.lc:Int)+1))).cell? (yr w (0+1))=some (H o.side):=by
    rw[yM _ _ _ _ (fun e=>K (congrArg Addr.block e)),yM _ _ _ _ (fun e=>K (congrArg Addr.block e))];exact o1
   have p2:((wr.setCell (Y b 1) (H ((S.lc:Int)+1))).setCell (Y b ((cZ c).off)) (H ((S.lc:Int)+1))).cell? (yr w (0+2))=some (H o.ticks):=by
    rw[yM _ _ _ _ (fun e=>K (congrArg Addr.block e)),yM _ _ _ _ (fun e=>K (congrArg Addr.block e))];exact o2
   have qg:=U t2;have HB:=U K;clear ha hT t1 t2 uA K;go_wp2_with fail;have uX:Hid (wr.grownBy ((wr.setCell (Y b 1) (H ((S.lc:Int)+1))).setCell (Y b ((cZ c).off)) (H ((S.lc:Int)+1))) (some b)):=zW (zW (yS _ _) _ _) _ _;generalize hW4:((wr.setCell (Y b 1) (H ((S.lc:Int)+1))).setCell (Y b ((cZ c).off)) (H ((S.lc:Int)+1)))=W4 at *;rw[<- e1] at d3;obtain⟨m,hm⟩:∃m,m=S.lc+1:=⟨_,rfl⟩;rw[<- hm] at d3 n0 n1 n2 n3;have hm21:(m:Int)<21:=by omega
   have HM:=U hm;clear hW4 hm e1 d2 jM hf g1 c0 o0 o1 o2 o3 o4 o5 hlc'
   go_region
   have t3:=O qg;have t4:=dX t3 (S.lc+1) 0 (by omega) (by omega) (H o.side) { (TS.nd _ (S.lc+1)) with side:=o.side } rfl _ rfl;have t5:=dX t4 (S.lc+1) 1 (by omega) (by omega) (H o.ticks) { (TS.nd _ (S.lc+1)) with ticks:=o.ticks } rfl _ rfl;have t6:=dX t5 (S.lc+1) 2 (by omega) (by omega) (H 0) { (TS.nd _ (S.lc+1)) with qty:=0 } rfl _ rfl;have t7:=dX t6 (S.lc+1) 3 (by omega) (by omega) (H 0) { (TS.nd _ (S.lc+1)) with count:=0 } rfl _ rfl;have js:=U (gr_drew (zW (zW (zW (zW (O uX) (2+m*8) (H o.side)) (2+m*8+1) (H o.ticks)) (2+m*8+2) (H 0)) (2+m*8+3) (H 0)));rw[<- O HM] at t7;simp only[gG,zp] at t7;have hS:_ = S.grow (cZ c) o.side o.ticks:=grow_eq S (cZ c) o m (O HM);rw[hS] at t7;have d7:_ = some (H (m:Int)):=t7.lc.trans (by rw[O HM];rfl);have HT7:=U t7;clear t3 t4 t5 t6 t7 n0 n1 n2 n3 d3 p1 p2;generalize (((W4.setCell (Y b (2+m*8)) (H o.side)).setCell (Y b (2+m*8+1)) (H o.ticks)).setCell (Y b (2+m*8+2)) (H 0)).setCell (Y b (2+m*8+3)) (H 0)=W7 at *;go_wp2_with fail;go_ret;exact⟨m,rfl,_,eC (O HT7) rfl,(O bI).2.2.1.trans (((O HG).but _).trans (O js)),.inr ⟨c,u,O kW,O HA0,O HM,rfl⟩⟩
  ·have ham:=way_at (O kW) rfl ha;have har:=(O HI).range _ ham;obtain⟨a,hae⟩:∃a,a=S.rd (cZ c):=⟨_,rfl⟩;rw[<- hae] at c0 ha ham har;have HAE:=U hae;have ha':¬ ((a:Int)=0):=by omega
   have ha21:(a:Int)<21:=by omega
   obtain⟨n0,n1,n2,n3,n4,n5,n6,n7⟩:=zT (hT.nd a (by omega));have HTM:=U hT;have jY:∀w',wr.grownBy w' none->Sem.run Tryz.prog (partAt (Y b 0) 0 0) w' = .ok (Y b 0) w':=fun w' h=>part_b (iP (O HTM) h (by simp)).obj;have HPT:=U jY;have cJ:=U (fun w' (h:wr.grownBy w' none)=>h.cell n1 (by simp));have jt:=U (fun w' (h:wr.grownBy w' none)=>h.cell o2 (by simp));clear hae hT jY;go_wp2_with fail;go_quiet (fail);go_wp2_with fail;refine ix (W:=wr) (by kernel_rfl) (by kernel_rfl) ⟨rfl,rfl,rfl,Nat.le_refl _,fun _ _ _=>rfl⟩ ?_
   iterate 12 (
    refine ej (v:=?_) ?_ ?_ ?_;rotate_left
    ·rfl
    ·intro w' uy;have f1:=O cJ w' uy;have f2:=O jt w' uy;have f3:=O HPT w' uy;go_simp
     try rfl
    intro hb hK;go_simp;refine hK _ ?_;clear hK hb)
   refine ej (v:=.bool (decide ((S.nd a).ticks<o.ticks))) ?_ ?_ ?_
   ·rfl
   ·intro w' uy;have hm:=method_b w';go_simp;refine(better_b _ _ _).mono ?_;rintro e w3 ⟨rfl,ua⟩;exact⟨rfl,uy.trans ua⟩
   intro hb hK;go_simp;refine hK _ ?_;clear hK hb;refine ej (v:=?_) ?_ ?_ ?_;rotate_left
   ·rfl
   ·intro w' uy;go_simp
    try rfl
   intro hb hK;go_simp;refine hK _ ?_;clear hK hb;refine wpQuiet_nil ?_;intro w2 vn;have uf:=U vn;clear vn
   by_cases Z:(S.nd a).ticks<o.ticks
   ·have h1':decide ((S.nd a).ticks<o.ticks)=true:=by simpa using Z
    go_wp2_with fail;obtain⟨l,r,rfl,cx⟩:=way_be (O HI) (O kW) (O HAE).symm ha Z
    go_roundg (l.hs.length)
    case measure=>have:=O HK;simp[Tr.hs] at this;omega
    case rel=>exact⟨_,l,rfl,Nat.le_refl _,cx,(O HG).trans (O uf)⟩
   ·have h1':decide ((S.nd a).ticks<o.ticks)=false:=by simpa using Z
    go_wp2_with fail;refine ix (W:=wr) (by kernel_rfl) (by kernel_rfl) (O uf) ?_
    iterate 12 (
     refine ej (v:=?_) ?_ ?_ ?_;rotate_left
     ·rfl
     ·intro w' uy;have f1:=O cJ w' uy;have f2:=O jt w' uy;have f3:=O HPT w' uy;go_simp
      try rfl
     intro hb hK;go_simp;refine hK _ ?_;clear hK hb)
    refine ej (v:=.bool (decide (o.ticks<(S.nd a).ticks))) ?_ ?_ ?_
    ·rfl
    ·intro w' uy;have hm:=method_b w';go_simp;refine(better_b _ _ _).mono ?_;rintro e w3 ⟨rfl,ua⟩;exact⟨rfl,uy.trans ua⟩
    intro hb hK;go_simp;refine hK _ ?_;clear hK hb;refine ej (v:=?_) ?_ ?_ ?_;rotate_left
    ·rfl
    ·intro w' uy;go_simp
     try rfl
    intro hb hK;go_simp;refine hK _ ?_;clear hK hb;refine wpQuiet_nil ?_;intro w3 ua;have uL:=U ua;clear ua
    by_cases Q:o.ticks<(S.nd a).ticks
    ·have ah:decide (o.ticks<(S.nd a).ticks)=true:=by simpa using Q
     go_wp2_with fail;obtain⟨l,r,rfl,cx⟩:=way_wo (O HI) (O kW) (O HAE).symm ha Q
     go_roundg (r.hs.length)
     case measure=>have:=O HK;simp[Tr.hs] at this;omega
     case rel=>exact⟨_,r,rfl,Nat.le_refl _,cx,(O HG).trans (O uL)⟩
    ·have ah:decide (o.ticks<(S.nd a).ticks)=false:=by simpa using Q
     have c3:=(O uL).cell c0 (by simp);go_wp2_with fail;go_ret;have hG:=(O HG).trans (O uL);exact⟨a,rfl,S,iP (O bI).2.1 hG (by simp),(O bI).2.2.1.trans (hG.but _),.inl ⟨ham,by omega,rfl⟩⟩
theorem add_b (b:Nat)(sd:Int)(seq:List Od)(o:Od)(w:World)(h:dI 261 true w b sd seq)(uF:o.side=sd)(hn:seq.length<20)(hl:∀o'∈seq,0<=o'.left/\o'.left<=1000000)(bY:0<=o.left/\o.left<=1000000) :
  Calls Tryz.prog 169 #[h3 b 0,.agg (yx o.id o.side o.ticks o.left o.life o.tag).toArray] w fun e w' =>
   e=yn (.tuple #[])/\dI 261 true w' b sd (seq ++ [o])/\w.grownBy w' (some b):=by
 obtain⟨S,t,hT,hi,hq,qd⟩:=h;have HI:=U hi;have HQ:=U hq;have HT:=U hT;have pU:=U qd;have HL:=U hl;have bF:=U uF;have HOC:=U hq.oc;have hoc':(S.oc:Int)<20:=by have:=hq.oc;omega
 have e1:((S.oc+1:Nat):Int)=(S.oc:Int)+1:=by omega
 have K:b≠w.heap.size:=by have:=tm_lt hT;omega
 have om:World.rangeAt (w.alloc (me (yx o.id o.side o.ticks o.left o.life o.tag).toArray 71)) w.heap.size 0 o.vs:=zm w o.vs 71;have qV:TM 261 (w.alloc (me (yx o.id o.side o.ticks o.left o.life o.tag).toArray 71)) b S:=eC hT (Below.heap_alloc w _ _ (tm_lt hT));have c1:=qV.oc;have f1:=qV.fr;have hT1:=tm_oc qV (S.oc+1)
 have hR1:Hid (World.rangeAt (World.setCell (w.alloc (me (yx o.id o.side o.ticks o.left o.life o.tag).toArray 71)) (Y b 170) (H ((S.oc+1:Nat):Int))) w.heap.size 0 o.vs):=fun j u hu=>by
  rw[yM _ _ _ _ (fun e=>K (congrArg Addr.block e))];exact om j u hu
 have hG1:Hid (w.grownBy (World.setCell (w.alloc (me (yx o.id o.side o.ticks o.left o.life o.tag).toArray 71)) (Y b 170) (H ((S.oc+1:Nat):Int))) (some b)):=zW (World.grownBy_alloc w (me (yx o.id o.side o.ticks o.left o.life o.tag).toArray 71) _) _ _;have ke:=U hT1
 have xG:Hid (w.heap.size<(World.heap (World.setCell (w.alloc (me (yx o.id o.side o.ticks o.left o.life o.tag).toArray 71)) (Y b 170) (H ((S.oc+1:Nat):Int)))).size):=(by
  have:=yL _ _ (hR1 0 _ rfl);exact this)
 clear hi hq qd hl uF hT qV om hT1;go_enter Tryz.func169,Tryz.ntmps169;go_wp2_with fail;rw[<- e1];have em:∃m,m=S.oc+1:=⟨_,rfl⟩;obtain⟨m,hm⟩:=em;rw[<- hm] at hR1 hG1 ke xG |-;generalize hW1:World.setCell (w.alloc (me (yx o.id o.side o.ticks o.left o.life o.tag).toArray 71)) (Y b 170) (H (m:Int))=W1 at hR1 hG1 ke xG |-;have HM:=U hm;have hm21:(m:Int)<21:=by omega
 obtain⟨o0,o1,o2,o3,o4,o5⟩:=zL (O hR1);obtain⟨q0,q1,q2,q3,q4,q5,q6⟩:=iK ((O ke).qo m (by omega));have f2:=(O ke).fr;have az:S.lc<20:=by have:=O pU;omega
 have HB:=U K;clear hW1 hm e1 c1 f1 hoc' K
 go_region
 have qg:=U (tm_put (O ke) m (by omega) o);have uf:=U (gr_put (w:=W1) (b:=b) o m)
 generalize hW2:(((((((W1.setCell (Y b (171+m*7)) (H o.id)).setCell (Y b (171+m*7+1)) (H o.side)).setCell (Y b (171+m*7+2)) (H o.ticks)).setCell (Y b (171+m*7+3)) (H o.left)).setCell
   (Y b (171+m*7+4)) (H o.life)).setCell (Y b (171+m*7+5)) (yl o.tag)).setCell (Y b (171+m*7+6)) (H 0))=W2 at qg uf |-
 clear hW2 o0 o1 o2 o3 o4 o5 q0 q1 q2 q3 q4 q5 q6 f2;rw[show({ root:=S.root,lc:=S.lc,oc:=m,nd:=S.nd,qo:=upd S.qo m ⟨o,0⟩ }:TS)=S.lay o from by rw[O HM];rfl] at qg;have hR2:=U (zv (O hR1) (O uf) (O xG) (fun e=>O HB (Option.some.inj e).symm));obtain⟨o0,o1,o2,o3,o4,o5⟩:=zL (O hR2);have HTI:=U (ti_lay o (O HI));have HT2d:Hid (TM 261 W2.drew.drew b (S.lay o)):=eC (O qg) rfl;go_wp2_with fail
 go_region_with (go_at_call 199;refine(levelFor_b b (S.lay o) t o W2.drew.drew (O HT2d) (O HTI) az).mono ?_;rintro e W3 ⟨h,rfl,vE⟩;have HE:=U vE;have jx:(h:Int)<21:=lf_lt vE (O HTI) az;clear vE)
 obtain⟨S3,hT3,ua,ki⟩:=O HE;rw[<- O bF] at HQ;obtain⟨r1,r2,r3,r4,r5,t',r6,r7⟩:=add_ready (O HI) (O HQ) ki;have R4:=U r4;have R6:=U r6;have R7:=U r7
 have R23:Hid ((0:Int)<=(S3.nd h).qty/\(S3.nd h).qty<=20000000/\(0:Int)<=(S3.nd h).count/\(S3.nd h).count<=20):=by
  have K:=sumL_bound (atK seq o.ticks) (fun o' qe=>O HL o' (List.mem_filter.1 qe).1);have uJ:(atK seq o.ticks).length<=seq.length:=List.length_filter_le _ _;rw[r2,r3];refine⟨K.1,?_,by omega,by omega⟩;have:=K.2;have h20:((atK seq o.ticks).length:Int)<=20:=by omega
  omega
 have jQ:=U hT3;have uL:Hid (W2.grownBy W3 (some b)):=⟨ua.os,ua.tape,ua.output,ua.size,ua.block⟩;have hR3:=U (zv (O hR2) (O uL) (yK (O xG) (O uf).size) (fun e=>O HB (Option.some.inj e).symm));have hy21:(S3.nd h).yo<21:=by omega
 have hm1:m=1+seq.length:=by have:=O HM;have:=O HOC;omega
 have HM1:=U hm1;clear hT3 ua ki r1 r2 r3 r4 r5 r6 r7 o0 o1 o2 o3 o4 o5 hm1 HE;have xV:=(O jQ).fr;obtain⟨n0,n1,n2,n3,n4,n5,n6,n7⟩:=zT ((O jQ).nd h (by omega));have qC:h<21:=by omega
 clear n0 n1 n2 n3 n4 n5
 by_cases hy:(S3.nd h).yo=0
 ·have t5:=dX (O jQ) h 6 qC (by omega) (H m) { S3.nd h with el:=m } rfl _ rfl;have t6:=dX t5 h 7 qC (by omega) (H m) { (TS.nd _ h) with yo:=m } rfl _ rfl;simp only[gG,zp] at t6;obtain⟨-,-,-,-,-,-,-,k7⟩:=zT (t5.nd h qC);have f5:=t5.fr;rw[hy] at n7;have qD:=U (zW (zW (yS W3 (some b)) (2+h*8+6) (H m)) (2+h*8+7) (H m));have kf:=U t6;clear t5 t6;go_wp2_with fail;generalize hW6:(W3.setCell (Y b (2+h*8+6)) (H m)).setCell (Y b (2+h*8+7)) (H m)=W6 at qD kf |-;clear jQ hW6;have f6:=(O kf).fr;obtain⟨-,-,m2,m3,-⟩:=zT ((O kf).nd h qC);simp only[zp] at m2 m3;have hR6:=zv (O hR3) (O qD) (yK (O xG) (yO (O uf).size (O uL).size)) (fun e=>O HB (Option.some.inj e).symm);obtain⟨-,-,-,x3,-⟩:=zL hR6;obtain⟨b1,b2,b3,b4⟩:=O R23;have t7:=dX (O kf) h 2 qC (by omega) (H ((S3.nd h).qty+o.left)) { (TS.nd _ h) with qty:=(S3.nd h).qty+o.left } rfl _ rfl;have t8:=dX t7 h 3 qC (by omega) (H ((S3.nd h).count+1)) { (TS.nd _ h) with count:=(S3.nd h).count+1 } rfl _ rfl;obtain⟨-,-,-,y3,-⟩:=zT (t7.nd h qC);have f7:=t7.fr;simp only[gG,zp] at t8 y3;have bG:=U t8;have HG8:=U (zW (zW (yS W6 (some b)) (2+h*8+2) (H ((S3.nd h).qty+o.left))) (2+h*8+3) (H ((S3.nd h).count+1)));have oM:wrap64 ((S3.nd h).qty+o.left)=(S3.nd h).qty+o.left:=by unfold wrap64;omega
  clear t7 t8 hR6
  go_region
  try simp only[IntKind.wrap_i64]
  try rw[show(IntKind.i64.wrap ((S3.nd h).qty+o.left))=(S3.nd h).qty+o.left from by rw[IntKind.wrap_i64];exact oM]
  generalize hW7:W6.setCell (Y b (2+h*8+2)) (H ((S3.nd h).qty+o.left))=W7 at *;go_wp2_with fail;go_end0;have HS8:Hid (_ = S3.link h m o.left):=link_eq0 S3 h m o.left hy;rw[O HS8] at bG;rw[O HM1] at bG;refine⟨rfl,?_,?_⟩
  ·rw[<- O bF];refine⟨_,t',eC (O bG) rfl,O R6,O R7,?_⟩;have Z:=O R4;have Q:=O pU;show S3.lc <= _;simp;omega
  ·exact gg (((((O hG1).trans (O uf)).trans (O uL)).trans (O qD)).trans (O HG8)) rfl rfl rfl rfl
 ·have t5:=tm_qo (O jQ) (S3.nd h).yo 6 hy21 (by omega) (H m) { S3.qo (S3.nd h).yo with yg:=m } rfl _ rfl;have t6:=dX t5 h 7 qC (by omega) (H m) { (TS.nd _ h) with yo:=m } rfl _ rfl;obtain⟨-,-,-,-,-,-,-,k7⟩:=zT (t5.nd h qC);obtain⟨-,-,-,-,-,-,q6⟩:=iK ((O jQ).qo (S3.nd h).yo hy21);have f5:=t5.fr;have hyi:((S3.nd h).yo:Int)<21:=by omega
  have ph:¬ (((S3.nd h).yo:Int)=0):=by omega
  have qD:=U (zW (zW (yS W3 (some b)) (171+(S3.nd h).yo*7+6) (H m)) (2+h*8+7) (H m));have kf:=U t6;clear t5 t6;go_wp2_with fail
  go_region
  go_wp2_with fail;generalize hW6:(W3.setCell (Y b (171+(S3.nd h).yo*7+6)) (H m)).setCell (Y b (2+h*8+7)) (H m)=W6 at qD kf |-;clear jQ hW6;have f6:=(O kf).fr;obtain⟨-,-,m2,m3,-⟩:=zT ((O kf).nd h qC);simp only[zp] at m2 m3;have hR6:=zv (O hR3) (O qD) (yK (O xG) (yO (O uf).size (O uL).size)) (fun e=>O HB (Option.some.inj e).symm);obtain⟨-,-,-,x3,-⟩:=zL hR6;obtain⟨b1,b2,b3,b4⟩:=O R23;have t7:=dX (O kf) h 2 qC (by omega) (H ((S3.nd h).qty+o.left)) { (TS.nd _ h) with qty:=(S3.nd h).qty+o.left } rfl _ rfl;have t8:=dX t7 h 3 qC (by omega) (H ((S3.nd h).count+1)) { (TS.nd _ h) with count:=(S3.nd h).count+1 } rfl _ rfl;obtain⟨-,-,-,y3,-⟩:=zT (t7.nd h qC);have f7:=t7.fr;simp only[gG,zp] at t8 y3;have bG:=U t8;have HG8:=U (zW (zW (yS W6 (some b)) (2+h*8+2) (H ((S3.nd h).qty+o.left))) (2+h*8+3) (H ((S3.nd h).count+1)));have oM:wrap64 ((S3.nd h).qty+o.left)=(S3.nd h).qty+o.left:=by unfold wrap64;omega
  clear t7 t8 hR6
  go_region
  try simp only[IntKind.wrap_i64]
  try rw[show(IntKind.i64.wrap ((S3.nd h).qty+o.left))=(S3.nd h).qty+o.left from by rw[IntKind.wrap_i64];exact oM]
  generalize hW7:W6.setCell (Y b (2+h*8+2)) (H ((S3.nd h).qty+o.left))=W7 at *;go_wp2_with fail;go_end0;have HS8:Hid (_ = S3.link h m o.left):=link_eq1 S3 h m o.left hy;rw[O HS8] at bG;rw[O HM1] at bG;refine⟨rfl,?_,?_⟩
  ·rw[<- O bF];refine⟨_,t',eC (O bG) rfl,O R6,O R7,?_⟩;have Z:=O R4;have Q:=O pU;show S3.lc <= _;simp;omega
  ·exact gg (((((O hG1).trans (O uf)).trans (O uL)).trans (O qD)).trans (O HG8)) rfl rfl rfl rfl
theorem zNd_b:∀i,i<21->(Tryz.zeroCells261.toList.drop (2+i*8)).take 8=zNd.vs
 | 0,_=>by kernel_rfl
 | 1,_=>by kernel_rfl
 | 2,_=>by kernel_rfl
 | 3,_=>by kernel_rfl
 | 4,_=>by kernel_rfl
 | 5,_=>by kernel_rfl
 | 6,_=>by kernel_rfl
 | 7,_=>by kernel_rfl
 | 8,_=>by kernel_rfl
 | 9,_=>by kernel_rfl
 | 10,_=>by kernel_rfl
 | 11,_=>by kernel_rfl
 | 12,_=>by kernel_rfl
 | 13,_=>by kernel_rfl
 | 14,_=>by kernel_rfl
 | 15,_=>by kernel_rfl
 | 16,_=>by kernel_rfl
 | 17,_=>by kernel_rfl
 | 18,_=>by kernel_rfl
 | 19,_=>by kernel_rfl
 | 20,_=>by kernel_rfl
 | n+21,h=>absurd h (by omega)
theorem zQo_b:∀i,i<21->(Tryz.zeroCells261.toList.drop (171+i*7)).take 7=zQo.vs
 | 0,_=>by kernel_rfl
 | 1,_=>by kernel_rfl
 | 2,_=>by kernel_rfl
 | 3,_=>by kernel_rfl
 | 4,_=>by kernel_rfl
 | 5,_=>by kernel_rfl
 | 6,_=>by kernel_rfl
 | 7,_=>by kernel_rfl
 | 8,_=>by kernel_rfl
 | 9,_=>by kernel_rfl
 | 10,_=>by kernel_rfl
 | 11,_=>by kernel_rfl
 | 12,_=>by kernel_rfl
 | 13,_=>by kernel_rfl
 | 14,_=>by kernel_rfl
 | 15,_=>by kernel_rfl
 | 16,_=>by kernel_rfl
 | 17,_=>by kernel_rfl
 | 18,_=>by kernel_rfl
 | 19,_=>by kernel_rfl
 | 20,_=>by kernel_rfl
 | n+21,h=>absurd h (by omega)
theorem zTree_b (w:World)(sd:Int):dI 261 true (w.alloc (Obj.cells Tryz.zeroCells261 261)) w.heap.size sd []:=
 ⟨zTS,.nil,tm_zero w _ _ (by kernel_rfl) (by kernel_rfl) zNd_b (by kernel_rfl) zQo_b,ti_zero _,qi_zero _,Nat.le_refl _⟩
theorem plant_b (v:Value)(l:List Od)(sd:Int)(w:World)(hr:RdR Od.vs 6 w v l)(hn:l.length<=20)(hl:∀o'∈l,0<=o'.left/\o'.left<=1000000) :
  Calls Tryz.prog 134 #[v,H sd] w fun e w' =>
   e=yn (yq w 0)/\dI 261 true w' w.heap.size sd (zC l sd)/\yp w w':=by
 obtain⟨a,cap,rfl,xC,hc⟩:=hr
 have xp:∀(k:Nat) (c:Od),l[k]? = some c->∃b off,a=some (Y b off)/\b<w.heap.size/\w.rangeAt b (off+k*6) c.vs:=by
  intro k c E;obtain⟨b,off,Z,Q,I⟩:=hc (by intro h;rw[h] at E;simp at E);exact⟨b,off,Z,Q,I k c E⟩
 have HC:=U xp;have HL:=U hl;have HN:=U hn;clear xp hc hl;have HZ:=U (zTree_b w sd);have vf:Hid (yp w (w.alloc (Obj.cells Tryz.zeroCells261 261))):=mc _ _;go_enter Tryz.func134,Tryz.ntmps134;go_wp2_with fail;generalize (w.alloc (Obj.cells Tryz.zeroCells261 261))=W0 at HZ vf |-;go_loopw [11] (fun i wr=>∃k:Nat,k<=l.length/\i=H k/\dI 261 true wr w.heap.size sd (zC (l.take k) sd)/\yp w wr) (fun i _=>l.length-(intOf i).toNat)
 case atStart=>exact⟨0,Nat.zero_le _,rfl,O HZ,O vf⟩
 case round =>
  obtain⟨k,E,rfl,htr,xl⟩:=hrel;have qU:=U htr;have uC:=U xl;clear htr xl HZ vf
  by_cases xK:k<l.length
  ·obtain⟨c,vX⟩:∃c,l[k]? = some c:=⟨_,yI xK⟩;have oQ:=U vX;obtain⟨b,off,rfl,K,xo⟩:=O HC k c vX;obtain⟨g0,g1,g2,g3,g4,g5⟩:=zL (zf xo (O uC) K);have ux:(k:Int)<l.length:=by omega
   clear vX xo K
   by_cases uF:c.side=sd
   ·have HIT:Hid (zC (l.take (k+1)) c.side=zC (l.take k) c.side ++ [c]):=ofSide_snoc l k c (O oQ);subst uF
    have oC:(zC (l.take k) c.side).length<20:=by
     have Z:(zC (l.take k) c.side).length<=(l.take k).length:=List.length_filter_le _ _;have Q:(l.take k).length<=k:=List.length_take_le _ _;have I:=O HN;omega
    have bw:=U oC;have xo:=O HL c (yP (O oQ));have aN:=U xo;clear oC xo;go_wp2_with fail;refine(add_b w.heap.size c.side (zC (l.take k) c.side) c _ (zI (O qU) (Below.heap_alloc wr _ _ (ed (O qU)))) rfl (O bw) (fun o' qe=>O HL o' (List.mem_of_mem_take (List.mem_filter.1 qe).1)) (O aN)).mono ?_;rintro e w2 ⟨rfl,cw,vn⟩;rw[<- O HIT] at cw;have bH:=U cw;have xz:=U (((O uC).alloc (O uC).size _).grown vn (by rw[zi];have:=(O uC).size;omega) (fun g F=>by obtain rfl:=Option.some.inj F;exact Nat.le_refl _));clear cw vn;go_wp2_with fail;go_roundw
    case rel=>exact⟨k+1,by omega,by go_num,O bH,O xz⟩
    case measure=>simp[intOf];omega
   ·have HIT:Hid (zC (l.take (k+1)) sd=zC (l.take k) sd):=ofSide_skip l k c (O oQ) uF;go_wp2_with fail;go_roundw
    case rel =>
     refine⟨k+1,by omega,by go_num,?_,?_⟩
     ·rw[O HIT];exact zI (O qU) (Below.heap_alloc wr _ _ (ed (O qU)))
     ·exact(O uC).alloc (O uC).size _
    case measure=>simp[intOf];omega
  ·go_wp2_with fail;go_ret;have h:=O qU;rw[xa (by omega)] at h;exact⟨rfl,h,O uC⟩
theorem infoH_b:(Tryz.prog.info? 251).map (fun i=>(i.zero,i.size,i.bytes))=some (some (H 0),1,8):=by kernel_rfl
theorem cellsH_b (w:World)(cs:List Value)(t:TypeId)(j:Nat)(u:Value)(h:cs[j]? = some u):(w.alloc (Obj.cells cs.toArray t)).cell? (((yr w 0):Addr).add j)=some u:=by
 rw[Addr.add_mid,cell_of_row _ w.heap.size (0+j) cs.toArray t (0,0) (heap_alloc_new w _)];simpa using h
def hval_b (h:Nat):Value:=H h
theorem ranked_b (S:TS)(b B:Nat)(cP:b<B):∀(t:Tr) (w:World) (v:Value) (done:List Nat) (part:Nat),TM 261 w b S->Rep S.nd t part->(∀h∈t.hs,h<21)->B<=w.heap.size ->
  w.ownsRow B 251 1 v done.length (done.map hval_b)->done.length+t.hs.length<=1000 ->
  Calls Tryz.prog 198 #[h3 b 0,v,H part] w fun e w' =>
   ∃v',e=yn v'/\w'.ownsRow B 251 1 v' (done++t.hs).length ((done++t.hs).map hval_b)/\Below B w w'
 | .nil,w,v,done,part,hT,hrep,hh,hB,xu,xC=>by
  obtain rfl:part=0:=hrep;have HO:=U xu;clear xu hT hh;go_enter Tryz.func198,Tryz.ntmps198;go_wp2_with fail;go_ret;exact⟨v,rfl,by simpa[Tr.hs] using O HO,Below.refl _ _⟩
 | .node h l r,w,v,done,part,hT,hrep,hh,hB,xu,xC=>by
  obtain⟨rfl,h0,hl,hr⟩:=hrep;have HO:=U xu;have HT:=U hT;have HL:=U hl;have HR:=U hr;have aA:done.length+(l.hs.length+1+r.hs.length)<=1000:=by simp[Tr.hs] at xC;omega
  have qC:=hh part (by simp[Tr.hs]);have HHL:=U (fun a (ha:a∈l.hs)=>hh a (by simp[Tr.hs,ha]));have HHR:=U (fun a (ha:a∈r.hs)=>hh a (by simp[Tr.hs,ha]));have h21':(part:Int)<21:=by omega
  have h0':¬ ((part:Int)=0):=by omega
  have kR:=U aA;obtain⟨-,-,-,-,n4,-⟩:=zT (hT.nd part qC);obtain⟨i0,hi,ub,xX,uh⟩:=info_parts infoH_b;clear xu hT hh hl hr xC aA;go_enter Tryz.func198,Tryz.ntmps198;go_wp2_with fail;refine(ranked_b S b B cP l w v done _ (O HT) (O HL) (O HHL) hB (O HO) (by have:=O kR;omega)).mono ?_;rintro e w1 ⟨v1,rfl,oi,ud⟩;have kc:=U oi;have ui:=U ud;have hsz1:=ud.size;have hla:(done++l.hs).length<=999:=by have:=O kR;rw[yQ];omega
  obtain⟨-,-,-,-,-,n5,-⟩:=zT ((gR (O HT) ud cP).nd part qC);clear oi ud n4;go_wp2_with (at_builtin;go_must (refine wpList_append_own _ rfl _ _ 272 rfl B 251 i0 _ 1 8 Tryz.underlying272 hi ub xX uh rfl (by decide) v1 (done++l.hs).length ((done++l.hs).map hval_b) rfl ((O kc).alloc _) (yr w1 0) 1 1 [hval_b part] rfl rfl (cellsH_b w1 _ _) (by simp[Value.oneCell',hval_b]) (by unfold maxLen;omega) (by omega) (by simp at hla |-;omega) ?_);intro v2 w2 aC vn _;have jt:=U aC;have xz:=U (((O ui).alloc (yO hB hsz1) _).grown vn (by rw[zi];omega) (fun k E=>((O kc).lt k E).1));have m5:=(zT ((gR (O HT) (O xz) cP).nd part qC)).2.2.2.2.2.1;clear aC vn n5)
  have hsz2:=(O xz).size;refine(ranked_b S b B cP r w2 v2 (done++l.hs ++ [part]) _ (gR (O HT) (O xz) cP) (O HR) (O HHR) (by omega) (by simpa[Nat.add_assoc] using O jt) (by have:=O kR;simp;omega)).mono ?_;rintro e w3 ⟨v3,rfl,oK,xV⟩;have qO:=U oK;have xL:=U ((O xz).trans xV);clear oK xV m5;go_wp2_with fail;go_ret;exact⟨v3,rfl,by simpa[Tr.hs] using O qO,O xL⟩
theorem infoLv_b:(Tryz.prog.info? 253).map (fun i=>(i.zero,i.size,i.bytes))=some (some (.agg #[H 0,H 0,H 0,H 0]),4,32):=by kernel_rfl
theorem takeR_b {α:Type}(l:List α)(k:Nat)(c:α)(h:l[k]? = some c):l.take (k+1)=l.take k ++ [c]:=by
 obtain⟨E,rfl⟩:=yH.1 h;rw[List.take_succ_eq_append_getElem E]
theorem fM {W:World}{B B':Nat}{e:TypeId}{sz:Nat}{v:Value}{n:Nat}{xs:List Value}(h:W.ownsRow B e sz v n xs)(hB:B'<=B):W.ownsRow B' e sz v n xs:=
 ⟨h.1,by
  rcases h.2 with Z|⟨g',c',xt,Z,Q,I⟩
  ·exact .inl Z
  ·exact .inr ⟨g',c',xt,Z,yO hB Q,I⟩⟩
theorem flat1_b (l:List Nat):(l.flatMap fun h=>[hval_b h])=l.map hval_b:=by
 induction l with
 | nil=>rfl
 | cons a r ih=>rw[List.flatMap_cons,ih];rfl
theorem levelsO_b (b:Nat)(sd:Int)(seq:List Od)(w:World)(h:dI 261 true w b sd seq)(hn:seq.length<=20) :
  Calls Tryz.prog 168 #[h3 b 0] w fun e w' =>
   ∃v',e=yn v'/\w'.ownsRow w.heap.size 253 4 v' (dS true sd seq).length ((dS true sd seq).flatMap Lv.vs)/\yp w w':=by
 obtain⟨S,t,hT,hi,hq,qd⟩:=h;have hlv:=lz hi hq;rw[<- hlv];have jx:∀a∈t.hs,a<21:=fun a ha=>by have:=(hi.range a ha).2;omega
 have xC:t.hs.length<=20:=by rw[hi.len];omega
 have HT:=U hT;have HR:=U hi.rep;have HH:=U jx;have oq:=hT.root;have aX:=tm_lt hT;generalize ht:t.hs=hs at *;have HHS:=U ht;have HNIL:=U (World.ownsRow_nil w w.heap.size 251 1);obtain⟨i0,uo,ub,xX,uh⟩:=info_parts infoLv_b;clear hi hq qd hlv hT jx ht;go_enter Tryz.func168,Tryz.ntmps168;go_wp2_with fail;refine(ranked_b S b w.heap.size aX t w _ [] S.root (O HT) (O HR) (by rw[O HHS];exact O HH) yb (O HNIL) (by rw[O HHS];simp;omega)).mono ?_;rintro e w1 ⟨v1,rfl,oi,ud⟩;rw[List.nil_append,O HHS] at oi;have ui:=U ud;have HOR:=U (gi (f:=fun h=>[hval_b h]) (fun _=>rfl) (by omega) (show w1.ownsRow w.heap.size 251 1 v1 hs.length (hs.flatMap fun h=>[hval_b h]) by rw[flat1_b];exact oi));obtain⟨a,cap,rfl,_,hc⟩:=O HOR
 have xp:∀k h,hs[k]? = some h->∃g,a=some (Y g 0)/\g<w1.heap.size/\w1.cell? (Y g (0+k*1+0))=some (H (h:Nat)):=fun k h E=>by
  obtain⟨g,Z,_,I,h4,_⟩:=hc (by intro e;rw[e] at E;simp at E);exact⟨g,Z,I,h4 k h E 0 _ rfl⟩
 have HC:=U xp;clear oi ud hc xp oq;go_wp2_with fail;have ud:=(O ui).size;go_loopw [3,13] (fun ov iv wr=>∃(k:Nat) (done:List Lv),k<=hs.length/\iv=H k/\Hid (done=(hs.map fun h=>(S.nd h).lv).take k)/\wr.ownsRow w1.heap.size 253 4 ov done.length (done.flatMap Lv.vs)/\yp w1 wr) (fun _ iv _=>hs.length-(intOf iv).toNat)
 case atStart=>exact⟨0,[],Nat.zero_le _,rfl,by simp[Hid],World.ownsRow_nil _ _ _ _,Below.refl _ _⟩
 case round =>
  obtain⟨k,done,E,rfl,hd,xu,xl⟩:=hrel;have vD:=U xu;have HB:=U xl;have hdl:done.length=k:=by rw[O hd,List.length_take,List.length_map];omega
  clear xu xl
  by_cases xK:k<hs.length
  ·obtain⟨h,hkh⟩:∃h,hs[k]? = some h:=⟨_,yI xK⟩;have oQ:Hid ((hs.map fun h=>(S.nd h).lv)[k]? = some (S.nd h).lv):=by show _ = _;rw[List.getElem?_map,hkh];rfl
   obtain⟨g,rfl,F,xo⟩:=O HC k h hkh;have qC:=O HH h (yP hkh);have h21':(h:Int)<21:=by omega
   have kE:=((O HB).cell (p:=(Y g (0+k*1+0))) F).trans xo;rw[show 0+k*1+0=k by omega] at kE;have hTr:=gR (O HT) ((O ui).trans ((O HB).mono ud)) aX;obtain⟨n0,n1,n2,n3,-⟩:=zT (hTr.nd h qC);have ux:(k:Int)<hs.length:=by omega
   have hsr:=(O HB).size;clear hkh xo hTr F;go_wp2_with (at_builtin;go_must (refine wpList_append_own _ rfl _ _ 213 rfl w1.heap.size 253 i0 _ 4 32 Tryz.underlying213 uo ub xX uh rfl (by decide) _ done.length (done.flatMap Lv.vs) rfl ((O vD).alloc _) (yr wr 0) 1 1 (S.nd h).lv.vs rfl rfl (cellsH_b wr _ _) (by simp[Value.oneCell',Lv.vs,Nd.lv]) (by unfold maxLen;omega) (by omega) (by simp;omega) ?_);intro v4 w4 kj jH _);go_roundw
   case rel =>
    refine⟨k+1,done ++ [(S.nd h).lv],by omega,by go_num,?_,?_,?_⟩
    ·show done ++ [(S.nd h).lv] = _;rw[takeR_b _ k _ (O oQ),<- O hd]
    ·simpa using kj
    ·exact((O HB).alloc hsr _).grown jH (by simp;omega) fun k E=>((O vD).lt k E).1
   case measure=>simp[intOf];omega
  ·go_wp2_with fail;go_ret;have h:=O hd;rw[xa (by rw[List.length_map];omega)] at h;subst h;exact⟨_,rfl,fM (O vD) ud,(O ui).trans ((O HB).mono ud)⟩
theorem levels_b (b:Nat)(sd:Int)(seq:List Od)(w:World)(h:dI 261 true w b sd seq)(hn:seq.length<=20) :
  Calls Tryz.prog 168 #[h3 b 0] w fun e w' =>
   ∃v',e=yn v'/\OwnR Lv.vs 4 w.heap.size w' v' (dS true sd seq)/\yp w w':=by
 have xC:(dS true sd seq).length<=20:=by
  obtain⟨S,t,hT,hi,hq,qd⟩:=h;rw[<- lz hi hq,List.length_map,hi.len];omega
 refine(levelsO_b b sd seq w h hn).mono ?_;rintro e w' ⟨v',rfl,D,K⟩;exact⟨v',rfl,gi Lv.len (by omega) D,K⟩
theorem best_b {S:TS}:∀ {t:Tr} {v:Nat},Rep S.nd t v->t ≠ .nil->v∈t.hs/\((S.nd v).be=0->t.hs.head? = some v)/\((S.nd v).be≠0->∃l,Rep S.nd l (S.nd v).be/\l ≠ .nil/\l.hs.head? = t.hs.head?/\l.hs.length<t.hs.length/\∀a∈l.hs,a∈t.hs)
 | .nil,_,_,h=>absurd rfl h
 | .node h l r,v,⟨e,h0,Z,Q⟩,_=>by
  subst e;refine⟨by simp[Tr.hs],fun K=>?_,fun K=>⟨l,Z,?_,?_,?_,fun a ha=>by simp[Tr.hs,ha]⟩⟩
  ·rw[K] at Z;obtain rfl:=rep_nil Z;rfl
  ·rintro rfl;exact K Z
  ·cases l with
   | nil=>exact absurd Z K
   | node a l' r'=>simp[Tr.hs]
  ·simp[Tr.hs]
def FrI_b (S:TS)(hd:Option Nat)(w0:World)(k:Nat)(p:Value)(wr:World):Prop:=∃(t:Tr) (v:Nat),p=H v/\Rep S.nd t v/\t ≠ .nil/\t.hs.head? = hd/\t.hs.length<=k/\(∀a∈t.hs,a<21)/\w0=wr
theorem front_b (b:Nat)(sd:Int)(seq:List Od)(w:World)(h:dI 261 true w b sd seq)(hn:seq.length<=20) :
  Calls Tryz.prog 166 #[h3 b 0] w fun e w'=>e=yn (frOf (quOf true seq))/\yp w w':=by
 obtain⟨S,t,hT,hi,hq,qd⟩:=h;have hou:=tree_orders hi hq;have jx:∀a∈t.hs,a<21:=fun a ha=>by have:=(hi.range a ha).2;omega
 have HT:=U hT;have oq:=hT.root;have aX:=tm_lt hT
 by_cases jM:S.root=0
 ·have ht:=hi.rep;rw[jM] at ht oq;obtain rfl:=rep_nil ht;have HF:Hid (frOf (quOf true seq) = .tuple #[zOdv,.bool false]):=by show _ = _;rw[<- hou];rfl
  clear hi hq qd hou hT ht jx;go_enter Tryz.func166,Tryz.ntmps166;go_wp2_with fail;go_returns;refine⟨by rw[O HF];rfl,?_⟩;go_grown
 ·have xE:t ≠ .nil:=by rintro rfl;exact jM hi.rep
  have HI:=U hi;have HQ:=U hq;have HOU:=U hou;have HH:=U jx;have HNE:=U xE;have hr0':¬ ((S.root:Int)=0):=by omega
  clear hi hq qd hou hT jx xE;go_enter Tryz.func166,Tryz.ntmps166;go_wp2_with fail
  go_loopg [4] (t.hs.length) (fun k p wr=>FrI_b S t.hs.head? (w.alloc (me (yx 0 0 0 0 0 ⟨#[]⟩).toArray 71)) k p wr)
  case atStart=>exact⟨t,S.root,rfl,(O HI).rep,O HNE,rfl,Nat.le_refl _,O HH,rfl⟩
  case round =>
   obtain⟨t1,v,rfl,Z,Q,I,h4,h5,rfl⟩:=hrel;obtain⟨b1,b2,b3⟩:=best_b Z Q;have hv21:=h5 v b1;have hv21':(v:Int)<21:=by omega
   have qV:=eC (O HT) (Below.heap_alloc w (me (yx 0 0 0 0 0 ⟨#[]⟩).toArray 71) b aX);obtain⟨-,-,-,-,n4,-,n6,-⟩:=zT (qV.nd v hv21);have H3:=U I;have H4:=U h4;have H5:=U h5
   by_cases kD:(S.nd v).be=0
   ·have aw:=b2 kD;rw[I] at aw;have hvm:v∈t.hs:=List.mem_of_head? aw;have hQ:=(O HQ).q v hvm
    obtain⟨e,rest,hqs⟩:∃e rest,qs seq (S.nd v).ticks=e::rest:=by
     cases hqq:qs seq (S.nd v).ticks with
     | nil=>exact absurd hqq hQ.ne
     | cons e rest=>exact⟨e,rest,rfl⟩
    have hch:=hQ.chain;rw[hqs] at hch;obtain⟨he,he0,-⟩:=hch
    have he21:e<21:=by
     have:=(fC (S.nd v).ticks seq 1 e (by have h:e∈qs seq (S.nd v).ticks:=(by rw[hqs];simp);exact h)).2.1
     omega
    have he21':(e:Int)<21:=by omega
    have HF:Hid (frOf (quOf true seq) = .tuple #[(S.qo e).od.val,.bool true]):=by
     show _ = _;rw[<- O HOU]
     obtain⟨tl,htl⟩:∃tl,t.hs=v::tl:=by
      cases hh:t.hs with
      | nil=>rw[hh] at aw;simp at aw
      | cons a r=>rw[hh] at aw;simp at aw;rw[aw];exact⟨r,rfl⟩
     rw[htl,List.flatMap_cons,hqs];rfl
    obtain⟨q0,q1,q2,q3,q4,q5,-⟩:=iK (qV.qo e he21);rw[he] at n6;rw[kD] at n4;clear Z Q I h4 h5 b1 b2 b3 qV aw hvm hQ hqs he kD;go_wp2_with fail
    go_region
    go_wp2_with fail;go_returns;refine⟨by rw[O HF];rfl,?_⟩;go_grown
   ·obtain⟨l,l1,l2,l3,l4,l5⟩:=b3 kD;have hbe':¬ (((S.nd v).be:Int)=0):=by omega
    have HL:Hid (Rep S.nd l (S.nd v).be/\l ≠ .nil/\l.hs.head? = t1.hs.head?/\l.hs.length<t1.hs.length/\∀a∈l.hs,a∈t1.hs):=⟨l1,l2,l3,l4,l5⟩;clear Z Q I h4 h5 b1 b2 b3 qV l1 l2 l3 l4 l5 kD;go_wp2_with fail
    go_roundg (l.hs.length)
    case measure=>have:=O H4;have:=(O HL).2.2.2.1;omega
    case rel=>exact⟨l,_,rfl,(O HL).1,(O HL).2.1,(O HL).2.2.1.trans (O H3),Nat.le_refl _,fun a ha=>O H5 a ((O HL).2.2.2.2 a ha),rfl⟩
def fj (b:Nat):Value:=.agg #[.func (.func 166) #[h3 b 0] #[],.func (.func 167) #[h3 b 0] #[],.func (.func 168) #[h3 b 0] #[]]
theorem ask_b (b:Nat)(w:World) :
  Calls Tryz.prog 133 #[h3 b 0] w fun e w'=>e=yn (fj b)/\yp w w':=by
 have hmf:∀(fn:Fn) (first cap:Array Value) (w:World),(Instr.makeFunc fn first cap).run Tryz.prog w = .ok (.func fn first cap) w:=fun _ _ _ _=>rfl;go_enter Tryz.func133,Tryz.ntmps133;go_wp2_with fail;go_returns;refine⟨rfl,?_⟩;go_grown
end Go.Proofs.YtkofhemdefffpaaGreatDoor
