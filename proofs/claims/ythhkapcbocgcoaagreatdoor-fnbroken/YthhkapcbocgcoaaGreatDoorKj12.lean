/-.-/
import Derived.Test.YthhkapcbocgcoaaGreatDoorKj08
import Derived.Test.YthhkapcbocgcoaaGreatDoorKj09
import Derived.Test.YthhkapcbocgcoaaGreatDoorKj11
set_option linter.unusedVariables false
set_option maxHeartbeats 6400000
set_option maxRecDepth 100000
namespace Go.Proofs.YthhkapcbocgcoaaGreatDoor
open Go.RowKit
def ej (c:Cm):Bool:=
 if c.k=1 then(c.i==0) else if c.s≠0\/c.t≠0\/c.l≠0\/fbit c.p≠0\/c.g.toList.isEmpty=false then false else((c.k==3)||(c.q==0))&&((c.k != 4)||(c.i==0))
theorem l04Form_any (c:Cm)(w:World) :
  Calls Tryz.prog 67 #[cmV c] w fun e w'=>e=ym (.bool (ej c))/\yn w w':=by
 obtain⟨k,s,t,l,q,i,p,g⟩:=c;unfold cmV;simp only
 by_cases D:k=1
 ·subst D;have HK:Hid (ej ⟨1,s,t,l,q,i,p,g⟩=(i==0)):=by show _ = _;simp[ej]
  go_enter Tryz.func67,Tryz.ntmps67;go_wp2_with fail;go_ret;exact⟨zp (U HK).symm,by go_grown⟩
 have b1:(k==1)=false:=by rw[xe];exact D
 by_cases hs:s=0
 ·subst hs
  by_cases ht:t=0
  ·subst ht
   by_cases hl:l=0
   ·subst hl;have HZ:=Z (fun W=>l04Zero_any p W)
    have pM:Hid (∀z:Bool,decide (fbit p=0)=z->ej ⟨k,0,0,0,q,i,p,g⟩=if z=true then(if g.toList.isEmpty=false then false else((k==3)||(q==0))&&((k != 4)||(i==0))) else false):=by
     intro z hz;subst hz
     by_cases hp:fbit p=0 <;> simp[ej,D,hp]
    have HFJ:=Z (U pM _ rfl);generalize decide (fbit p=0)=z at HZ HFJ;clear pM D;go_enter Tryz.func67,Tryz.ntmps67;go_wp2_with fail;refine(U HZ _).mono ?_;rintro e w' ⟨rfl,rfl⟩;cases z
    ·have HK:Hid (ej ⟨k,0,0,0,q,i,p,g⟩=false):=U HFJ;go_wp2_with fail;go_ret;exact⟨zp (U HK).symm,by go_grown⟩
    ·have HFK:Hid (ej ⟨k,0,0,0,q,i,p,g⟩=if g.toList.isEmpty=false then false else((k==3)||(q==0))&&((k != 4)||(i==0))):=by
      show _ = _;have:=U HFJ;simpa using this
     clear HFJ HZ;cases X:g.toList.isEmpty
     ·have bg:(!g.toList.isEmpty)=true:=by rw[X];rfl
      have HK:Hid (ej ⟨k,0,0,0,q,i,p,g⟩=false):=(U HFK).trans (if_pos X);clear X;go_wp2_with fail;go_ret;exact⟨zp (U HK).symm,by go_grown⟩
     have bg:(!g.toList.isEmpty)=false:=by rw[X];rfl
     have HFL:Hid (ej ⟨k,0,0,0,q,i,p,g⟩=(((k==3)||(q==0))&&((k != 4)||(i==0)))):=(U HFK).trans (if_neg (by rw[X];simp));clear X HFK
     by_cases h3:k=3
     ·subst h3;have HK:Hid (ej ⟨3,0,0,0,q,i,p,g⟩=true):=(U HFL).trans (by simp);go_wp2_with fail;go_ret;exact⟨zp (U HK).symm,by go_grown⟩
     have b3:(k==3)=false:=by rw[xe];exact h3
     by_cases hq:q=0
     ·subst hq
      by_cases h4:k=4
      ·subst h4;have HK:Hid (ej ⟨4,0,0,0,0,i,p,g⟩=(i==0)):=(U HFL).trans (by simp);clear h3;go_wp2_with fail;go_ret;exact⟨zp (U HK).symm,by go_grown⟩
      ·have b4:(k != 4)=true:=by simpa using h4
       have HK:Hid (ej ⟨k,0,0,0,0,i,p,g⟩=true):=(U HFL).trans (by simp[h4]);clear h3 h4;go_wp2_with fail;go_ret;exact⟨zp (U HK).symm,by go_grown⟩
     ·have bq:(q==0)=false:=by rw[xe];exact hq
      have HK:Hid (ej ⟨k,0,0,0,q,i,p,g⟩=false):=(U HFL).trans (by simp[h3,hq]);clear h3 hq;go_wp2_with fail;go_ret;exact⟨zp (U HK).symm,by go_grown⟩
   ·have HK:Hid (ej ⟨k,0,0,l,q,i,p,g⟩=false):=by show _ = _;simp[ej,D,hl]
    have bl:(l != 0)=true:=by simpa using hl
    clear D hl;go_enter Tryz.func67,Tryz.ntmps67;go_wp2_with fail;go_ret;exact⟨zp (U HK).symm,by go_grown⟩
  ·have HK:Hid (ej ⟨k,0,t,l,q,i,p,g⟩=false):=by show _ = _;simp[ej,D,ht]
   have bl:(t != 0)=true:=by simpa using ht
   clear D ht;go_enter Tryz.func67,Tryz.ntmps67;go_wp2_with fail;go_ret;exact⟨zp (U HK).symm,by go_grown⟩
 ·have HK:Hid (ej ⟨k,s,t,l,q,i,p,g⟩=false):=by show _ = _;simp[ej,D,hs]
  have bl:(s != 0)=true:=by simpa using hs
  clear D hs;go_enter Tryz.func67,Tryz.ntmps67;go_wp2_with fail;go_ret;exact⟨zp (U HK).symm,by go_grown⟩
theorem float_nought:floatOfInt .f64 0=0:=by decide
theorem tkS_pos {x:Nat}(h:tkOk x=true):tkS x≠0:=by
 rw[tkS_ok h];unfold tk;rw[if_pos h];unfold tkOk at h;simp only[xf,Bool.or_eq_true,beq_iff_eq] at h;obtain⟨⟨h0,D⟩,Y⟩:=h;intro e;rw[e,float_nought] at Y;obtain⟨r,n,hm,_⟩:=price_four h0 D
 have hr:tkR x=r:=by
  unfold tkR;rw[show FloatKind.f64.format.mul x 4616189618054758400=some r from hm];rfl
 rw[hr] at Y;exact four_pos h0 D hm Y
theorem fbit_zero {x:Nat}(h:fbit x=0):x=0:=by
 unfold fbit at h;split at h
 ·omega
 ·exact h
theorem tkS_zero {x:Nat}(h:fbit x=0):tkS x=0:=by
 rw[fbit_zero h];decide
theorem side_of {s:Int}(h:betB s 1 2=true):s=1\/s=2:=by
 simp[betB] at h;omega
theorem oth_of {s:Int}(h:s=1\/s=2):3-s=othS s:=by
 rcases h with rfl|rfl <;> rfl
theorem cross_meet {c:Cm}(hp:prcB c=true)(o:Od):fw c.s (tkS c.p) o=eB c o:=by
 unfold prcB at hp
 by_cases Y:c.t=2
 ·rw[if_pos Y] at hp;rw[tkS_zero (of_decide_eq_true hp),fw,if_pos rfl,eB,if_pos Y]
 ·rw[if_neg Y] at hp;rw[fw,if_neg (tkS_pos hp),eB,if_neg Y,tkS_ok hp]
def NexS (l:List Od)(t:Od)(k:Int):Prop:=
 (k = -1/\(t.left=0\/dZ l (othS t.side)=none \/ ∃o,dZ l (othS t.side)=some o/\fw t.side t.ticks o=false)) \/
 ∃(i:Nat) (o:Od),k=i/\i<l.length/\l[i]? = some o/\dZ l (othS t.side)=some o/\fw t.side t.ticks o=true/\t.left≠0
theorem front_pre {l:List Od}{sd k:Int}(hr:eo l)(h:FrPre l sd l.length k):(k = -1/\dZ l sd=none) \/ ∃(i:Nat) (o:Od),k=i/\i<l.length/\l[i]? = some o/\dZ l sd=some o:=by
 rcases frPre_end h with⟨rfl,vN⟩|⟨i,o,rfl,hi,pY⟩
 ·refine .inl ⟨rfl,?_⟩;rcases lF (s:=decide (sd=1)) (sd:=sd) hr with⟨D,_⟩|⟨j,o',D,hf'⟩
  ·exact D
  ·exact absurd hf'.2.1 (vN o' (yP hf'.1))
 ·refine .inr ⟨i,o,rfl,hi,pY.1,?_⟩;rcases lF (s:=decide (sd=1)) (sd:=sd) hr with⟨_,vN⟩|⟨j,o',D,hf'⟩
  ·exact absurd pY.2.1 (vN o (yP pY.1))
  ·rw[dZ,D,(front_unique hf' pY).2]
theorem nex_stop {l:List Od}{t:Od}(h:t.left=0):NexS l t (-1):=.inl ⟨rfl,.inl h⟩
theorem nex_none {l:List Od}{t:Od}(h:dZ l (othS t.side)=none):NexS l t (-1):=.inl ⟨rfl,.inr (.inl h)⟩
theorem nex_no {l:List Od}{t o:Od}(h:dZ l (othS t.side)=some o)(hc:fw t.side t.ticks o=false):NexS l t (-1):=.inl ⟨rfl,.inr (.inr ⟨o,h,hc⟩)⟩
theorem lU (v:Value)(l:List Od)(t:Od)(w:World)(hr:RdR Od.vs 6 w v l)(hri:eo l)(hn:l.length<=1000)(uX:t.side=1\/t.side=2) :
  Calls Tryz.prog 61 #[v,.agg (yw t.id t.side t.ticks t.left t.life t.tag).toArray] w fun e w'=>∃k:Int,e = .returned (H k)/\NexS l t k/\yn w w':=by
 have HR:=Z hr;obtain⟨a,cap,rfl,xC,hc⟩:=hr
 have xt:∀(k:Nat) (c:Od),l[k]? = some c->∃b off,a=some (J b off)/\b<w.heap.size/\w.rangeAt b (off+k*6) c.vs:=by
  intro k c hk;obtain⟨b,off,D,Y,h3⟩:=hc (by intro h;rw[h] at hk;simp at hk);exact⟨b,off,D,Y,h3 k c hk⟩
 have HC:=Z xt;have HRI:=Z hri;have HOT:=Z (oth_of uX);have xJ:1<=t.side:=by omega
 have ug:t.side<=2:=by omega
 have uf:Hid (yn w (w.alloc (mq (yw t.id t.side t.ticks t.left t.life t.tag).toArray 65))):=mn _ _;have HX:Hid (World.rangeAt (w.alloc (mq (yw t.id t.side t.ticks t.left t.life t.tag).toArray 65)) w.heap.size 0 t.vs/\w.heap.size<(w.alloc (mq (yw t.id t.side t.ticks t.left t.life t.tag).toArray 65)).heap.size):=⟨zm w t.vs _,by rw[zf];omega⟩;clear xt hc hri uX;go_enter Tryz.func61,Tryz.ntmps61;go_wp2_with fail;generalize (w.alloc (mq (yw t.id t.side t.ticks t.left t.life t.tag).toArray 65))=W1 at uf HX |-;refine(lw _ l _ W1 (zi (U HR) (U uf) ya) (U HRI) hn).mono ?_;rintro e w2 ⟨k,rfl,hf,uD⟩;have HF:=Z (front_pre (U HRI) hf);have xv:=Z ((U uf).trans ((lk uD (fun g X=>by cases X) ya).mono (U uf).size));have xG:=Z (zr (U HX).1 uD (U HX).2 (by simp));have hlt2:w.heap.size<w2.heap.size:=yK (U HX).2 uD.size
 have dm:Hid (∀(k:Nat) (c:Od),l[k]? = some c->∃b off,a=some (J b off)/\b<w2.heap.size/\w2.rangeAt b (off+k*6) c.vs):=fun k c hk=>by
  obtain⟨b,off,D,Y,h3⟩:=U HC k c hk;exact⟨b,off,D,by omega,zc h3 (U xv) Y⟩
 obtain⟨t0,t1,t2,t3,t4,t5⟩:=zF (U xG);clear hf uD xJ ug
 by_cases h0:t.left=0
 ·have HN:=Z (nex_stop (l:=l) h0);have b0:(t.left==0)=true:=by simpa using h0
  clear h0;go_wp2_with fail;go_quiet (fail);go_wp2_with fail;go_ret;exact⟨_,rfl,U HN,zR (U xv) _⟩
 have b0:(t.left==0)=false:=by simpa using h0
 rcases U HF with⟨rfl,vN⟩|⟨i,o,rfl,hi,jx,pY⟩
 ·have HN:=Z (nex_none (l:=l) (t:=t) (by rw[<- U HOT];exact vN));clear vN h0;go_wp2_with fail;go_quiet (fail);go_wp2_with fail;go_ret;exact⟨_,rfl,U HN,zR (U xv) _⟩
 have HFO:Hid (dZ l (othS t.side)=some o):=by rw[<- U HOT];exact pY
 have HIO:=Z jx;obtain⟨b,off,rfl,E,xn⟩:=U dm i o jx;have HL0:=Z h0;have js:Hid (∀w',w2.grownBy w' none->w'.rangeAt w.heap.size 0 t.vs/\w'.rangeAt b (off+i*6) o.vs):=fun w' h'=>⟨zr (U xG) h' hlt2 (by simp),zr xn h' E (by simp)⟩;have hlti:(i:Int)<l.length:=by omega
 have vk:¬ ((i:Int)<0):=by omega
 have hi0':decide ((i:Int)<0)=false:=by simp
 clear pY jx xn h0 HF HOT;go_wp2_with fail;refine ix (W:=w2) (by kernel_rfl) (by kernel_rfl) (yS _ _) ?_
 iterate 16 (
  refine eG (v:=?_) ?_ ?_ ?_;rotate_left
  ·rfl
  ·intro w' uq;obtain⟨c0,c1,c2,c3,c4,c5⟩:=zF (U js w' uq).1;obtain⟨d0,d1,d2,d3,d4,d5⟩:=zF (U js w' uq).2;go_simp
   try rfl
  intro mR hK;go_simp;refine hK _ ?_;clear hK mR)
 refine eG (v:=.bool (fw t.side t.ticks o)) ?_ ?_ ?_
 ·rfl
 ·intro w' uq;go_simp;refine(l04Crosses_any t.side t.ticks o _).mono ?_;rintro e w3 ⟨rfl,uM⟩;exact⟨rfl,uq.trans (eF uM ya)⟩
 intro mR hK;go_simp;refine hK _ ?_;clear hK mR;cases cM:fw t.side t.ticks o
 ·have HN:=Z (nex_no (U HFO) cM)
  iterate 2 (
   refine eG (v:=?_) ?_ ?_ ?_;rotate_left
   ·rfl
   ·intro w' uq;go_simp
    try rfl
   intro mR hK;go_simp;refine hK _ ?_;clear hK mR)
  refine wpQuiet_nil ?_;intro w3 uM;have xI:=Z ((U xv).grown uM (U xv).size (fun g X=>by cases X));clear uM;go_wp2_with fail;go_ret;exact⟨_,rfl,U HN,U xI⟩
 ·have HN:Hid (NexS l t i):=.inr ⟨i,o,rfl,hi,U HIO,U HFO,cM,U HL0⟩
  iterate 2 (
   refine eG (v:=?_) ?_ ?_ ?_;rotate_left
   ·rfl
   ·intro w' uq;go_simp
    try rfl
   intro mR hK;go_simp;refine hK _ ?_;clear hK mR)
  refine wpQuiet_nil ?_;intro w3 uM;have xI:=Z ((U xv).grown uM (U xv).size (fun g X=>by cases X));clear uM;go_wp2_with fail;go_ret;exact⟨_,rfl,U HN,U xI⟩
structure R8 (v ta ea:Value) (V0 V1 V2:World) (x:List Bool) (f:Nat->Value) (W:World):Prop where
 f0:x[0]? = some true->f 0=v
 f1:x[1]? = some true->f 1=ta
 f2:x[2]? = some true->f 2=ea
 f3:x[3]? = some true->f 3=v
 f5:x[5]? = some true->f 5=ea
 s0:x[4]? = some false->W=V0
 s1:x[4]? = some true->x[5]? = some false->W=V1
 s2:x[4]? = some true->x[5]? = some true->W=V2
def R8A (cs:(Nat->Value)->Act)(v ta ea:Value)(V0 V1 V2:World)(x:List Bool)(zb:Act)(W:World):Prop:=∃f,zb=cs f/\R8 v ta ea V0 V1 V2 x f W
section
variable {v ta ea:Value} {V0 V1 V2:World} {x:List Bool} {f:Nat->Value} {W:World}
theorem r8_val (h:R8 v ta ea V0 V1 V2 x f W)(i:Nat)(u:Value)(hi:i<4)(h0:i=0->u=v)(D:i=1->u=ta)(Y:i=2->u=ea)(h3:i=3->u=v):R8 v ta ea V0 V1 V2 (x.set i true) (upd f i u) W:=by
 have key:∀j (y:Value),(x[j]? = some true->f j=y)->(i=j->u=y)->(x.set i true)[j]? = some true->upd f i u j=y:=by
  intro j y hf hu hx
  by_cases e:i=j
  ·subst e;rw[zo];exact hu rfl
  ·rw[zk _ _ (fun e'=>e e'.symm)];rw[gq e] at hx;exact hf hx
 refine⟨key 0 v h.f0 h0,key 1 ta h.f1 D,key 2 ea h.f2 Y,key 3 v h.f3 h3,key 5 ea h.f5 (by omega),?_,?_,?_⟩ <;> rw[gq (show i≠4 by omega)]
 ·exact h.s0
 ·rw[gq (show i≠5 by omega)];exact h.s1
 ·rw[gq (show i≠5 by omega)];exact h.s2
theorem r8_4 (h:R8 v ta ea V0 V1 V2 x f W)(h4:x[4]? = some false)(h5:x[5]? = some false):R8 v ta ea V0 V1 V2 (x.set 4 true) f V1:=by
 refine⟨?_,?_,?_,?_,?_,?_,?_,?_⟩
 ·rw[gq (by omega)];exact h.f0
 ·rw[gq (by omega)];exact h.f1
 ·rw[gq (by omega)];exact h.f2
 ·rw[gq (by omega)];exact h.f3
 ·rw[gq (by omega)];exact h.f5
 ·intro e;rw[gqs h4] at e;cases e
 ·exact fun _ _=>rfl
 ·intro _ e;rw[gq (by omega),h5] at e;cases e
theorem r8_5 (h:R8 v ta ea V0 V1 V2 x f W)(h4:x[4]? = some true)(h5:x[5]? = some false):R8 v ta ea V0 V1 V2 (x.set 5 true) (upd f 5 ea) V2:=by
 refine⟨?_,?_,?_,?_,?_,?_,?_,?_⟩
 ·rw[gq (by omega),zk _ _ (by omega)];exact h.f0
 ·rw[gq (by omega),zk _ _ (by omega)];exact h.f1
 ·rw[gq (by omega),zk _ _ (by omega)];exact h.f2
 ·rw[gq (by omega),zk _ _ (by omega)];exact h.f3
 ·intro _;exact zo _ _ _
 ·intro e;rw[gq (by omega),h4] at e;cases e
 ·intro _ e;rw[gqs h5] at e;cases e
 ·exact fun _ _=>rfl
end
theorem iz {B b:Nat}{v:Value}{l:List Od}(E:b<B):∀(vs:List Value) (o:Nat) (W:World),ORow W B v l->ORow (W.setCells b o vs) B v l
 | [],_,_,h=>h
 | u::us,o,W,h=>by rw[World.setCells];exact iz E us (o+1) _ (fQ h E o u)
theorem lK {W:World}{b o p k:Nat}{F vs:List Value}(h:W.rangeAt b o F)(E:p≠b):(W.setCells p k vs).rangeAt b o F:=fun j u hj =>
 (World.cell?_setCells_out p vs k W (J b (o+j)) (fun e=>absurd e.symm E)).trans (h j u hj)
theorem hit_same {l:List Od}{i:Nat}{o:Od}{q:Int}(h:o.left-q=0):(l.set i { o with left:=o.left-q }).take i++(l.set i { o with left:=o.left-q }).drop (i+1)=dR l i o q:=by
 have:o.left=q:=by omega
 rw[dR,if_pos this,List.take_set_of_le ya,List.drop_set_of_lt (by omega)]
theorem hit_less {l:List Od}{i:Nat}{o:Od}{q:Int}(h:o.left-q≠0):l.set i { o with left:=o.left-q } = dR l i o q:=by
 have:o.left≠q:=by omega
 rw[dR,if_neg this]
def DH (S b off i n cap:Nat)(uC uU q xz:Int)(base:Nat)(p:Prop)(W:World):Nat->Value->Prop
 | 0,v=>v=I S 0
 | 1,v=>v=H uC
 | 2,v=>v = .slice (some (J b off)) n cap
 | 3,v=>v=H i
 | 4,v=>v=I b (off+i*6)
 | 5,v=>v=I b (off+i*6)
 | 6,v=>v=H uU
 | 7,v=>v=H q
 | 8,v=>v = .slice (some (J b off)) n cap
 | 9,v=>v=H i
 | 10,v=>v=I b (off+i*6)
 | 11,v=>v=I b (off+i*6+2)
 | 12,v=>v=H xz
 | 13,v=>v = .agg (yv 3 0 0 0 0 0 0 0 ⟨#[]⟩ uC uU q xz 0).toArray
 | 14,v=>∃c,v=I c 0/\base<=c/\c<W.heap.size/\W.there c 0 14/\(p->W.rangeAt c 0 (yv 3 0 0 0 0 0 0 0 ⟨#[]⟩ uC uU q xz 0))
 | _,_=>True
theorem dh_grow {S b off i n cap:Nat}{uC uU q xz:Int}{base:Nat}{p:Prop}{V V':World}(E:yn V V'):∀j v,DH S b off i n cap uC uU q xz base p V j v->DH S b off i n cap uC uU q xz base p V' j v:=by
 intro j v h
 match j with
 | 0|1|2|3|4|5|6|7|8|9|10|11|12|13=>exact h
 | 14=>obtain⟨c,D,Y,h3,h4,h5⟩:=h;exact⟨c,D,Y,yK h3 E.size,zl h4 E h3,fun hp=>zc (h5 hp) E h3⟩
 | j+15=>trivial
theorem dh_last {S b off i n cap:Nat}{uC uU q xz:Int}{base:Nat}{V V':World}{v:Value}:∀j,j≠15->DH S b off i n cap uC uU q xz base False V j v->(j=14->DH S b off i n cap uC uU q xz base True V' 14 v)->DH S b off i n cap uC uU q xz base True V' j v:=by
 intro j hj h ph
 match j with
 | 0|1|2|3|4|5|6|7|8|9|10|11|12|13=>exact h
 | 14=>exact ph rfl
 | j+15=>trivial
theorem hit_mid {V w1:World}{v1:Value}{l:List Od}(xr:l ≠ [])(hl:l.length<=1000)(h6:w1.ownsRow V.heap.size 65 6 v1 (0+l.length) ([]++l.flatMap Od.vs))(h7:(V.alloc (mq #[] 65)).grownBy w1 (Value.slice (some (J V.heap.size 0)) 0 0).ownBlock) :
  ∃g cp,v1 = .slice (some (J g 0)) l.length cp/\l.length<=cp/\V.heap.size<=g/\g<w1.heap.size/\ORow w1 V.heap.size v1 l/\yn V w1:=by
 have Q:ORow w1 V.heap.size v1 l:=by
  show w1.ownsRow _ _ _ _ l.length _;simpa using h6
 obtain⟨g,cp,e,D,Y,h3⟩:=fL Q xr;exact⟨g,cp,e,D,Y,h3,Q,(mn _ _).grown h7 (by rw[zf];omega) (fun k hk=>by simp[Value.ownBlock] at hk;omega)⟩
theorem gP {W:World}{B g n cp i:Nat}{l:List Od}{o:Od}(h:ORow W B (.slice (some (J g 0)) n cp) l)(hl:l.length<=1000)(hi:l[i]? = some o):W.rangeAt g (i*6) o.vs/\∀j,j<6->W.frozen? (J g (i*6+j))=false:=by
 obtain⟨a',c',e,_,hc⟩:=zI h (by omega);obtain⟨b',off',e2,_,hc⟩:=hc (by rintro rfl;simp at hi);rw[e2] at e;simp only[Value.slice.injEq,Option.some.injEq,Addr.mk.injEq,and_true] at e;obtain⟨⟨rfl,rfl⟩,-⟩:=e;refine⟨by simpa using hc i o hi,fun j hj=>?_⟩;rcases h.2 with⟨D,_⟩|⟨g',kG,xA,D,_,h3,h4,_,h5,_⟩
 ·cases D
 ·simp only[Value.slice.injEq,Option.some.injEq,Addr.mk.injEq,and_true] at D;obtain⟨rfl,-⟩:=D;have hil:=(yH.1 hi).1;have:=(gk h3 ya (i*6+j) (by rw[h5];omega)).2;rwa[Nat.zero_add] at this
theorem range_left {W:World}{S g k:Nat}{a0 a1 a2 a3 a4 a5 x y:Value}(h:W.rangeAt S 0 [a0,a1,a2,a3,a4,a5])(X:g≠S):((W.setCell (J g k) x).setCell (J S 3) y).rangeAt S 0 [a0,a1,a2,y,a4,a5]:=by
 have Q:∀j,j≠3->((W.setCell (J g k) x).setCell (J S 3) y).cell? (J S j)=W.cell? (J S j):=fun j hj=>(yM _ _ _ _ (ei (fun e=>hj e.symm))).trans (yM _ _ _ _ (fun e=>X (congrArg Addr.block e)));intro j u hj;rw[Nat.zero_add]
 match j,hj with
 | 0,hj=>cases hj;exact(Q 0 (by omega)).trans (h 0 _ rfl)
 | 1,hj=>cases hj;exact(Q 1 (by omega)).trans (h 1 _ rfl)
 | 2,hj=>cases hj;exact(Q 2 (by omega)).trans (h 2 _ rfl)
 | 3,hj=>cases hj;exact yN _ _ _ ((yM _ _ _ _ (fun e=>X (congrArg Addr.block e))).trans (h 3 _ rfl))
 | 4,hj=>cases hj;exact(Q 4 (by omega)).trans (h 4 _ rfl)
 | 5,hj=>cases hj;exact(Q 5 (by omega)).trans (h 5 _ rfl)
 | j+6,hj=>simp at hj
theorem range_far {W:World}{b o p k:Nat}{F:List Value}{x:Value}(h:W.rangeAt b o F)(E:p≠b):(W.setCell (J p k) x).rangeAt b o F:=fun j u hj =>
 (yM _ _ _ _ (fun e=>E (congrArg Addr.block e))).trans (h j u hj)
theorem l04Hit_any (v:Value)(l:List Od)(t o:Od)(i:Nat)(w:World)(hr:RdR Od.vs 6 w v l)(hn:l.length<=1000)(jx:l[i]? = some o)(ht0:0<=t.left)(ht1:t.left<=1000000)(ho0:0<=o.left)(oF:o.left<=1000000) :
  Calls Tryz.prog 70 #[v,.agg (yw t.id t.side t.ticks t.left t.life t.tag).toArray,H i] w fun e w'=>∃v',e = .returned (.tuple #[v',.agg (Od.vs { t with left:=t.left-min t.left o.left }).toArray,.agg (Ev.vs (trE t.id o.id (min t.left o.left) o.ticks)).toArray])/\ORow w' w.heap.size v' (dR l i o (min t.left o.left))/\yn w w':=by
 obtain⟨i0,vk,uI,uG,uZ⟩:=info_parts Tryz.infoOrder;have hil:=(yH.1 jx).1;have xr:l ≠ []:=by rintro rfl;simp at jx
 have HNE:=Z xr;obtain⟨a,cap,rfl,xC,hc⟩:=hr;obtain⟨b,off,rfl,E,xn⟩:=hc xr;have jZ:=Z xn;have HIO:=Z jx;obtain⟨uC,uu,xZ,xP,ut,vu⟩:=t;obtain⟨uU,vA,xz,xN,vz,qO⟩:=o;simp only at ht0 ht1 ho0 oF |-;generalize hq:min xP xN=q;have hqa:0<=q:=by omega
 have hqb:q<=xP:=by omega
 have hqc:q<=xN:=by omega
 have HQ:=Z hq;clear xn hc jx xr hq xC;have xJ:=zf w (mq (yw uC uu xZ xP ut vu).toArray 65);have ug:((w.alloc (mq (yw uC uu xZ xP ut vu).toArray 65)).alloc (mq (yw 0 0 0 0 0 ⟨#[]⟩).toArray 65)).heap.size=w.heap.size+1+1:=by rw[zf,xJ]
 have oK:(((w.alloc (mq (yw uC uu xZ xP ut vu).toArray 65)).alloc (mq (yw 0 0 0 0 0 ⟨#[]⟩).toArray 65)).alloc (mq (yv 0 0 0 0 0 0 0 0 ⟨#[]⟩ 0 0 0 0 0).toArray 37)).heap.size=w.heap.size+1+1+1:=by rw[zf,ug]
 have r1:=zm w (yw uC uu xZ xP ut vu) 65;have t1:=zW w (yw uC uu xZ xP ut vu) 65;have t2:=zW (w.alloc (mq (yw uC uu xZ xP ut vu).toArray 65)) (yw 0 0 0 0 0 ⟨#[]⟩) 65;have t3:=zW ((w.alloc (mq (yw uC uu xZ xP ut vu).toArray 65)).alloc (mq (yw 0 0 0 0 0 ⟨#[]⟩).toArray 65)) (yv 0 0 0 0 0 0 0 0 ⟨#[]⟩ 0 0 0 0 0) 37;rw[xJ] at t2;rw[ug] at t3;have b1:=mn w (mq (yw uC uu xZ xP ut vu).toArray 65);have b2:Below (w.heap.size+1) (w.alloc (mq (yw uC uu xZ xP ut vu).toArray 65)) ((w.alloc (mq (yw uC uu xZ xP ut vu).toArray 65)).alloc (mq (yw 0 0 0 0 0 ⟨#[]⟩).toArray 65)):=(Below.refl _ _).alloc (by omega) _;have b3:Below (w.heap.size+1+1) ((w.alloc (mq (yw uC uu xZ xP ut vu).toArray 65)).alloc (mq (yw 0 0 0 0 0 ⟨#[]⟩).toArray 65)) (((w.alloc (mq (yw uC uu xZ xP ut vu).toArray 65)).alloc (mq (yw 0 0 0 0 0 ⟨#[]⟩).toArray 65)).alloc (mq (yv 0 0 0 0 0 0 0 0 ⟨#[]⟩ 0 0 0 0 0).toArray 37)):=(Below.refl _ _).alloc (by omega) _;have b23:=b2.trans (b3.mono (by omega));have HX:Hid (World.rangeAt _ w.heap.size 0 _/\World.there _ w.heap.size 0 6/\World.there _ (w.heap.size+1) 0 6/\World.there _ (w.heap.size+1+1) 0 14):=⟨zc r1 b23 (by omega),zl t1 b23 (by omega),zl t2 b3 (by omega),t3⟩;have xI:=Z (b1.trans (b23.mono (by omega)));have jT:=Z oK;clear xJ ug oK r1 t1 t2 t3 b1 b2 b3 b23;go_enter Tryz.func70,Tryz.ntmps70;refine ms fun mR xE=>?_;go_wp2_with fail;refine U xE _ _ ?_;clear xE;generalize (((w.alloc (mq (yw uC uu xZ xP ut vu).toArray 65)).alloc (mq (yw 0 0 0 0 0 ⟨#[]⟩).toArray 65)).alloc (mq (yv 0 0 0 0 0 0 0 0 ⟨#[]⟩ 0 0 0 0 0).toArray 37))=hg at HX xI jT |-;have HX:Hid (hg.rangeAt w.heap.size 0 (yw uC uu xZ xP ut vu)/\hg.there w.heap.size 0 6/\hg.there (w.heap.size+1) 0 6/\hg.there (w.heap.size+1+1) 0 14):=U HX;have t3:hg.cell? (J w.heap.size 3)=some (H xP):=(U HX).1 3 _ rfl;have HCX:Hid (∀j c,l[j]? = some c->hg.rangeAt b (off+j*6) c.vs):=fun j c hj=>zc (U jZ j c hj) (U xI) E;have o3:hg.cell? (J b (off+i*6+3))=some (H xN):=U HCX i _ (U HIO) 3 _ rfl;have hil':(i:Int)<l.length:=by omega
 have hii:(0:Int)<=i:=by omega
 refine ms fun mR xE=>?_;go_wp2_with fail;go_quiet (fail);refine U xE _ _ ?_;clear xE;have hif:(if xN<xP then xN else xP)=q:=by have:=U HQ;split <;> omega
 simp only[hif];have uV:Hid ((hg.drewN nq).rangeAt w.heap.size 0 (yw uC uu xZ xP ut vu)/\(hg.drewN nq).there w.heap.size 0 6/\(hg.drewN nq).there (w.heap.size+1) 0 6/\(hg.drewN nq).there (w.heap.size+1+1) 0 14):=U HX;have uf:Hid (yn w (hg.drewN nq)):=zR (U xI) _;have oY:Hid ((hg.drewN nq).heap.size=w.heap.size+1+1+1):=U jT;have HC1:Hid (∀j c,l[j]? = some c->(hg.drewN nq).rangeAt b (off+j*6) c.vs):=U HCX;clear t3 o3 hif HX xI jT HCX;generalize hg.drewN nq=h2 at uV uf oY HC1 |-;refine ms fun mR xE=>?_;refine zu (RG h2 (fun f=>{ tmps:=#[.slice (some (J b off)) l.length cap,.agg (yw uC uu xZ xP ut vu).toArray,H i,M,I w.heap.size 0,M,.slice none 0 0,I (w.heap.size+1) 0,I (w.heap.size+1+1) 0,H q,f 14,M,I w.heap.size 3,H xP,.slice (some (J b off)) l.length cap,H i,I b (off+i*6),I b (off+i*6+3),H xN,H q,f 0,f 1,f 2,f 3,f 4,f 5,f 6,f 7,f 8,f 9,f 10,f 11,f 12,f 13,M,M,M,M,M,M,M,M,M,M,M,M,M,M,M,M,M,M,M,M,M,M,M,M,M,M,M,M,M,M,M,M,M,M,M,M],defers:=[] }) 15 (DH w.heap.size b off i l.length cap uC uU q xz h2.heap.size)) (by kernel_rfl) ?_ ?_ ?_
 ·exact⟨fun _=>M,rfl,⟨rfl,rfl,rfl,Nat.le_refl _,fun _ _=>rfl⟩,fun j hj=>by rw[yJ] at hj;split at hj <;> simp at hj⟩
 ·rintro x zb V ⟨f,rfl,xo,hD⟩ hx xS;have xq:=eE xS hx (acyc _ (by kernel_rfl));have pI:x[15]? = some true:=xq 15 (by simp);obtain⟨c,e14,oC,qU,-,cM⟩:=hD 14 (xq 14 (by simp));have HCR:=Z (cM pI);refine U xE _ _ ?_;clear xE;have HS:=U oY;have hsv:=xo.size;have HXV:Hid (V.rangeAt w.heap.size 0 (yw uC uu xZ xP ut vu)/\V.there w.heap.size 0 6/\V.there (w.heap.size+1) 0 6/\V.there (w.heap.size+1+1) 0 14):=⟨zc (U uV).1 xo (by omega),zl (U uV).2.1 xo (by omega),zl (U uV).2.2.1 xo (by omega),zl (U uV).2.2.2 xo (by omega)⟩;have xK:=Z (mr (U uf) xo);have az:b<h2.heap.size:=by omega
  have HCV:Hid (∀j c,l[j]? = some c->V.rangeAt b (off+j*6) c.vs):=fun j c hj=>zc (U HC1 j c hj) xo az;have hcS:w.heap.size+1+1<c:=by omega
  simp only[e14];generalize f 0=u20,f 1=u21,f 2=u22,f 3=u23,f 4=u24,f 5=u25,f 6=u26,f 7=u27,f 8=u28,f 9=u29,f 10=u30,f 11=u31,f 12=u32,f 13=u33;clear hD xq pI e14 cM xS hx xo oC uV uf HC1 oY HS;have oi:=Z (World.ownsRow_made (base:=V.heap.size) (e:=65) (size:=6) V #[] 0 ya (by decide) rfl)
  have qA:Hid (∀j u,(l.flatMap Od.vs)[j]? = some u->(V.alloc (mq #[] 65)).cell? (((J b off):Addr).add j)=some u):=fun j u hu=>by
   have h:=ie (W:=V.alloc (mq #[] 65)) (g:=b) (off:=off) (l:=l) (fun i c hi=>zc (U HCV i c hi) ((Below.refl V.heap.size V).alloc ya _) (by omega)) 0 l.length j u (by simpa using hu);simpa using h
  refine ms fun mR xE=>?_;go_wp2_with (at_builtin;go_must (refine wpList_append_own _ rfl _ _ 25 rfl V.heap.size 65 i0 _ 6 56 Tryz.underlying25 vk uI uG uZ rfl (by decide) (.slice (some (J V.heap.size 0)) 0 0) 0 [] rfl (U oi) (J b off) l.length cap (l.flatMap Od.vs) rfl (by rw[zY Od.len]) (U qA) (fM l) (by unfold maxLen;omega) (by omega) (by simp) ?_);intro v1 w1 bu pZ _;obtain⟨g,cp,rfl,ur,hVg,hgw,ho1',uw⟩:=hit_mid (U HNE) hn bu pZ;have jI:=Z ho1';have uf:=Z uw;clear bu pZ ho1' uw)
  refine U xE _ _ ?_;clear xE qA oi;have uV:Hid (w1.rangeAt w.heap.size 0 (yw uC uu xZ xP ut vu)/\w1.there w.heap.size 0 6/\w1.there (w.heap.size+1) 0 6/\w1.there (w.heap.size+1+1) 0 14):=⟨zc (U HXV).1 (U uf) (by omega),zl (U HXV).2.1 (U uf) (by omega),zl (U HXV).2.2.1 (U uf) (by omega),zl (U HXV).2.2.2 (U uf) (by omega)⟩;have bI:=Z (zc (U HCR) (U uf) qU);have uN:=Z ((U xK).trans ((U uf).mono (U xK).size));have uF:=gP (U jI) hn (U HIO);have c3:w1.cell? (J g (i*6+3))=some (H xN):=uF.1 3 _ rfl;have f3:w1.frozen? (J g (i*6+3))=false:=uF.2 3 (by omega);have t3:w1.cell? (J w.heap.size 3)=some (H xP):=(U uV).1 3 _ rfl;have s3:w1.frozen? (J w.heap.size 3)=false:=by have:=((U uV).2.1 3 (by omega)).2;rwa[Nat.zero_add] at this
  have hgS:g≠w.heap.size:=by omega
  have hSg:w.heap.size≠g:=by omega
  have pE:-9223372036854775808<=xN-q:=by omega
  have bU:xN-q<=9223372036854775807:=by omega
  have hq3:-9223372036854775808<=xP-q:=by omega
  have hq4:xP-q<=9223372036854775807:=by omega
  clear uF;refine ms fun mR xE=>?_;go_wp2_with fail;refine U xE _ _ ?_;clear xE;refine ms fun mR xE=>?_;go_wp2_with fail;refine U xE _ _ ?_;clear xE;have HZO:Hid (ORow ((w1.setCell (J g (i*6+3)) (H (xN-q))).setCell (J w.heap.size 3) (H (xP-q))) V.heap.size (.slice (some (J g 0)) l.length cp) (l.set i ⟨uU,vA,xz,xN-q,vz,qO⟩)):=ek (lo (U jI) rfl (U HIO) (xN-q)).1 (by simp[Value.ownBlock];omega) _ _;have HZT:=Z (range_left (k:=i*6+3) (x:=H (xN-q)) (y:=H (xP-q)) (U uV).1 hgS);have HZE:=Z (range_far (p:=w.heap.size) (k:=3) (x:=H (xP-q)) (range_far (p:=g) (k:=i*6+3) (x:=H (xN-q)) (U bI) (by omega)) (by omega));have jk:=Z (lg (c:=w.heap.size) (j:=3) (u:=H (xP-q)) (lg (c:=g) (j:=i*6+3) (u:=H (xN-q)) (U uV).2.2.1));have HZ2:=Z (lg (c:=w.heap.size) (j:=3) (u:=H (xP-q)) (lg (c:=g) (j:=i*6+3) (u:=H (xN-q)) (U uV).2.2.2));have HZB:=Z (((U uN).setCell (p:=(J g (i*6+3))) (by simp;omega) (H (xN-q))).setCell (p:=(J w.heap.size 3)) ya (H (xP-q)));have hgz:g<((w1.setCell (J g (i*6+3)) (H (xN-q))).setCell (J w.heap.size 3) (H (xP-q))).heap.size:=by simp[World.setCell];exact hgw
  have z3:((w1.setCell (J g (i*6+3)) (H (xN-q))).setCell (J w.heap.size 3) (H (xP-q))).cell? (J g (i*6+3))=some (H (xN-q)):=(yM _ _ _ _ (fun e=>hSg (congrArg Addr.block e))).trans (yN _ _ _ c3);generalize ((w1.setCell (J g (i*6+3)) (H (xN-q))).setCell (J w.heap.size 3) (H (xP-q)))=yc at HZO HZT HZE jk HZ2 HZB hgz z3 |-;clear c3 f3 t3 s3 uV bI uN jI uf HXV HCR xK HCV hgw;refine ms fun mR xE=>?_
  have HT:Hid (∀(u0 u1 u2 u3 u5 u6 u9 u12 u13 u14 u15 u16 u17 u18 u19 u20 u21 u22 u23 u24 u25 u26 u27 u28 u29 u30 u31 u32 u33 u34 u35 u36 u37 u38 u39 u40 u41 u42 u43 u44 u45 u46 u47 u48 u49 u50 u51 u52 u53 u54 u55 u56 u57 u58 u59 u60 u61 u62 u63 u64 u65 u66 u67 u68 u69 v11:Value) (Z':World),ORow Z' (w.heap.size+1+1+1) v11 (dR l i ⟨uU,vA,xz,xN,vz,qO⟩ q)->yn w Z'->Z'.rangeAt w.heap.size 0 (yw uC uu xZ (xP-q) ut vu)->Z'.there (w.heap.size+1) 0 6->Z'.there (w.heap.size+1+1) 0 14->Z'.rangeAt c 0 (yv 3 0 0 0 0 0 0 0 ⟨#[]⟩ uC uU q xz 0)->mR { tmps:=#[u0,u1,u2,u3,I w.heap.size 0,u5,u6,I (w.heap.size+1) 0,I (w.heap.size+1+1) 0,u9,I c 0,v11,u12,u13,u14,u15,u16,u17,u18,u19,u20,u21,u22,u23,u24,u25,u26,u27,u28,u29,u30,u31,u32,u33,u34,u35,u36,u37,u38,u39,u40,u41,u42,u43,u44,u45,u46,u47,u48,u49,u50,u51,u52,u53,u54,u55,u56,u57,u58,u59,u60,u61,u62,u63,u64,u65,u66,u67,u68,u69],defers:=[] } Z'):=by
   intro u0 u1 u2 u3 u5 u6 u9 u12 u13 u14 u15 u16 u17 u18 u19 u20 u21 u22 u23 u24 u25 u26 u27 u28 u29 u30 u31 u32 u33 u34 u35 u36 u37 u38 u39 u40 u41 u42 u43 u44 u45 u46 u47 u48 u49 u50 u51 u52 u53 u54 u55 u56 u57 u58 u59 u60 u61 u62 u63 u64 u65 u66 u67 u68 u69 v11 Z' hO hB hT D Y hE;refine U xE _ _ ?_;have HO:=Z hO;have HB:=Z hB;have HTT:=Z hT;have HE:=Z hE;have HH1:=Z D;have HH2:=Z Y;clear hO hB hT hE D Y xE;obtain⟨V0,bQ⟩:∃V:World,V = { Z' with drawn:=Z'.drawn+1 }:=⟨_,rfl⟩;have HO:Hid (ORow V0 (w.heap.size+1+1+1) v11 (dR l i ⟨uU,vA,xz,xN,vz,qO⟩ q)):=by rw[bQ];exact U HO
   have HB:Hid (yn w V0):=by rw[bQ];exact(U HB).trans ⟨rfl,rfl,rfl,Nat.le_refl _,fun _ _=>rfl⟩
   have HTT:Hid (V0.rangeAt w.heap.size 0 (yw uC uu xZ (xP-q) ut vu)):=by rw[bQ];exact U HTT
   have HE:Hid (V0.rangeAt c 0 (yv 3 0 0 0 0 0 0 0 ⟨#[]⟩ uC uU q xz 0)):=by rw[bQ];exact U HE
   have HH1:Hid (V0.there (w.heap.size+1) 0 6):=by rw[bQ];exact U HH1
   have HH2:Hid (V0.there (w.heap.size+1+1) 0 14):=by rw[bQ];exact U HH2
   obtain⟨V1,kJ⟩:∃V:World,V=V0.setCells (w.heap.size+1) 0 (yw uC uu xZ (xP-q) ut vu):=⟨_,rfl⟩;obtain⟨V2,kz⟩:∃V:World,V=V1.setCells (w.heap.size+1+1) 0 (yv 3 0 0 0 0 0 0 0 ⟨#[]⟩ uC uU q xz 0):=⟨_,rfl⟩;have jI:Hid (ORow V1 (w.heap.size+1+1+1) v11 (dR l i ⟨uU,vA,xz,xN,vz,qO⟩ q)):=by rw[kJ];exact iz (by omega) _ _ _ (U HO)
   have uf:Hid (yn w V1):=by rw[kJ];exact zh _ (by omega) _ _ _ (U HB)
   have qe:Hid (V1.rangeAt (w.heap.size+1) 0 (yw uC uu xZ (xP-q) ut vu)):=by rw[kJ];exact yY V0 _ 0 _ (fun j hj=>U HH1 j hj)
   have bI:Hid (V1.rangeAt c 0 (yv 3 0 0 0 0 0 0 0 ⟨#[]⟩ uC uU q xz 0)):=by rw[kJ];exact lK (U HE) (by omega)
   have HH3:Hid (V1.there (w.heap.size+1+1) 0 14):=by rw[kJ];exact xc (U HH2) _ _ _
   have HOE:Hid (ORow V2 w.heap.size v11 (dR l i ⟨uU,vA,xz,xN,vz,qO⟩ q)):=by rw[kz];exact zU (iz (by omega) _ _ _ (U jI)) (by omega)
   have vv:Hid (yn w V2):=by rw[kz];exact zh _ (by omega) _ _ _ (U uf)
   have qM:Hid (V2.rangeAt (w.heap.size+1+1) 0 (yv 3 0 0 0 0 0 0 0 ⟨#[]⟩ uC uU q xz 0)):=by rw[kz];exact yY V1 _ 0 _ (fun j hj=>U HH3 j hj)
   have qe:Hid (V2.rangeAt (w.heap.size+1) 0 (yw uC uu xZ (xP-q) ut vu)):=by rw[kz];exact lK (U qe) (by omega)
   have HV0:=Z bQ;have HV1:=Z kJ;have HV2:=Z kz;clear bQ kJ kz HO HB jI uf;go_wp2_with fail;refine zu (R8A (fun f=>{ tmps:=#[u0,u1,u2,u3,I w.heap.size 0,u5,f 3,I (w.heap.size+1) 0,I (w.heap.size+1+1) 0,u9,I c 0,v11,u12,u13,u14,u15,u16,u17,u18,u19,u20,u21,u22,u23,u24,u25,u26,u27,u28,u29,u30,u31,u32,u33,u34,u35,u36,u37,u38,u39,u40,u41,u42,u43,u44,u45,u46,u47,u48,u49,u50,u51,u52,u53,u54,u55,u56,u57,u58,u59,u60,u61,u62,u63,u64,u65,u66,f 0,f 1,f 2],defers:=[] }) v11 (.agg (yw uC uu xZ (xP-q) ut vu).toArray) (.agg (yv 3 0 0 0 0 0 0 0 ⟨#[]⟩ uC uU q xz 0).toArray) V0 V1 V2) (by kernel_rfl) ?_ ?_ ?_
   ·exact⟨fun j=>if j=3 then u6 else if j=0 then u67 else if j=1 then u68 else u69,rfl,⟨by simp,by simp,by simp,by simp,by simp,fun _=>(U HV0).symm,by simp,by simp⟩⟩
   ·rintro x zb V' ⟨f,rfl,L⟩ hx xS;have xq:=fP xS hx (by kernel_rfl);have e3:=L.f3 (xq 3 (by simp));have eW:=L.s2 (xq 4 (by simp)) (xq 5 (by simp));subst eW;simp only[e3];clear L xq e3 xS hx;obtain⟨d0,d1,d2,d3,d4,d5⟩:=yD (U qe);obtain⟨e0,e1,e2,e3,e4,e5,e6,e7,e8,e9,uW,uE,vS,vH⟩:=yG (U qM);go_wp2_with fail
    try simp only[Exit.inBlock,Exit.then]
    refine bodyPost_ret (by simp[results,Tryz.results70,go_sem,d0,d1,d2,d3,d4,d5,e0,e1,e2,e3,e4,e5,e6,e7,e8,e9,uW,uE,vS,vH];try rfl) rfl ?_;exact⟨v11,rfl,U HOE,U vv⟩
   ·rintro x zb V' i' o' ⟨f,rfl,L⟩ xn hx Q xu R
    have n5:i'<5->x[5]? = some false:=fun xM=>by
     rcases fN hx (show 5<6 by omega) with h|h
     ·exact h
     ·have:=xn 5 _ rfl h ⟨i',.phase⟩ (by rcases(by omega:i'=0\/i'=1\/i'=2\/i'=3\/i'=4) with rfl|rfl|rfl|rfl|rfl <;> simp) rfl;rw[xu] at this;cases this
    have n4:i'=0\/i'=1\/i'=3->x[4]? = some false:=fun xM=>by
     rcases fN hx (show 4<6 by omega) with h|h
     ·exact h
     ·have:=xn 4 _ rfl h ⟨i',.phase⟩ (by rcases xM with rfl|rfl|rfl <;> simp) rfl;rw[xu] at this;cases this
    have xw:=Z L;clear xn
    match i',Q with
    | 0,Q =>
     cases Q;clear R L;go_simp;exact⟨upd f 0 v11,by simp[upd],r8_val (U xw) 0 _ (by omega) (fun _=>rfl) (by omega) (by omega) (by omega)⟩
    | 1,Q =>
     cases Q;have eV:=L.s0 (n4 (by omega));subst eV;obtain⟨c0,c1,c2,c3,c4,c5⟩:=yD (U HTT);clear R L;go_simp;exact⟨upd f 1 (.agg (yw uC uu xZ (xP-q) ut vu).toArray),by simp[upd],r8_val (U xw) 1 _ (by omega) (by omega) (fun _=>rfl) (by omega) (by omega)⟩
    | 2,Q =>
     cases Q
     have jF:Hid (V'.rangeAt c 0 (yv 3 0 0 0 0 0 0 0 ⟨#[]⟩ uC uU q xz 0)):=by
      rcases fN hx (show 4<6 by omega) with h|h
      ·rw[L.s0 h];exact U HE
      ·rw[L.s1 h (n5 (by omega))];exact U bI
     obtain⟨c0,c1,c2,c3,c4,c5,c6,c7,c8,c9,c10,c11,c12,c13⟩:=yG (U jF);clear R L;go_simp;exact⟨upd f 2 (.agg (yv 3 0 0 0 0 0 0 0 ⟨#[]⟩ uC uU q xz 0).toArray),by simp[upd],r8_val (U xw) 2 _ (by omega) (by omega) (by omega) (fun _=>rfl) (by omega)⟩
    | 3,Q =>
     cases Q;have g0:=L.f0 (ye R 0 rfl);clear R L;go_simp;exact⟨upd f 3 v11,by simp[upd,g0],r8_val (U xw) 3 _ (by omega) (by omega) (by omega) (by omega) (fun _=>rfl)⟩
    | 4,Q =>
     cases Q;have g1:=L.f1 (ye R 1 rfl);have eV:=L.s0 xu;subst eV;have ue:=U HH1;obtain⟨y0,z0,q0⟩:=zj ue (j:=0) (by omega);obtain⟨y1,z1,q1⟩:=zj ue (j:=1) (by omega);obtain⟨y2,z2,q2⟩:=zj ue (j:=2) (by omega);obtain⟨y3,z3,q3⟩:=zj ue (j:=3) (by omega);obtain⟨y4,z4,q4⟩:=zj ue (j:=4) (by omega);obtain⟨y5,z5,q5⟩:=zj ue (j:=5) (by omega);have n5':=n5 (by omega);clear R L ue;go_simp;have cw:=r8_4 (U xw) xu n5'
     conv at cw=>arg 9;rw[U HV1]
     exact⟨f,by simp[g1],cw⟩
    | 5,Q =>
     cases Q;have g2:=L.f2 (ye R 2 rfl);have k4:x[4]? = some true:=R ⟨4,.chain⟩ (by simp) rfl;have eV:=L.s1 k4 xu;subst eV;have ue:=U HH3;have px:=Z (r8_5 (U xw) k4 xu);clear xw L;obtain⟨y0,z0,q0⟩:=zj ue (j:=0) (by omega);obtain⟨y1,z1,q1⟩:=zj ue (j:=1) (by omega);obtain⟨y2,z2,q2⟩:=zj ue (j:=2) (by omega);obtain⟨y3,z3,q3⟩:=zj ue (j:=3) (by omega);obtain⟨y4,z4,q4⟩:=zj ue (j:=4) (by omega);obtain⟨y5,z5,q5⟩:=zj ue (j:=5) (by omega);obtain⟨y6,z6,q6⟩:=zj ue (j:=6) (by omega);obtain⟨y7,z7,q7⟩:=zj ue (j:=7) (by omega);obtain⟨y8,z8,q8⟩:=zj ue (j:=8) (by omega);obtain⟨y9,z9,q9⟩:=zj ue (j:=9) (by omega);obtain⟨dO,jD,q10⟩:=zj ue (j:=10) (by omega);obtain⟨y11,ko,q11⟩:=zj ue (j:=11) (by omega);obtain⟨y12,kp,q12⟩:=zj ue (j:=12) (by omega);obtain⟨y13,kq,q13⟩:=zj ue (j:=13) (by omega);have hsf:=sfl;clear R ue;go_simp;have oj:=U px
     conv at oj=>arg 9;rw[U HV2]
     exact⟨upd f 5 (.agg (yv 3 0 0 0 0 0 0 0 ⟨#[]⟩ uC uU q xz 0).toArray),by simp[upd,g2],oj⟩
    | i'+6,Q=>simp at Q
  clear xE
  by_cases hz:xN-q=0
  ·have b0:(xN-q==0)=true:=by simpa using hz
   have HH:=Z (hit_same (l:=l) (i:=i) (o:=⟨uU,vA,xz,xN,vz,qO⟩) hz);clear hz;generalize hleft:l.set i ⟨uU,vA,xz,xN-q,vz,qO⟩=left at HZO HH;have hll:left.length=l.length:=by rw[<- hleft,List.length_set]
   clear hleft
   have HC7:Hid (∀j c,left[j]? = some c->yc.rangeAt g (0+j*6) c.vs):=fun j c hj=>by
    have:=(gP (U HZO) (by omega) hj).1;rwa[Nat.zero_add]
   have hll1:l.length<=1000:=hn;have hicp:i<=cp:=by omega
   have hi1:i+1<=l.length:=by omega
   have hi1':(i:Int)+1<=l.length:=by omega
   have hlcp:(l.length:Int)<=cp:=by omega
   have h0i:(0:Int)<=(i:Int)+1:=by omega
   go_wp2_with fail;clear z3;refine iA (R7A (.slice (some (J g 0)) l.length cp) yc (C7 (.slice (some (J g 0)) l.length cp) g l.length cp i) (left.take i) (left.take i++left.drop (i+1)) (fun f=>{ tmps:=#[.slice (some (J b off)) l.length cap,.agg (yw uC uu xZ xP ut vu).toArray,H i,M,I w.heap.size 0,M,.slice none 0 0,I (w.heap.size+1) 0,I (w.heap.size+1+1) 0,H q,I c 0,f 10,I w.heap.size 3,H xP,.slice (some (J b off)) l.length cap,H i,I b (off+i*6),I b (off+i*6+3),H xN,H q,u20,u21,u22,u23,u24,u25,u26,u27,u28,u29,u30,u31,u32,u33,.slice (some (J V.heap.size 0)) 0 0,.slice (some (J b off)) l.length cap,.slice (some (J g 0)) l.length cp,.slice (some (J g 0)) l.length cp,H i,I g (i*6),I g (i*6+3),H xN,H q,H (xN-q),I g (i*6),I g (i*6+3),I w.heap.size 3,H xP,H q,H (xP-q),I w.heap.size 3,.slice (some (J g 0)) l.length cp,H i,I g (i*6),I g (i*6+3),H (xN-q),.bool true,f 0,f 1,f 2,f 3,f 4,f 5,f 6,f 7,f 8,f 9,M,M,M],defers:=[] })) (by kernel_rfl) ?_ ?_ ?_
   ·exact⟨fun j=>if j=10 then .slice (some (J g 0)) l.length cp else M,rfl,⟨⟨rfl,rfl,rfl,Nat.le_refl _,fun _ _=>rfl⟩,fun j hj=>by rw[yJ] at hj;split at hj <;> simp at hj,fun _=>rfl,by simp,by simp,by simp,by simp,by simp,by simp,by simp⟩⟩
   ·rintro x zb V' ⟨f,rfl,L⟩ hx xS;have xq:=eE xS hx (acyc _ (by kernel_rfl));have k9:x[9]? = some true:=xq 9 (by simp);have k10:x[10]? = some true:=xq 10 (by simp);have co:=Z (L.m9 k9);have uW:f 10=f 9:=L.m10 k10;have xK:=Z L.bel;simp only[uW];clear L xq k9 k10 uW xS hx;have km:=(U HZB).size;refine U HT _ _ _ _ _ _ _ _ _ _ _ _ _ _ _ _ _ _ _ _ _ _ _ _ _ _ _ _ _ _ _ _ _ _ _ _ _ _ _ _ _ _ _ _ _ _ _ _ _ _ _ _ _ _ _ _ _ _ _ _ _ _ _ _ _ _ _ (by rw[<- U HH];exact zU (U co) (by omega)) ((U HZB).trans ((U xK).mono km)) (zc (U HZT) (U xK) (by omega)) (zl (U jk) (U xK) (by omega)) (zl (U HZ2) (U xK) (by omega)) (zc (U HZE) (U xK) (by omega))
   ·rintro x zb V i' o' ⟨f,rfl,L⟩ hx Q xu R;have jf:=Z L
    have n10:i'<10->x[10]? = some false:=fun xM=>by
     have jc:10<x.length:=by rw[hx];simp
     cases E:x[10]
     ·rw[yI jc,E]
     ·have:=L.o10 (by rw[yI jc,E]) i' xM;rw[xu] at this;cases this
    match i',Q with
    | 0,Q =>
     cases Q;clear L R;go_simp;exact⟨upd f 0 (.slice (some (J V.heap.size 0)) 0 0),by simp[upd],r7_0 (U jf) xu (fun _=>trivial)⟩
    | 1,Q =>
     cases Q;have s5:f 10 = .slice (some (J g 0)) l.length cp:=L.s5 (n10 (by omega));clear L R;go_simp;exact⟨upd f 1 (.slice (some (J g 0)) l.length cp),by simp[upd,s5],fj (U jf) 1 _ rfl (by decide) (by decide) (by decide) (by decide)⟩
    | 2,Q =>
     cases Q;clear L R;go_simp;exact⟨upd f 2 (H i),by simp[upd],fj (U jf) 2 _ rfl (by decide) (by decide) (by decide) (by decide)⟩
    | 3,Q =>
     cases Q;have g1:C7 (.slice (some (J g 0)) l.length cp) g l.length cp i 1 (f 1):=L.c 1 (ye R 1 rfl);have g2:C7 (.slice (some (J g 0)) l.length cp) g l.length cp i 2 (f 2):=L.c 2 (ye R 2 rfl);simp only[C7] at g1 g2;clear L R;go_simp;exact⟨upd f 3 (.slice (some (J g 0)) i cp),by simp[upd,g1,g2],fj (U jf) 3 _ rfl (by decide) (by decide) (by decide) (by decide)⟩
    | 4,Q =>
     cases Q;have g3:C7 (.slice (some (J g 0)) l.length cp) g l.length cp i 3 (f 3):=L.c 3 (ye R 3 rfl);have k0:x[0]? = some true:=R ⟨0,.data⟩ (by simp) rfl;have HCV:Hid (∀j c,left[j]? = some c->V.rangeAt g (0+j*6) c.vs):=fun j c hj=>zc (U HC7 j c hj) L.bel hgz;simp only[C7] at g3;clear L R;rw[if_pos (by rfl)];refine wp_append_own V (.tmp 57) (.tmp 60) 25 rfl yc.heap.size 65 i0 _ 6 56 Tryz.underlying25 vk uI uG uZ rfl (by decide) (f 0) 0 [] rfl ((U jf).m0 k0 xu) (J g 0) i cp ((left.take i).flatMap Od.vs) g3 (by rw[zY Od.len,List.length_take];congr 1;omega) (by simpa using ie (W:=V) (g:=g) (off:=0) (l:=left) (U HCV) 0 i) (fM _) (by unfold maxLen;omega) (by omega) (U jf).bel.size ?_;intro v' w' xY uR _;refine⟨upd f 4 v',rfl,r7_4 (U jf) k0 xu (fun _=>trivial) ?_ uR⟩;have xC:(left.take i).length=0+i:=by rw[List.length_take];omega
     show w'.ownsRow _ _ _ _ (left.take i).length _;rw[xC];simpa using xY
    | 5,Q =>
     cases Q;have s5:f 10 = .slice (some (J g 0)) l.length cp:=L.s5 (n10 (by omega));clear L R;go_simp;exact⟨upd f 5 (.slice (some (J g 0)) l.length cp),by simp[upd,s5],fj (U jf) 5 _ rfl (by decide) (by decide) (by decide) (by decide)⟩
    | 6,Q =>
     cases Q;clear L R;go_simp;exact⟨upd f 6 (H i),by simp[upd],fj (U jf) 6 _ rfl (by decide) (by decide) (by decide) (by decide)⟩
    | 7,Q =>
     cases Q;have g6:C7 (.slice (some (J g 0)) l.length cp) g l.length cp i 6 (f 6):=L.c 6 (ye R 6 rfl);simp only[C7] at g6;have pq:IntKind.i64.wrap ((i:Int)+1)=(i:Int)+1:=by rw[IntKind.wrap_i64];omega
     clear L R;go_simp;exact⟨upd f 7 (H ((i:Int)+1)),by simp[upd,g6],fj (U jf) 7 _ rfl (by decide) (by decide) (by decide) (by decide)⟩
    | 8,Q =>
     cases Q;have g5:C7 (.slice (some (J g 0)) l.length cp) g l.length cp i 5 (f 5):=L.c 5 (ye R 5 rfl);have g7:C7 (.slice (some (J g 0)) l.length cp) g l.length cp i 7 (f 7):=L.c 7 (ye R 7 rfl);simp only[C7] at g5 g7;clear L R
     by_cases hcp:cp=i+1
     ·subst hcp;go_simp;exact⟨upd f 8 (.slice (some (J g 0)) (l.length-(i+1)) 0),by simp[upd,g5,g7];omega,fj (U jf) 8 _ ⟨_,_,rfl,fun h=>by omega⟩ (by decide) (by decide) (by decide) (by decide)⟩
     ·rw[if_pos (by rfl)];unfold Oper.wp;go_simp;exact⟨upd f 8 (.slice (some (J g ((i+1)*6))) (l.length-(i+1)) (cp-(i+1))),by simp[upd,g5,g7],fj (U jf) 8 _ ⟨_,_,rfl,fun h=>rfl⟩ (by decide) (by decide) (by decide) (by decide)⟩
    | 9,Q =>
     cases Q;have g8:C7 (.slice (some (J g 0)) l.length cp) g l.length cp i 8 (f 8):=L.c 8 (ye R 8 rfl);have k4:x[4]? = some true:=R ⟨4,.data⟩ (by simp) rfl;have HCV:Hid (∀j c,left[j]? = some c->V.rangeAt g (0+j*6) c.vs):=fun j c hj=>zc (U HC7 j c hj) L.bel hgz;obtain⟨ad8,c8,g8,had⟩:=g8;clear L R
     have hsrc8:∀j u,((left.drop (i+1)).flatMap Od.vs)[j]? = some u->V.cell? (ad8.add j)=some u:=by
      intro j u hu
      by_cases xM:i+1<l.length
      ·rw[had xM];have:=ie (W:=V) (g:=g) (off:=0) (l:=left) (U HCV) (i+1) (l.length-(i+1)) j u (by rw[xa (by simp[hll])];exact hu);simpa using this
      ·rw[xb (by omega)] at hu;simp at hu
     rw[if_pos (by rfl)];refine wp_append_own V (.tmp 61) (.tmp 65) 25 rfl yc.heap.size 65 i0 _ 6 56 Tryz.underlying25 vk uI uG uZ rfl (by decide) (f 4) (left.take i).length ((left.take i).flatMap Od.vs) rfl ((U jf).m4 k4 xu) ad8 (l.length-(i+1)) c8 ((left.drop (i+1)).flatMap Od.vs) g8 (by rw[zY Od.len,List.length_drop,hll]) hsrc8 (fM _) (by unfold maxLen;rw[List.length_take];omega) (by rw[List.length_take];omega) (U jf).bel.size ?_;intro v' w' xY uR _;refine⟨upd f 9 v',rfl,r7_9 (U jf) k4 xu (fun _=>trivial) ?_ uR⟩;show w'.ownsRow _ _ _ _ (left.take i++left.drop (i+1)).length _;rw[yQ,List.length_drop,hll,List.flatMap_append];exact xY
    | 10,Q =>
     cases Q
     have hA:∀j,j<10->x[j]? = some true:=fun j hj=>R ⟨j,.phase⟩ (by
      match j,hj with
      | 0,_=>simp
      | 1,_=>simp
      | 2,_=>simp
      | 3,_=>simp
      | 4,_=>simp
      | 5,_=>simp
      | 6,_=>simp
      | 7,_=>simp
      | 8,_=>simp
      | 9,_=>simp
      | n+10,h=>omega) rfl
     clear L R;go_simp;exact⟨upd f 10 (f 9),by simp[upd],r7_10 (U jf) hA xu (fun _=>trivial)⟩
    | n+11,Q=>simp at Q
  ·have b0:(xN-q==0)=false:=by simpa using hz
   have HH:=Z (hit_less (l:=l) (i:=i) (o:=⟨uU,vA,xz,xN,vz,qO⟩) hz);clear hz;go_wp2_with fail;refine U HT _ _ _ _ _ _ _ _ _ _ _ _ _ _ _ _ _ _ _ _ _ _ _ _ _ _ _ _ _ _ _ _ _ _ _ _ _ _ _ _ _ _ _ _ _ _ _ _ _ _ _ _ _ _ _ _ _ _ _ _ _ _ _ _ _ _ _ (by rw[<- U HH];exact zU (U HZO) (by omega)) (U HZB) (U HZT) (U jk) (U HZ2) (U HZE)
 ·rintro x zb V i' o' ⟨f,rfl,xo,hD⟩ xn hx Q xu R
  have n15':i'<15->¬ x[15]? = some true:=fun xM jd=>by
   have vU:∀j,j<15->x[j]? = some true:=fun j hj=>xn 15 _ rfl jd ⟨j,.phase⟩ (by
    rcases(by omega:j=0\/j=1\/j=2\/j=3\/j=4\/j=5\/j=6\/j=7\/j=8\/j=9\/j=10\/j=11\/j=12\/j=13\/j=14) with rfl|rfl|rfl|rfl|rfl|rfl|rfl|rfl|rfl|rfl|rfl|rfl|rfl|rfl|rfl <;> simp) rfl
   rw[vU i' xM] at xu;cases xu
  clear xn;have xK:=Z xo;have HD:=Z hD;have hS1:=U oY;have az:b<h2.heap.size:=by omega
  have z0:V.cell? (J w.heap.size 0)=some (H uC):=zc (U uV).1 xo (by omega) 0 _ rfl;have o0:V.cell? (J b (off+i*6))=some (H uU):=zc (U HC1 i _ (U HIO)) xo az 0 _ rfl;have o2:V.cell? (J b (off+i*6+2))=some (H xz):=zc (U HC1 i _ (U HIO)) xo az 2 _ rfl;clear xE hS1
  match i',Q with
  | 0,Q =>
   cases Q;clear R hD xo;go_simp;exact⟨upd f 0 (I w.heap.size 0),by simp[upd],zG (U xK) (U HD) (by decide) rfl⟩
  | 1,Q =>
   cases Q;have g0:f 0=I w.heap.size 0:=hD 0 (ye R 0 rfl);clear R hD xo;go_simp;exact⟨upd f 1 (H uC),by simp[upd,g0],zG (U xK) (U HD) (by decide) rfl⟩
  | 2,Q|8,Q =>
   cases Q;clear R hD xo;go_simp;exact⟨upd f _ (.slice (some (J b off)) l.length cap),by simp[upd],zG (U xK) (U HD) (by decide) rfl⟩
  | 3,Q|9,Q =>
   cases Q;clear R hD xo;go_simp;exact⟨upd f _ (H i),by simp[upd],zG (U xK) (U HD) (by decide) rfl⟩
  | 4,Q =>
   cases Q;have g2:f 2 = .slice (some (J b off)) l.length cap:=hD 2 (ye R 2 rfl);have g3:f 3=H i:=hD 3 (ye R 3 rfl);clear R hD xo;go_simp;exact⟨upd f 4 (I b (off+i*6)),by simp[upd,g2,g3],zG (U xK) (U HD) (by decide) rfl⟩
  | 5,Q =>
   cases Q;have g4:f 4=I b (off+i*6):=hD 4 (ye R 4 rfl);clear R hD xo;go_simp;exact⟨upd f 5 (I b (off+i*6)),by simp[upd,g4],zG (U xK) (U HD) (by decide) rfl⟩
  | 6,Q =>
   cases Q;have g5:f 5=I b (off+i*6):=hD 5 (ye R 5 rfl);clear R hD xo;go_simp;exact⟨upd f 6 (H uU),by simp[upd,g5],zG (U xK) (U HD) (by decide) rfl⟩
  | 7,Q =>
   cases Q;clear R hD xo;go_simp;exact⟨upd f 7 (H q),by simp[upd],zG (U xK) (U HD) (by decide) rfl⟩
  | 10,Q =>
   cases Q;have g8:f 8 = .slice (some (J b off)) l.length cap:=hD 8 (ye R 8 rfl);have g9:f 9=H i:=hD 9 (ye R 9 rfl);clear R hD xo;go_simp;exact⟨upd f 10 (I b (off+i*6)),by simp[upd,g8,g9],zG (U xK) (U HD) (by decide) rfl⟩
  | 11,Q =>
   cases Q;have jL:f 10=I b (off+i*6):=hD 10 (ye R 10 rfl);clear R hD xo;go_simp;exact⟨upd f 11 (I b (off+i*6+2)),by simp[upd,jL],zG (U xK) (U HD) (by decide) rfl⟩
  | 12,Q =>
   cases Q;have jB:f 11=I b (off+i*6+2):=hD 11 (ye R 11 rfl);clear R hD xo;go_simp;exact⟨upd f 12 (H xz),by simp[upd,jB],zG (U xK) (U HD) (by decide) rfl⟩
  | 13,Q =>
   cases Q;have g1:f 1=H uC:=hD 1 (ye R 1 rfl);have g6:f 6=H uU:=hD 6 (ye R 6 rfl);have g7:f 7=H q:=hD 7 (ye R 7 rfl);have vY:f 12=H xz:=hD 12 (ye R 12 rfl);clear R hD xo;go_simp;exact⟨upd f 13 (.agg (yv 3 0 0 0 0 0 0 0 ⟨#[]⟩ uC uU q xz 0).toArray),by simp[upd,g1,g6,g7,vY],zG (U xK) (U HD) (by decide) rfl⟩
  | 14,Q =>
   cases Q;have n15:=n15' (by omega);clear R hD xo;go_simp;have xy:=mn V (mq (yv 0 0 0 0 0 0 0 0 ⟨#[]⟩ 0 0 0 0 0).toArray 37);exact⟨upd f 14 (I V.heap.size 0),by simp[upd],fG (U xK) (U HD) xy (by decide) (dh_grow xy) ⟨V.heap.size,rfl,(U xK).size,by rw[zf];omega,zW V (yv 0 0 0 0 0 0 0 0 ⟨#[]⟩ 0 0 0 0 0) _,fun h=>absurd h n15⟩⟩
  | 15,Q =>
   cases Q;have kI:f 13 = .agg (yv 3 0 0 0 0 0 0 0 ⟨#[]⟩ uC uU q xz 0).toArray:=hD 13 (ye R 13 rfl);obtain⟨c,pf,oC,qU,aZ,-⟩:=hD 14 (ye R 14 rfl);have HCT:=Z aZ;obtain⟨y0,z20,n20⟩:=zj aZ (j:=0) (by omega);obtain⟨y1,z21,n21⟩:=zj aZ (j:=1) (by omega);obtain⟨y2,z22,n22⟩:=zj aZ (j:=2) (by omega);obtain⟨y3,z23,n23⟩:=zj aZ (j:=3) (by omega);obtain⟨y4,z24,n24⟩:=zj aZ (j:=4) (by omega);obtain⟨y5,z25,n25⟩:=zj aZ (j:=5) (by omega);obtain⟨y6,z26,n26⟩:=zj aZ (j:=6) (by omega);obtain⟨y7,z27,n27⟩:=zj aZ (j:=7) (by omega);obtain⟨y8,z28,n28⟩:=zj aZ (j:=8) (by omega);obtain⟨y9,z29,n29⟩:=zj aZ (j:=9) (by omega);obtain⟨dO,z30,n30⟩:=zj aZ (j:=10) (by omega);obtain⟨y11,z31,n31⟩:=zj aZ (j:=11) (by omega);obtain⟨y12,z32,n32⟩:=zj aZ (j:=12) (by omega);obtain⟨y13,z33,n33⟩:=zj aZ (j:=13) (by omega);have hsf:=sfl;clear R hD xo aZ;go_simp;refine⟨upd f 15 M,by simp[upd,kI,pf],rgx_last (zh c oC (yv 3 0 0 0 0 0 0 0 ⟨#[]⟩ uC uU q xz 0) 0 V (U xK)) (U HD) xu (fun j hj hxj h=>dh_last j hj h (fun hj14=>?_)) trivial⟩;subst hj14;refine⟨c,pf,oC,by rw[fO];exact qU,xc (U HCT) _ _ _,fun _=>yY V c 0 _ (fun j hj=>U HCT j hj)⟩
  | n+16,Q=>simp at Q
end Go.Proofs.YthhkapcbocgcoaaGreatDoor
