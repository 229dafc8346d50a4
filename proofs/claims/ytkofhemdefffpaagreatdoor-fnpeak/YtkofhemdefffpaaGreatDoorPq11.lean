/-.-/
import Derived.Test.YtkofhemdefffpaaGreatDoorPq10
set_option linter.unusedVariables false
set_option maxHeartbeats 6400000
set_option maxRecDepth 100000
namespace Go.Proofs.YtkofhemdefffpaaGreatDoor
open Go.RowKit
theorem nex_stop {l:List Od}{t:Od}(h:t.left=0):NexS l t (-1):=.inl ⟨rfl,.inl h⟩
theorem nex_none {l:List Od}{t:Od}(h:dv l (othS t.side)=none):NexS l t (-1):=.inl ⟨rfl,.inr (.inl h)⟩
theorem nex_no {l:List Od}{t o:Od}(h:dv l (othS t.side)=some o)(hc:fc t.side t.ticks o=false):NexS l t (-1):=.inl ⟨rfl,.inr (.inr ⟨o,h,hc⟩)⟩
theorem l04Next_any (v:Value)(l:List Od)(t:Od)(w:World)(hr:RdR Od.vs 6 w v l)(hri:dQ l)(hn:l.length<=1000)(uF:t.side=1\/t.side=2) :
  Calls Tryz.prog 55 #[v,.agg (yx t.id t.side t.ticks t.left t.life t.tag).toArray] w fun e w'=>∃k:Int,e = .returned (H k)/\NexS l t k/\yp w w':=by
 have HR:=U hr;obtain⟨a,cap,rfl,xC,hc⟩:=hr
 have xp:∀(k:Nat) (c:Od),l[k]? = some c->∃b off,a=some (Y b off)/\b<w.heap.size/\w.rangeAt b (off+k*6) c.vs:=by
  intro k c E;obtain⟨b,off,Z,Q,I⟩:=hc (by intro h;rw[h] at E;simp at E);exact⟨b,off,Z,Q,I k c E⟩
 have HC:=U xp;have HRI:=U hri;have vK:=U (oth_of uF);have xG:1<=t.side:=by omega
 have ug:t.side<=2:=by omega
 have ui:Hid (yp w (w.alloc (me (yx t.id t.side t.ticks t.left t.life t.tag).toArray 71))):=mc _ _;have HX:Hid (World.rangeAt (w.alloc (me (yx t.id t.side t.ticks t.left t.life t.tag).toArray 71)) w.heap.size 0 t.vs/\w.heap.size<(w.alloc (me (yx t.id t.side t.ticks t.left t.life t.tag).toArray 71)).heap.size):=⟨zm w t.vs _,by rw[zi];omega⟩;clear xp hc hri uF;go_enter Tryz.func55,Tryz.ntmps55;go_wp2_with fail;generalize (w.alloc (me (yx t.id t.side t.ticks t.left t.life t.tag).toArray 71))=W1 at ui HX |-;refine(lG _ l _ W1 (zq (O HR) (O ui) yb) (O HRI) hn).mono ?_;rintro e w2 ⟨k,rfl,hf,vn⟩;have HF:=U (front_pre (O HRI) hf);have xz:=U ((O ui).trans ((lm vn (fun g F=>by cases F) yb).mono (O ui).size));have xR:=U (zv (O HX).1 vn (O HX).2 (by simp));have hlt2:w.heap.size<w2.heap.size:=yK (O HX).2 vn.size
 have HC2:Hid (∀(k:Nat) (c:Od),l[k]? = some c->∃b off,a=some (Y b off)/\b<w2.heap.size/\w2.rangeAt b (off+k*6) c.vs):=fun k c E=>by
  obtain⟨b,off,Z,Q,I⟩:=O HC k c E;exact⟨b,off,Z,by omega,zf I (O xz) Q⟩
 obtain⟨t0,t1,t2,t3,t4,t5⟩:=zL (O xR);clear hf vn xG ug
 by_cases h0:t.left=0
 ·have HN:=U (nex_stop (l:=l) h0);have b0:(t.left==0)=true:=by simpa using h0
  clear h0;go_wp2_with fail;go_quiet (fail);go_wp2_with fail;go_ret;exact⟨_,rfl,O HN,zY (O xz) _⟩
 have b0:(t.left==0)=false:=by simpa using h0
 rcases O HF with⟨rfl,qZ⟩|⟨i,o,rfl,hi,oA,hfo⟩
 ·have HN:=U (nex_none (l:=l) (t:=t) (by rw[<- O vK];exact qZ));clear qZ h0;go_wp2_with fail;go_quiet (fail);go_wp2_with fail;go_ret;exact⟨_,rfl,O HN,zY (O xz) _⟩
 have HFO:Hid (dv l (othS t.side)=some o):=by rw[<- O vK];exact hfo
 have HIO:=U oA;obtain⟨b,off,rfl,K,xo⟩:=O HC2 i o oA;have HL0:=U h0;have jr:Hid (∀w',w2.grownBy w' none->w'.rangeAt w.heap.size 0 t.vs/\w'.rangeAt b (off+i*6) o.vs):=fun w' h'=>⟨zv (O xR) h' hlt2 (by simp),zv xo h' K (by simp)⟩;have hlti:(i:Int)<l.length:=by omega
 have uo:¬ ((i:Int)<0):=by omega
 have hi0':decide ((i:Int)<0)=false:=by simp
 clear hfo oA xo h0 HF vK;go_wp2_with fail;refine ix (W:=w2) (by kernel_rfl) (by kernel_rfl) (yS _ _) ?_
 iterate 16 (
  refine ej (v:=?_) ?_ ?_ ?_;rotate_left
  ·rfl
  ·intro w' uy;obtain⟨c0,c1,c2,c3,c4,c5⟩:=zL (O jr w' uy).1;obtain⟨d0,d1,d2,d3,d4,d5⟩:=zL (O jr w' uy).2;go_simp
   try rfl
  intro hb hK;go_simp;refine hK _ ?_;clear hK hb)
 refine ej (v:=.bool (fc t.side t.ticks o)) ?_ ?_ ?_
 ·rfl
 ·intro w' uy;go_simp;refine(l04Crosses_any t.side t.ticks o _).mono ?_;rintro e w3 ⟨rfl,ua⟩;exact⟨rfl,uy.trans (ft ua yb)⟩
 intro hb hK;go_simp;refine hK _ ?_;clear hK hb;cases hcr:fc t.side t.ticks o
 ·have HN:=U (nex_no (O HFO) hcr)
  iterate 2 (
   refine ej (v:=?_) ?_ ?_ ?_;rotate_left
   ·rfl
   ·intro w' uy;go_simp
    try rfl
   intro hb hK;go_simp;refine hK _ ?_;clear hK hb)
  refine wpQuiet_nil ?_;intro w3 ua;have xL:=U ((O xz).grown ua (O xz).size (fun g F=>by cases F));clear ua;go_wp2_with fail;go_ret;exact⟨_,rfl,O HN,O xL⟩
 ·have HN:Hid (NexS l t i):=.inr ⟨i,o,rfl,hi,O HIO,O HFO,hcr,O HL0⟩
  iterate 2 (
   refine ej (v:=?_) ?_ ?_ ?_;rotate_left
   ·rfl
   ·intro w' uy;go_simp
    try rfl
   intro hb hK;go_simp;refine hK _ ?_;clear hK hb)
  refine wpQuiet_nil ?_;intro w3 ua;have xL:=U ((O xz).grown ua (O xz).size (fun g F=>by cases F));clear ua;go_wp2_with fail;go_ret;exact⟨_,rfl,O HN,O xL⟩
structure R8 (v ta ea:Value) (V0 V1 V2:World) (x:List Bool) (f:Nat->Value) (W:World):Prop where
 f0:x[0]? = some true->f 0=v
 f1:x[1]? = some true->f 1=ta
 f2:x[2]? = some true->f 2=ea
 f3:x[3]? = some true->f 3=v
 f5:x[5]? = some true->f 5=ea
 s0:x[4]? = some false->W=V0
 s1:x[4]? = some true->x[5]? = some false->W=V1
 s2:x[4]? = some true->x[5]? = some true->W=V2
def R8A (hg:(Nat->Value)->Act)(v ta ea:Value)(V0 V1 V2:World)(x:List Bool)(md:Act)(W:World):Prop:=∃f,md=hg f/\R8 v ta ea V0 V1 V2 x f W
section
variable {v ta ea:Value} {V0 V1 V2:World} {x:List Bool} {f:Nat->Value} {W:World}
theorem r8_val (h:R8 v ta ea V0 V1 V2 x f W)(i:Nat)(u:Value)(hi:i<4)(h0:i=0->u=v)(Z:i=1->u=ta)(Q:i=2->u=ea)(I:i=3->u=v):R8 v ta ea V0 V1 V2 (x.set i true) (upd f i u) W:=by
 have bi:∀j (y:Value),(x[j]? = some true->f j=y)->(i=j->u=y)->(x.set i true)[j]? = some true->upd f i u j=y:=by
  intro j y hf hu hx
  by_cases e:i=j
  ·subst e;rw[zp];exact hu rfl
  ·rw[zu _ _ (fun e'=>e e'.symm)];rw[gq e] at hx;exact hf hx
 refine⟨bi 0 v h.f0 h0,bi 1 ta h.f1 Z,bi 2 ea h.f2 Q,bi 3 v h.f3 I,bi 5 ea h.f5 (by omega),?_,?_,?_⟩ <;> rw[gq (show i≠4 by omega)]
 ·exact h.s0
 ·rw[gq (show i≠5 by omega)];exact h.s1
 ·rw[gq (show i≠5 by omega)];exact h.s2
theorem r8_4 (h:R8 v ta ea V0 V1 V2 x f W)(h4:x[4]? = some false)(h5:x[5]? = some false):R8 v ta ea V0 V1 V2 (x.set 4 true) f V1:=by
 refine⟨?_,?_,?_,?_,?_,?_,?_,?_⟩
 ·rw[gq (by omega)];exact h.f0
 ·rw[gq (by omega)];exact h.f1
 ·rw[gq (by omega)];exact h.f2
 ·rw[gq (by omega)];exact h.f3
 ·rw[gq (by omega)];exact h.f5
 ·intro e;rw[gqs h4] at e;cases e
 ·exact fun _ _=>rfl
 ·intro _ e;rw[gq (by omega),h5] at e;cases e
theorem r8_5 (h:R8 v ta ea V0 V1 V2 x f W)(h4:x[4]? = some true)(h5:x[5]? = some false):R8 v ta ea V0 V1 V2 (x.set 5 true) (upd f 5 ea) V2:=by
 refine⟨?_,?_,?_,?_,?_,?_,?_,?_⟩
 ·rw[gq (by omega),zu _ _ (by omega)];exact h.f0
 ·rw[gq (by omega),zu _ _ (by omega)];exact h.f1
 ·rw[gq (by omega),zu _ _ (by omega)];exact h.f2
 ·rw[gq (by omega),zu _ _ (by omega)];exact h.f3
 ·intro _;exact zp _ _ _
 ·intro e;rw[gq (by omega),h4] at e;cases e
 ·intro _ e;rw[gqs h5] at e;cases e
 ·exact fun _ _=>rfl
end
theorem iy {B b:Nat}{v:Value}{l:List Od}(K:b<B):∀(vs:List Value) (o:Nat) (W:World),ORow W B v l->ORow (W.setCells b o vs) B v l
 | [],_,_,h=>h
 | u::us,o,W,h=>by rw[World.setCells];exact iy K us (o+1) _ (eU h K o u)
theorem lD {W:World}{b o p k:Nat}{cs vs:List Value}(h:W.rangeAt b o cs)(K:p≠b):(W.setCells p k vs).rangeAt b o cs:=fun j u hj =>
 (World.cell?_setCells_out p vs k W (Y b (o+j)) (fun e=>absurd e.symm K)).trans (h j u hj)
theorem hit_same {l:List Od}{i:Nat}{o:Od}{q:Int}(h:o.left-q=0):(l.set i { o with left:=o.left-q }).take i++(l.set i { o with left:=o.left-q }).drop (i+1)=db l i o q:=by
 have:o.left=q:=by omega
 rw[db,if_pos this,List.take_set_of_le yb,List.drop_set_of_lt (by omega)]
theorem hit_less {l:List Od}{i:Nat}{o:Od}{q:Int}(h:o.left-q≠0):l.set i { o with left:=o.left-q } = db l i o q:=by
 have:o.left≠q:=by omega
 rw[db,if_neg this]
def DH (S b off i n cap:Nat)(uH vh q xv:Int)(base:Nat)(p:Prop)(W:World):Nat->Value->Prop
 | 0,v=>v=h3 S 0
 | 1,v=>v=H uH
 | 2,v=>v = .slice (some (Y b off)) n cap
 | 3,v=>v=H i
 | 4,v=>v=h3 b (off+i*6)
 | 5,v=>v=h3 b (off+i*6)
 | 6,v=>v=H vh
 | 7,v=>v=H q
 | 8,v=>v = .slice (some (Y b off)) n cap
 | 9,v=>v=H i
 | 10,v=>v=h3 b (off+i*6)
 | 11,v=>v=h3 b (off+i*6+2)
 | 12,v=>v=H xv
 | 13,v=>v = .agg (yw 3 0 0 0 0 0 0 0 ⟨#[]⟩ uH vh q xv 0).toArray
 | 14,v=>∃c,v=h3 c 0/\base<=c/\c<W.heap.size/\W.there c 0 14/\(p->W.rangeAt c 0 (yw 3 0 0 0 0 0 0 0 ⟨#[]⟩ uH vh q xv 0))
 | _,_=>True
theorem dh_grow {S b off i n cap:Nat}{uH vh q xv:Int}{base:Nat}{p:Prop}{V V':World}(K:yp V V'):∀j v,DH S b off i n cap uH vh q xv base p V j v->DH S b off i n cap uH vh q xv base p V' j v:=by
 intro j v h
 match j with
 | 0|1|2|3|4|5|6|7|8|9|10|11|12|13=>exact h
 | 14=>obtain⟨c,Z,Q,I,h4,h5⟩:=h;exact⟨c,Z,Q,yK I K.size,zk h4 K I,fun hp=>zf (h5 hp) K I⟩
 | j+15=>trivial
theorem dh_last {S b off i n cap:Nat}{uH vh q xv:Int}{base:Nat}{V V':World}{v:Value}:∀j,j≠15->DH S b off i n cap uH vh q xv base False V j v->(j=14->DH S b off i n cap uH vh q xv base True V' 14 v)->DH S b off i n cap uH vh q xv base True V' j v:=by
 intro j hj h bQ
 match j with
 | 0|1|2|3|4|5|6|7|8|9|10|11|12|13=>exact h
 | 14=>exact bQ rfl
 | j+15=>trivial
theorem hit_mid {V w1:World}{v1:Value}{l:List Od}(xE:l ≠ [])(hl:l.length<=1000)(h6:w1.ownsRow V.heap.size 71 6 v1 (0+l.length) ([]++l.flatMap Od.vs))(h7:(V.alloc (me #[] 71)).grownBy w1 (Value.slice (some (Y V.heap.size 0)) 0 0).ownBlock) :
  ∃g cp,v1 = .slice (some (Y g 0)) l.length cp/\l.length<=cp/\V.heap.size<=g/\g<w1.heap.size/\ORow w1 V.heap.size v1 l/\yp V w1:=by
 have D:ORow w1 V.heap.size v1 l:=by
  show w1.ownsRow _ _ _ _ l.length _;simpa using h6
 obtain⟨g,cp,e,Z,Q,I⟩:=iG D xE;exact⟨g,cp,e,Z,Q,I,D,(mc _ _).grown h7 (by rw[zi];omega) (fun k E=>by simp[Value.ownBlock] at E;omega)⟩
theorem ie {W:World}{B g n cp i:Nat}{l:List Od}{o:Od}(h:ORow W B (.slice (some (Y g 0)) n cp) l)(hl:l.length<=1000)(hi:l[i]? = some o):W.rangeAt g (i*6) o.vs/\∀j,j<6->W.frozen? (Y g (i*6+j))=false:=by
 obtain⟨a',c',e,_,hc⟩:=zZ h (by omega);obtain⟨b',qw,e2,_,hc⟩:=hc (by rintro rfl;simp at hi);rw[e2] at e;simp only[Value.slice.injEq,Option.some.injEq,Addr.mk.injEq,and_true] at e;obtain⟨⟨rfl,rfl⟩,-⟩:=e;refine⟨by simpa using hc i o hi,fun j hj=>?_⟩;rcases h.2 with⟨Z,_⟩|⟨g',jd,xt,Z,_,I,h4,_,h5,_⟩
 ·cases Z
 ·simp only[Value.slice.injEq,Option.some.injEq,Addr.mk.injEq,and_true] at Z;obtain⟨rfl,-⟩:=Z;have hil:=(yH.1 hi).1;have:=(gI I yb (i*6+j) (by rw[h5];omega)).2;rwa[Nat.zero_add] at this
theorem range_left {W:World}{S g k:Nat}{a0 a1 a2 a3 a4 a5 x y:Value}(h:W.rangeAt S 0 [a0,a1,a2,a3,a4,a5])(F:g≠S):((W.setCell (Y g k) x).setCell (Y S 3) y).rangeAt S 0 [a0,a1,a2,y,a4,a5]:=by
 have D:∀j,j≠3->((W.setCell (Y g k) x).setCell (Y S 3) y).cell? (Y S j)=W.cell? (Y S j):=fun j hj=>(yM _ _ _ _ (zV (fun e=>hj e.symm))).trans (yM _ _ _ _ (fun e=>F (congrArg Addr.block e)));intro j u hj;rw[Nat.zero_add]
 match j,hj with
 | 0,hj=>cases hj;exact(D 0 (by omega)).trans (h 0 _ rfl)
 | 1,hj=>cases hj;exact(D 1 (by omega)).trans (h 1 _ rfl)
 | 2,hj=>cases hj;exact(D 2 (by omega)).trans (h 2 _ rfl)
 | 3,hj=>cases hj;exact yN _ _ _ ((yM _ _ _ _ (fun e=>F (congrArg Addr.block e))).trans (h 3 _ rfl))
 | 4,hj=>cases hj;exact(D 4 (by omega)).trans (h 4 _ rfl)
 | 5,hj=>cases hj;exact(D 5 (by omega)).trans (h 5 _ rfl)
 | j+6,hj=>simp at hj
theorem range_far {W:World}{b o p k:Nat}{cs:List Value}{x:Value}(h:W.rangeAt b o cs)(K:p≠b):(W.setCell (Y p k) x).rangeAt b o cs:=fun j u hj =>
 (yM _ _ _ _ (fun e=>K (congrArg Addr.block e))).trans (h j u hj)
theorem l04Hit_any (v:Value)(l:List Od)(t o:Od)(i:Nat)(w:World)(hr:RdR Od.vs 6 w v l)(hn:l.length<=1000)(oA:l[i]? = some o)(ht0:0<=t.left)(ht1:t.left<=1000000)(ho0:0<=o.left)(oi:o.left<=1000000) :
  Calls Tryz.prog 56 #[v,.agg (yx t.id t.side t.ticks t.left t.life t.tag).toArray,H i] w fun e w'=>∃v',e = .returned (.tuple #[v',.agg (Od.vs { t with left:=t.left-min t.left o.left }).toArray,.agg (Ev.vs (trE t.id o.id (min t.left o.left) o.ticks)).toArray])/\ORow w' w.heap.size v' (db l i o (min t.left o.left))/\yp w w':=by
 obtain⟨i0,uo,ub,xX,uh⟩:=info_parts Tryz.infoOrder;have hil:=(yH.1 oA).1;have xE:l ≠ []:=by rintro rfl;simp at oA
 have HNE:=U xE;obtain⟨a,cap,rfl,xC,hc⟩:=hr;obtain⟨b,off,rfl,K,xo⟩:=hc xE;have aN:=U xo;have HIO:=U oA;obtain⟨uH,uu,uc,xO,ut,vy⟩:=t;obtain⟨vh,vC,xv,xM,vB,qN⟩:=o;simp only at ht0 ht1 ho0 oi |-;generalize hq:min xO xM=q;have hqa:0<=q:=by omega
 have hqb:q<=xO:=by omega
 have hqc:q<=xM:=by omega
 have HQ:=U hq;clear xo hc oA xE hq xC;have xG:=zi w (me (yx uH uu uc xO ut vy).toArray 71);have ug:((w.alloc (me (yx uH uu uc xO ut vy).toArray 71)).alloc (me (yx 0 0 0 0 0 ⟨#[]⟩).toArray 71)).heap.size=w.heap.size+1+1:=by rw[zi,xG]
 have qv:(((w.alloc (me (yx uH uu uc xO ut vy).toArray 71)).alloc (me (yx 0 0 0 0 0 ⟨#[]⟩).toArray 71)).alloc (me (yw 0 0 0 0 0 0 0 0 ⟨#[]⟩ 0 0 0 0 0).toArray 78)).heap.size=w.heap.size+1+1+1:=by rw[zi,ug]
 have r1:=zm w (yx uH uu uc xO ut vy) 71;have t1:=zM w (yx uH uu uc xO ut vy) 71;have t2:=zM (w.alloc (me (yx uH uu uc xO ut vy).toArray 71)) (yx 0 0 0 0 0 ⟨#[]⟩) 71;have t3:=zM ((w.alloc (me (yx uH uu uc xO ut vy).toArray 71)).alloc (me (yx 0 0 0 0 0 ⟨#[]⟩).toArray 71)) (yw 0 0 0 0 0 0 0 0 ⟨#[]⟩ 0 0 0 0 0) 78;rw[xG] at t2;rw[ug] at t3;have b1:=mc w (me (yx uH uu uc xO ut vy).toArray 71);have b2:Below (w.heap.size+1) (w.alloc (me (yx uH uu uc xO ut vy).toArray 71)) ((w.alloc (me (yx uH uu uc xO ut vy).toArray 71)).alloc (me (yx 0 0 0 0 0 ⟨#[]⟩).toArray 71)):=(Below.refl _ _).alloc (by omega) _;have b3:Below (w.heap.size+1+1) ((w.alloc (me (yx uH uu uc xO ut vy).toArray 71)).alloc (me (yx 0 0 0 0 0 ⟨#[]⟩).toArray 71)) (((w.alloc (me (yx uH uu uc xO ut vy).toArray 71)).alloc (me (yx 0 0 0 0 0 ⟨#[]⟩).toArray 71)).alloc (me (yw 0 0 0 0 0 0 0 0 ⟨#[]⟩ 0 0 0 0 0).toArray 78)):=(Below.refl _ _).alloc (by omega) _;have b23:=b2.trans (b3.mono (by omega));have HX:Hid (World.rangeAt _ w.heap.size 0 _/\World.there _ w.heap.size 0 6/\World.there _ (w.heap.size+1) 0 6/\World.there _ (w.heap.size+1+1) 0 14):=⟨zf r1 b23 (by omega),zk t1 b23 (by omega),zk t2 b3 (by omega),t3⟩;have xL:=U (b1.trans (b23.mono (by omega)));have jz:=U qv;clear xG ug qv r1 t1 t2 t3 b1 b2 b3 b23;go_enter Tryz.func56,Tryz.ntmps56;refine mg fun hb xw=>?_;go_wp2_with fail;refine O xw _ _ ?_;clear xw;generalize (((w.alloc (me (yx uH uu uc xO ut vy).toArray 71)).alloc (me (yx 0 0 0 0 0 ⟨#[]⟩).toArray 71)).alloc (me (yw 0 0 0 0 0 0 0 0 ⟨#[]⟩ 0 0 0 0 0).toArray 78))=xh at HX xL jz |-;have HX:Hid (xh.rangeAt w.heap.size 0 (yx uH uu uc xO ut vy)/\xh.there w.heap.size 0 6/\xh.there (w.heap.size+1) 0 6/\xh.there (w.heap.size+1+1) 0 14):=O HX;have t3:xh.cell? (Y w.heap.size 3)=some (H xO):=(O HX).1 3 _ rfl;have HCX:Hid (∀j c,l[j]? = some c->xh.rangeAt b (off+j*6) c.vs):=fun j c hj=>zf (O aN j c hj) (O xL) K;have o3:xh.cell? (Y b (off+i*6+3))=some (H xM):=O HCX i _ (O HIO) 3 _ rfl;have hil':(i:Int)<l.length:=by omega
 have hii:(0:Int)<=i:=by omega
 refine mg fun hb xw=>?_;go_wp2_with fail;go_quiet (fail);refine O xw _ _ ?_;clear xw;have hif:(if xM<xO then xM else xO)=q:=by have:=O HQ;split <;> omega
 simp only[hif];have uI:Hid ((xh.drewN nq).rangeAt w.heap.size 0 (yx uH uu uc xO ut vy)/\(xh.drewN nq).there w.heap.size 0 6/\(xh.drewN nq).there (w.heap.size+1) 0 6/\(xh.drewN nq).there (w.heap.size+1+1) 0 14):=O HX;have ui:Hid (yp w (xh.drewN nq)):=zY (O xL) _;have oT:Hid ((xh.drewN nq).heap.size=w.heap.size+1+1+1):=O jz;have HC1:Hid (∀j c,l[j]? = some c->(xh.drewN nq).rangeAt b (off+j*6) c.vs):=O HCX;clear t3 o3 hif HX xL jz HCX;generalize xh.drewN nq=ya at uI ui oT HC1 |-;refine mg fun hb xw=>?_;refine zA (RG ya (fun f=>{ tmps:=#[.slice (some (Y b off)) l.length cap,.agg (yx uH uu uc xO ut vy).toArray,H i,M,h3 w.heap.size 0,M,.slice none 0 0,h3 (w.heap.size+1) 0,h3 (w.heap.size+1+1) 0,H q,f 14,M,h3 w.heap.size 3,H xO,.slice (some (Y b off)) l.length cap,H i,h3 b (off+i*6),h3 b (off+i*6+3),H xM,H q,f 0,f 1,f 2,f 3,f 4,f 5,f 6,f 7,f 8,f 9,f 10,f 11,f 12,f 13,M,M,M,M,M,M,M,M,M,M,M,M,M,M,M,M,M,M,M,M,M,M,M,M,M,M,M,M,M,M,M,M,M,M,M,M],defers:=[] }) 15 (DH w.heap.size b off i l.length cap uH vh q xv ya.heap.size)) (by kernel_rfl) ?_ ?_ ?_
 ·exact⟨fun _=>M,rfl,⟨rfl,rfl,rfl,Nat.le_refl _,fun _ _=>rfl⟩,fun j hj=>by rw[yJ] at hj;split at hj <;> simp at hj⟩
 ·rintro x md V ⟨f,rfl,xl,hD⟩ hx xY;have xq:=eM xY hx (acyc _ (by kernel_rfl));have k15:x[15]? = some true:=xq 15 (by simp);obtain⟨c,e14,jT,jX,-,hcr⟩:=hD 14 (xq 14 (by simp));have HCR:=U (hcr k15);refine O xw _ _ ?_;clear xw;have HS:=O oT;have hsv:=xl.size;have HXV:Hid (V.rangeAt w.heap.size 0 (yx uH uu uc xO ut vy)/\V.there w.heap.size 0 6/\V.there (w.heap.size+1) 0 6/\V.there (w.heap.size+1+1) 0 14):=⟨zf (O uI).1 xl (by omega),zk (O uI).2.1 xl (by omega),zk (O uI).2.2.1 xl (by omega),zk (O uI).2.2.2 xl (by omega)⟩;have xI:=U (mf (O ui) xl);have jk:b<ya.heap.size:=by omega
  have HCV:Hid (∀j c,l[j]? = some c->V.rangeAt b (off+j*6) c.vs):=fun j c hj=>zf (O HC1 j c hj) xl jk;have hcS:w.heap.size+1+1<c:=by omega
  simp only[e14];generalize f 0=u20,f 1=u21,f 2=u22,f 3=u23,f 4=u24,f 5=u25,f 6=u26,f 7=u27,f 8=u28,f 9=u29,f 10=u30,f 11=u31,f 12=u32,f 13=u33;clear hD xq k15 e14 hcr xY hx xl jT uI ui HC1 oT HS;have bB:=U (World.ownsRow_made (base:=V.heap.size) (e:=71) (size:=6) V #[] 0 yb (by decide) rfl)
  have uk:Hid (∀j u,(l.flatMap Od.vs)[j]? = some u->(V.alloc (me #[] 71)).cell? (((Y b off):Addr).add j)=some u):=fun j u hu=>by
   have h:=ia (W:=V.alloc (me #[] 71)) (g:=b) (off:=off) (l:=l) (fun i c hi=>zf (O HCV i c hi) ((Below.refl V.heap.size V).alloc yb _) (by omega)) 0 l.length j u (by simpa using hu);simpa using h
  refine mg fun hb xw=>?_;go_wp2_with (at_builtin;go_must (refine wpList_append_own _ rfl _ _ 29 rfl V.heap.size 71 i0 _ 6 56 Tryz.underlying29 uo ub xX uh rfl (by decide) (.slice (some (Y V.heap.size 0)) 0 0) 0 [] rfl (O bB) (Y b off) l.length cap (l.flatMap Od.vs) rfl (by rw[dT Od.len]) (O uk) (fQ l) (by unfold maxLen;omega) (by omega) (by simp) ?_);intro v1 w1 aB oh _;obtain⟨g,cp,rfl,xW,hVg,hgw,ho1',ud⟩:=hit_mid (O HNE) hn aB oh;have kc:=U ho1';have ui:=U ud;clear aB oh ho1' ud)
  refine O xw _ _ ?_;clear xw uk bB;have uI:Hid (w1.rangeAt w.heap.size 0 (yx uH uu uc xO ut vy)/\w1.there w.heap.size 0 6/\w1.there (w.heap.size+1) 0 6/\w1.there (w.heap.size+1+1) 0 14):=⟨zf (O HXV).1 (O ui) (by omega),zk (O HXV).2.1 (O ui) (by omega),zk (O HXV).2.2.1 (O ui) (by omega),zk (O HXV).2.2.2 (O ui) (by omega)⟩;have HE1:=U (zf (O HCR) (O ui) jX);have uZ:=U ((O xI).trans ((O ui).mono (O xI).size));have xN:=ie (O kc) hn (O HIO);have c3:w1.cell? (Y g (i*6+3))=some (H xM):=xN.1 3 _ rfl;have f3:w1.frozen? (Y g (i*6+3))=false:=xN.2 3 (by omega);have t3:w1.cell? (Y w.heap.size 3)=some (H xO):=(O uI).1 3 _ rfl;have s3:w1.frozen? (Y w.heap.size 3)=false:=by have:=((O uI).2.1 3 (by omega)).2;rwa[Nat.zero_add] at this
  have hgS:g≠w.heap.size:=by omega
  have hSg:w.heap.size≠g:=by omega
  have aG:-9223372036854775808<=xM-q:=by omega
  have hq2:xM-q<=9223372036854775807:=by omega
  have hq3:-9223372036854775808<=xO-q:=by omega
  have hq4:xO-q<=9223372036854775807:=by omega
  clear xN;refine mg fun hb xw=>?_;go_wp2_with fail;refine O xw _ _ ?_;clear xw;refine mg fun hb xw=>?_;go_wp2_with fail;refine O xw _ _ ?_;clear xw;have HZO:Hid (ORow ((w1.setCell (Y g (i*6+3)) (H (xM-q))).setCell (Y w.heap.size 3) (H (xO-q))) V.heap.size (.slice (some (Y g 0)) l.length cp) (l.set i ⟨vh,vC,xv,xM-q,vB,qN⟩)):=zX (oRow_left (O kc) rfl (O HIO) (xM-q)).1 (by simp[Value.ownBlock];omega) _ _;have HZT:=U (range_left (k:=i*6+3) (x:=H (xM-q)) (y:=H (xO-q)) (O uI).1 hgS);have HZE:=U (range_far (p:=w.heap.size) (k:=3) (x:=H (xO-q)) (range_far (p:=g) (k:=i*6+3) (x:=H (xM-q)) (O HE1) (by omega)) (by omega));have aS:=U (zU (c:=w.heap.size) (j:=3) (u:=H (xO-q)) (zU (c:=g) (j:=i*6+3) (u:=H (xM-q)) (O uI).2.2.1));have bK:=U (zU (c:=w.heap.size) (j:=3) (u:=H (xO-q)) (zU (c:=g) (j:=i*6+3) (u:=H (xM-q)) (O uI).2.2.2));have HZB:=U (((O uZ).setCell (p:=(Y g (i*6+3))) (by simp;omega) (H (xM-q))).setCell (p:=(Y w.heap.size 3)) yb (H (xO-q)));have hgz:g<((w1.setCell (Y g (i*6+3)) (H (xM-q))).setCell (Y w.heap.size 3) (H (xO-q))).heap.size:=by simp[World.setCell];exact hgw
  have z3:((w1.setCell (Y g (i*6+3)) (H (xM-q))).setCell (Y w.heap.size 3) (H (xO-q))).cell? (Y g (i*6+3))=some (H (xM-q)):=(yM _ _ _ _ (fun e=>hSg (congrArg Addr.block e))).trans (yN _ _ _ c3);generalize ((w1.setCell (Y g (i*6+3)) (H (xM-q))).setCell (Y w.heap.size 3) (H (xO-q)))=h1 at HZO HZT HZE aS bK HZB hgz z3 |-;clear c3 f3 t3 s3 uI HE1 uZ kc ui HXV HCR xI HCV hgw;refine mg fun hb xw=>?_
  have HT:Hid (∀(u0 u1 u2 u3 u5 u6 u9 u12 u13 u14 u15 u16 u17 u18 u19 u20 u21 u22 u23 u24 u25 u26 u27 u28 u29 u30 u31 u32 u33 u34 u35 u36 u37 u38 u39 u40 u41 u42 u43 u44 u45 u46 u47 u48 u49 u50 u51 u52 u53 u54 u55 u56 u57 u58 u59 u60 u61 u62 u63 u64 u65 u66 u67 u68 u69 v11:Value) (Z':World),ORow Z' (w.heap.size+1+1+1) v11 (db l i ⟨vh,vC,xv,xM,vB,qN⟩ q)->yp w Z'->Z'.rangeAt w.heap.size 0 (yx uH uu uc (xO-q) ut vy)->Z'.there (w.heap.size+1) 0 6->Z'.there (w.heap.size+1+1) 0 14->Z'.rangeAt c 0 (yw 3 0 0 0 0 0 0 0 ⟨#[]⟩ uH vh q xv 0)->hb { tmps:=#[u0,u1,u2,u3,h3 w.heap.size 0,u5,u6,h3 (w.heap.size+1) 0,h3 (w.heap.size+1+1) 0,u9,h3 c 0,v11,u12,u13,u14,u15,u16,u17,u18,u19,u20,u21,u22,u23,u24,u25,u26,u27,u28,u29,u30,u31,u32,u33,u34,u35,u36,u37,u38,u39,u40,u41,u42,u43,u44,u45,u46,u47,u48,u49,u50,u51,u52,u53,u54,u55,u56,u57,u58,u59,u60,u61,u62,u63,u64,u65,u66,u67,u68,u69],defers:=[] } Z'):=by
   intro u0 u1 u2 u3 u5 u6 u9 u12 u13 u14 u15 u16 u17 u18 u19 u20 u21 u22 u23 u24 u25 u26 u27 u28 u29 u30 u31 u32 u33 u34 u35 u36 u37 u38 u39 u40 u41 u42 u43 u44 u45 u46 u47 u48 u49 u50 u51 u52 u53 u54 u55 u56 u57 u58 u59 u60 u61 u62 u63 u64 u65 u66 u67 u68 u69 v11 Z' hO hB hT Z Q hE;refine O xw _ _ ?_;have HO:=U hO;have HB:=U hB;have pK:=U hT;have HE:=U hE;have HH1:=U Z;have HH2:=U Q;clear hO hB hT hE Z Q xw;obtain⟨V0,aW⟩:∃V:World,V = { Z' with drawn:=Z'.drawn+1 }:=⟨_,rfl⟩;have HO:Hid (ORow V0 (w.heap.size+1+1+1) v11 (db l i ⟨vh,vC,xv,xM,vB,qN⟩ q)):=by rw[aW];exact O HO
   have HB:Hid (yp w V0):=by rw[aW];exact(O HB).trans ⟨rfl,rfl,rfl,Nat.le_refl _,fun _ _=>rfl⟩
   have pK:Hid (V0.rangeAt w.heap.size 0 (yx uH uu uc (xO-q) ut vy)):=by rw[aW];exact O pK
   have HE:Hid (V0.rangeAt c 0 (yw 3 0 0 0 0 0 0 0 ⟨#[]⟩ uH vh q xv 0)):=by rw[aW];exact O HE
   have HH1:Hid (V0.there (w.heap.size+1) 0 6):=by rw[aW];exact O HH1
   have HH2:Hid (V0.there (w.heap.size+1+1) 0 14):=by rw[aW];exact O HH2
   obtain⟨V1,kB⟩:∃V:World,V=V0.setCells (w.heap.size+1) 0 (yx uH uu uc (xO-q) ut vy):=⟨_,rfl⟩;obtain⟨V2,pB⟩:∃V:World,V=V1.setCells (w.heap.size+1+1) 0 (yw 3 0 0 0 0 0 0 0 ⟨#[]⟩ uH vh q xv 0):=⟨_,rfl⟩;have kc:Hid (ORow V1 (w.heap.size+1+1+1) v11 (db l i ⟨vh,vC,xv,xM,vB,qN⟩ q)):=by rw[kB];exact iy (by omega) _ _ _ (O HO)
   have ui:Hid (yp w V1):=by rw[kB];exact zj _ (by omega) _ _ _ (O HB)
   have vO:Hid (V1.rangeAt (w.heap.size+1) 0 (yx uH uu uc (xO-q) ut vy)):=by rw[kB];exact yY V0 _ 0 _ (fun j hj=>O HH1 j hj)
   have HE1:Hid (V1.rangeAt c 0 (yw 3 0 0 0 0 0 0 0 ⟨#[]⟩ uH vh q xv 0)):=by rw[kB];exact lD (O HE) (by omega)
   have HH3:Hid (V1.there (w.heap.size+1+1) 0 14):=by rw[kB];exact xc (O HH2) _ _ _
   have HOE:Hid (ORow V2 w.heap.size v11 (db l i ⟨vh,vC,xv,xM,vB,qN⟩ q)):=by rw[pB];exact fM (iy (by omega) _ _ _ (O kc)) (by omega)
   have uC:Hid (yp w V2):=by rw[pB];exact zj _ (by omega) _ _ _ (O ui)
   have oR:Hid (V2.rangeAt (w.heap.size+1+1) 0 (yw 3 0 0 0 0 0 0 0 ⟨#[]⟩ uH vh q xv 0)):=by rw[pB];exact yY V1 _ 0 _ (fun j hj=>O HH3 j hj)
   have vO:Hid (V2.rangeAt (w.heap.size+1) 0 (yx uH uu uc (xO-q) ut vy)):=by rw[pB];exact lD (O vO) (by omega)
   have HV0:=U aW;have HV1:=U kB;have HV2:=U pB;clear aW kB pB HO HB kc ui;go_wp2_with fail;refine zA (R8A (fun f=>{ tmps:=#[u0,u1,u2,u3,h3 w.heap.size 0,u5,f 3,h3 (w.heap.size+1) 0,h3 (w.heap.size+1+1) 0,u9,h3 c 0,v11,u12,u13,u14,u15,u16,u17,u18,u19,u20,u21,u22,u23,u24,u25,u26,u27,u28,u29,u30,u31,u32,u33,u34,u35,u36,u37,u38,u39,u40,u41,u42,u43,u44,u45,u46,u47,u48,u49,u50,u51,u52,u53,u54,u55,u56,u57,u58,u59,u60,u61,u62,u63,u64,u65,u66,f 0,f 1,f 2],defers:=[] }) v11 (.agg (yx uH uu uc (xO-q) ut vy).toArray) (.agg (yw 3 0 0 0 0 0 0 0 ⟨#[]⟩ uH vh q xv 0).toArray) V0 V1 V2) (by kernel_rfl) ?_ ?_ ?_
   ·exact⟨fun j=>if j=3 then u6 else if j=0 then u67 else if j=1 then u68 else u69,rfl,⟨by simp,by simp,by simp,by simp,by simp,fun _=>(O HV0).symm,by simp,by simp⟩⟩
   ·rintro x md V' ⟨f,rfl,hR⟩ hx xY;have xq:=fo xY hx (by kernel_rfl);have e3:=hR.f3 (xq 3 (by simp));have eW:=hR.s2 (xq 4 (by simp)) (xq 5 (by simp));subst eW;simp only[e3];clear hR xq e3 xY hx;obtain⟨d0,d1,d2,d3,d4,d5⟩:=yD (O vO);obtain⟨e0,e1,e2,e3,e4,e5,e6,e7,e8,e9,vQ,vY,qq,qF⟩:=yG (O oR);go_wp2_with fail
    try simp only[Exit.inBlock,Exit.then]
    refine bodyPost_ret (by simp[results,Tryz.results56,go_sem,d0,d1,d2,d3,d4,d5,e0,e1,e2,e3,e4,e5,e6,e7,e8,e9,vQ,vY,qq,qF];try rfl) rfl ?_;exact⟨v11,rfl,O HOE,O uC⟩
   ·rintro x md V' i' o' ⟨f,rfl,hR⟩ xo hx D xA X
    have n5:i'<5->x[5]? = some false:=fun xK=>by
     rcases fD hx (show 5<6 by omega) with h|h
     ·exact h
     ·have:=xo 5 _ rfl h ⟨i',.phase⟩ (by rcases(by omega:i'=0\/i'=1\/i'=2\/i'=3\/i'=4) with rfl|rfl|rfl|rfl|rfl <;> simp) rfl;rw[xA] at this;cases this
    have n4:i'=0\/i'=1\/i'=3->x[4]? = some false:=fun xK=>by
     rcases fD hx (show 4<6 by omega) with h|h
     ·exact h
     ·have:=xo 4 _ rfl h ⟨i',.phase⟩ (by rcases xK with rfl|rfl|rfl <;> simp) rfl;rw[xA] at this;cases this
    have xJ:=U hR;clear xo
    match i',D with
    | 0,D =>
     cases D;clear X hR;go_simp;exact⟨upd f 0 v11,by simp[upd],r8_val (O xJ) 0 _ (by omega) (fun _=>rfl) (by omega) (by omega) (by omega)⟩
    | 1,D =>
     cases D;have eV:=hR.s0 (n4 (by omega));subst eV;obtain⟨c0,c1,c2,c3,c4,c5⟩:=yD (O pK);clear X hR;go_simp;exact⟨upd f 1 (.agg (yx uH uu uc (xO-q) ut vy).toArray),by simp[upd],r8_val (O xJ) 1 _ (by omega) (by omega) (fun _=>rfl) (by omega) (by omega)⟩
    | 2,D =>
     cases D
     have qp:Hid (V'.rangeAt c 0 (yw 3 0 0 0 0 0 0 0 ⟨#[]⟩ uH vh q xv 0)):=by
      rcases fD hx (show 4<6 by omega) with h|h
      ·rw[hR.s0 h];exact O HE
      ·rw[hR.s1 h (n5 (by omega))];exact O HE1
     obtain⟨c0,c1,c2,c3,c4,c5,c6,c7,c8,c9,c10,c11,c12,c13⟩:=yG (O qp);clear X hR;go_simp;exact⟨upd f 2 (.agg (yw 3 0 0 0 0 0 0 0 ⟨#[]⟩ uH vh q xv 0).toArray),by simp[upd],r8_val (O xJ) 2 _ (by omega) (by omega) (by omega) (fun _=>rfl) (by omega)⟩
    | 3,D =>
     cases D;have g0:=hR.f0 (yf X 0 rfl);clear X hR;go_simp;exact⟨upd f 3 v11,by simp[upd,g0],r8_val (O xJ) 3 _ (by omega) (by omega) (by omega) (by omega) (fun _=>rfl)⟩
    | 4,D =>
     cases D;have g1:=hR.f1 (yf X 1 rfl);have eV:=hR.s0 xA;subst eV;have xU:=O HH1;obtain⟨y0,z0,q0⟩:=zh xU (j:=0) (by omega);obtain⟨y1,z1,q1⟩:=zh xU (j:=1) (by omega);obtain⟨y2,z2,q2⟩:=zh xU (j:=2) (by omega);obtain⟨y3,z3,q3⟩:=zh xU (j:=3) (by omega);obtain⟨y4,z4,q4⟩:=zh xU (j:=4) (by omega);obtain⟨y5,z5,q5⟩:=zh xU (j:=5) (by omega);have n5':=n5 (by omega);clear X hR xU;go_simp;have oS:=r8_4 (O xJ) xA n5'
     conv at oS=>arg 9;rw[O HV1]
     exact⟨f,by simp[g1],oS⟩
    | 5,D =>
     cases D;have g2:=hR.f2 (yf X 2 rfl);have k4:x[4]? = some true:=X ⟨4,.chain⟩ (by simp) rfl;have eV:=hR.s1 k4 xA;subst eV;have xU:=O HH3;have HR5:=U (r8_5 (O xJ) k4 xA);clear xJ hR;obtain⟨y0,z0,q0⟩:=zh xU (j:=0) (by omega);obtain⟨y1,z1,q1⟩:=zh xU (j:=1) (by omega);obtain⟨y2,z2,q2⟩:=zh xU (j:=2) (by omega);obtain⟨y3,z3,q3⟩:=zh xU (j:=3) (by omega);obtain⟨y4,z4,q4⟩:=zh xU (j:=4) (by omega);obtain⟨y5,z5,q5⟩:=zh xU (j:=5) (by omega);obtain⟨y6,z6,q6⟩:=zh xU (j:=6) (by omega);obtain⟨y7,z7,q7⟩:=zh xU (j:=7) (by omega);obtain⟨y8,z8,q8⟩:=zh xU (j:=8) (by omega);obtain⟨y9,z9,q9⟩:=zh xU (j:=9) (by omega);obtain⟨cE,kI,q10⟩:=zh xU (j:=10) (by omega);obtain⟨y11,ox,q11⟩:=zh xU (j:=11) (by omega);obtain⟨y12,oO,q12⟩:=zh xU (j:=12) (by omega);obtain⟨y13,z13,q13⟩:=zh xU (j:=13) (by omega);have hsf:=sfl;clear X xU;go_simp;have HR6:=O HR5
     conv at HR6=>arg 9;rw[O HV2]
     exact⟨upd f 5 (.agg (yw 3 0 0 0 0 0 0 0 ⟨#[]⟩ uH vh q xv 0).toArray),by simp[upd,g2],HR6⟩
    | i'+6,D=>simp at D
  clear xw
  by_cases hz:xM-q=0
  ·have b0:(xM-q==0)=true:=by simpa using hz
   have HH:=U (hit_same (l:=l) (i:=i) (o:=⟨vh,vC,xv,xM,vB,qN⟩) hz);clear hz;generalize hleft:l.set i ⟨vh,vC,xv,xM-q,vB,qN⟩=left at HZO HH;have jf:left.length=l.length:=by rw[<- hleft,List.length_set]
   clear hleft
   have HC7:Hid (∀j c,left[j]? = some c->h1.rangeAt g (0+j*6) c.vs):=fun j c hj=>by
    have:=(ie (O HZO) (by omega) hj).1;rwa[Nat.zero_add]
   have hll1:l.length<=1000:=hn;have hicp:i<=cp:=by omega
   have hi1:i+1<=l.length:=by omega
   have hi1':(i:Int)+1<=l.length:=by omega
   have hlcp:(l.length:Int)<=cp:=by omega
   have h0i:(0:Int)<=(i:Int)+1:=by omega
   go_wp2_with fail;clear z3;refine iS (R7A (.slice (some (Y g 0)) l.length cp) h1 (C7 (.slice (some (Y g 0)) l.length cp) g l.length cp i) (left.take i) (left.take i++left.drop (i+1)) (fun f=>{ tmps:=#[.slice (some (Y b off)) l.length cap,.agg (yx uH uu uc xO ut vy).toArray,H i,M,h3 w.heap.size 0,M,.slice none 0 0,h3 (w.heap.size+1) 0,h3 (w.heap.size+1+1) 0,H q,h3 c 0,f 10,h3 w.heap.size 3,H xO,.slice (some (Y b off)) l.length cap,H i,h3 b (off+i*6),h3 b (off+i*6+3),H xM,H q,u20,u21,u22,u23,u24,u25,u26,u27,u28,u29,u30,u31,u32,u33,.slice (some (Y V.heap.size 0)) 0 0,.slice (some (Y b off)) l.length cap,.slice (some (Y g 0)) l.length cp,.slice (some (Y g 0)) l.length cp,H i,h3 g (i*6),h3 g (i*6+3),H xM,H q,H (xM-q),h3 g (i*6),h3 g (i*6+3),h3 w.heap.size 3,H xO,H q,H (xO-q),h3 w.heap.size 3,.slice (some (Y g 0)) l.length cp,H i,h3 g (i*6),h3 g (i*6+3),H (xM-q),.bool true,f 0,f 1,f 2,f 3,f 4,f 5,f 6,f 7,f 8,f 9,M,M,M],defers:=[] })) (by kernel_rfl) ?_ ?_ ?_
   ·exact⟨fun j=>if j=10 then .slice (some (Y g 0)) l.length cp else M,rfl,⟨⟨rfl,rfl,rfl,Nat.le_refl _,fun _ _=>rfl⟩,fun j hj=>by rw[yJ] at hj;split at hj <;> simp at hj,fun _=>rfl,by simp,by simp,by simp,by simp,by simp,by simp,by simp⟩⟩
   ·rintro x md V' ⟨f,rfl,hR⟩ hx xY;have xq:=eM xY hx (acyc _ (by kernel_rfl));have k9:x[9]? = some true:=xq 9 (by simp);have k10:x[10]? = some true:=xq 10 (by simp);have bC:=U (hR.m9 k9);have vQ:f 10=f 9:=hR.m10 k10;have xI:=U hR.bel;simp only[vQ];clear hR xq k9 k10 vQ xY hx;have ko:=(O HZB).size;refine O HT _ _ _ _ _ _ _ _ _ _ _ _ _ _ _ _ _ _ _ _ _ _ _ _ _ _ _ _ _ _ _ _ _ _ _ _ _ _ _ _ _ _ _ _ _ _ _ _ _ _ _ _ _ _ _ _ _ _ _ _ _ _ _ _ _ _ _ (by rw[<- O HH];exact fM (O bC) (by omega)) ((O HZB).trans ((O xI).mono ko)) (zf (O HZT) (O xI) (by omega)) (zk (O aS) (O xI) (by omega)) (zk (O bK) (O xI) (by omega)) (zf (O HZE) (O xI) (by omega))
   ·rintro x md V i' o' ⟨f,rfl,hR⟩ hx D xA X;have qI:=U hR
    have n10:i'<10->x[10]? = some false:=fun xK=>by
     have jS:10<x.length:=by rw[hx];simp
     cases K:x[10]
     ·rw[yI jS,K]
     ·have:=hR.o10 (by rw[yI jS,K]) i' xK;rw[xA] at this;cases this
    match i',D with
    | 0,D =>
     cases D;clear hR X;go_simp;exact⟨upd f 0 (.slice (some (Y V.heap.size 0)) 0 0),by simp[upd],r7_0 (O qI) xA (fun _=>trivial)⟩
    | 1,D =>
     cases D;have s5:f 10 = .slice (some (Y g 0)) l.length cp:=hR.s5 (n10 (by omega));clear hR X;go_simp;exact⟨upd f 1 (.slice (some (Y g 0)) l.length cp),by simp[upd,s5],eI (O qI) 1 _ rfl (by decide) (by decide) (by decide) (by decide)⟩
    | 2,D =>
     cases D;clear hR X;go_simp;exact⟨upd f 2 (H i),by simp[upd],eI (O qI) 2 _ rfl (by decide) (by decide) (by decide) (by decide)⟩
    | 3,D =>
     cases D;have g1:C7 (.slice (some (Y g 0)) l.length cp) g l.length cp i 1 (f 1):=hR.c 1 (yf X 1 rfl);have g2:C7 (.slice (some (Y g 0)) l.length cp) g l.length cp i 2 (f 2):=hR.c 2 (yf X 2 rfl);simp only[C7] at g1 g2;clear hR X;go_simp;exact⟨upd f 3 (.slice (some (Y g 0)) i cp),by simp[upd,g1,g2],eI (O qI) 3 _ rfl (by decide) (by decide) (by decide) (by decide)⟩
    | 4,D =>
     cases D;have g3:C7 (.slice (some (Y g 0)) l.length cp) g l.length cp i 3 (f 3):=hR.c 3 (yf X 3 rfl);have k0:x[0]? = some true:=X ⟨0,.data⟩ (by simp) rfl;have HCV:Hid (∀j c,left[j]? = some c->V.rangeAt g (0+j*6) c.vs):=fun j c hj=>zf (O HC7 j c hj) hR.bel hgz;simp only[C7] at g3;clear hR X;rw[if_pos (by rfl)];refine wp_append_own V (.tmp 57) (.tmp 60) 29 rfl h1.heap.size 71 i0 _ 6 56 Tryz.underlying29 uo ub xX uh rfl (by decide) (f 0) 0 [] rfl ((O qI).m0 k0 xA) (Y g 0) i cp ((left.take i).flatMap Od.vs) g3 (by rw[dT Od.len,List.length_take];congr 1;omega) (by simpa using ia (W:=V) (g:=g) (off:=0) (l:=left) (O HCV) 0 i) (fQ _) (by unfold maxLen;omega) (by omega) (O qI).bel.size ?_;intro v' w' xu uN _;refine⟨upd f 4 v',rfl,r7_4 (O qI) k0 xA (fun _=>trivial) ?_ uN⟩;have xC:(left.take i).length=0+i:=by rw[List.length_take];omega
     show w'.ownsRow _ _ _ _ (left.take i).length _;rw[xC];simpa using xu
    | 5,D =>
     cases D;have s5:f 10 = .slice (some (Y g 0)) l.length cp:=hR.s5 (n10 (by omega));clear hR X;go_simp;exact⟨upd f 5 (.slice (some (Y g 0)) l.length cp),by simp[upd,s5],eI (O qI) 5 _ rfl (by decide) (by decide) (by decide) (by decide)⟩
    | 6,D =>
     cases D;clear hR X;go_simp;exact⟨upd f 6 (H i),by simp[upd],eI (O qI) 6 _ rfl (by decide) (by decide) (by decide) (by decide)⟩
    | 7,D =>
     cases D;have g6:C7 (.slice (some (Y g 0)) l.length cp) g l.length cp i 6 (f 6):=hR.c 6 (yf X 6 rfl);simp only[C7] at g6;have hwr:IntKind.i64.wrap ((i:Int)+1)=(i:Int)+1:=by rw[IntKind.wrap_i64];omega
     clear hR X;go_simp;exact⟨upd f 7 (H ((i:Int)+1)),by simp[upd,g6],eI (O qI) 7 _ rfl (by decide) (by decide) (by decide) (by decide)⟩
    | 8,D =>
     cases D;have g5:C7 (.slice (some (Y g 0)) l.length cp) g l.length cp i 5 (f 5):=hR.c 5 (yf X 5 rfl);have g7:C7 (.slice (some (Y g 0)) l.length cp) g l.length cp i 7 (f 7):=hR.c 7 (yf X 7 rfl);simp only[C7] at g5 g7;clear hR X
     by_cases hcp:cp=i+1
     ·subst hcp;go_simp;exact⟨upd f 8 (.slice (some (Y g 0)) (l.length-(i+1)) 0),by simp[upd,g5,g7];omega,eI (O qI) 8 _ ⟨_,_,rfl,fun h=>by omega⟩ (by decide) (by decide) (by decide) (by decide)⟩
     ·rw[if_pos (by rfl)];unfold Oper.wp;go_simp;exact⟨upd f 8 (.slice (some (Y g ((i+1)*6))) (l.length-(i+1)) (cp-(i+1))),by simp[upd,g5,g7],eI (O qI) 8 _ ⟨_,_,rfl,fun h=>rfl⟩ (by decide) (by decide) (by decide) (by decide)⟩
    | 9,D =>
     cases D;have g8:C7 (.slice (some (Y g 0)) l.length cp) g l.length cp i 8 (f 8):=hR.c 8 (yf X 8 rfl);have k4:x[4]? = some true:=X ⟨4,.data⟩ (by simp) rfl;have HCV:Hid (∀j c,left[j]? = some c->V.rangeAt g (0+j*6) c.vs):=fun j c hj=>zf (O HC7 j c hj) hR.bel hgz;obtain⟨ad8,c8,g8,had⟩:=g8;clear hR X
     have hsrc8:∀j u,((left.drop (i+1)).flatMap Od.vs)[j]? = some u->V.cell? (ad8.add j)=some u:=by
      intro j u hu
      by_cases xK:i+1<l.length
      ·rw[had xK];have:=ia (W:=V) (g:=g) (off:=0) (l:=left) (O HCV) (i+1) (l.length-(i+1)) j u (by rw[xa (by simp[jf])];exact hu);simpa using this
      ·rw[xb (by omega)] at hu;simp at hu
     rw[if_pos (by rfl)];refine wp_append_own V (.tmp 61) (.tmp 65) 29 rfl h1.heap.size 71 i0 _ 6 56 Tryz.underlying29 uo ub xX uh rfl (by decide) (f 4) (left.take i).length ((left.take i).flatMap Od.vs) rfl ((O qI).m4 k4 xA) ad8 (l.length-(i+1)) c8 ((left.drop (i+1)).flatMap Od.vs) g8 (by rw[dT Od.len,List.length_drop,jf]) hsrc8 (fQ _) (by unfold maxLen;rw[List.length_take];omega) (by rw[List.length_take];omega) (O qI).bel.size ?_;intro v' w' xu uN _;refine⟨upd f 9 v',rfl,r7_9 (O qI) k4 xA (fun _=>trivial) ?_ uN⟩;show w'.ownsRow _ _ _ _ (left.take i++left.drop (i+1)).length _;rw[yQ,List.length_drop,jf,List.flatMap_append];exact xu
    | 10,D =>
     cases D
     have hA:∀j,j<10->x[j]? = some true:=fun j hj=>X ⟨j,.phase⟩ (by
      match j,hj with
      | 0,_=>simp
      | 1,_=>simp
      | 2,_=>simp
      | 3,_=>simp
      | 4,_=>simp
      | 5,_=>simp
      | 6,_=>simp
      | 7,_=>simp
      | 8,_=>simp
      | 9,_=>simp
      | n+10,h=>omega) rfl
     clear hR X;go_simp;exact⟨upd f 10 (f 9),by simp[upd],r7_10 (O qI) hA xA (fun _=>trivial)⟩
    | n+11,D=>simp at D
  ·have b0:(xM-q==0)=false:=by simpa using hz
   have HH:=U (hit_less (l:=l) (i:=i) (o:=⟨vh,vC,xv,xM,vB,qN⟩) hz);clear hz;go_wp2_with fail;refine O HT _ _ _ _ _ _ _ _ _ _ _ _ _ _ _ _ _ _ _ _ _ _ _ _ _ _ _ _ _ _ _ _ _ _ _ _ _ _ _ _ _ _ _ _ _ _ _ _ _ _ _ _ _ _ _ _ _ _ _ _ _ _ _ _ _ _ _ (by rw[<- O HH];exact fM (O HZO) (by omega)) (O HZB) (O HZT) (O aS) (O bK) (O HZE)
 ·rintro x md V i' o' ⟨f,rfl,xl,hD⟩ xo hx D xA X
  have n15':i'<15->¬ x[15]? = some true:=fun xK jF=>by
   have qW:∀j,j<15->x[j]? = some true:=fun j hj=>xo 15 _ rfl jF ⟨j,.phase⟩ (by
    rcases(by omega:j=0\/j=1\/j=2\/j=3\/j=4\/j=5\/j=6\/j=7\/j=8\/j=9\/j=10\/j=11\/j=12\/j=13\/j=14) with rfl|rfl|rfl|rfl|rfl|rfl|rfl|rfl|rfl|rfl|rfl|rfl|rfl|rfl|rfl <;> simp) rfl
   rw[qW i' xK] at xA;cases xA
  clear xo;have xI:=U xl;have HD:=U hD;have hS1:=O oT;have jk:b<ya.heap.size:=by omega
  have z0:V.cell? (Y w.heap.size 0)=some (H uH):=zf (O uI).1 xl (by omega) 0 _ rfl;have o0:V.cell? (Y b (off+i*6))=some (H vh):=zf (O HC1 i _ (O HIO)) xl jk 0 _ rfl;have o2:V.cell? (Y b (off+i*6+2))=some (H xv):=zf (O HC1 i _ (O HIO)) xl jk 2 _ rfl;clear xw hS1
  match i',D with
  | 0,D =>
   cases D;clear X hD xl;go_simp;exact⟨upd f 0 (h3 w.heap.size 0),by simp[upd],zx (O xI) (O HD) (by decide) rfl⟩
  | 1,D =>
   cases D;have g0:f 0=h3 w.heap.size 0:=hD 0 (yf X 0 rfl);clear X hD xl;go_simp;exact⟨upd f 1 (H uH),by simp[upd,g0],zx (O xI) (O HD) (by decide) rfl⟩
  | 2,D|8,D =>
   cases D;clear X hD xl;go_simp;exact⟨upd f _ (.slice (some (Y b off)) l.length cap),by simp[upd],zx (O xI) (O HD) (by decide) rfl⟩
  | 3,D|9,D =>
   cases D;clear X hD xl;go_simp;exact⟨upd f _ (H i),by simp[upd],zx (O xI) (O HD) (by decide) rfl⟩
  | 4,D =>
   cases D;have g2:f 2 = .slice (some (Y b off)) l.length cap:=hD 2 (yf X 2 rfl);have g3:f 3=H i:=hD 3 (yf X 3 rfl);clear X hD xl;go_simp;exact⟨upd f 4 (h3 b (off+i*6)),by simp[upd,g2,g3],zx (O xI) (O HD) (by decide) rfl⟩
  | 5,D =>
   cases D;have g4:f 4=h3 b (off+i*6):=hD 4 (yf X 4 rfl);clear X hD xl;go_simp;exact⟨upd f 5 (h3 b (off+i*6)),by simp[upd,g4],zx (O xI) (O HD) (by decide) rfl⟩
  | 6,D =>
   cases D;have g5:f 5=h3 b (off+i*6):=hD 5 (yf X 5 rfl);clear X hD xl;go_simp;exact⟨upd f 6 (H vh),by simp[upd,g5],zx (O xI) (O HD) (by decide) rfl⟩
  | 7,D =>
   cases D;clear X hD xl;go_simp;exact⟨upd f 7 (H q),by simp[upd],zx (O xI) (O HD) (by decide) rfl⟩
  | 10,D =>
   cases D;have g8:f 8 = .slice (some (Y b off)) l.length cap:=hD 8 (yf X 8 rfl);have g9:f 9=H i:=hD 9 (yf X 9 rfl);clear X hD xl;go_simp;exact⟨upd f 10 (h3 b (off+i*6)),by simp[upd,g8,g9],zx (O xI) (O HD) (by decide) rfl⟩
  | 11,D =>
   cases D;have kN:f 10=h3 b (off+i*6):=hD 10 (yf X 10 rfl);clear X hD xl;go_simp;exact⟨upd f 11 (h3 b (off+i*6+2)),by simp[upd,kN],zx (O xI) (O HD) (by decide) rfl⟩
  | 12,D =>
   cases D;have jR:f 11=h3 b (off+i*6+2):=hD 11 (yf X 11 rfl);clear X hD xl;go_simp;exact⟨upd f 12 (H xv),by simp[upd,jR],zx (O xI) (O HD) (by decide) rfl⟩
  | 13,D =>
   cases D;have g1:f 1=H uH:=hD 1 (yf X 1 rfl);have g6:f 6=H vh:=hD 6 (yf X 6 rfl);have g7:f 7=H q:=hD 7 (yf X 7 rfl);have ql:f 12=H xv:=hD 12 (yf X 12 rfl);clear X hD xl;go_simp;exact⟨upd f 13 (.agg (yw 3 0 0 0 0 0 0 0 ⟨#[]⟩ uH vh q xv 0).toArray),by simp[upd,g1,g6,g7,ql],zx (O xI) (O HD) (by decide) rfl⟩
  | 14,D =>
   cases D;have n15:=n15' (by omega);clear X hD xl;go_simp;have xF:=mc V (me (yw 0 0 0 0 0 0 0 0 ⟨#[]⟩ 0 0 0 0 0).toArray 78);exact⟨upd f 14 (h3 V.heap.size 0),by simp[upd],eX (O xI) (O HD) xF (by decide) (dh_grow xF) ⟨V.heap.size,rfl,(O xI).size,by rw[zi];omega,zM V (yw 0 0 0 0 0 0 0 0 ⟨#[]⟩ 0 0 0 0 0) _,fun h=>absurd h n15⟩⟩
  | 15,D =>
   cases D;have pA:f 13 = .agg (yw 3 0 0 0 0 0 0 0 ⟨#[]⟩ uH vh q xv 0).toArray:=hD 13 (yf X 13 rfl);obtain⟨c,bP,jT,jX,aj,-⟩:=hD 14 (yf X 14 rfl);have HCT:=U aj;obtain⟨y0,z20,n20⟩:=zh aj (j:=0) (by omega);obtain⟨y1,z21,n21⟩:=zh aj (j:=1) (by omega);obtain⟨y2,z22,n22⟩:=zh aj (j:=2) (by omega);obtain⟨y3,z23,n23⟩:=zh aj (j:=3) (by omega);obtain⟨y4,z24,n24⟩:=zh aj (j:=4) (by omega);obtain⟨y5,z25,n25⟩:=zh aj (j:=5) (by omega);obtain⟨y6,z26,n26⟩:=zh aj (j:=6) (by omega);obtain⟨y7,z27,n27⟩:=zh aj (j:=7) (by omega);obtain⟨y8,z28,n28⟩:=zh aj (j:=8) (by omega);obtain⟨y9,z29,n29⟩:=zh aj (j:=9) (by omega);obtain⟨cE,z30,n30⟩:=zh aj (j:=10) (by omega);obtain⟨y11,z31,n31⟩:=zh aj (j:=11) (by omega);obtain⟨y12,z32,n32⟩:=zh aj (j:=12) (by omega);obtain⟨y13,z33,n33⟩:=zh aj (j:=13) (by omega);have hsf:=sfl;clear X hD xl aj;go_simp;refine⟨upd f 15 M,by simp[upd,pA,bP],rgx_last (zj c jT (yw 3 0 0 0 0 0 0 0 ⟨#[]⟩ uH vh q xv 0) 0 V (O xI)) (O HD) xA (fun j hj hxj h=>dh_last j hj h (fun hj14=>?_)) trivial⟩;subst hj14;refine⟨c,bP,jT,by rw[gw];exact jX,xc (O HCT) _ _ _,fun _=>yY V c 0 _ (fun j hj=>O HCT j hj)⟩
  | n+16,D=>simp at D
theorem lq {B b:Nat}{v:Value}{l:List Ev}(K:some b≠v.ownBlock):∀(vs:List Value) (o:Nat) (W:World),ERow W B v l->ERow (W.setCells b o vs) B v l
 | [],_,_,h=>h
 | u::us,o,W,h=>by rw[World.setCells];exact lq K us (o+1) _ (zX h K o u)
def MaI (c:Cm)(next:Int)(w:World)(v:Value)(l:List Od)(tt:Int)(hg:List Od × Int × List Ev)(m:Nat)(lv ev kv:Value)(wr:World):Prop:=
 ∃(l':List Od) (left:Int) (ts:List Ev) (k:Int),kv=H k/\((lv=v/\l'=l)\/ORow wr (w.heap.size+1+1) lv l')/\ERow wr (w.heap.size+1+1) ev ts/\NexS l' ⟨next,c.s,tt,left,c.l,c.g⟩ k/\MI c next hg l' left ts /\
  wr.rangeAt w.heap.size 0 [H next,H c.s,H tt,H left,H c.l,yl c.g]/\wr.there w.heap.size 0 6/\wr.there (w.heap.size+1) 0 6/\yp w wr/\w.heap.size+1+1<=wr.heap.size/\2*l'.length+(if 0<left then 1 else 0)<=m
theorem ma_end {c:Cm}{next tt:Int}{hg:List Od × Int × List Ev}{l':List Od}{left:Int}{ts:List Ev}(htt:tt=tkS c.p)(hs:c.s=1\/c.s=2)(hp:prcB c=true)(hm:MI c next hg l' left ts)(h:left=0\/dv l' (othS c.s)=none \/ ∃o,dv l' (othS c.s)=some o/\fc c.s tt o=false):hg=(l',left,ts):=by
 subst htt;rcases h with h|h|⟨o,h,Q⟩
 ·exact mi_done hm (by omega)
 ·exact mi_none hm h
 ·rw[cross_meet hp] at Q;exact mi_stop hm h Q
def MatEnd (w:World)(v:Value)(l:List Od)(w':World)(v' ve:Value)(hg:List Od × Int × List Ev):Prop:=
 ((v'=v/\hg.1=l)\/ORow w' w.heap.size v' hg.1)/\ERow w' w.heap.size ve hg.2.2/\yp w w'
theorem eRow_base {W:World}{B B':Nat}{v:Value}{l:List Ev}(h:ERow W B v l)(hB:B'<=B):ERow W B' v l:=
 ⟨h.1,by
  rcases h.2 with h|⟨g',c',xt,Z,Q,I⟩
  ·exact .inl h
  ·exact .inr ⟨g',c',xt,Z,yO hB Q,I⟩⟩
theorem l04Match_any (v:Value)(l:List Od)(c:Cm)(next:Int)(w:World)(hr:RdR Od.vs 6 w v l)(F:GoodL l)(hs:c.s=1\/c.s=2)(hp:prcB c=true)(aE:0<=c.q)(aG:c.q<=1000000) :
  Calls Tryz.prog 33 #[v,.agg #[H next,H c.s,H (tkS c.p),H c.q,H c.l,yl c.g]] w fun e w'=>∃v' ve,e = .returned (.tuple #[v',.agg #[H next,H c.s,H (tkS c.p),H (matL c next 21 l c.q []).2.1,H c.l,yl c.g],ve])/\MatEnd w v l w' v' ve (matL c next 21 l c.q []):=by
 obtain⟨i0,uo,ub,xX,uh⟩:=info_parts infoEv;have HMI0:=U (mi_start (c:=c) (id:=next) F aE aG);have HR:=U hr;have kK:=U F;have HS:=U hs;have HP:=U hp;generalize htt:tkS c.p=tt;have pK:=U htt.symm;generalize matL c next 21 l c.q []=hg at HMI0 |-;obtain⟨a,cap,rfl,xC,hc⟩:=hr;obtain⟨ck,cs,ct,cl,cq,ci,cp,cg⟩:=c;simp only at hs aE aG htt pK HS |-;clear hc F hp xC htt;have xG:=zi w (Obj.cells #[H next,H cs,H tt,H cq,H cl,yl cg] 71);have ug:((w.alloc (Obj.cells #[H next,H cs,H tt,H cq,H cl,yl cg] 71)).alloc (Obj.cells #[H 0,H 0,H 0,H 0,H 0,yl ⟨#[]⟩] 71)).heap.size=w.heap.size+1+1:=by rw[zi,xG]
 have qv:(((w.alloc (Obj.cells #[H next,H cs,H tt,H cq,H cl,yl cg] 71)).alloc (Obj.cells #[H 0,H 0,H 0,H 0,H 0,yl ⟨#[]⟩] 71)).alloc (Obj.cells #[] 78)).heap.size=w.heap.size+1+1+1:=by rw[zi,ug]
 have r1:=zm w [H next,H cs,H tt,H cq,H cl,yl cg] 71;have t1:=zM w [H next,H cs,H tt,H cq,H cl,yl cg] 71;have t2:=zM (w.alloc (Obj.cells #[H next,H cs,H tt,H cq,H cl,yl cg] 71)) [H 0,H 0,H 0,H 0,H 0,yl ⟨#[]⟩] 71;rw[xG] at t2;have e3:=World.ownsRow_made (base:=w.heap.size+1+1) (e:=78) (size:=14) ((w.alloc (Obj.cells #[H next,H cs,H tt,H cq,H cl,yl cg] 71)).alloc (Obj.cells #[H 0,H 0,H 0,H 0,H 0,yl ⟨#[]⟩] 71)) #[] 0 (by omega) (by decide) rfl;rw[ug] at e3;have b1:=mc w (Obj.cells #[H next,H cs,H tt,H cq,H cl,yl cg] 71);have b2:Below (w.heap.size+1) (w.alloc (Obj.cells #[H next,H cs,H tt,H cq,H cl,yl cg] 71)) ((w.alloc (Obj.cells #[H next,H cs,H tt,H cq,H cl,yl cg] 71)).alloc (Obj.cells #[H 0,H 0,H 0,H 0,H 0,yl ⟨#[]⟩] 71)):=(Below.refl _ _).alloc (by omega) _;have b3:Below (w.heap.size+1+1) ((w.alloc (Obj.cells #[H next,H cs,H tt,H cq,H cl,yl cg] 71)).alloc (Obj.cells #[H 0,H 0,H 0,H 0,H 0,yl ⟨#[]⟩] 71)) (((w.alloc (Obj.cells #[H next,H cs,H tt,H cq,H cl,yl cg] 71)).alloc (Obj.cells #[H 0,H 0,H 0,H 0,H 0,yl ⟨#[]⟩] 71)).alloc (Obj.cells #[] 78)):=(Below.refl _ _).alloc (by omega) _;have b23:=b2.trans (b3.mono (by omega));have HX:Hid (_/\_/\_/\_):=⟨zf r1 b23 (by omega),zk t1 b23 (by omega),zk t2 b3 (by omega),e3⟩;have xL:=U (b1.trans (b23.mono (by omega)));have jz:=U qv;clear xG ug qv r1 t1 t2 b1 b2 b3 b23 e3;go_enter Tryz.func33,Tryz.ntmps33;refine mg fun hb xw=>?_;go_wp2_with fail;refine O xw _ _ ?_;clear xw;refine mg fun hb xw=>?_;go_wp2_with fail;refine O xw _ _ ?_;clear xw;generalize (((w.alloc (Obj.cells #[H next,H cs,H tt,H cq,H cl,yl cg] 71)).alloc (Obj.cells #[H 0,H 0,H 0,H 0,H 0,yl ⟨#[]⟩] 71)).alloc (Obj.cells #[] 78))=xh at HX xL jz |-;have HX:Hid (xh.rangeAt w.heap.size 0 [H next,H cs,H tt,H cq,H cl,yl cg]/\xh.there w.heap.size 0 6/\xh.there (w.heap.size+1) 0 6/\xh.ownsRow (w.heap.size+1+1) 78 14 (.slice (some (Y (w.heap.size+1+1) 0)) 0 0) 0 []):=O HX;obtain⟨c0,c1,c2,c3,c4,c5⟩:=yD (O HX).1;go_wp2_with fail;refine(l04Next_any _ l ⟨next,cs,tt,cq,cl,cg⟩ xh (zq (O HR) (O xL) yb) (O kK).rise (by have:=(O kK).len;omega) (O HS)).mono ?_;rintro e w2 ⟨k,rfl,qu,xy⟩
 have vS:Hid (MaI ⟨ck,cs,ct,cl,cq,ci,cp,cg⟩ next w (.slice a l.length cap) l tt hg (2*l.length+1) (.slice a l.length cap) (.slice (some (Y (w.heap.size+1+1) 0)) 0 0) (H k) w2):=by
  have qv:=O jz;refine⟨l,cq,[],k,rfl,.inl ⟨rfl,rfl⟩,?_,qu,O HMI0,zf (O HX).1 xy (by omega),zk (O HX).2.1 xy (by omega),zk (O HX).2.2.1 xy (by omega),(O xL).trans (xy.mono (O xL).size),by have:=xy.size;omega,by split <;> omega⟩;exact zO (l:=[]) (O HX).2.2.2 xy
 clear qu xy c0 c1 c2 c3 c4 c5 HX xL jz HMI0;go_wp2_with fail
 go_loopg [0,7,8] (2*l.length+1) (fun m lv ev kv wr=>MaI ⟨ck,cs,ct,cl,cq,ci,cp,cg⟩ next w (.slice a l.length cap) l tt hg m lv ev kv wr)
 case atStart=>exact O vS
 case round =>
  obtain⟨l',left,ts,kx,rfl,hlv,her,qu,bZ,hrt,ht0,ht1,oY,ko,hme⟩:=hrel;have cF:=U her;have HMI:=U bZ;have pJ:=U hrt;have HT0:=U ht0;have ke:=U ht1;have uZ:=U oY;have kS:=U hlv
  have qj:Hid (RdR Od.vs 6 wr u0 l'):=by
   rcases hlv with⟨rfl,rfl⟩|h
   ·exact zq (O HR) oY yb
   ·exact zZ h (by have:=bZ.good.len;omega)
  have xC:=bZ.good.len;have oJ:=bZ.l0;have hl1:=bZ.l1;have hfew:=bZ.few;clear her hrt ht0 ht1 oY vS hlv;rcases qu with⟨rfl,vE⟩|⟨i,o,rfl,hi,oA,hfo,hcr,aZ⟩
  ·have HF:=U (ma_end (O pK) (O HS) (O HP) bZ vE);clear vE bZ;go_wp2_with fail;obtain⟨V0,aW⟩:∃V:World,V = { wr with drawn:=wr.drawn+1 }:=⟨_,rfl⟩;have kS:Hid ((u0 = .slice a l.length cap/\l'=l)\/ORow V0 (w.heap.size+1+1) u0 l'):=by rw[aW];exact O kS
   have cF:Hid (ERow V0 (w.heap.size+1+1) u7 ts):=by rw[aW];exact O cF
   have pJ:Hid (V0.rangeAt w.heap.size 0 [H next,H cs,H tt,H left,H cl,yl cg]):=by rw[aW];exact O pJ
   have ke:Hid (V0.there (w.heap.size+1) 0 6):=by rw[aW];exact O ke
   have uZ:Hid (yp w V0):=by rw[aW];exact(O uZ).trans ⟨rfl,rfl,rfl,Nat.le_refl _,fun _ _=>rfl⟩
   obtain⟨V1,kB⟩:∃V:World,V=V0.setCells (w.heap.size+1) 0 [H next,H cs,H tt,H left,H cl,yl cg]:=⟨_,rfl⟩;have vO:Hid (V1.rangeAt (w.heap.size+1) 0 [H next,H cs,H tt,H left,H cl,yl cg]):=by rw[kB];exact yY V0 _ 0 _ (fun j hj=>O ke j hj)
   have xr:Hid (MatEnd w (.slice a l.length cap) l V1 u0 u7 hg):=by
    rw[O HF];refine⟨?_,?_,?_⟩
    ·rcases O kS with h|h
     ·exact .inl h
     ·exact .inr (by rw[kB];exact fM (iy (by omega) _ _ _ h) (by omega))
    ·rw[kB];refine eRow_base (lq (fun e=>?_) _ _ _ (O cF)) (show w.heap.size<=w.heap.size+1+1 by omega);have:=((O cF).lt _ e.symm).1;omega
    ·rw[kB];exact zj _ (by omega) _ _ _ (O uZ)
   have HFL:Hid (hg.2.1=left):=by show _ = _;rw[O HF]
   have HV0:=U aW;have HV1:=U kB;clear aW kB kS cF uZ;refine zA (R8A (fun f=>{ tmps:=#[u0,.agg #[H next,H cs,H tt,H cq,H cl,yl cg],M,h3 w.heap.size 0,f 3,h3 (w.heap.size+1) 0,f 5,u7,H (-1),u9,.slice (some (Y (w.heap.size+1+1) 0)) 0 0,.slice a l.length cap,.agg #[H next,H cs,H tt,H cq,H cl,yl cg],H k,H (-1),.bool false,u16,u17,u18,u19,u20,u21,u22,u23,u24,u25,u26,u27,u28,u29,u30,u31,f 0,f 1,f 2],defers:=[] }) u0 (.agg #[H next,H cs,H tt,H left,H cl,yl cg]) u7 V0 V1 V1) (by kernel_rfl) ?_ ?_ ?_
   ·exact⟨fun j=>if j=3 then .slice none 0 0 else if j=5 then .slice none 0 0 else M,rfl,⟨by simp,by simp,by simp,by simp,by simp,fun _=>(O HV0).symm,by simp,by simp⟩⟩
   ·rintro x md V' ⟨f,rfl,hR⟩ hx xY;have xq:=fo xY hx (by kernel_rfl);have e3:=hR.f3 (xq 3 (by simp));have e5:=hR.f5 (xq 5 (by simp));have eW:=hR.s2 (xq 4 (by simp)) (xq 5 (by simp));subst eW;simp only[e3,e5];clear hR xq e3 e5 xY hx;obtain⟨d0,d1,d2,d3,d4,d5⟩:=yD (O vO);go_wp2_with fail
    try simp +zetaDelta only[Exit.noGoto_ret]
    try simp only[Exit.inBlock,Exit.then]
    refine bodyPost_ret (by simp[results,Tryz.results33,go_sem,d0,d1,d2,d3,d4,d5];try rfl) rfl ?_;exact⟨u0,u7,by rw[O HFL],O xr⟩
   ·rintro x md V' i' o' ⟨f,rfl,hR⟩ xo hx D xA X
    have n5:i'<5->x[5]? = some false:=fun xK=>by
     rcases fD hx (show 5<6 by omega) with h|h
     ·exact h
     ·have:=xo 5 _ rfl h ⟨i',.phase⟩ (by rcases(by omega:i'=0\/i'=1\/i'=2\/i'=3\/i'=4) with rfl|rfl|rfl|rfl|rfl <;> simp) rfl;rw[xA] at this;cases this
    have n4:i'=0\/i'=1\/i'=3->x[4]? = some false:=fun xK=>by
     rcases fD hx (show 4<6 by omega) with h|h
     ·exact h
     ·have:=xo 4 _ rfl h ⟨i',.phase⟩ (by rcases xK with rfl|rfl|rfl <;> simp) rfl;rw[xA] at this;cases this
    have xJ:=U hR;clear xo
    match i',D with
    | 0,D =>
     cases D;clear X hR;go_simp;exact⟨upd f 0 u0,by simp[upd],r8_val (O xJ) 0 _ (by omega) (fun _=>rfl) (by omega) (by omega) (by omega)⟩
    | 1,D =>
     cases D;have eV:=hR.s0 (n4 (by omega));subst eV;obtain⟨c0,c1,c2,c3,c4,c5⟩:=yD (O pJ);clear X hR;go_simp;exact⟨upd f 1 (.agg #[H next,H cs,H tt,H left,H cl,yl cg]),by simp[upd],r8_val (O xJ) 1 _ (by omega) (by omega) (fun _=>rfl) (by omega) (by omega)⟩
    | 2,D =>
     cases D;clear X hR;go_simp;exact⟨upd f 2 u7,by simp[upd],r8_val (O xJ) 2 _ (by omega) (by omega) (by omega) (fun _=>rfl) (by omega)⟩
    | 3,D =>
     cases D;have g0:=hR.f0 (yf X 0 rfl);clear X hR;go_simp;exact⟨upd f 3 u0,by simp[upd,g0],r8_val (O xJ) 3 _ (by omega) (by omega) (by omega) (by omega) (fun _=>rfl)⟩
    | 4,D =>
     cases D;have g1:=hR.f1 (yf X 1 rfl);have eV:=hR.s0 xA;subst eV;have xU:=O ke;obtain⟨y0,z0,q0⟩:=zh xU (j:=0) (by omega);obtain⟨y1,z1,q1⟩:=zh xU (j:=1) (by omega);obtain⟨y2,z2,q2⟩:=zh xU (j:=2) (by omega);obtain⟨y3,z3,q3⟩:=zh xU (j:=3) (by omega);obtain⟨y4,z4,q4⟩:=zh xU (j:=4) (by omega);obtain⟨y5,z5,q5⟩:=zh xU (j:=5) (by omega);have n5':=n5 (by omega);clear X hR xU;go_simp;have oS:=r8_4 (O xJ) xA n5'
     conv at oS=>arg 9;rw[O HV1]
     exact⟨f,by simp[g1],oS⟩
    | 5,D =>
     cases D;have g2:=hR.f2 (yf X 2 rfl);have k4:x[4]? = some true:=X ⟨4,.chain⟩ (by simp) rfl;have eV:=hR.s1 k4 xA;subst eV;have HR5:=r8_5 (O xJ) k4 xA;clear X hR;go_simp;exact⟨upd f 5 u7,by simp[upd,g2],HR5⟩
    | i'+6,D=>simp at D
  ·have h0:0<left:=by simp only at aZ;omega
   obtain⟨k2,_,hk2,hmi2,hme2⟩:=mi_step bZ h0 hfo (by rw[<- cross_meet (O HP),<- O pK];exact hcr);obtain rfl:i=k2:=rise_id bZ.good.rise oA hk2 rfl;have D:=bZ.good.left o (yP oA);have HMI2:=U hmi2;have HIO:=U oA;clear hmi2 bZ hfo hcr aZ hk2 oA;have hii:(0:Int)<=i:=by omega
   refine mg fun hb xw=>?_;go_wp2_with fail;refine O xw _ _ ?_;clear xw;refine mg fun hb xw=>?_;refine wp_block ?_;refine mg fun K2 kL=>?_;have hsf:=sfl;go_wp2_with fail;refine O kL _ _ ?_;clear kL;have jk:=mc wr (Obj.cells #[H 0,H 0,H 0,H 0,H 0,H 0,H 0,yk 0,yl ⟨#[]⟩,H 0,H 0,H 0,H 0,H 0] 78);have hsY:=zi wr (Obj.cells #[H 0,H 0,H 0,H 0,H 0,H 0,H 0,yk 0,yl ⟨#[]⟩,H 0,H 0,H 0,H 0,H 0] 78);have pJ:=U (zf (O pJ) jk (by omega));have HT0:=U (zk (O HT0) jk (by omega));have ke:=U (zk (O ke) jk (by omega));have HER2:=U (zO (O cF) jk);have HEB:Hid (∀g,u7.ownBlock=some g->w.heap.size+1+1<=g/\g<wr.heap.size):=fun g F=>(O cF).lt g F;have qj:=U (zq (O qj) jk yb);have HTE:=U (zM wr [H 0,H 0,H 0,H 0,H 0,H 0,H 0,yk 0,yl ⟨#[]⟩,H 0,H 0,H 0,H 0,H 0] 78);have uZ:=U (mf (O uZ) jk);clear jk cF kS;have HTE:Hid (World.there (wr.alloc (Obj.cells #[H 0,H 0,H 0,H 0,H 0,H 0,H 0,yk 0,yl ⟨#[]⟩,H 0,H 0,H 0,H 0,H 0] 78)) wr.heap.size 0 14):=O HTE;generalize wr.alloc (Obj.cells #[H 0,H 0,H 0,H 0,H 0,H 0,H 0,yk 0,yl ⟨#[]⟩,H 0,H 0,H 0,H 0,H 0] 78)=ya at pJ HT0 ke HER2 qj HTE uZ hsY |-;generalize wr.heap.size=hk at HEB HTE hsY ko |-;obtain⟨c0,c1,c2,c3,c4,c5⟩:=yD (O pJ);refine mg fun K2 kL=>?_;go_wp2_with fail;refine(l04Hit_any _ l' ⟨next,cs,tt,left,cl,cg⟩ o i ya (O qj) (by omega) (O HIO) oJ hl1 (by omega) D.2).mono ?_;rintro e w2 ⟨v2,rfl,ur,xy⟩;simp only[Od.vs,Ev.vs,trE,zCm];simp only at ur;have hq0':0<=min left o.left:=by omega
   generalize min left o.left=q at ur HMI2 hme2 hq0' |-;have jt:=U ur;have xz:=U xy;have hTa:=zk (O HT0) xy (by omega);have aV:=zk (O HTE) xy (by omega);have pW:=U hTa;have HTB:=U aV;have HT1':=U (zk (O ke) xy (by omega));have HER3:=U (zO (O HER2) xy);have kq:=U (mf (O uZ) xy);have ug:=xy.size;obtain⟨ya0,za0,qa0⟩:=zh hTa (j:=0) (by omega);obtain⟨ya1,za1,qa1⟩:=zh hTa (j:=1) (by omega);obtain⟨ya2,za2,qa2⟩:=zh hTa (j:=2) (by omega);obtain⟨ya3,za3,qa3⟩:=zh hTa (j:=3) (by omega);obtain⟨ya4,za4,qa4⟩:=zh hTa (j:=4) (by omega);obtain⟨ya5,za5,qa5⟩:=zh hTa (j:=5) (by omega);obtain⟨yb0,zb0,qb0⟩:=zh aV (j:=0) (by omega);obtain⟨yb1,zb1,qb1⟩:=zh aV (j:=1) (by omega);obtain⟨yb2,zb2,qb2⟩:=zh aV (j:=2) (by omega);obtain⟨yb3,zb3,qb3⟩:=zh aV (j:=3) (by omega);obtain⟨yb4,zb4,qb4⟩:=zh aV (j:=4) (by omega);obtain⟨yb5,zb5,qb5⟩:=zh aV (j:=5) (by omega);obtain⟨yb6,zb6,qb6⟩:=zh aV (j:=6) (by omega);obtain⟨yb7,zb7,qb7⟩:=zh aV (j:=7) (by omega);obtain⟨yb8,zb8,qb8⟩:=zh aV (j:=8) (by omega);obtain⟨yb9,zb9,qb9⟩:=zh aV (j:=9) (by omega);obtain⟨yb10,zb10,qb10⟩:=zh aV (j:=10) (by omega);obtain⟨yb11,zb11,qb11⟩:=zh aV (j:=11) (by omega);obtain⟨yb12,zb12,qb12⟩:=zh aV (j:=12) (by omega);obtain⟨yb13,zb13,qb13⟩:=zh aV (j:=13) (by omega);have hES:hk≠w.heap.size:=by omega
   have hSE:w.heap.size≠hk:=by omega
   clear c0 c1 c2 c3 c4 c5 ur xy hTa aV HT0 HTE ke HER2 uZ qj pJ;go_wp2_with fail;refine O kL _ _ ?_;clear kL za0 qa0 za1 qa1 za2 qa2 za3 qa3 za4 qa4 za5 qa5 zb0 qb0 zb1 qb1 zb2 qb2 zb3 qb3 zb4 qb4 zb5 qb5 zb6 qb6 zb7 qb7 zb8 qb8 zb9 qb9 zb10 qb10 zb11 qb11 zb12 qb12 zb13 qb13;have eW:((((((((((((((((((((w2.setCell (Y w.heap.size 0) (H next)).setCell (Y w.heap.size 1) (H cs)).setCell (Y w.heap.size 2) (H tt)).setCell (Y w.heap.size 3) (H (left-q))).setCell (Y w.heap.size 4) (H cl)).setCell (Y w.heap.size 5) (yl cg)).setCell (Y hk 0) (H 3)).setCell (Y hk 1) (H 0)).setCell (Y hk 2) (H 0)).setCell (Y hk 3) (H 0)).setCell (Y hk 4) (H 0)).setCell (Y hk 5) (H 0)).setCell (Y hk 6) (H 0)).setCell (Y hk 7) (yk 0)).setCell (Y hk 8) (yl ⟨#[]⟩)).setCell (Y hk 9) (H next)).setCell (Y hk 10) (H o.id)).setCell (Y hk 11) (H q)).setCell (Y hk 12) (H o.ticks)).setCell (Y hk 13) (H 0))=(w2.setCells w.heap.size 0 [H next,H cs,H tt,H (left-q),H cl,yl cg]).setCells hk 0 [H 3,H 0,H 0,H 0,H 0,H 0,H 0,yk 0,yl ⟨#[]⟩,H next,H o.id,H q,H o.ticks,H 0]:=rfl;rw[eW];clear eW;obtain⟨V1,kB⟩:∃V:World,V=w2.setCells w.heap.size 0 [H next,H cs,H tt,H (left-q),H cl,yl cg]:=⟨_,rfl⟩;rw[<- kB];have vO:Hid (V1.rangeAt w.heap.size 0 [H next,H cs,H tt,H (left-q),H cl,yl cg]):=by rw[kB];exact yY w2 _ 0 _ (fun j hj=>O pW j hj)
   have kQ:Hid (V1.there w.heap.size 0 6):=by rw[kB];exact xc (O pW) _ _ _
   have uf:Hid (V1.there (w.heap.size+1) 0 6):=by rw[kB];exact xc (O HT1') _ _ _
   have uL:Hid (V1.there hk 0 14):=by rw[kB];exact xc (O HTB) _ _ _
   have kc:Hid (ORow V1 ya.heap.size v2 (db l' i o q)):=by rw[kB];exact iy (by omega) _ _ _ (O jt)
   have HE1:Hid (ERow V1 (w.heap.size+1+1) u7 ts):=by rw[kB];exact lq (fun e=>by have:=(O HEB _ e.symm).1;omega) _ _ _ (O HER3)
   have ui:Hid (yp w V1):=by rw[kB];exact zj _ yb _ _ _ (O kq)
   have xG:V1.heap.size=w2.heap.size:=by rw[kB,gw]
   clear kB;obtain⟨V2,pB⟩:∃V:World,V=V1.setCells hk 0 [H 3,H 0,H 0,H 0,H 0,H 0,H 0,yk 0,yl ⟨#[]⟩,H next,H o.id,H q,H o.ticks,H 0]:=⟨_,rfl⟩;rw[<- pB];have qT:Hid (V2.rangeAt hk 0 [H 3,H 0,H 0,H 0,H 0,H 0,H 0,yk 0,yl ⟨#[]⟩,H next,H o.id,H q,H o.ticks,H 0]):=by rw[pB];exact yY V1 _ 0 _ (fun j hj=>O uL j hj)
   have oR:Hid (V2.rangeAt w.heap.size 0 [H next,H cs,H tt,H (left-q),H cl,yl cg]):=by rw[pB];exact lD (O vO) (by omega)
   have uX:Hid (V2.there w.heap.size 0 6):=by rw[pB];exact xc (O kQ) _ _ _
   have uE:Hid (V2.there (w.heap.size+1) 0 6):=by rw[pB];exact xc (O uf) _ _ _
   have qO:Hid (ORow V2 ya.heap.size v2 (db l' i o q)):=by rw[pB];exact iy (by omega) _ _ _ (O kc)
   have pm:Hid (ERow V2 (w.heap.size+1+1) u7 ts):=by rw[pB];exact lq (fun e=>by have:=(O HEB _ e.symm).2;omega) _ _ _ (O HE1)
   have xQ:Hid (yp w V2):=by rw[pB];exact zj _ (by omega) _ _ _ (O ui)
   have hs4:ya.heap.size<=V2.heap.size:=by rw[pB,gw,xG];exact ug
   clear pB vO kQ uf uL kc HE1 ui xG jt xz pW HTB HT1' HER3 kq;obtain⟨e0,e1,e2,e3,e4,e5,e6,e7,e8,e9,vQ,vY,qq,qF⟩:=yG (O qT);have aO:=U ((O pm).alloc (Obj.cells #[H 3,H 0,H 0,H 0,H 0,H 0,H 0,yk 0,yl ⟨#[]⟩,H next,H o.id,H q,H o.ticks,H 0] 78));have hs5:V2.heap.size+1<=(V2.alloc (Obj.cells #[H 3,H 0,H 0,H 0,H 0,H 0,H 0,yk 0,yl ⟨#[]⟩,H next,H o.id,H q,H o.ticks,H 0] 78)).heap.size:=Nat.le_of_eq (zi _ _).symm;have uj:=mc V2 (Obj.cells #[H 3,H 0,H 0,H 0,H 0,H 0,H 0,yk 0,yl ⟨#[]⟩,H next,H o.id,H q,H o.ticks,H 0] 78);have uk:Hid (∀j u,[H 3,H 0,H 0,H 0,H 0,H 0,H 0,yk 0,yl ⟨#[]⟩,H next,H o.id,H q,H o.ticks,H 0][j]? = some u->(V2.alloc (Obj.cells #[H 3,H 0,H 0,H 0,H 0,H 0,H 0,yk 0,yl ⟨#[]⟩,H next,H o.id,H q,H o.ticks,H 0] 78)).cell? (((Y V2.heap.size 0):Addr).add j)=some u):=fun j u hu=>cellsQ V2 [H 3,H 0,H 0,H 0,H 0,H 0,H 0,yk 0,yl ⟨#[]⟩,H next,H o.id,H q,H o.ticks,H 0] 78 j u hu;have kT:=U (zn (O qO) uj);have jP:=U (zf (O oR) uj (by omega));have qD:=U (zk (O uX) uj (by omega));have js:=U (zk (O uE) uj (by omega));have uY:=U (mf (O xQ) uj);have HEBv:Hid (∀g,u7.ownBlock=some g->w.heap.size+1+1<=g):=fun g F=>(O HEB g F).1;clear uj qO oR uX uE xQ HEB;go_wp2_with (at_builtin;go_must (refine wpList_append_own _ rfl _ _ 32 rfl (w.heap.size+1+1) 78 i0 _ 14 120 Tryz.underlying32 uo ub xX uh rfl (by decide) u7 ts.length (ts.flatMap Ev.vs) rfl (O aO) (Y V2.heap.size 0) 1 1 [H 3,H 0,H 0,H 0,H 0,H 0,H 0,yk 0,yl ⟨#[]⟩,H next,H o.id,H q,H o.ticks,H 0] rfl rfl (O uk) (by simp[Value.oneCell']) (by unfold maxLen;omega) (by omega) (by omega) ?_);intro v5 w5 vA vR _;have pu:=U vA;have uE:=U vR;clear vA vR)
   have oy:=U ((O kT).kept (O uE) (fg (O kT) (O aO) (by decide)));have HNS:Hid (∀b,b<w.heap.size+1+1->some b≠u7.ownBlock):=fun b K e=>by have:=O HEBv b e.symm;omega
   have bD:=U (zv (O jP) (O uE) (by omega) (O HNS _ (by omega)));have HT5:=U (fK (O qD) (O uE) (by omega) (O HNS _ (by omega)));have kf:=U (fK (O js) (O uE) (by omega) (O HNS _ (by omega)));have qS:=U ((O uY).grown (O uE) (O uY).size (fun k E=>by have:=O HEBv k E;omega));have hs6:=(O uE).size
   have qi:Hid (ERow w5 (w.heap.size+1+1) v5 (ts ++ [trE next o.id q o.ticks])):=by
    show w5.ownsRow _ _ _ _ (ts ++ [trE next o.id q o.ticks]).length _;rw[yQ,List.flatMap_append];have:=O pu;simpa[Ev.vs,trE,zCm] using this
   obtain⟨x0,x1,x2,x3,x4,x5⟩:=yD (O bD)
   try simp only[Exit.inBlock,Exit.then]
   refine O xw _ _ ?_;clear xw aO uk kT jP qD js uY uE pu e0 e1 e2 e3 e4 e5 e6 e7 e8 e9 vQ vY qq qF;have jn:=(O HMI2).good;have hln:=jn.len;go_wp2_with fail;refine(l04Next_any v2 (db l' i o q) ⟨next,cs,tt,left-q,cl,cg⟩ w5 (zZ (O oy) (by omega)) jn.rise (by omega) (O HS)).mono ?_;rintro e w6 ⟨k6,rfl,hnx6,vU⟩
   have HN:Hid (MaI ⟨ck,cs,ct,cl,cq,ci,cp,cg⟩ next w (.slice a l.length cap) l tt hg (2*(db l' i o q).length+(if 0<left-q then 1 else 0)) v2 v5 (H k6) w6):=
    ⟨db l' i o q,left-q,ts ++ [trE next o.id q o.ticks],k6,rfl,.inr (fM (zn (O oy) vU) (by omega)),zO (O qi) vU,hnx6,O HMI2,zf (O bD) vU (by omega),zk (O HT5) vU (by omega),zk (O kf) vU (by omega),(O qS).trans (vU.mono (O qS).size),by have:=vU.size;omega,Nat.le_refl _⟩
   clear hnx6 vU;go_wp2_with fail
   go_roundg (2*(db l' i o q).length+(if 0<left-q then 1 else 0))
   case measure=>rw[if_pos h0] at hme;omega
   case rel=>exact O HN
end Go.Proofs.YtkofhemdefffpaaGreatDoor
