/-.-/
import Derived.Test.YthhkapcbocgcoaaGreatDoorKj10
import Derived.Test.YthhkapcbocgcoaaGreatDoorKj20
import Derived.Test.YthhkapcbocgcoaaGreatDoorKj31
import Derived.Test.YthhkapcbocgcoaaGreatDoorKj39
set_option linter.unusedVariables false
set_option maxHeartbeats 6400000
set_option maxRecDepth 100000
namespace Go.Proofs.YthhkapcbocgcoaaGreatDoor
open Go.RowKit
theorem os_setCells (b:Nat):∀(vs:List Value) (o:Nat) (W:World),(W.setCells b o vs).os=W.os
 | [],_,_=>rfl
 | u::us,o,W=>by rw[World.setCells,os_setCells b us (o+1)];rfl
theorem tape_setCells (b:Nat):∀(vs:List Value) (o:Nat) (W:World),(W.setCells b o vs).tape=W.tape
 | [],_,_=>rfl
 | u::us,o,W=>by rw[World.setCells,tape_setCells b us (o+1)];rfl
theorem mh (b:Nat):∀(vs:List Value) (o:Nat) (W:World),(W.setCells b o vs).output=W.output
 | [],_,_=>rfl
 | u::us,o,W=>by rw[World.setCells,mh b us (o+1)];rfl
theorem heap_setCells (b k:Nat)(hk:k≠b):∀(vs:List Value) (o:Nat) (W:World),(W.setCells b o vs).heap[k]? = W.heap[k]?
 | [],_,_=>rfl
 | u::us,o,W=>by rw[World.setCells,heap_setCells b k hk us (o+1)];exact yT _ _ _ _ hk
section
variable {mb B Bo:Nat} {W w':World} {gv:Value} {gs:List Value} {gl:List (List Ev)} {next:Int} {vq:Value} {l:List Od} {t:Tot} {vo:Value} {ts:List Ev}
end


def KB (xi:Nat)(W W':World):Prop:=KeptBut xi W.heap.size W W'
theorem kb_trans {xi:Nat}{W W1 W2:World}(D:KB xi W W1)(Y:KB xi W1 W2):KB xi W W2:=
 ⟨Y.os.trans D.os,Y.tape.trans D.tape,Y.output.trans D.output,yO D.size Y.size,fun k hk hm=>(Y.block k (yK hk D.size) hm).trans (D.block k hk hm)⟩
theorem kb_below {xi:Nat}{W W':World}(h:yn W W'):KB xi W W':=⟨h.os,h.tape,h.output,h.size,fun k hk _=>h.block k hk⟩
theorem kb_setCells (xi o:Nat)(vs:List Value)(W:World):KB xi W (W.setCells xi o vs):=
 ⟨os_setCells _ _ _ _,tape_setCells _ _ _ _,mh _ _ _ _,by rw[fO];exact Nat.le_refl _,fun k _ hm=>heap_setCells _ _ hm _ _ _⟩
theorem kb_row {xi B e sz n:Nat}{v:Value}{xs:List Value}{W W':World}(h:W.ownsRow B e sz v n xs)(E:KB xi W W')(L:xi<B):W'.ownsRow B e sz v n xs:=by
 refine⟨h.1,?_⟩;rcases h.2 with hn|⟨g,cap,xA,rfl,X,ab,rest⟩
 ·exact .inl hn
 ·exact .inr ⟨g,cap,xA,rfl,X,(E.block g (yZ.1 ab).1 (by omega)).trans ab,rest⟩
theorem kb_cell {xi:Nat}{W W':World}(E:KB xi W W'){p:Addr}{u:Value}(h:W.cell? p=some u)(hp:p.block≠xi):W'.cell? p=some u:=
 (yR (a:=p) (E.block p.block (yL W _ h) hp)).trans h
theorem kb_range {xi:Nat}{W W':World}(E:KB xi W W'){b o:Nat}{F:List Value}(h:W.rangeAt b o F)(hp:b≠xi):W'.rangeAt b o F:=fun j u hj=>kb_cell E (h j u hj) hp
structure RX (C:World->Nat->Value->Prop) (xi m st:Nat) (Rv:(Nat->Value)->List Value) (base:World) (x:List Bool) (f:Nat->Value) (W:World):Prop where
 k:KB xi base W
 lt:xi<base.heap.size
 t:W.there xi 0 m
 c:∀j,x[j]? = some true->C W j (f j)
 r:x[st]? = some true->W.rangeAt xi 0 (Rv f)
def RXA (cs:(Nat->Value)->Act)(C:World->Nat->Value->Prop)(xi m st:Nat)(Rv:(Nat->Value)->List Value)(base:World)(x:List Bool)(zb:Act)(W:World):Prop:=∃f,zb=cs f/\RX C xi m st Rv base x f W
section
variable {C:World->Nat->Value->Prop} {xi m st:Nat} {Rv:(Nat->Value)->List Value} {base W W':World} {x:List Bool} {f:Nat->Value}
theorem rx_start {k:Nat}{f:Nat->Value}(hl:xi<base.heap.size)(ht:base.there xi 0 m):RX C xi m st Rv base (List.replicate k false) f { base with drawn:=base.drawn+1 }:=
 ⟨⟨rfl,rfl,rfl,Nat.le_refl _,fun _ _ _=>rfl⟩,hl,ht,fun j hj=>by rw[yJ] at hj;split at hj <;> simp at hj,fun h=>by rw[yJ] at h;split at h <;> simp at h⟩
theorem ec (h:RX C xi m st Rv base x f W)(i:Nat)(v:Value)(his:i≠st)(hr:x[st]? = some true->Rv (upd f i v)=Rv f)(hv:C W i v):RX C xi m st Rv base (x.set i true) (upd f i v) W:=by
 refine⟨h.k,h.lt,h.t,fun j hj=>?_,fun e=>?_⟩
 ·by_cases hji:j=i
  ·subst hji;rw[zo];exact hv
  ·rw[zk _ _ hji];rw[gq (fun e=>hji e.symm)] at hj;exact h.c j hj
 ·rw[gq his] at e;rw[hr e];exact h.r e
theorem rx_grow (hm:∀W W' j v,KB xi W W'->C W j v->C W' j v)(h:RX C xi m st Rv base x f W)(E:yn W W'):RX C xi m st Rv base x f W':=
 ⟨kb_trans h.k (kb_below E),h.lt,zl h.t E (yK h.lt h.k.size),fun j hj=>hm _ _ _ _ (kb_below E) (h.c j hj),fun e=>zc (h.r e) E (yK h.lt h.k.size)⟩
theorem rx_store (hm:∀W W' j v,KB xi W W'->C W j v->C W' j v)(h:RX C xi m st Rv base x f W)(hx:x[st]? = some false)(hl:(Rv f).length=m)(hC:∀W v,C W st v):RX C xi m st Rv base (x.set st true) f (W.setCells xi 0 (Rv f)):=by
 refine⟨kb_trans h.k (kb_setCells _ _ _ _),h.lt,xc h.t _ _ _,fun j hj=>?_,fun _=>yY W xi 0 _ (fun j hj=>h.t j (by omega))⟩
 by_cases hji:j=st
 ·subst hji;exact hC _ _
 ·rw[gq (fun e=>hji e.symm)] at hj;exact hm _ _ _ _ (kb_setCells _ _ _ _) (h.c j hj)
end
def ndy (o:Od):Bool:=!(o.life==1)
def dyB (o:Od):Bool:=o.life==1
def expE (o:Od):Ev:=⟨9,zCm,o.id,0,o.left,0,0⟩
theorem take_dy {l:List Od}{j:Nat}{o:Od}(h:l[j]? = some o)(hd:o.life=1):(l.take (j+1)).filter dyB=(l.take j).filter dyB ++ [o]:=by
 rw[List.take_add_one,h,List.filter_append];simp[dyB,hd]
theorem take_no {l:List Od}{j:Nat}{o:Od}(h:l[j]? = some o)(hd:o.life≠1):(l.take (j+1)).filter dyB=(l.take j).filter dyB:=by
 rw[List.take_add_one,h,List.filter_append];simp[dyB,hd]
theorem set6_range {w:World}{p:Nat}{v0 v1 v2 v3 v4 v5:Value}(ht:w.there p 0 6) :
  ((((((w.setCell (J p 0) v0).setCell (J p 1) v1).setCell (J p 2) v2).setCell (J p 3) v3).setCell (J p 4) v4).setCell (J p 5) v5).rangeAt p 0 [v0,v1,v2,v3,v4,v5]:=yY w p 0 [v0,v1,v2,v3,v4,v5] (fun j hj=>ht j hj)
def DrO (o:Od):Prop:=(o.side=1/\396<=o.ticks/\o.ticks<=399\/o.side=2/\400<=o.ticks/\o.ticks<=403)/\1<=o.left/\o.left<=9/\0<=o.life/\o.life<=1/\tagB o.tag=true
def DrB (n:Int)(q:List Od):Prop:=(∀o∈q,DrO o/\1<=o.id/\o.id<n)/\eo q
theorem drB_nil:DrB 1 []:=⟨by simp,by simp[eo]⟩
theorem drB_push {n k:Int}{q:List Od}{o:Od}(h:DrB n q)(Q:DrO o)(uk:o.id=n+k)(hk:0<=k)(hn:1<=n):DrB (n+k+1) (q ++ [o]):=by
 refine⟨fun x hx=>?_,?_⟩
 ·rcases List.mem_append.1 hx with hx|hx
  ·have:=h.1 x hx;exact⟨this.1,this.2.1,by omega⟩
  ·simp at hx;subst hx;exact⟨Q,by omega,by omega⟩
 ·unfold eo;rw[List.pairwise_append];refine⟨h.2,by simp,fun a ha b E=>?_⟩;simp at E;subst E;have:=(h.1 a ha).2.2;omega
theorem allR_of {next:Int}:∀(l:List Od) (last:Int),(∀o∈l,ordB o=true/\last<o.id/\o.id<next)->eo l->allR next last l=true
 | [],_,_,_=>rfl
 | a::r,last,h,hr=>by
  obtain⟨D,Y,h3⟩:=h a (by simp);obtain⟨p1,p2⟩:=List.pairwise_cons.1 hr;rw[allR,D,decide_eq_true Y,decide_eq_true h3,allR_of r a.id (fun o Q=>⟨(h o (by simp[Q])).1,p1 o Q,(h o (by simp[Q])).2.2⟩) p2];rfl
theorem up_len:∀(T:List Int) (a b:Int),T.Pairwise (bt false)->(∀x∈T,a<=x/\x<=b)->a<=b+1->(T.length:Int)<=b+1-a
 | [],a,b,_,_,h=>by simp;omega
 | x::r,a,b,hp,hx,h=>by
  obtain⟨p1,p2⟩:=List.pairwise_cons.1 hp;have hxa:=hx x (by simp);have:=up_len r (x+1) b p2 (fun y hy=>⟨by have:=p1 y hy;simp[bt] at this;omega,(hx y (by simp[hy])).2⟩) (by omega);simp only[List.length_cons];omega
theorem down_len:∀(T:List Int) (a b:Int),T.Pairwise (bt true)->(∀x∈T,a<=x/\x<=b)->a<=b+1->(T.length:Int)<=b+1-a
 | [],a,b,_,_,h=>by simp;omega
 | x::r,a,b,hp,hx,h=>by
  obtain⟨p1,p2⟩:=List.pairwise_cons.1 hp;have hxa:=hx x (by simp);have:=down_len r a (x-1) p2 (fun y hy=>⟨(hx y (by simp[hy])).1,by have:=p1 y hy;simp[bt] at this;omega⟩) (by omega);simp only[List.length_cons];omega
theorem drO_ord {o:Od}(h:DrO o):ordB o=true:=by
 obtain⟨D,Y,h3,h4,h5,h6⟩:=h;simp only[ordB,betB,h6,Bool.and_true,xf,xg];omega
theorem drB_ok {n:Int}{q:List Od}(h:DrB n q)(D:1<=n)(Y:n<=1000000)(hl:q.length<=20):okS n q=true:=by
 have bR:=allR_of q 0 (fun o Q=>⟨drO_ord (h.1 o Q).1,by have:=(h.1 o Q).2;omega,(h.1 o Q).2.2⟩) h.2 (next:=n);have hT1:=fZ true (zv q 1);have hT2:=fZ false (zv q 2)
 have hm:∀sd o,o∈zv q sd->o∈q/\o.side=sd:=fun sd o Q=>by
  have:=List.mem_filter.1 Q;exact⟨this.1,by simpa using this.2⟩
 have n1:=down_len _ 396 399 hT1.sorted (fun x hx=>by
  obtain⟨o,Q,rfl⟩:=(hT1.mem x).1 hx;obtain⟨h3,h4⟩:=hm 1 o Q;have:=(h.1 o h3).1.1;omega) (by omega)
 have n2:=up_len _ 400 403 hT2.sorted (fun x hx=>by
  obtain⟨o,Q,rfl⟩:=(hT2.mem x).1 hx;obtain⟨h3,h4⟩:=hm 2 o Q;have:=(h.1 o h3).1.1;omega) (by omega)
 have hnl:nlev q<=8:=by
  rw[nlev_eq (fun o Q=>by have:=(h.1 o Q).1.1;omega) hT1 hT2];omega
 have hx:noX q=true:=(noX_iff q).2 fun a ha h3 b E h4=>by
  have e1:=(h.1 a ha).1.1;have e2:=(h.1 b E).1.1;omega
 simp only[okS,bR,hx,Bool.and_true,xf,xg,betB];exact⟨⟨⟨D,Y⟩,hl⟩,hnl⟩
def accL (c:Cm)(next:Int)(cs:List Od × Int × List Ev):List Od:=if 0<cs.2.1/\dT c.t=true then cs.1 ++ [⟨next,c.s,tk c.p,cs.2.1,c.l,c.g⟩] else cs.1
def accE (c:Cm)(next:Int)(cs:List Od × Int × List Ev):List Ev:=⟨1,⟨1,c.s,c.t,c.l,c.q,0,c.p,c.g⟩,next,0,0,0,0⟩::cs.2.2++(if 0<cs.2.1 then[⟨if dT c.t=true then 4 else 5,zCm,next,0,cs.2.1,0,0⟩] else[])
theorem eP {B C e sz n:Nat}{v:Value}{xs:List Value}{W:World}(h:W.ownsRow B e sz v n xs)(hC:C<=B):W.ownsRow C e sz v n xs:=by
 refine⟨h.1,?_⟩;rcases h.2 with hn|⟨g,cap,xA,rfl,X,rest⟩
 ·exact .inl hn
 ·exact .inr ⟨g,cap,xA,rfl,yO hC X,rest⟩
theorem matL_few {c:Cm}{id:Int}:∀(n:Nat) (l:List Od) (left:Int) (ts:List Ev),(matL c id n l left ts).2.2.length<=ts.length+n
 | 0,_,_,_=>Nat.le_refl _
 | n+1,l,left,ts=>by
  rw[matL];split
  ·split
   ·simp
   ·split
    ·refine yO (matL_few n _ _ _) ?_;rw[yQ];simp;omega
    ·simp
  ·simp
theorem im {B e sz n:Nat}{v:Value}{xs:List Value}{W:World}(h:W.ownsRow B e sz v n xs):∃a c,v = .slice a n c:=by
 rcases h.2 with⟨e,e2⟩|⟨g,cap,xA,e,_⟩
 ·exact⟨none,0,by rw[e,e2]⟩
 ·exact⟨_,_,e⟩
theorem specCut_any (s:ByteArray)(w:World)(hs:s.size<=maxLen) :
  Calls Tryz.prog 69 #[yk s] w fun e w'=>e=ym (yk (cutB s))/\w'=w:=by
 unfold maxLen at hs
 by_cases h:13<s.size
 ·have HF:=Z (show cutB s=s.extract 0 13 from if_pos (by omega));have h':(13:Int)<s.size:=by omega
  go_enter Tryz.func69,Tryz.ntmps69;go_wp2;go_ret;exact⟨by rw[U HF];rfl,rfl⟩
 ·have HF:Hid (cutB s=s):=by
   by_cases h3:s.size=13
   ·exact cutB_one s h3
   ·exact if_neg (by omega)
  have h':(s.size:Int)<=13:=by omega
  go_enter Tryz.func69,Tryz.ntmps69;go_wp2;go_ret;exact⟨by rw[U HF];rfl,rfl⟩

def stN (next:Int)(l:List Od)(c:Cm):Int:=if refR next l c=0/\c.k=1 then next+1 else next
def stL (next:Int)(l:List Od)(c:Cm):List Od:=
 if refR next l c=0 then
  if c.k=1 then accL c next (matL c next 21 l c.q [])
  else if c.k=2 then(match l[(plc l c.i).toNat]? with|some o=>dR l (plc l c.i).toNat o o.left|none=>l)
  else if c.k=3 then(match l[(plc l c.i).toNat]? with|some o=>l.set (plc l c.i).toNat { o with left:=c.q } | none=>l)
  else l.filter ndy
 else l
def stE (next:Int)(l:List Od)(c:Cm):List Ev:=
 if refR next l c=0 then
  if c.k=1 then accE c next (matL c next 21 l c.q [])
  else if c.k=2 then(match l[(plc l c.i).toNat]? with|some o=>[⟨6,zCm,c.i,0,o.left,0,0⟩]|none=>[])
  else if c.k=3 then[⟨7,zCm,c.i,0,c.q,0,0⟩]
  else⟨8,zCm,0,0,((l.filter dyB).length:Nat),0,0⟩::(l.filter dyB).map expE
 else[⟨2,⟨c.k,c.s,c.t,c.l,c.q,c.i,c.p,cutB c.g⟩,0,0,0,0,refR next l c⟩]
theorem ref_kind {next:Int}{l:List Od}{c:Cm}(h:refR next l c=0):c.k=1\/c.k=2\/c.k=3\/c.k=4:=by
 rw[refR] at h;split at h
 ·omega
 ·split at h
  ·omega
  ·split at h
   ·omega
   ·split at h
    ·omega
    ·cases h
theorem ref_new {next:Int}{l:List Od}{c:Cm}(h:refR next l c=0)(hk:c.k=1):newR next l c=0:=by
 rw[refR,if_pos hk] at h;split at h
 ·exact h
 ·cases h
theorem ref_newq {next:Int}{l:List Od}{c:Cm}(h:refR next l c=0)(hk:c.k=1):1<=c.q/\c.q<=1000000:=by
 have h:=ref_new h hk;rw[newR] at h
 repeat (split at h;(· cases h))
 rename_i h7 _;simp[betB] at h7;omega
theorem ref_id {next:Int}{l:List Od}{c:Cm}(h:refR next l c=0)(hk:c.k=2\/c.k=3):∃(k:Nat) (o:Od),plc l c.i=k/\l[k]? = some o:=by
 rcases lq l c.i with D|D
 ·exfalso;rw[refR] at h;rcases hk with hk|hk
  ·rw[if_neg (by omega),if_pos hk] at h;split at h
   ·simp[idR,D] at h
   ·cases h
  ·rw[if_neg (by omega),if_neg (by omega),if_pos hk] at h;split at h
   ·rw[redR] at h;split at h
    ·simp[D] at h
    ·cases h
   ·cases h
 ·exact D
theorem lO (c:Cm)(w:World)(X:c.g.size<=maxLen) :
  Calls Tryz.prog 36 #[.agg (yx c.k c.s c.t c.l c.q c.i c.p c.g).toArray] w fun e w' =>
   e=ym (.agg (yx c.k c.s c.t c.l c.q c.i c.p (cutB c.g)).toArray)/\yn w w':=by
 obtain⟨k,s,t,l,q,i,p,g⟩:=c;have HS:=Z (fun W=>specCut_any g W X);have hsf:=sfl;simp only at *;clear X;go_enter Tryz.func36,Tryz.ntmps36;go_wp2_with (go_at_call 69;refine(U HS _).mono ?_;rintro e w' ⟨rfl,rfl⟩);go_returns;refine⟨rfl,?_⟩;go_grown
theorem iG (w:World)(o:Obj)(row:Option Nat):w.grownBy (w.alloc o) row:=
 ⟨rfl,rfl,rfl,by simp,fun k hk _=>((Below.refl _ w).alloc ya o).block k hk⟩
theorem srcD_lt {B:Nat}{w:World}{v:Value}{l:List Int}{m:Int}(h:Src B w v l m):B<w.heap.size:=yL w _ h.code
theorem hU {B:Nat}{w w':World}{v:Value}{l:List Int}{m:Int}{G:Option Nat}(h:Src B w v l m)(X:w.grownBy w' G)(hB:some B≠G)(hv:l ≠ []->v.ownBlock≠G):Src B w' v l m:=by
 have E:=X.block B (srcD_lt h) hB;obtain⟨a,s,k1,k2,k3,k4,k5,k6⟩:=h.cells;have e:∀i,w'.cell? (J B i)=w.cell? (J B i):=fun i=>yR (a:=(J B i)) E;have f:∀i,w'.frozen? (J B i)=w.frozen? (J B i):=fun i=>World.frozen?_of_block (a:=(J B i)) E;refine⟨?_,h.ne,h.bts,(e 0).trans h.code,⟨a,s,k1,k2,k3,k4,(e 1).trans k5,(e 2).trans k6⟩,(f 1).trans h.free1,(f 2).trans h.free2⟩;obtain⟨a,cap,rfl,hl,hc⟩:=h.rd;refine⟨a,cap,rfl,hl,fun xr=>?_⟩;obtain⟨b,off,rfl,xt⟩:=hc xr;exact⟨b,off,rfl,fun i hi=>(yR (a:=(J b (off+i))) (X.block b (yL w _ (xt i hi)) (hv xr))).trans (xt i hi)⟩
theorem srcE_alloc {B:Nat}{w0 w:World}{v:Value}{l:List Int}{m:Int}(h:zP B w0 v l m w)(o:Obj):zP B w0 v l m (w.alloc o):=
 ⟨hU h.1 (iG w o none) (by simp) (fun xr e=>by
  obtain⟨a,cap,rfl,hl,hc⟩:=h.1.rd;obtain⟨b,off,rfl,_⟩:=hc xr;simp[Value.ownBlock] at e),zw h.2 (iG w o _)⟩
theorem sizeD_any (B:Nat)(v:Value)(l:List Int)(m n:Int)(w:World)(h:Src B w v l m)(D:1<=n) :
  Calls Tryz.prog 29 #[I B 0,H n] w fun e w'=>∃y:Int,e=ym (H y)/\1<=y/\y<=n/\w'=w:=by
 have c0:=h.code;obtain⟨a,cap,rfl,hl,-⟩:=h.rd;clear h;go_enter Tryz.func29,Tryz.ntmps29;go_wp2_with fail
 all_goals go_ret
 all_goals exact⟨_,rfl,by omega,by omega,rfl⟩
theorem pick3_any (B g:Nat)(v:Value)(l:List Int)(m:Int)(t0 t1 t2:ByteArray)(w:World)(h:Src B w v l m)(hm:m<=1000000000)(X:g≠B)(k0:w.cell? (J g 0)=some (yk t0))(k1:w.cell? (J g 1)=some (yk t1))(k2:w.cell? (J g 2)=some (yk t2)) :
  Calls Tryz.prog 64 #[I B 0,.slice (some (J g 0)) 3 3] w fun e w'=>∃s,e=ym (yk s)/\(s=t0\/s=t1\/s=t2)/\zP B w v l (m+3) w':=by
 have HS:=Z h;have HK:Hid (_/\_/\_):=⟨k0,k1,k2⟩;clear h k0 k1 k2;go_enter Tryz.func64,Tryz.ntmps64;go_wp2_with fail;refine(zO B v l m 3 _ (U HS) hm (by omega) (by omega)).mono ?_;rintro e w1 ⟨y,rfl,jj,kR,hE⟩;obtain⟨k,rfl⟩:=Int.eq_ofNat_of_zero_le jj;have HE:=Z hE
 have hk:∃s,w1.cell? (J g k)=some (yk s)/\(s=t0\/s=t1\/s=t2):=by
  obtain⟨k0,k1,k2⟩:=U HK;have xr:some g≠some B:=fun e=>X (Option.some.inj e);rcases(by omega:k=0\/k=1\/k=2) with rfl|rfl|rfl
  ·exact⟨t0,hE.2.cell k0 xr,.inl rfl⟩
  ·exact⟨t1,hE.2.cell k1 xr,.inr (.inl rfl)⟩
  ·exact⟨t2,hE.2.cell k2 xr,.inr (.inr rfl)⟩
 obtain⟨s,hc,hs⟩:=hk;have HSS:=Z hs;clear hE hs;go_wp2_with fail;go_ret;exact⟨s,rfl,U HSS,U HE⟩
def BS (B:Nat)(W0:World)(v:Value)(l:List Int)(m0:Int)(n:Nat)(W:World):Prop:=∃m',m'<=m0+3*(n:Int)/\zP B W0 v l m' W
theorem eU {B:Nat}{W0 W:World}{v:Value}{l:List Int}{m0:Int}{n:Nat}(h:BS B W0 v l m0 n W):BS B W0 v l m0 (n+1) W:=by
 obtain⟨m',D,Y⟩:=h;exact⟨m',by omega,Y⟩
theorem bs_call {B:Nat}{W0 W W':World}{v:Value}{l:List Int}{m0 m':Int}{n:Nat}(D:m'<=m0+3*(n:Int))(Y:zP B W0 v l m' W)(h:zP B W v l (m'+3) W'):BS B W0 v l m0 (n+1) W':=
 ⟨m'+3,by omega,h.1,zw Y.2 h.2⟩
theorem bs_alloc {B:Nat}{W0 W:World}{v:Value}{l:List Int}{m0:Int}{n:Nat}(h:BS B W0 v l m0 n W)(o:Obj):BS B W0 v l m0 (n+1) (W.alloc o):=by
 obtain⟨m',D,Y⟩:=h;exact⟨m',by omega,srcE_alloc Y o⟩
def D5 (B bb:Nat)(n:Int)(dj:World->Prop)(p:Prop)(W:World):Nat->Value->Prop
 | 0,v=>v=I bb 0
 | 1,v=>¬ p->v=H n
 | 2,v=>v=I B 0
 | 3,v=>∃y:Int,v=H y/\0<=y/\y<=2
 | 4,v=>∃y:Int,v=H (n+y)/\0<=y/\y<=2
 | 5,v=>v=I bb 0
 | 6,v=>p->dj W
 | _,_=>True
def DrA (n:Int)(o:Od):Prop:=o.id=n/\(o.side=1\/o.side=2)/\1<=o.left/\o.left<=9/\0<=o.life/\o.life<=1/\tagB o.tag=true
def D6 (B bb S0:Nat)(n:Int)(t0 t1 t2:ByteArray)(dj:Nat->World->Prop)(p:Prop)(W:World):Nat->Value->Prop
 | 0,v=>v=I bb 0
 | 1,v=>v=H n
 | 2,v=>v=I B 0
 | 3,v=>∃y:Int,v=H y/\0<=y/\y<=1
 | 4,v=>∃y:Int,v=H y/\1<=y/\y<=2
 | 5,v=>v=I B 0
 | 6,v=>∃y:Int,v=H y/\0<=y/\y<=8
 | 7,v=>∃y:Int,v=H y/\1<=y/\y<=9
 | 8,v=>v=I B 0
 | 9,v=>∃y:Int,v=H y/\0<=y/\y<=2
 | 10,v=>∃y:Int,v=H y/\0<=y/\y<=1
 | 11,v=>v=I B 0
 | 12,v=>∃g,v = .slice (some (J g 0)) 3 3/\S0<=g/\g≠B/\(¬ p->W.rangeAt g 0 [yk t0,yk t1,yk t2])
 | 13,v=>∃s,v=yk s/\(s=t0\/s=t1\/s=t2)
 | 14,v=>∃id side left life tag,v = .agg (yw id side 0 left life tag).toArray/\DrA n ⟨id,side,0,left,life,tag⟩
 | 15,v=>∃pt,v=I pt 0/\S0<=pt/\(¬ p->pt<W.heap.size)/\pt≠B/\(¬ p->W.there pt 0 6)/\(p->dj pt W)
 | _,_=>True
theorem d5_mono {B bb:Nat}{n:Int}{dj:World->Prop}{p:Prop}{W W':World}(hp:¬ p):∀j v,D5 B bb n dj p W j v->D5 B bb n dj p W' j v:=by
 intro j v h
 match j with
 | 0=>exact h
 | 1=>exact h
 | 2=>exact h
 | 3=>exact h
 | 4=>exact h
 | 5=>exact h
 | 6=>exact fun h'=>absurd h' hp
 | j+7=>trivial
theorem d6_mono {B bb S0:Nat}{n:Int}{t0 t1 t2:ByteArray}{dj:Nat->World->Prop}{p:Prop}{W W':World}(hp:¬ p)(X:W.grownBy W' (some B)):∀j v,D6 B bb S0 n t0 t1 t2 dj p W j v->D6 B bb S0 n t0 t1 t2 dj p W' j v:=by
 intro j v h
 match j with
 | 0=>exact h
 | 1=>exact h
 | 2=>exact h
 | 3=>exact h
 | 4=>exact h
 | 5=>exact h
 | 6=>exact h
 | 7=>exact h
 | 8=>exact h
 | 9=>exact h
 | 10=>exact h
 | 11=>exact h
 | 12 =>
  obtain⟨g,D,Y,h3,h4⟩:=h;exact⟨g,D,Y,h3,fun hp=>zr (h4 hp) X (yL W _ (h4 hp 0 _ rfl)) (fun e=>h3 (Option.some.inj e))⟩
 | 13=>exact h
 | 14=>exact h
 | 15 =>
  obtain⟨pt,D,Y,h3,h4,h5,h6⟩:=h;have xr:some pt≠some B:=fun e=>h4 (Option.some.inj e);exact⟨pt,D,Y,fun _=>yK (h3 hp) X.size,h4,fun _=>zK (h5 hp) X (h3 hp) xr,fun h'=>absurd h' hp⟩
 | j+16=>trivial
theorem box3 (w:World)(bl O rl:List Value)(T1 T2 T3:TypeId):(((w.alloc (Obj.cells bl.toArray T1)).alloc (Obj.cells O.toArray T2)).alloc (Obj.cells rl.toArray T3)).heap.size=w.heap.size+3/\World.rangeAt (((w.alloc (Obj.cells bl.toArray T1)).alloc (Obj.cells O.toArray T2)).alloc (Obj.cells rl.toArray T3)) w.heap.size 0 bl/\World.rangeAt (((w.alloc (Obj.cells bl.toArray T1)).alloc (Obj.cells O.toArray T2)).alloc (Obj.cells rl.toArray T3)) (w.heap.size+1) 0 O/\World.rangeAt (((w.alloc (Obj.cells bl.toArray T1)).alloc (Obj.cells O.toArray T2)).alloc (Obj.cells rl.toArray T3)) (w.heap.size+1+1) 0 rl/\World.there (((w.alloc (Obj.cells bl.toArray T1)).alloc (Obj.cells O.toArray T2)).alloc (Obj.cells rl.toArray T3)) (w.heap.size+1+1) 0 rl.length/\yn w (((w.alloc (Obj.cells bl.toArray T1)).alloc (Obj.cells O.toArray T2)).alloc (Obj.cells rl.toArray T3)):=by
 have xJ:=zf w (Obj.cells bl.toArray T1);have ug:((w.alloc (Obj.cells bl.toArray T1)).alloc (Obj.cells O.toArray T2)).heap.size=w.heap.size+1+1:=by rw[zf,xJ]
 have r1:=zm w bl T1;have r2:=zm (w.alloc (Obj.cells bl.toArray T1)) O T2;have r3:=zm ((w.alloc (Obj.cells bl.toArray T1)).alloc (Obj.cells O.toArray T2)) rl T3;have t3:=zW ((w.alloc (Obj.cells bl.toArray T1)).alloc (Obj.cells O.toArray T2)) rl T3;have b1:=mn w (Obj.cells bl.toArray T1);have b2:Below (w.alloc (Obj.cells bl.toArray T1)).heap.size (w.alloc (Obj.cells bl.toArray T1)) ((w.alloc (Obj.cells bl.toArray T1)).alloc (Obj.cells O.toArray T2)):=mn _ _;have b3:Below ((w.alloc (Obj.cells bl.toArray T1)).alloc (Obj.cells O.toArray T2)).heap.size ((w.alloc (Obj.cells bl.toArray T1)).alloc (Obj.cells O.toArray T2)) (((w.alloc (Obj.cells bl.toArray T1)).alloc (Obj.cells O.toArray T2)).alloc (Obj.cells rl.toArray T3)):=mn _ _;rw[xJ] at r2;rw[ug] at r3 t3;refine⟨by rw[zf,ug],zc (zc r1 b2 (by omega)) b3 (by omega),zc r2 b3 (by omega),r3,t3,b1.trans ((mr b2 b3).mono b1.size)⟩
structure BkS (B:Nat) (v:Value) (l:List Int) (w:World) (n:Int) (q:List Od) (vq:Value) (m':Int) (W:World):Prop where
 c0:W.cell? ⟨w.heap.size+1,0,none⟩=some (.int .i64 n)
 c1:W.cell? ⟨w.heap.size+1,1,none⟩=some vq
 th:W.there (w.heap.size+1) 0 2
 th0:W.there w.heap.size 0 2
 row:ORow W (w.heap.size+2) vq q
 src:Src B W v l m'
 gr:w.grownBy W (some B)
 sz:w.heap.size+2<=W.heap.size
section
variable {B:Nat} {v:Value} {l:List Int} {w W W':World} {n:Int} {q:List Od} {vq:Value} {m' m'':Int}
theorem lj (h:BkS B v l w n q vq m' W)(hB:B<w.heap.size)(X:W.grownBy W' (some B))(hs:Src B W' v l m''):BkS B v l w n q vq m'' W' where
 c0:=X.cell h.c0 (fun e=>by have:=Option.some.inj e;simp at this;omega)
 c1:=X.cell h.c1 (fun e=>by have:=Option.some.inj e;simp at this;omega)
 th:=zK h.th X (by have:=h.sz;omega) (fun e=>by have:=Option.some.inj e;omega)
 th0:=zK h.th0 X (by have:=h.sz;omega) (fun e=>by have:=Option.some.inj e;omega)
 row:=h.row.kept X (by
  cases hv:vq.ownBlock with
  | none=>exact .inl rfl
  | some g=>exact .inr (fun e=>by have:=Option.some.inj e;have:=(h.row.lt g hv).1;omega))
 src:=hs
 gr:=zw h.gr X
 sz:=yO h.sz X.size
theorem gS (h:BkS B v l w n q vq m' W)(hB:B<w.heap.size)(hv:l ≠ []->∃b',v.ownBlock=some b'/\b'<w.heap.size){p:Nat}(hp:w.heap.size+2<=p)(hq:vq.ownBlock≠some p)(o:Nat)(u:Value):BkS B v l w n q vq m' (W.setCell (J p o) u) where
 c0:=(dX W (J p o) u).cell h.c0 (fun e=>by have:=Option.some.inj e;simp at this;omega)
 c1:=(dX W (J p o) u).cell h.c1 (fun e=>by have:=Option.some.inj e;simp at this;omega)
 th:=zK h.th (dX W (J p o) u) (by have:=h.sz;omega) (fun e=>by have:=Option.some.inj e;simp at this;omega)
 th0:=zK h.th0 (dX W (J p o) u) (by have:=h.sz;omega) (fun e=>by have:=Option.some.inj e;simp at this;omega)
 row:=h.row.kept (dX W (J p o) u) (.inr hq)
 src:=hU h.src (dX W (J p o) u) (fun e=>by have:=Option.some.inj e;simp at this;omega) (fun xr e=>by
  obtain⟨b',D,Y⟩:=hv xr;rw[D] at e;have:=Option.some.inj e;simp at this;omega)
 gr:=by
  have g:=dX W (J p o) u;exact⟨h.gr.os,h.gr.tape,h.gr.output,yO h.gr.size g.size,fun k hk xr=>(g.block k (yK hk h.gr.size) (fun e=>by have:=Option.some.inj e;simp at this;omega)).trans (h.gr.block k hk xr)⟩
 sz:=yO h.sz (dX W (J p o) u).size
theorem lh {W:World}{b c o k:Nat}{u:Value}(h:W.there b o k)(j:Nat):(W.setCell (J c j) u).there b o k:=xc (vs:=[u]) h c j
theorem bkS_next (h:BkS B v l w n q vq m' W)(hB:B<w.heap.size)(hv:l ≠ []->∃b',v.ownBlock=some b'/\b'<w.heap.size)(n':Int):BkS B v l w n' q vq m' (W.setCell (J (w.heap.size+1) 0) (H n')) where
 c0:=yN _ _ _ h.c0
 c1:=(yM _ _ _ _ (ei (by omega))).trans h.c1
 th:=lh h.th 0
 th0:=lh h.th0 0
 row:=h.row.kept (dX W (J (w.heap.size+1) 0) _) (by
  cases hv:vq.ownBlock with
  | none=>exact .inl rfl
  | some g=>exact .inr (fun e=>by have:=Option.some.inj e;simp at this;have:=(h.row.lt g hv).1;omega))
 src:=hU h.src (dX W (J (w.heap.size+1) 0) _) (fun e=>by have:=Option.some.inj e;simp at this;omega) (fun xr e=>by
  obtain⟨b',D,Y⟩:=hv xr;rw[D] at e;have:=Option.some.inj e;simp at this;omega)
 gr:=by
  have g:=dX W (J (w.heap.size+1) 0) (H n');exact⟨h.gr.os,h.gr.tape,h.gr.output,yO h.gr.size g.size,fun k hk xr=>(g.block k (yK hk h.gr.size) (fun e=>by have:=Option.some.inj e;simp at this;omega)).trans (h.gr.block k hk xr)⟩
 sz:=yO h.sz (dX W (J (w.heap.size+1) 0) _).size
theorem bkS_set6 (h:BkS B v l w n q vq m' W)(hB:B<w.heap.size)(hv:l ≠ []->∃b',v.ownBlock=some b'/\b'<w.heap.size){p:Nat}(hp:w.heap.size+2<=p)(hq:vq.ownBlock≠some p)(v0 v1 v2 v3 v4 v5:Value) :
  BkS B v l w n q vq m' ((((((W.setCell (J p 0) v0).setCell (J p 1) v1).setCell (J p 2) v2).setCell (J p 3) v3).setCell (J p 4) v4).setCell (J p 5) v5):=
 gS (gS (gS (gS (gS (gS h hB hv hp hq 0 v0) hB hv hp hq 1 v1) hB hv hp hq 2 v2) hB hv hp hq 3 v3) hB hv hp hq 4 v4) hB hv hp hq 5 v5
theorem row_slice {W:World}{B e sz n:Nat}{v:Value}{xs:List Value}(h:W.ownsRow B e sz v n xs)(hn:0<n):∃g c,v = .slice (some (J g 0)) n c:=by
 rcases h.2 with⟨_,h0⟩|⟨g,cap,_,D,_⟩
 ·omega
 ·exact⟨g,cap,D⟩
theorem cellsQs {W:World}{s:Nat}(hs:W.heap.size=s)(F:List Value)(t:TypeId)(j:Nat)(u:Value)(h:F[j]? = some u):(W.alloc (Obj.cells F.toArray t)).cell? (((J s 0):Addr).add j)=some u:=by
 subst hs;exact cellsQ W F t j u h
theorem bkS_push (h:BkS B v l w n q vq m' W)(hB:B<w.heap.size)(hv:l ≠ []->∃b',v.ownBlock=some b'/\b'<w.heap.size){ob:Obj}{uB:Value}{o:Od}(xY:W'.ownsRow (w.heap.size+2) 65 6 uB (q.length+1) (q.flatMap Od.vs++o.vs))(X:(W.alloc ob).grownBy W' vq.ownBlock) :
  BkS B v l w n (q ++ [o]) uB m' (W'.setCell (J (w.heap.size+1) 1) uB):=by
 have uD:W.grownBy W' vq.ownBlock:=(World.grownBy_alloc W ob _).trans X;have xM:∀k,k<w.heap.size+2->some k≠vq.ownBlock:=fun k hk e=>by have:=(h.row.lt k e.symm).1;omega
 have km:=h.sz
 have s2:Src B W' v l m':=hU h.src uD (xM B (by omega)) (fun xr e=>by
  obtain⟨b',D,Y⟩:=hv xr;rw[D] at e;exact xM b' (by omega) e)
 have uF:ORow W' (w.heap.size+2) uB (q ++ [o]):=by
  show W'.ownsRow _ _ _ _ (q ++ [o]).length _;rw[yQ,List.flatMap_append];simpa using xY
 have g:=dX W' (J (w.heap.size+1) 1) uB;have e1:=uD.cell h.c1 (xM _ (by simp))
 exact {
  c0:=(yM _ _ _ _ (ei (by omega))).trans (uD.cell h.c0 (xM _ (by simp)))
  c1:=yN _ _ _ e1
  th:=lh (zK h.th uD (by omega) (xM _ (by omega))) 1
  th0:=lh (zK h.th0 uD (by omega) (xM _ (by omega))) 1
  row:=uF.kept g (by
   cases hv:uB.ownBlock with
   | none=>exact .inl rfl
   | some k=>exact .inr (fun e=>by have:=Option.some.inj e;simp at this;have:=(uF.lt k hv).1;omega))
  src:=hU s2 g (fun e=>by have:=Option.some.inj e;simp at this;omega) (fun xr e=>by
   obtain⟨b',D,Y⟩:=hv xr;rw[D] at e;have:=Option.some.inj e;simp at this;omega)
  gr:=⟨g.os.trans (uD.os.trans h.gr.os),g.tape.trans (uD.tape.trans h.gr.tape),g.output.trans (uD.output.trans h.gr.output),yO (yO h.gr.size uD.size) g.size,fun k hk xr =>
   (g.block k (yK hk (yO h.gr.size uD.size)) (fun e=>by have:=Option.some.inj e;simp at this;omega)).trans ((uD.block k (yK hk h.gr.size) (xM k (by omega))).trans (h.gr.block k hk xr))⟩
  sz:=yO km (yO uD.size g.size) }
end
theorem rd_lenR' {α:Type}{f:α->List Value}{sz:Nat}{W:World}{v:Value}{l:List α}(h:RdR f sz W v l):∃a c,v = .slice a l.length c:=by
 obtain⟨a,c,D,_⟩:=h;exact⟨a,c,D⟩
def BkI (B:Nat)(v:Value)(l:List Int)(m:Int)(w:World)(iv:Value)(wr:World):Prop:=
 ∃(i:Nat) (n:Int) (q:List Od) (vq:Value) (m':Int),iv=H i/\i+q.length<=13/\1<=n/\n<=1+3*(q.length:Int)/\DrB n q/\(∀c∈q,c.tag.size<=12) /\
  BkS B v l w n q vq m' wr/\m'<=m+3+100*(q.length:Int)
theorem book_any (B:Nat)(v:Value)(l:List Int)(m:Int)(w:World)(h:Src B w v l m)(hm:m<=1000000) :
  Calls Tryz.prog 54 #[I B 0] w fun e w'=>∃n v' q,e=ym (.agg #[H n,v'])/\OwnR Od.vs 6 w.heap.size w' v' q/\okS n q=true/\(∀c∈q,c.tag.size<=maxLen)/\w.grownBy w' (some B)/\(v' = .slice none 0 0 \/ ∃ad k c,v' = .slice (some ad) k c)/\Src B w' v l (m+1400):=by
 have HS:=Z h;have hB:=srcD_lt h
 have HV:Hid (l ≠ []->∃b',v.ownBlock=some b'/\b'<w.heap.size):=fun xr=>by
  obtain⟨a,cap,rfl,hl,hc⟩:=h.rd;obtain⟨b,off,rfl,xt⟩:=hc xr;exact⟨b,rfl,yL w _ (xt 0 (List.length_pos_iff.2 xr))⟩
 clear h;have xJ:=zf w (mq #[H 0,.slice none 0 0] 27);have ug:((w.alloc (mq #[H 0,.slice none 0 0] 27)).alloc (mq #[H 1,.slice none 0 0] 27)).heap.size=w.heap.size+2:=by rw[zf,xJ]
 have r1:=zm (w.alloc (mq #[H 0,.slice none 0 0] 27)) [H 1,.slice none 0 0] 27;have t1:=gk (n:=2) (heap_alloc_new (w.alloc (mq #[H 0,.slice none 0 0] 27)) (mq #[H 1,.slice none 0 0] 27)) (by simp);have t0:=zl (gk (n:=2) (heap_alloc_new w (mq #[H 0,.slice none 0 0] 27)) (by simp)) ((Below.refl (w.heap.size+1) _).alloc (by rw[xJ];omega) (mq #[H 1,.slice none 0 0] 27)) (by omega);rw[xJ] at r1 t1;have kC:=Z (srcE_alloc (srcE_alloc (eS (U HS)) (mq #[H 0,.slice none 0 0] 27)) (mq #[H 1,.slice none 0 0] 27));have HX:Hid (_/\_/\_):=⟨r1,t1,t0⟩;clear r1 t1 t0 xJ;go_enter Tryz.func54,Tryz.ntmps54;go_wp2_with fail;generalize ((w.alloc (mq #[H 0,.slice none 0 0] 27)).alloc (mq #[H 1,.slice none 0 0] 27))=W2 at kC HX ug |-;refine(sizeD_any B v l m 12 W2 (U kC).1 (by omega)).mono ?_;rintro e w3 ⟨y,rfl,jj,kR,rfl⟩;go_wp2_with fail;refine(zO B v l m (y+2) w3 (U kC).1 (by omega) (by omega) (by omega)).mono ?_;rintro e w4 ⟨z,rfl,uI,uG,hE4⟩;obtain⟨i0,rfl⟩:=Int.eq_ofNat_of_zero_le uI
 have uP:Hid (BkI B v l m w (H i0) w4):=by
  obtain⟨r1,t1,t0⟩:=U HX;have hk:BkS B v l w 1 [] (.slice none 0 0) m w3:=⟨r1 0 _ rfl,r1 1 _ rfl,t1,t0,World.ownsRow_nil _ _ _ _,(U kC).1,(U kC).2,by omega⟩;exact⟨i0,1,[],.slice none 0 0,m+3,rfl,by simp;omega,by omega,by simp,drB_nil,by simp,lj hk hB hE4.2 hE4.1,by simp⟩
 clear hE4;go_wp2_with fail;go_loopw [4] (fun iv wr=>BkI B v l m w iv wr) (fun iv _=>(intOf iv).toNat)
 case atStart=>exact U uP
 case round =>
  obtain⟨i,n,q,vq,m',rfl,hiq,hn1,hn2,ji,htg,hbk,hm'⟩:=hrel;have aM:=Z ji;have pz:=Z htg;have bH:=Z hbk;clear ji htg hbk
  by_cases hi:0<i
  ·have qW:(0:Int)<i:=by omega
   go_wp2_with fail;refine zu (RS (BS B wr v l m') (fun f=>{ tmps:=#[I B 0,M,yp w 0,I (w.heap.size+1) 0,H i,u5,.agg #[H 1,.slice none 0 0],I B 0,I B 0,H y,H (y+2),H i0,H i,.bool true,u14,u15,f 0,f 1,f 2,f 3,f 4,f 5,u22,u23,u24,u25,u26,u27,u28,u29,u30,u31,u32,u33,u34,u35,u36,u37,u38,u39,u40,u41,u42,u43,u44,u45,u46,u47,u48,u49,u50,u51,u52,u53,u54,u55,u56,u57,M],defers:=[] }) 6 (D5 B (w.heap.size+1) n (fun W=>∃yy:Int,0<=yy/\yy<=2/\BkS B v l w (n+yy) q vq (m'+21) W))) (by kernel_rfl) ?_ ?_ ?_
   ·exact⟨fun j=>if j=0 then u16 else if j=1 then u17 else if j=2 then u18 else if j=3 then u19 else if j=4 then u20 else if j=5 then u21 else M,rfl,fun _=>⟨m',by simp,fY (eS (U bH).src) 1⟩,fun j hj=>by rw[yJ] at hj;split at hj <;> simp at hj⟩
   ·rintro x zb V ⟨f,rfl,-,hD⟩ hx xS;have xq:=eE xS hx (acyc _ (by kernel_rfl));have k6:x[6]? = some true:=xq 6 (by simp);obtain⟨yy,hyy0,hyy1,uc⟩:=hD 6 k6 k6;have ui:=Z uc;clear hD xq xS hx uc k6;dsimp only;generalize f 0=z0,f 1=z1,f 2=z2,f 3=z3,f 4=z4,f 5=z5;go_wp2_with fail;generalize hV5:V=V5 at *;clear hV5 V;refine zu (RS (BS B V5 v l (m'+21)) (fun f=>{ tmps:=#[I B 0,M,yp w 0,I (w.heap.size+1) 0,H i,f 15,.agg #[H 1,.slice none 0 0],I B 0,I B 0,H y,H (y+2),H i0,H i,.bool true,u14,u15,z0,z1,z2,z3,z4,z5,f 0,f 1,f 2,f 3,f 4,f 5,f 6,f 7,f 8,f 9,f 10,f 11,f 12,f 13,f 14,u37,u38,u39,u40,u41,u42,u43,u44,u45,u46,u47,u48,u49,u50,u51,u52,u53,u54,u55,u56,u57,M],defers:=[] }) 16 (D6 B (w.heap.size+1) V5.heap.size (n+yy) ⟨#[]⟩ ⟨#[97]⟩ ⟨#[100,101,115,107,32,55]⟩ (fun pt W=>∃o:Od,DrA (n+yy) o/\W.rangeAt pt 0 o.vs/\W.there pt 0 6/\pt<W.heap.size/\BkS B v l w (n+yy) q vq (m'+80) W))) (by kernel_rfl) ?_ ?_ ?_
    ·exact⟨fun j=>if j=0 then u22 else if j=1 then u23 else if j=2 then u24 else if j=3 then u25 else if j=4 then u26 else if j=5 then u27 else if j=6 then u28 else if j=7 then u29 else if j=8 then u30 else if j=9 then u31 else if j=10 then u32 else if j=11 then u33 else if j=12 then u34 else if j=13 then u35 else if j=14 then u36 else if j=15 then u5 else M,rfl,fun _=>⟨m'+21,by simp,fY (eS (U ui).src) 1⟩,fun j hj=>by rw[yJ] at hj;split at hj <;> simp at hj⟩
    ·rintro x zb V ⟨f,rfl,-,hD⟩ hx xS;have xq:=eE xS hx (acyc _ (by kernel_rfl));have k16:x[16]? = some true:=xq 16 (by simp);obtain⟨pt,e15,hSp,-,hpB,-,qv⟩:=hD 15 (xq 15 (by simp));obtain⟨⟨id,side,tk,left,life,tag⟩,hda,hro,hto,uA,hbk6⟩:=qv k16;have HBK6:=Z hbk6;have HRO:=Z hro;have pd:=Z hto;have HDA:=Z hda;have hpq:vq.ownBlock≠some pt:=fun e=>by have:=((U ui).row.lt pt e).2;omega
     have cV:w.heap.size+2<=pt:=yO (U ui).sz hSp;have hpB':some pt≠some B:=fun e=>hpB (Option.some.inj e);dsimp only;simp only[e15];clear hD xq xS hx hbk6 hro hto qv k16 hda e15;generalize f 0=a0,f 1=a1,f 2=a2,f 3=a3,f 4=a4,f 5=a5,f 6=a6,f 7=a7,f 8=a8,f 9=a9,f 10=a10,f 11=a11,f 12=a12,f 13=a13,f 14=a14;go_wp2_with fail;refine(zO B v l (m'+80) 4 V (U HBK6).src (by omega) (by omega) (by omega)).mono ?_;rintro e w7 ⟨y7,rfl,h70,h71,hE7⟩;have HBK7:=Z (lj (U HBK6) hB hE7.2 hE7.1);have hr7:=zr (U HRO) hE7.2 uA hpB';have ht7:=zK (U pd) hE7.2 uA hpB';have hpl7:=yK uA hE7.2.size;have HBK8:=Z (gS (U HBK7) hB (U HV) cV hpq 2 (H (400+y7)))
     have hr8:(w7.setCell (J pt 2) (H (400+y7))).rangeAt pt 0 (yw id side (400+y7) left life tag):=by
      have:=iR (v:=H (400+y7)) hr7 (j0:=2) (by simp[Od.vs]);simpa[Od.vs] using this
     have ht8:(w7.setCell (J pt 2) (H (400+y7))).there pt 0 6:=lh ht7 2;have hpl8:pt<(w7.setCell (J pt 2) (H (400+y7))).heap.size:=by simpa[World.setCell] using hpl7
     have k1:w7.cell? (J pt 1)=some (H side):=hr7 1 _ rfl;have k2:w7.cell? (J pt 2)=some (H tk):=hr7 2 _ rfl;have kf2:w7.frozen? (J pt 2)=false:=(ht7 2 (by omega)).2;have pq:IntKind.i64.wrap (400+y7)=400+y7:=by rw[IntKind.wrap_i64];omega
     have HR8:=Z hr8;have ax:=Z ht8;clear hE7 hr7 ht7 hr8 ht8;obtain⟨ii,hii,uI,uG,uZ⟩:=info_parts Tryz.infoOrder;rcases(U HDA).2.1 with hs|hs
     ·obtain rfl:side=1:=hs;go_wp2_with fail;generalize (w7.setCell (J pt 2) (H (400+y7)))=W8 at HBK8 HR8 ax hpl8 |-;refine(zO B v l (m'+80+3) 4 W8 (U HBK8).src (by omega) (by omega) (by omega)).mono ?_;rintro e w9 ⟨y9,rfl,h90,h91,hE9⟩;have HBK9:=Z (lj (U HBK8) hB hE9.2 hE9.1);have hr9:=zr (U HR8) hE9.2 hpl8 hpB';have bC:=zK (U ax) hE9.2 hpl8 hpB';have hpl9:=yK hpl8 hE9.2.size;have uV:=Z (gS (U HBK9) hB (U HV) cV hpq 2 (H (399-y9)))
      have qX:Hid ((w9.setCell (J pt 2) (H (399-y9))).rangeAt pt 0 (yw id 1 (399-y9) left life tag)):=by
       have:=iR (v:=H (399-y9)) hr9 (j0:=2) (by simp);show World.rangeAt _ _ _ _;simpa using this
      have hplX:pt<(w9.setCell (J pt 2) (H (399-y9))).heap.size:=by simpa[World.setCell] using hpl9
      have k2:w9.cell? (J pt 2)=some (H (400+y7)):=hr9 2 _ rfl;have kf2:w9.frozen? (J pt 2)=false:=(bC 2 (by omega)).2;have hwr3:IntKind.i64.wrap (399-y9)=399-y9:=by rw[IntKind.wrap_i64];omega
      clear hE9 hr9 bC;have xG:=Z (bkS_next (U uV) hB (U HV) (n+yy+1));have hrx2:=zr (U qX) (dX (w9.setCell (J pt 2) (H (399-y9))) (J (w.heap.size+1) 0) (H (n+yy+1))) hplX (fun e=>by have:=Option.some.inj e;simp at this;omega);have kc:=Z hrx2;have hx0:=(U uV).c0;have hxf:=((U uV).th 0 (by omega)).2;rw[Nat.zero_add] at hxf;have hwr2:IntKind.i64.wrap (n+yy+1)=n+yy+1:=by rw[IntKind.wrap_i64];omega
      clear hrx2;have af:=(U xG).c1;obtain⟨o0,o1,o2,o3,o4,o5⟩:_/\_/\_/\_/\_/\_:=⟨U kc 0 _ rfl,U kc 1 _ rfl,U kc 2 _ rfl,U kc 3 _ rfl,U kc 4 _ rfl,U kc 5 _ rfl⟩;simp only[Nat.zero_add] at o0 o1 o2 o3 o4 o5;have hs10:=(U xG).sz;have ki:((w9.setCell (J pt 2) (H (399-y9))).setCell (J (w.heap.size+1) 0) (H (n+yy+1))).heap.size=w9.heap.size:=by simp[World.setCell]
      rw[ki] at hs10;go_wp2_with (at_builtin;go_must (refine wpList_append_own _ rfl _ _ 25 rfl (w.heap.size+2) 65 ii _ 6 56 Tryz.underlying25 hii uI uG uZ rfl (by decide) vq q.length (q.flatMap Od.vs) rfl ((U xG).row.alloc _) (yq w9 0) 1 1 (Od.mk id 1 (399-y9) left life tag).vs rfl rfl (cellsQs ki _ _) (by simp[Value.oneCell',Od.vs]) (by unfold maxLen;omega) (by omega) (by rw[zf,ki];omega) ?_);intro v4 w11 qg jv _;obtain⟨g4,c4,rfl⟩:=row_slice qg (by omega);have HK11:=Z (bkS_push (o:=Od.mk id 1 (399-y9) left life tag) (U xG) hB (U HV) qg jv);have q1:=jv.cell ((yW _ _ (J (w.heap.size+1) 1) (by rw[ki];exact(show w.heap.size+1<w9.heap.size by omega))).trans af) (fun e=>absurd ((U xG).row.lt _ e.symm).1 (by simp));have q2:=(zK (zK (U xG).th (iG _ _ none) (by rw[ki];omega) (by simp)) jv (by rw[zf,ki];omega) (fun e=>by have:=((U xG).row.lt _ e.symm).1;omega) 1 (by omega)).2;clear qg jv)
      try dsimp only[H,I,J,M,yj,yk,yv,yw,yx,yp,yq,mq]
      go_roundw
      case rel =>
       refine⟨i-1,n+yy+1,q ++ [Od.mk id 1 (399-y9) left life tag],_,m'+80+3+3,?_,by simp;omega,by omega,by simp;omega,?_,?_,U HK11,by simp;omega⟩
       ·have:((i-1:Nat):Int)=(i:Int)-1:=by omega
        rw[this]
       ·obtain⟨e1,e2,e3,e4,e5,e6,e7⟩:=U HDA;exact drB_push (U aM) ⟨.inl ⟨rfl,by show(396:Int)<=399-y9;omega,by show 399-y9<=(399:Int);omega⟩,e3,e4,e5,e6,e7⟩ e1 hyy0 hn1
       ·intro c hc;rcases List.mem_append.1 hc with hc|hc
        ·exact U pz c hc
        ·simp at hc;subst hc;have:=(U HDA).2.2.2.2.2.2;simp only[tagB,xf,xg] at this;exact this.1
      case measure=>simp[intOf];omega
     ·obtain rfl:side=2:=hs;have uV:=HBK8;have qX:=HR8;have hplX:=hpl8;have xG:=Z (bkS_next (U uV) hB (U HV) (n+yy+1));have hrx2:=zr (U qX) (dX (w7.setCell (J pt 2) (H (400+y7))) (J (w.heap.size+1) 0) (H (n+yy+1))) hplX (fun e=>by have:=Option.some.inj e;simp at this;omega);have kc:=Z hrx2;have hx0:=(U uV).c0;have hxf:=((U uV).th 0 (by omega)).2;rw[Nat.zero_add] at hxf;have hwr2:IntKind.i64.wrap (n+yy+1)=n+yy+1:=by rw[IntKind.wrap_i64];omega
      clear hrx2;have af:=(U xG).c1;obtain⟨o0,o1,o2,o3,o4,o5⟩:_/\_/\_/\_/\_/\_:=⟨U kc 0 _ rfl,U kc 1 _ rfl,U kc 2 _ rfl,U kc 3 _ rfl,U kc 4 _ rfl,U kc 5 _ rfl⟩;simp only[Nat.zero_add] at o0 o1 o2 o3 o4 o5;have hs10:=(U xG).sz;have ki:((w7.setCell (J pt 2) (H (400+y7))).setCell (J (w.heap.size+1) 0) (H (n+yy+1))).heap.size=w7.heap.size:=by simp[World.setCell]
      rw[ki] at hs10;go_wp2_with (at_builtin;go_must (refine wpList_append_own _ rfl _ _ 25 rfl (w.heap.size+2) 65 ii _ 6 56 Tryz.underlying25 hii uI uG uZ rfl (by decide) vq q.length (q.flatMap Od.vs) rfl ((U xG).row.alloc _) (yq w7 0) 1 1 (Od.mk id 2 (400+y7) left life tag).vs rfl rfl (cellsQs ki _ _) (by simp[Value.oneCell',Od.vs]) (by unfold maxLen;omega) (by omega) (by rw[zf,ki];omega) ?_);intro v4 w11 qg jv _;obtain⟨g4,c4,rfl⟩:=row_slice qg (by omega);have HK11:=Z (bkS_push (o:=Od.mk id 2 (400+y7) left life tag) (U xG) hB (U HV) qg jv);have q1:=jv.cell ((yW _ _ (J (w.heap.size+1) 1) (by rw[ki];exact(show w.heap.size+1<w7.heap.size by omega))).trans af) (fun e=>absurd ((U xG).row.lt _ e.symm).1 (by simp));have q2:=(zK (zK (U xG).th (iG _ _ none) (by rw[ki];omega) (by simp)) jv (by rw[zf,ki];omega) (fun e=>by have:=((U xG).row.lt _ e.symm).1;omega) 1 (by omega)).2;clear qg jv)
      try dsimp only[H,I,J,M,yj,yk,yv,yw,yx,yp,yq,mq]
      go_roundw
      case rel =>
       refine⟨i-1,n+yy+1,q ++ [Od.mk id 2 (400+y7) left life tag],_,m'+80+3,?_,by simp;omega,by omega,by simp;omega,?_,?_,U HK11,by simp;omega⟩
       ·have:((i-1:Nat):Int)=(i:Int)-1:=by omega
        rw[this]
       ·obtain⟨e1,e2,e3,e4,e5,e6,e7⟩:=U HDA;exact drB_push (U aM) ⟨.inr ⟨rfl,by show(400:Int)<=400+y7;omega,by show 400+y7<=(403:Int);omega⟩,e3,e4,e5,e6,e7⟩ e1 hyy0 hn1
       ·intro c hc;rcases List.mem_append.1 hc with hc|hc
        ·exact U pz c hc
        ·simp at hc;subst hc;have:=(U HDA).2.2.2.2.2.2;simp only[tagB,xf,xg] at this;exact this.1
      case measure=>simp[intOf];omega
    ·rintro x zb V j o ⟨f,rfl,kZ,hD⟩ xn hx Q xu R;have uJ:=Z kZ;have HD:=Z hD
     have kk:j<16->¬ x[16]? = some true:=fun xM dC=>by
      have jd:=yf xn 16 rfl dC 15 rfl;have ph:=yf xn 16 rfl dC 14 rfl;have D:=yf xn 14 rfl ph 1 rfl;have h4:=yf xn 14 rfl ph 4 rfl;have h7:=yf xn 14 rfl ph 7 rfl;have qi:=yf xn 14 rfl ph 10 rfl;have pg:=yf xn 14 rfl ph 13 rfl;have h0:=yf xn 1 rfl D 0 rfl;have h3:=yf xn 4 rfl h4 3 rfl;have Y:=yf xn 3 rfl h3 2 rfl;have h6:=yf xn 7 rfl h7 6 rfl;have h5:=yf xn 6 rfl h6 5 rfl;have h9:=yf xn 10 rfl qi 9 rfl;have h8:=yf xn 9 rfl h9 8 rfl;have vT:=yf xn 13 rfl pg 12 rfl;have jc:=yf xn 13 rfl pg 11 rfl
      have vU:∀j,j<16->x[j]? = some true:=fun j hj=>by
       rcases(by omega:j=0\/j=1\/j=2\/j=3\/j=4\/j=5\/j=6\/j=7\/j=8\/j=9\/j=10\/j=11\/j=12\/j=13\/j=14\/j=15) with rfl|rfl|rfl|rfl|rfl|rfl|rfl|rfl|rfl|rfl|rfl|rfl|rfl|rfl|rfl|rfl <;> assumption
      rw[vU j xM] at xu;cases xu
     have nk0:¬ x[16]? = some true:=by
      by_cases hj:j<16
      ·exact kk hj
      ·have hj2:=(yH.1 Q).1;simp at hj2;obtain rfl:j=16:=by omega
       rw[xu];simp
     have hkV:BkS B v l w (n+yy) q vq (m'+80) V:=by
      obtain⟨mm,kl,vM⟩:=kZ nk0;exact lj (U ui) hB vM.2 (eH vM.1 (by have:=List.count_le_length (a:=true) (l:=x);rw[hx] at this;simp at this;omega))
     have oC:=hkV.c0;have km:=hkV.sz;clear kZ xn
     match j,Q with
     | 0,Q =>
      cases Q;have nk:=kk (by omega);clear R hD;go_simp;exact⟨upd f 0 (I (w.heap.size+1) 0),by simp[upd],zQ (U HD) (by decide) xu (fun _ _ h=>h) (eU (U uJ nk)) rfl⟩
     | 1,Q =>
      cases Q;have nk:=kk (by omega);have g0:f 0=I (w.heap.size+1) 0:=hD 0 (ye R 0 rfl);clear R hD;go_simp;exact⟨upd f 1 (H (n+yy)),by simp[upd,g0],zQ (U HD) (by decide) xu (fun _ _ h=>h) (eU (U uJ nk)) rfl⟩
     | 2,Q|5,Q|8,Q|11,Q =>
      cases Q;have nk:=kk (by omega);clear R hD;go_simp;exact⟨upd f _ (I B 0),by simp[upd],zQ (U HD) (by decide) xu (fun _ _ h=>h) (eU (U uJ nk)) rfl⟩
     | 3,Q =>
      cases Q;have nk:=kk (by omega);have gd:f 2=I B 0:=hD 2 (ye R 2 rfl);obtain⟨mm,kl,vM⟩:=U uJ nk;have kr:=Z vM;have aY:mm<=2000000:=by have:=List.count_le_length (a:=true) (l:=x);rw[hx] at this;simp at this;omega
      clear R hD vM;go_simp;refine(zO B v l mm 2 V (U kr).1 (by omega) (by omega) (by omega)).mono ?_;rintro e w5 ⟨y5,rfl,bO,h51,kg⟩;exact⟨upd f 3 (H y5),by simp[upd,gd],zQ (U HD) (by decide) xu (d6_mono nk kg.2) (bs_call kl (U kr) kg) ⟨y5,rfl,bO,by omega⟩⟩
     | 4,Q =>
      cases Q;have nk:=kk (by omega);obtain⟨y5,gd,bO,h51⟩:=hD 3 (ye R 3 rfl);have pq:IntKind.i64.wrap (1+y5)=1+y5:=by rw[IntKind.wrap_i64];omega
      clear R hD;go_simp;exact⟨upd f 4 (H (1+y5)),by simp[upd,gd],zQ (U HD) (by decide) xu (fun _ _ h=>h) (eU (U uJ nk)) ⟨1+y5,rfl,by omega,by omega⟩⟩
     | 6,Q =>
      cases Q;have nk:=kk (by omega);have gd:f 5=I B 0:=hD 5 (ye R 5 rfl);obtain⟨mm,kl,vM⟩:=U uJ nk;have kr:=Z vM;have aY:mm<=2000000:=by have:=List.count_le_length (a:=true) (l:=x);rw[hx] at this;simp at this;omega
      clear R hD vM;go_simp;refine(zO B v l mm 9 V (U kr).1 (by omega) (by omega) (by omega)).mono ?_;rintro e w5 ⟨y5,rfl,bO,h51,kg⟩;exact⟨upd f 6 (H y5),by simp[upd,gd],zQ (U HD) (by decide) xu (d6_mono nk kg.2) (bs_call kl (U kr) kg) ⟨y5,rfl,bO,by omega⟩⟩
     | 7,Q =>
      cases Q;have nk:=kk (by omega);obtain⟨y5,gd,bO,h51⟩:=hD 6 (ye R 6 rfl);have pq:IntKind.i64.wrap (1+y5)=1+y5:=by rw[IntKind.wrap_i64];omega
      clear R hD;go_simp;exact⟨upd f 7 (H (1+y5)),by simp[upd,gd],zQ (U HD) (by decide) xu (fun _ _ h=>h) (eU (U uJ nk)) ⟨1+y5,rfl,by omega,by omega⟩⟩
     | 9,Q =>
      cases Q;have nk:=kk (by omega);have gd:f 8=I B 0:=hD 8 (ye R 8 rfl);obtain⟨mm,kl,vM⟩:=U uJ nk;have kr:=Z vM;have aY:mm<=2000000:=by have:=List.count_le_length (a:=true) (l:=x);rw[hx] at this;simp at this;omega
      clear R hD vM;go_simp;refine(zO B v l mm 3 V (U kr).1 (by omega) (by omega) (by omega)).mono ?_;rintro e w5 ⟨y5,rfl,bO,h51,kg⟩;exact⟨upd f 9 (H y5),by simp[upd,gd],zQ (U HD) (by decide) xu (d6_mono nk kg.2) (bs_call kl (U kr) kg) ⟨y5,rfl,bO,by omega⟩⟩
     | 10,Q =>
      cases Q;have nk:=kk (by omega);obtain⟨y5,gd,bO,h51⟩:=hD 9 (ye R 9 rfl);clear R hD;rw[if_pos (by rfl)];rcases(by omega:y5=0\/y5=1\/y5=2) with rfl|rfl|rfl
      ·unfold Oper.wp;go_simp;exact⟨upd f 10 (H 0),(by simp[upd,gd];try rfl),zQ (U HD) (by decide) xu (fun _ _ h=>h) (eU (U uJ nk)) ⟨0,rfl,by omega,by omega⟩⟩
      ·unfold Oper.wp;go_simp;exact⟨upd f 10 (H 0),(by simp[upd,gd];try rfl),zQ (U HD) (by decide) xu (fun _ _ h=>h) (eU (U uJ nk)) ⟨0,rfl,by omega,by omega⟩⟩
      ·unfold Oper.wp;go_simp;exact⟨upd f 10 (H 1),(by simp[upd,gd];try rfl),zQ (U HD) (by decide) xu (fun _ _ h=>h) (eU (U uJ nk)) ⟨1,rfl,by omega,by omega⟩⟩
     | 12,Q =>
      cases Q;have nk:=kk (by omega);have hS:V5.heap.size<=V.heap.size:=by obtain⟨mm,kl,vM⟩:=U uJ nk;exact vM.2.size
      clear R hD;go_simp;exact⟨upd f 12 (.slice (some (yq V 0)) 3 3),by simp[upd],zQ (U HD) (by decide) xu (d6_mono nk (iG _ _ _)) (bs_alloc (U uJ nk) _) ⟨V.heap.size,rfl,hS,by omega,fun _=>zm V [yk ⟨#[]⟩,yk ⟨#[97]⟩,yk ⟨#[100,101,115,107,32,55]⟩] _⟩⟩
     | 13,Q =>
      cases Q;have nk:=kk (by omega);have gd:f 11=I B 0:=hD 11 (ye R 11 rfl);obtain⟨g,gs,hSg,hgB,po⟩:=hD 12 (ye R 12 rfl);have dx:=Z (po nk);obtain⟨mm,kl,vM⟩:=U uJ nk;have kr:=Z vM;have aY:mm<=2000000:=by have:=List.count_le_length (a:=true) (l:=x);rw[hx] at this;simp at this;omega
      clear R hD vM po;go_simp;refine(pick3_any B g v l mm _ _ _ V (U kr).1 (by omega) hgB (U dx 0 _ rfl) (U dx 1 _ rfl) (U dx 2 _ rfl)).mono ?_;rintro e w5 ⟨s5,rfl,hs5,kg⟩;exact⟨upd f 13 (yk s5),by simp[upd,gd,gs],zQ (U HD) (by decide) xu (d6_mono nk kg.2) (bs_call kl (U kr) kg) ⟨s5,rfl,hs5⟩⟩
     | 14,Q =>
      cases Q;have nk:=kk (by omega);have g1:f 1=H (n+yy):=hD 1 (ye R 1 rfl);obtain⟨y4,g4,h40,h41⟩:=hD 4 (ye R 4 rfl);obtain⟨y7,g7,h70,h71⟩:=hD 7 (ye R 7 rfl);obtain⟨dO,jL,h100,h101⟩:=hD 10 (ye R 10 rfl);obtain⟨s13,kI,hs13⟩:=hD 13 (ye R 13 rfl);have HT:Hid (tagB s13=true):=by show tagB s13=true;rcases hs13 with rfl|rfl|rfl <;> decide
      clear R hD hs13;go_simp;exact⟨upd f 14 (.agg (yw (n+yy) y4 0 y7 dO s13).toArray),by simp[upd,g1,g4,g7,jL,kI],zQ (U HD) (by decide) xu (fun _ _ h=>h) (eU (U uJ nk)) ⟨_,_,_,_,_,rfl,rfl,(by omega:y4=1\/y4=2),h70,h71,h100,h101,U HT⟩⟩
     | 15,Q =>
      cases Q;have nk:=kk (by omega);have hS:V5.heap.size<=V.heap.size:=by obtain⟨mm,kl,vM⟩:=U uJ nk;exact vM.2.size
      clear R hD;go_simp;exact⟨upd f 15 (yp V 0),by simp[upd],zQ (U HD) (by decide) xu (d6_mono nk (iG _ _ _)) (bs_alloc (U uJ nk) _) ⟨V.heap.size,rfl,hS,fun _=>by rw[zf];omega,by omega,fun _=>zW V (yw 0 0 0 0 0 ⟨#[]⟩) _,fun h'=>absurd h' nk⟩⟩
     | 16,Q =>
      cases Q;obtain⟨id,side,left,life,tag,pf,hdra⟩:=hD 14 (ye R 14 rfl);obtain⟨pt,g15,hSp,uA,hpB,pD,-⟩:=hD 15 (ye R 15 rfl);have HPT:=Z (pD nk0);have hpl':=uA nk0;have hpq:vq.ownBlock≠some pt:=fun e=>by have:=((U ui).row.lt pt e).2;omega
      have cV:w.heap.size+2<=pt:=yO (U ui).sz hSp;have HK6:=Z (bkS_set6 hkV hB (U HV) cV hpq (H id) (H side) (H 0) (H left) (H life) (yk tag));have oj:=Z (set6_range (v0:=H id) (v1:=H side) (v2:=H 0) (v3:=H left) (v4:=H life) (v5:=yk tag) (U HPT));have jU:=Z (xc (U HPT) pt 0 (yw id side 0 left life tag));have HS6:=Z (fO pt (yw id side 0 left life tag) 0 V);obtain⟨⟨x0,y0,q0⟩,⟨x1,y1,q1⟩,⟨x2,y2,q2⟩,⟨x3,y3,q3⟩,⟨x4,y4,q4⟩,x5,y5,q5⟩:=there6 (pD nk0);have HDA:=Z hdra;clear R hkV hD pD hdra;go_simp;refine⟨upd f 16 M,by simp[upd,pf,g15],rs_last (U HD) xu (fun j hj hxj h=>?_) trivial⟩
      match j with
      | 0=>exact h
      | 1=>exact h
      | 2=>exact h
      | 3=>exact h
      | 4=>exact h
      | 5=>exact h
      | 6=>exact h
      | 7=>exact h
      | 8=>exact h
      | 9=>exact h
      | 10=>exact h
      | 11=>exact h
      | 12 =>
       obtain⟨g,D,Y,h3,h4⟩:=h;exact⟨g,D,Y,h3,fun h'=>absurd trivial h'⟩
      | 13=>exact h
      | 14=>exact h
      | 15=>exact⟨pt,g15,hSp,fun h'=>absurd trivial h',hpB,fun h'=>absurd trivial h',fun _=>⟨⟨id,side,0,left,life,tag⟩,U HDA,U oj,U jU,Nat.lt_of_lt_of_eq hpl' (U HS6).symm,U HK6⟩⟩
      | 16=>exact absurd rfl hj
      | j+17=>trivial
     | j+17,Q=>simp at Q
   ·rintro x zb V j o ⟨f,rfl,kZ,hD⟩ xn hx Q xu R;have uJ:=Z kZ;have HD:=Z hD
    have kk:j<6->¬ x[6]? = some true:=fun xM h6=>by
     have h5:=yf xn 6 rfl h6 5 rfl;have h4:=yf xn 6 rfl h6 4 rfl;have h3:=yf xn 4 rfl h4 3 rfl;have D:=yf xn 4 rfl h4 1 rfl;have Y:=yf xn 3 rfl h3 2 rfl;have h0:=yf xn 1 rfl D 0 rfl
     have vU:∀j,j<6->x[j]? = some true:=fun j hj=>by
      rcases(by omega:j=0\/j=1\/j=2\/j=3\/j=4\/j=5) with rfl|rfl|rfl|rfl|rfl|rfl <;> assumption
     rw[vU j xM] at xu;cases xu
    have nk0:¬ x[6]? = some true:=by
     by_cases hj:j<6
     ·exact kk hj
     ·have hj2:=(yH.1 Q).1;simp at hj2;obtain rfl:j=6:=by omega
      rw[xu];simp
    have hkV:BkS B v l w n q vq (m'+21) V:=by
     obtain⟨mm,kl,vM⟩:=kZ nk0;exact lj (U bH) hB vM.2 (eH vM.1 (by have:=List.count_le_length (a:=true) (l:=x);rw[hx] at this;simp at this;omega))
    have oC:=hkV.c0;have km:=hkV.sz;clear kZ xn
    match j,Q with
    | 0,Q|5,Q =>
     cases Q;have nk:=kk (by omega);clear R hD;go_simp;exact⟨upd f _ (I (w.heap.size+1) 0),by simp[upd],zQ (U HD) (by decide) xu (fun _ _ h=>h) (eU (U uJ nk)) rfl⟩
    | 1,Q =>
     cases Q;have nk:=kk (by omega);have g0:f 0=I (w.heap.size+1) 0:=hD 0 (ye R 0 rfl);clear R hD;go_simp;exact⟨upd f 1 (H n),by simp[upd,g0],zQ (U HD) (by decide) xu (fun _ _ h=>h) (eU (U uJ nk)) (fun _=>rfl)⟩
    | 2,Q =>
     cases Q;have nk:=kk (by omega);clear R hD;go_simp;exact⟨upd f 2 (I B 0),by simp[upd],zQ (U HD) (by decide) xu (fun _ _ h=>h) (eU (U uJ nk)) rfl⟩
    | 3,Q =>
     cases Q;have nk:=kk (by omega);have gd:f 2=I B 0:=hD 2 (ye R 2 rfl);obtain⟨mm,kl,vM⟩:=U uJ nk;have kr:=Z vM;have aY:mm<=2000000:=by have:=List.count_le_length (a:=true) (l:=x);rw[hx] at this;simp at this;omega
     clear R hD vM;go_simp;refine(zO B v l mm 3 V (U kr).1 (by omega) (by omega) (by omega)).mono ?_;rintro e w5 ⟨y5,rfl,bO,h51,kg⟩;exact⟨upd f 3 (H y5),by simp[upd,gd],zQ (U HD) (by decide) xu (d5_mono nk) (bs_call kl (U kr) kg) ⟨y5,rfl,bO,by omega⟩⟩
    | 4,Q =>
     cases Q;have nk:=kk (by omega);have g1:f 1=H n:=hD 1 (ye R 1 rfl) nk;obtain⟨y5,g3,bO,h51⟩:=hD 3 (ye R 3 rfl);have pq:IntKind.i64.wrap (n+y5)=n+y5:=by rw[IntKind.wrap_i64];omega
     clear R hD;go_simp;exact⟨upd f 4 (H (n+y5)),by simp[upd,g1,g3],zQ (U HD) (by decide) xu (fun _ _ h=>h) (eU (U uJ nk)) ⟨y5,rfl,bO,h51⟩⟩
    | 6,Q =>
     cases Q;obtain⟨y5,g4,bO,h51⟩:=hD 4 (ye R 4 rfl);have g5:f 5=I (w.heap.size+1) 0:=hD 5 (ye R 5 rfl);have HK6:=Z (bkS_next hkV hB (U HV) (n+y5));have hfz:=(hkV.th 0 (by omega)).2;rw[Nat.zero_add] at hfz;clear R hkV hD;go_simp;refine⟨upd f 6 M,by simp[upd,g4,g5],rs_last (U HD) xu (fun j hj hxj h=>?_) (fun _=>⟨y5,bO,h51,U HK6⟩)⟩
     match j with
     | 0=>exact h
     | 1=>exact fun h'=>absurd trivial h'
     | 2=>exact h
     | 3=>exact h
     | 4=>exact h
     | 5=>exact h
     | 6=>exact absurd rfl hj
     | j+7=>trivial
    | j+7,Q=>simp at Q
  ·obtain rfl:i=0:=by omega
   obtain⟨aq,cq,rfl⟩:=rd_lenR' (zI (U bH).row (by omega));have c0:=(U bH).c0;have c1:=(U bH).c1;obtain⟨⟨x0,y0,q0⟩,x1,y1,q1⟩:(∃v,wr.cell? (yq w 0)=some v/\wr.frozen? (yq w 0)=false)/\(∃v,wr.cell? (yq w 1)=some v/\wr.frozen? (yq w 1)=false):=⟨by simpa using fI (U bH).th0 0 (by omega),by simpa using fI (U bH).th0 1 (by omega)⟩;have qX:=Z (yY wr w.heap.size 0 [H n,.slice aq q.length cq] (fun j hj=>(U bH).th0 j hj))
   have HOW:Hid (ORow ((wr.setCell (yq w 0) (H n)).setCell (yq w 1) (.slice aq q.length cq)) (w.heap.size+2) (.slice aq q.length cq) q):=by
    have E:∀g,(Value.slice aq q.length cq).ownBlock=some g->some g≠some w.heap.size:=fun g X e=>by
     have:=((U bH).row.lt g X).1;have:=Option.some.inj e;omega
    have hor:(Value.slice aq q.length cq).ownBlock=none\/(Value.slice aq q.length cq).ownBlock≠some w.heap.size:=by
     cases hv:(Value.slice aq q.length cq).ownBlock with
     | none=>exact .inl rfl
     | some g=>exact .inr (E g hv)
    exact World.ownsRow.kept (World.ownsRow.kept (U bH).row (dX wr (yq w 0) (H n)) hor) (dX _ (yq w 1) _) hor
   have HGR:Hid (w.grownBy ((wr.setCell (yq w 0) (H n)).setCell (yq w 1) (.slice aq q.length cq)) (some B)):=by
    have g1:=dX wr (yq w 0) (H n);have g2:=dX (wr.setCell (yq w 0) (H n)) (yq w 1) (.slice aq q.length cq);have h:=(U bH).gr;exact⟨h.os,h.tape,h.output,yO h.size (yO g1.size g2.size),fun k hk xr=>(g2.block k (yK hk (yO h.size g1.size)) (fun e=>by have:=Option.some.inj e;simp at this;omega)).trans ((g1.block k (yK hk h.size) (fun e=>by have:=Option.some.inj e;simp at this;omega)).trans (h.block k hk xr))⟩
   have HSR:Hid (Src B ((wr.setCell (yq w 0) (H n)).setCell (yq w 1) (.slice aq q.length cq)) v l (m+1400)):=Z (by
    have hv:l ≠ []->v.ownBlock≠some w.heap.size:=fun xr e=>by
     obtain⟨k,D,Y⟩:=U HV xr;rw[D] at e;have:=Option.some.inj e;omega
    have E:some B≠some w.heap.size:=fun e=>by have:=Option.some.inj e;omega
    exact eH (hU (hU (U bH).src (dX wr (yq w 0) (H n)) E hv) (dX _ (yq w 1) (.slice aq q.length cq)) E hv) (by omega))
   go_wp2_with fail;have qX:Hid (World.rangeAt ((wr.setCell (yq w 0) (H n)).setCell (yq w 1) (.slice aq q.length cq)) w.heap.size 0 [H n,.slice aq q.length cq]):=U qX;generalize ((wr.setCell (yq w 0) (H n)).setCell (yq w 1) (.slice aq q.length cq))=WE at qX HOW HGR HSR |-;have d0:WE.cell? (yq w 0)=some (H n):=U qX 0 _ rfl;have d1:WE.cell? (yq w 1)=some (.slice aq q.length cq):=U qX 1 _ rfl
   try simp only[Exit.inBlock,Exit.then]
   refine bodyPost_ret (by simp[results,Tryz.results54,go_sem,d0,d1];try rfl) rfl ?_
   exact⟨n,_,q,rfl,iJ (il Od.len (by omega) (U HOW)) (by omega),drB_ok (U aM) hn1 (by omega) (by omega),fun c hc=>yO (U pz c hc) (by unfold maxLen;omega),U HGR,(by
    rcases(U HOW).2 with⟨D,_⟩|⟨g,cap,xA,D,_⟩
    ·exact .inl D
    ·exact .inr ⟨_,_,_,D⟩),U HSR⟩
end Go.Proofs.YthhkapcbocgcoaaGreatDoor
