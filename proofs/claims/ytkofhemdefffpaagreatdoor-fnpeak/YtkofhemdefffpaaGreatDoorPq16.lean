/-.-/
import Derived.Test.YtkofhemdefffpaaGreatDoorPq15
import Derived.Defers
set_option linter.unusedVariables false
set_option maxHeartbeats 6400000
set_option maxRecDepth 100000
namespace Go.Proofs.YtkofhemdefffpaaGreatDoor
open Go.RowKit
theorem gqY {x:List Bool}{i j:Nat}(h:i≠j):(x.set i true)[j]? = x[j]?:=yX h
theorem gqsY {x:List Bool}{i:Nat}(h:x[i]? = some false):(x.set i true)[i]? = some true:=List.getElem?_set_self (yH.1 h).1
def ancS (l:List Oper)(s:List Nat):List Nat:=s++s.flatMap fun i=>match l[i]? with
 | some o=>(o.after.toList.filter fun e=>Region.binds .any e).map fun e=>e.on
 | none=>[]
def ancN (l:List Oper):Nat->List Nat->List Nat
 | 0,s=>s
 | n+1,s=>ancN l n (ancS l s).eraseDups
theorem ancS_true {l:List Oper}{x:List Bool}(hc:Closed l x){s:List Nat}(hs:∀i∈s,x[i]? = some true):∀i∈ancS l s,x[i]? = some true:=by
 intro i hi;rcases List.mem_append.1 hi with h|h
 ·exact hs i h
 ·obtain⟨k,E,hm⟩:=List.mem_flatMap.1 h;split at hm
  ·next o D =>
   obtain⟨e,he,rfl⟩:=List.mem_map.1 hm;obtain⟨he1,he2⟩:=List.mem_filter.1 he;exact hc k o D (hs k E) e (by simpa using he1) he2
  ·simp at hm
theorem ancN_true {l:List Oper}{x:List Bool}(hc:Closed l x):∀(n:Nat) (s:List Nat),(∀i∈s,x[i]? = some true)->∀i∈ancN l n s,x[i]? = some true
 | 0,s,hs=>hs
 | n+1,s,hs=>ancN_true hc n _ (fun i hi=>ancS_true hc hs i (List.mem_eraseDups.1 hi))
theorem zS {l:List Oper}{x:List Bool}(hc:Closed l x)(d i n:Nat)(hB:(ancN l d [n]).contains i=true)(hx:x.length=l.length)(hn:n<l.length)(hi:x[i]? = some false):x[n]? = some false:=by
 rcases fD hx hn with h|h
 ·exact h
 ·have:=ancN_true hc d [n] (by simpa using h) i (by simpa using hB);rw[hi] at this;cases this
structure RY (C:World->Nat->Value->Prop) (n:Nat) (h2:(Nat->Value)->World->Prop) (base:World) (x:List Bool) (f:Nat->Value) (W:World):Prop where
 b:x[n]? = some false->Below base.heap.size base W
 c:x[n]? = some false->∀j,x[j]? = some true->C W j (f j)
 m:x[n]? = some true->h2 f W
def RYA (hg:(Nat->Value)->Act)(C:World->Nat->Value->Prop)(n:Nat)(h2:(Nat->Value)->World->Prop)(base:World)(x:List Bool)(md:Act)(W:World):Prop:=∃f,md=hg f/\RY C n h2 base x f W
section
variable {C:World->Nat->Value->Prop} {n:Nat} {h2:(Nat->Value)->World->Prop} {base W W':World} {x:List Bool} {f:Nat->Value}
theorem ry_start {k:Nat}{f:Nat->Value}(E:n<k):RY C n h2 base (List.replicate k false) f { base with drawn:=base.drawn+1 }:=
 ⟨fun _=>⟨rfl,rfl,rfl,Nat.le_refl _,fun _ _=>rfl⟩,fun _ j hj=>by rw[yJ] at hj;split at hj <;> simp at hj,fun h=>by rw[yJ] at h;split at h <;> simp at h⟩
theorem dO (h:RY C n h2 base x f W)(i:Nat)(v:Value)(hn:x[n]? = some false)(ue:i≠n)(hv:C W i v):RY C n h2 base (x.set i true) (upd f i v) W:=by
 refine⟨fun _=>h.b hn,fun _ j hj=>?_,fun e=>by rw[gqY ue,hn] at e;cases e⟩
 by_cases hji:j=i
 ·subst hji;rw[zp];exact hv
 ·rw[zu _ _ hji];rw[gqY (fun e=>hji e.symm)] at hj;exact h.c hn j hj
theorem ry_grow (hm:∀W W' j v,yp W W'->C W j v->C W' j v)(h:RY C n h2 base x f W)(hn:x[n]? = some false)(K:yp W W'):RY C n h2 base x f W':=
 ⟨fun _=>(h.b hn).trans (K.mono (h.b hn).size),fun _ j hj=>hm _ _ _ _ K (h.c hn j hj),fun e=>by rw[hn] at e;cases e⟩
theorem ry_write (h:RY C n h2 base x f W)(hn:x[n]? = some false)(v:Value)(hq:h2 (upd f n v) W'):RY C n h2 base (x.set n true) (upd f n v) W':=
 ⟨fun e=>(by rw[gqsY hn] at e;cases e),fun e=>(by rw[gqsY hn] at e;cases e),fun _=>hq⟩
theorem ry_writeN (h:RY C n h2 base x f W)(hn:x[n]? = some false)(hq:h2 f W'):RY C n h2 base (x.set n true) f W':=
 ⟨fun e=>(by rw[gqsY hn] at e;cases e),fun e=>(by rw[gqsY hn] at e;cases e),fun _=>hq⟩
theorem ry_after (h:RY C n h2 base x f W)(i:Nat)(v:Value)(hn:x[n]? = some true)(ue:i≠n)(hq:h2 f W->h2 (upd f i v) W):RY C n h2 base (x.set i true) (upd f i v) W:=
 ⟨fun e=>(by rw[gqY ue,hn] at e;cases e),fun e=>(by rw[gqY ue,hn] at e;cases e),fun _=>hq (h.m hn)⟩
end

def ndy (o:Od):Bool:=!(o.life==1)
def dyB (o:Od):Bool:=o.life==1
def expE (o:Od):Ev:=⟨9,zCm,o.id,0,o.left,0,0⟩
theorem take_dy {l:List Od}{j:Nat}{o:Od}(h:l[j]? = some o)(hd:o.life=1):(l.take (j+1)).filter dyB=(l.take j).filter dyB ++ [o]:=by
 rw[List.take_add_one,h,List.filter_append];simp[dyB,hd]
theorem take_no {l:List Od}{j:Nat}{o:Od}(h:l[j]? = some o)(hd:o.life≠1):(l.take (j+1)).filter dyB=(l.take j).filter dyB:=by
 rw[List.take_add_one,h,List.filter_append];simp[dyB,hd]

def KB (R:Nat)(W W':World):Prop:=KeptBut R W.heap.size W W'
theorem kb_trans {R:Nat}{W W1 W2:World}(Z:KB R W W1)(Q:KB R W1 W2):KB R W W2:=
 ⟨Q.os.trans Z.os,Q.tape.trans Z.tape,Q.output.trans Z.output,yO Z.size Q.size,fun k E hm=>(Q.block k (yK E Z.size) hm).trans (Z.block k E hm)⟩
theorem kb_below {R:Nat}{W W':World}(h:yp W W'):KB R W W':=⟨h.os,h.tape,h.output,h.size,fun k E _=>h.block k E⟩
theorem kb_setCells (R o:Nat)(vs:List Value)(W:World):KB R W (W.setCells R o vs):=
 ⟨os_setCells _ _ _ _,tape_setCells _ _ _ _,lW _ _ _ _,by rw[gw];exact Nat.le_refl _,fun k _ hm=>lr _ _ hm _ _ _⟩
theorem kb_row {R B e sz n:Nat}{v:Value}{xs:List Value}{W W':World}(h:W.ownsRow B e sz v n xs)(K:KB R W W')(hR:R<B):W'.ownsRow B e sz v n xs:=by
 refine⟨h.1,?_⟩;rcases h.2 with hn|⟨g,cap,xt,rfl,F,pD,rest⟩
 ·exact .inl hn
 ·exact .inr ⟨g,cap,xt,rfl,F,(K.block g (yZ.1 pD).1 (by omega)).trans pD,rest⟩
theorem kb_cell {R:Nat}{W W':World}(K:KB R W W'){p:Addr}{u:Value}(h:W.cell? p=some u)(hp:p.block≠R):W'.cell? p=some u:=
 (yR (a:=p) (K.block p.block (yL W _ h) hp)).trans h
theorem kb_range {R:Nat}{W W':World}(K:KB R W W'){b o:Nat}{cs:List Value}(h:W.rangeAt b o cs)(hp:b≠R):W'.rangeAt b o cs:=fun j u hj=>kb_cell K (h j u hj) hp
structure RX (C:World->Nat->Value->Prop) (R m st:Nat) (Rv:(Nat->Value)->List Value) (base:World) (x:List Bool) (f:Nat->Value) (W:World):Prop where
 k:KB R base W
 lt:R<base.heap.size
 t:W.there R 0 m
 c:∀j,x[j]? = some true->C W j (f j)
 r:x[st]? = some true->W.rangeAt R 0 (Rv f)
def RXA (hg:(Nat->Value)->Act)(C:World->Nat->Value->Prop)(R m st:Nat)(Rv:(Nat->Value)->List Value)(base:World)(x:List Bool)(md:Act)(W:World):Prop:=∃f,md=hg f/\RX C R m st Rv base x f W
section
variable {C:World->Nat->Value->Prop} {R m st:Nat} {Rv:(Nat->Value)->List Value} {base W W':World} {x:List Bool} {f:Nat->Value}
theorem rx_start {k:Nat}{f:Nat->Value}(hl:R<base.heap.size)(ht:base.there R 0 m):RX C R m st Rv base (List.replicate k false) f { base with drawn:=base.drawn+1 }:=
 ⟨⟨rfl,rfl,rfl,Nat.le_refl _,fun _ _ _=>rfl⟩,hl,ht,fun j hj=>by rw[yJ] at hj;split at hj <;> simp at hj,fun h=>by rw[yJ] at h;split at h <;> simp at h⟩
theorem dJ (h:RX C R m st Rv base x f W)(i:Nat)(v:Value)(his:i≠st)(hr:x[st]? = some true->Rv (upd f i v)=Rv f)(hv:C W i v):RX C R m st Rv base (x.set i true) (upd f i v) W:=by
 refine⟨h.k,h.lt,h.t,fun j hj=>?_,fun e=>?_⟩
 ·by_cases hji:j=i
  ·subst hji;rw[zp];exact hv
  ·rw[zu _ _ hji];rw[gq (fun e=>hji e.symm)] at hj;exact h.c j hj
 ·rw[gq his] at e;rw[hr e];exact h.r e
theorem rx_grow (hm:∀W W' j v,KB R W W'->C W j v->C W' j v)(h:RX C R m st Rv base x f W)(K:yp W W'):RX C R m st Rv base x f W':=
 ⟨kb_trans h.k (kb_below K),h.lt,zk h.t K (yK h.lt h.k.size),fun j hj=>hm _ _ _ _ (kb_below K) (h.c j hj),fun e=>zf (h.r e) K (yK h.lt h.k.size)⟩
theorem rx_store (hm:∀W W' j v,KB R W W'->C W j v->C W' j v)(h:RX C R m st Rv base x f W)(hx:x[st]? = some false)(hl:(Rv f).length=m)(hC:∀W v,C W st v):RX C R m st Rv base (x.set st true) f (W.setCells R 0 (Rv f)):=by
 refine⟨kb_trans h.k (kb_setCells _ _ _ _),h.lt,xc h.t _ _ _,fun j hj=>?_,fun _=>yY W R 0 _ (fun j hj=>h.t j (by omega))⟩
 by_cases hji:j=st
 ·subst hji;exact hC _ _
 ·rw[gq (fun e=>hji e.symm)] at hj;exact hm _ _ _ _ (kb_setCells _ _ _ _) (h.c j hj)
end
def accL (c:Cm)(next:Int)(hg:List Od × Int × List Ev):List Od:=if 0<hg.2.1/\dj c.t=true then hg.1 ++ [⟨next,c.s,tk c.p,hg.2.1,c.l,c.g⟩] else hg.1
def accE (c:Cm)(next:Int)(hg:List Od × Int × List Ev):List Ev:=⟨1,⟨1,c.s,c.t,c.l,c.q,0,c.p,c.g⟩,next,0,0,0,0⟩::hg.2.2++(if 0<hg.2.1 then[⟨if dj c.t=true then 4 else 5,zCm,next,0,hg.2.1,0,0⟩] else[])
theorem zR {B C e sz n:Nat}{v:Value}{xs:List Value}{W:World}(h:W.ownsRow B e sz v n xs)(hC:C<=B):W.ownsRow C e sz v n xs:=by
 refine⟨h.1,?_⟩;rcases h.2 with hn|⟨g,cap,xt,rfl,F,rest⟩
 ·exact .inl hn
 ·exact .inr ⟨g,cap,xt,rfl,yO hC F,rest⟩
theorem matL_few {c:Cm}{id:Int}:∀(n:Nat) (l:List Od) (left:Int) (ts:List Ev),(matL c id n l left ts).2.2.length<=ts.length+n
 | 0,_,_,_=>Nat.le_refl _
 | n+1,l,left,ts=>by
  rw[matL];split
  ·split
   ·simp
   ·split
    ·refine yO (matL_few n _ _ _) ?_;rw[yQ];simp;omega
    ·simp
  ·simp
theorem et {B e sz n:Nat}{v:Value}{xs:List Value}{W:World}(h:W.ownsRow B e sz v n xs):∃a c,v = .slice a n c:=by
 rcases h.2 with⟨e,e2⟩|⟨g,cap,xt,e,_⟩
 ·exact⟨none,0,by rw[e,e2]⟩
 ·exact⟨_,_,e⟩
def stN (next:Int)(l:List Od)(c:Cm):Int:=if refR next l c=0/\c.k=1 then next+1 else next
def stL (next:Int)(l:List Od)(c:Cm):List Od:=
 if refR next l c=0 then
  if c.k=1 then accL c next (matL c next 21 l c.q [])
  else if c.k=2 then(match l[(plc l c.i).toNat]? with|some o=>db l (plc l c.i).toNat o o.left|none=>l)
  else if c.k=3 then(match l[(plc l c.i).toNat]? with|some o=>l.set (plc l c.i).toNat { o with left:=c.q } | none=>l)
  else l.filter ndy
 else l
def stE (next:Int)(l:List Od)(c:Cm):List Ev:=
 if refR next l c=0 then
  if c.k=1 then accE c next (matL c next 21 l c.q [])
  else if c.k=2 then(match l[(plc l c.i).toNat]? with|some o=>[⟨6,zCm,c.i,0,o.left,0,0⟩]|none=>[])
  else if c.k=3 then[⟨7,zCm,c.i,0,c.q,0,0⟩]
  else⟨8,zCm,0,0,((l.filter dyB).length:Nat),0,0⟩::(l.filter dyB).map expE
 else[⟨2,⟨c.k,c.s,c.t,c.l,c.q,c.i,c.p,cutB c.g⟩,0,0,0,0,refR next l c⟩]
theorem ref_kind {next:Int}{l:List Od}{c:Cm}(h:refR next l c=0):c.k=1\/c.k=2\/c.k=3\/c.k=4:=by
 rw[refR] at h;split at h
 ·omega
 ·split at h
  ·omega
  ·split at h
   ·omega
   ·split at h
    ·omega
    ·cases h
theorem ref_new {next:Int}{l:List Od}{c:Cm}(h:refR next l c=0)(E:c.k=1):newR next l c=0:=by
 rw[refR,if_pos E] at h;split at h
 ·exact h
 ·cases h
theorem iL {next:Int}{l:List Od}{c:Cm}(h:refR next l c=0)(E:c.k=1):1<=c.q/\c.q<=1000000:=by
 have h:=ref_new h E;rw[newR] at h
 repeat (split at h;(· cases h))
 rename_i h7 _;simp[betB] at h7;omega
theorem ref_id {next:Int}{l:List Od}{c:Cm}(h:refR next l c=0)(E:c.k=2\/c.k=3):∃(k:Nat) (o:Od),plc l c.i=k/\l[k]? = some o:=by
 rcases iH l c.i with Z|Z
 ·exfalso;rw[refR] at h;rcases E with E|E
  ·rw[if_neg (by omega),if_pos E] at h;split at h
   ·simp[idR,Z] at h
   ·cases h
  ·rw[if_neg (by omega),if_neg (by omega),if_pos E] at h;split at h
   ·rw[redR] at h;split at h
    ·simp[Z] at h
    ·cases h
   ·cases h
 ·exact Z
end Go.Proofs.YtkofhemdefffpaaGreatDoor
