/-.-/
import Derived.Test.YthhkapcbocgcoaaGreatDoorKj29
import Derived.Test.YthhkapcbocgcoaaGreatDoorKj40
set_option linter.unusedVariables false
set_option maxHeartbeats 6400000
set_option maxRecDepth 100000
namespace Go.Proofs.YthhkapcbocgcoaaGreatDoor
open Go Ieee
theorem d_bin:double.binade=4503599627370496:=by decide
theorem d_inf:double.infRung=9218868437227405312:=by decide
theorem d_sw:double.signWeight=9223372036854775808:=by decide
theorem d_lp:double.leastPlace = -1074:=by decide
theorem nan_iff (x:Nat):nanB x=true ↔ (double.read x).isNaN=true:=by
 constructor
 ·intro h
  by_cases hn:(double.read x).isNaN=true
  ·exact hn
  ·have:=datum_self _ hn;have e:FloatKind.f64.format.order x x=some Ordering.eq:=this;simp[nanB,e] at h
 ·intro h;cases hx:double.read x with
  | nan s f =>
   have e:FloatKind.f64.format.order x x=none:=by
    show(double.read x).order (double.read x)=none;rw[hx];rfl
   simp[nanB,e]
  | infinity s=>rw[hx] at h;simp[Datum.isNaN] at h
  | number s m i=>rw[hx] at h;simp[Datum.isNaN] at h
theorem nan_rung (x:Nat):nanB x=true ↔ 9218868437227405312<x % 9223372036854775808:=by
 rw[nan_iff];unfold Format.read;simp only[d_bin,d_inf,d_sw,d_lp];split
 ·simp[Datum.isNaN];omega
 ·split
  ·simp[Datum.isNaN];omega
  ·split
   ·simp[Datum.isNaN];omega
   ·simp[Datum.isNaN];omega
theorem nan_drawn (t:Nat):nanB ((t % 2)*2 ^ 63+0x7ff0000000000000+1+(t / 2) % (2 ^ 52-1))=true:=by
 rw[nan_rung];have D:t % 2<2:=Nat.mod_lt _ (by decide);have Y:(t / 2) % (2 ^ 52-1)<2 ^ 52-1:=Nat.mod_lt _ (by decide);rw[show(2:Nat) ^ 63=9223372036854775808 from rfl];rw[show(2:Nat) ^ 52-1=4503599627370495 from rfl] at *;generalize (t / 2) % 4503599627370495=b at *;generalize t % 2=a at *;rcases(show a=0\/a=1 by omega) with rfl|rfl <;> omega
end Go.Proofs.YthhkapcbocgcoaaGreatDoor
namespace Go.Proofs.YthhkapcbocgcoaaGreatDoor
open Go.RowKit
def aggL:Value->List Value
 | .agg xs=>xs.toList
 | _=>[]
def DS (S:Nat)(next:Int)(hR:List Od)(hb:List Ev):Nat->World->Value->Prop
 | 0,W,v=>ORow W S v hR/\∃a c,v = .slice a hR.length c
 | 1,W,v=>∃v4,v = .agg #[H next,v4]/\(∃a c,v4 = .slice a hR.length c)/\ORow W S v4 hR
 | 2,W,v=>ERow W S v hb/\∃a c,v = .slice a hb.length c
 | 3,W,v=>∃b,v = .slice (some (J b 0)) 1 1/\b<W.heap.size/\S<=b/\W.rangeAt b 0 (hb.flatMap Ev.vs)
 | _,_,_=>True
def CX (vs:List Value)(ks:List (Nat × Nat))(S:Nat)(next:Int)(hR:List Od)(hb:List Ev)(W:World)(j:Nat)(v:Value):Prop:=
 match ks.lookup j with
 | some d=>DS S next hR hb d W v
 | none=>∀u,vs[j]? = some u->v=u
section
variable {vs:List Value} {ks:List (Nat × Nat)} {S xi:Nat} {next:Int} {hR:List Od} {hb:List Ev} {W W':World} {j d:Nat} {v u:Value}
theorem zZ (h:CX vs ks S next hR hb W j v)(hk:ks.lookup j=none)(hu:vs[j]? = some u):v=u:=by
 rw[CX,hk] at h;exact h u hu
theorem cx_sp (h:CX vs ks S next hR hb W j v)(hk:ks.lookup j=some d):DS S next hR hb d W v:=by
 rw[CX,hk] at h;exact h
theorem dS (hk:ks.lookup j=none)(hu:vs[j]? = some v):CX vs ks S next hR hb W j v:=by
 rw[CX,hk];intro u h;rw[hu] at h;cases h;rfl
theorem fT (hk:ks.lookup j=some d)(hd:DS S next hR hb d W v):CX vs ks S next hR hb W j v:=by
 rw[CX,hk];exact hd
theorem ds_mono (L:xi<S)(E:KB xi W W')(h:DS S next hR hb d W v):DS S next hR hb d W' v:=by
 match d with
 | 0=>exact⟨kb_row h.1 E L,h.2⟩
 | 1=>obtain⟨v4,D,Y,h3⟩:=h;exact⟨v4,D,Y,kb_row h3 E L⟩
 | 2=>exact⟨kb_row h.1 E L,h.2⟩
 | 3=>obtain⟨b,D,Y,h3,h4⟩:=h;exact⟨b,D,yK Y E.size,h3,kb_range E h4 (by omega)⟩
 | d+4=>trivial
theorem gT (L:xi<S):∀W W' j v,KB xi W W'->CX vs ks S next hR hb W j v->CX vs ks S next hR hb W' j v:=by
 intro W W' j v E h;unfold CX at h |-;split at h
 ·exact ds_mono L E h
 ·exact h
theorem cx_monoB (hS:0<S):∀W W' j v,yn W W'->CX vs ks S next hR hb W j v->CX vs ks S next hR hb W' j v:=by
 intro W W' j v E h;unfold CX at h |-;split at h
 ·exact ds_mono hS (kb_below E) h
 ·exact h
end
theorem rowE_made {B e sz n:Nat}(W:World)(xs:List Value)(hB:B<=W.heap.size)(hn:n<=maxLen)(hl:xs.length=n*sz):(W.alloc (Obj.cells xs.toArray e)).ownsRow B e sz (.slice (some (yq W 0)) n n) n xs:=
 ⟨hl,.inr ⟨W.heap.size,n,xs.toArray,rfl,hB,heap_alloc_new W _,Nat.le_refl _,hn,by simpa using hl,by simp[<- hl]⟩⟩
theorem eRow_one {B:Nat}(W:World)(e:Ev)(hB:B<=W.heap.size):ERow (W.alloc (Obj.cells e.vs.toArray 37)) B (.slice (some (yq W 0)) 1 1) [e]:=by
 have h:=rowE_made (B:=B) (e:=37) (sz:=14) (n:=1) W e.vs hB (by decide) (by rfl);have e1:[e].flatMap Ev.vs=e.vs:=by simp
 show World.ownsRow _ _ _ _ _ [e].length ([e].flatMap Ev.vs);rw[e1];exact h
theorem ref_newS {next:Int}{l:List Od}{c:Cm}(h:refR next l c=0)(hk:c.k=1):(c.s=1\/c.s=2)/\prcB c=true/\tagB c.g=true/\c.i=0:=by
 have h0:=h;have h:=ref_new h hk;rw[newR] at h;split at h
 ·cases h
 rename_i D;split at h
 ·cases h
 split at h
 ·cases h
 split at h
 ·cases h
 rename_i h4;split at h
 ·cases h
 split at h
 ·cases h
 rename_i h6;refine⟨side_of (by simpa using D),by simpa using h4,by simpa using h6,?_⟩;rw[<- ref_eq,refS] at h0;split at h0
 ·cases h0
 split at h0
 ·cases h0
 rename_i hf;simp[ej,hk] at hf;exact hf
def RAo (n:Nat)(v0:Value)(x:List Bool)(f:Nat->Value):Prop:=(x[n+1]? = some true->f (n+1)=f n)/\(x[n+1]? = some false->f (n+1)=v0)
def RYBA (cs:(Nat->Value)->Act)(C:World->Nat->Value->Prop)(n:Nat)(v0:Value)(ho:(Nat->Value)->World->Prop)(base:World)(x:List Bool)(zb:Act)(W:World):Prop:=∃f,zb=cs f/\RY C n ho base x f W/\RAo n v0 x f
theorem ryb_start {f:Nat->Value}{n k:Nat}{v0:Value}(h:f (n+1)=v0):RAo n v0 (List.replicate k false) f:=⟨fun h=>by rw[yJ] at h;split at h <;> simp at h,fun _=>h⟩
theorem ep {x:List Bool}{f:Nat->Value}{n i:Nat}{v0:Value}(v:Value)(h:RAo n v0 x f)(hi:i≠n)(qW:i≠n+1):RAo n v0 (x.set i true) (upd f i v):=by
 rw[RAo,gq qW,zk _ _ (fun e=>qW e.symm),zk _ _ (fun e=>hi e.symm)];exact h
theorem ryb_write {x:List Bool}{f:Nat->Value}{n:Nat}{v0:Value}(v:Value)(h:RAo n v0 x f)(hx:x[n+1]? = some false):RAo n v0 (x.set n true) (upd f n v):=by
 rw[RAo,gq (by omega),zk _ _ (show n+1≠n by omega)];exact⟨fun e=>(by rw[hx] at e;cases e),h.2⟩
theorem ryb_lay {x:List Bool}{f:Nat->Value}{n:Nat}{v0:Value}(hx:x[n+1]? = some false):RAo n v0 (x.set (n+1) true) (upd f (n+1) (f n)):=by
 rw[RAo,gqs hx];exact⟨fun _=>by rw[zo,zk _ _ (by omega)],fun e=>by cases e⟩
theorem row_src {B e sz n g c:Nat}{xs:List Value}{W:World}(h:W.ownsRow B e sz (.slice (some (J g 0)) n c) n xs):∀j u,xs[j]? = some u->W.cell? (((J g 0):Addr).add j)=some u:=by
 intro j u hu;rcases h.2 with⟨D,_⟩|⟨g',cap,xA,D,_,ab,_,_,hcs,hx⟩
 ·cases D
 ·simp only[Value.slice.injEq,Option.some.injEq,Addr.mk.injEq,and_true,true_and] at D;obtain⟨rfl,-⟩:=D;rw[Addr.add_mid,cell_of_row W g (0+j) xA _ (0,0) ab];rw[<- hx] at hu;rw[List.getElem?_take] at hu;split at hu
  ·simpa using hu
  ·cases hu
theorem take_nd {l:List Od}{j:Nat}{o:Od}(h:l[j]? = some o)(hd:o.life≠1):(l.take (j+1)).filter ndy=(l.take j).filter ndy ++ [o]:=by
 rw[List.take_add_one,h,List.filter_append];simp[ndy,hd]
theorem take_ny {l:List Od}{j:Nat}{o:Od}(h:l[j]? = some o)(hd:o.life=1):(l.take (j+1)).filter ndy=(l.take j).filter ndy:=by
 rw[List.take_add_one,h,List.filter_append];simp[ndy,hd]
theorem dysF_lenO:∀(l:List Od) (k:Nat),(dysF l k).length=(l.filter dyB).length
 | [],_=>rfl
 | o::r,k=>by
  rw[dysF,List.filter_cons]
  by_cases h:o.life=1
  ·rw[if_pos h,if_pos (by simp[dyB,h])];simp[dysF_lenO r]
  ·rw[if_neg h,if_neg (by simp[dyB,h])];exact dysF_lenO r _
theorem cutB_tag {g:ByteArray}(h:tagB g=true):cutB g=g:=by
 simp only[tagB,xf,xg] at h;rw[cutB,if_neg (by omega)]
structure RZ (C:Nat->Value->Prop) (B0:World) (hR:List Od) (t:Od) (x:List Bool) (f:Nat->Value) (W:World):Prop where
 bel:Below B0.heap.size B0 W
 c:∀j,x[j]? = some true->C j (f j)
 m0:x[0]? = some true->x[2]? = some false->ORow W B0.heap.size (f 0) []
 m2:x[2]? = some true->x[5]? = some false->ORow W B0.heap.size (f 2) hR
 m4:x[4]? = some true->x[5]? = some false->∃b,f 4 = .slice (some ⟨b,0,none⟩) 1 1/\b<W.heap.size/\B0.heap.size<=b/\W.rangeAt b 0 t.vs/\(x[0]? = some true->x[2]? = some false->(f 0).ownBlock≠some b)
 m5:x[5]? = some true->ORow W B0.heap.size (f 5) (hR ++ [t])
section
variable {C:Nat->Value->Prop} {B0 W W':World} {hR:List Od} {t:Od} {x:List Bool} {f:Nat->Value}
theorem rz_grow (h:RZ C B0 hR t x f W)(E:yn W W'):RZ C B0 hR t x f W':=
 ⟨h.bel.trans (E.mono h.bel.size),h.c,fun a b=>zt (h.m0 a b) E,fun a b=>zt (h.m2 a b) E,fun a b=>by
  obtain⟨b',D,Y,h3,h4,h5⟩:=h.m4 a b;exact⟨b',D,yK Y E.size,h3,zc h4 E Y,h5⟩,fun a=>zt (h.m5 a) E⟩
theorem rz_val (h:RZ C B0 hR t x f W)(i:Nat)(v:Value)(hv:C i v)(cP:i≠0)(kM:i≠2)(aA:i≠4)(kN:i≠5):RZ C B0 hR t (x.set i true) (upd f i v) W:=by
 refine⟨h.bel,zC h.c hv,?_,?_,?_,?_⟩ <;> simp only[gq cP,gq kM,gq aA,gq kN,zk f v cP.symm,zk f v kM.symm,zk f v aA.symm,zk f v kN.symm]
 ·exact h.m0
 ·exact h.m2
 ·exact h.m4
 ·exact h.m5
theorem rz_0 (h:RZ C B0 hR t x f W)(cP:x[0]? = some false)(hc:∀v,C 0 v):RZ C B0 hR t (x.set 0 true) (upd f 0 (.slice (some (yq W 0)) 0 0)) (W.alloc (mq #[] 65)):=by
 have X:=rz_grow h ((Below.refl W.heap.size W).alloc ya (mq #[] 65));refine⟨X.bel,zC X.c (hc _),?_,?_,?_,?_⟩
 ·intro _ _;rw[zo];exact World.ownsRow_made W #[] 0 h.bel.size (by decide) rfl
 ·rw[gq (by decide),gq (by decide),zk _ _ (by decide)];exact X.m2
 ·intro aA kN;rw[gq (by decide)] at aA kN;obtain⟨b,D,Y,h3,h4,h5⟩:=X.m4 aA kN;obtain⟨b',e1,e2,_⟩:=h.m4 aA kN;rw[D] at e1;simp only[Value.slice.injEq,Option.some.injEq,Addr.mk.injEq,and_true] at e1;subst e1;refine⟨b,by rw[zk _ _ (by decide)];exact D,Y,h3,h4,fun _ _ e=>?_⟩;rw[zo] at e;simp[Value.ownBlock] at e;omega
 ·rw[gq (by decide),zk _ _ (by decide)];exact X.m5
theorem rz_2 (h:RZ C B0 hR t x f W)(cP:x[0]? = some true)(kM:x[2]? = some false)(kN:x[5]? = some false)(hc:∀v,C 2 v){v':Value}(Q:ORow W' B0.heap.size v' hR)(X:W.grownBy W' (f 0).ownBlock):RZ C B0 hR t (x.set 2 true) (upd f 2 v') W':=by
 refine⟨h.bel.grown X h.bel.size (fun k hk=>((h.m0 cP kM).lt k hk).1),zC h.c (hc _),?_,?_,?_,?_⟩
 ·intro _ e;rw[gqs kM] at e;cases e
 ·intro _ _;rw[zo];exact Q
 ·intro aA _;rw[gq (by decide)] at aA;obtain⟨b,D,Y,h3,h4,h5⟩:=h.m4 aA kN;refine⟨b,by rw[zk _ _ (by decide)];exact D,yK Y X.size,h3,zr h4 X Y (fun e=>h5 cP kM e.symm),fun _ e=>?_⟩;rw[gqs kM] at e;cases e
 ·intro e;rw[gq (by decide),kN] at e;cases e
theorem rz_4 (h:RZ C B0 hR t x f W)(aA:x[4]? = some false)(kN:x[5]? = some false)(hc:∀v,C 4 v):RZ C B0 hR t (x.set 4 true) (upd f 4 (.slice (some (yq W 0)) 1 1)) (W.alloc (Obj.cells t.vs.toArray 65)):=by
 have X:=rz_grow h ((Below.refl W.heap.size W).alloc ya (Obj.cells t.vs.toArray 65));refine⟨X.bel,zC X.c (hc _),?_,?_,?_,?_⟩
 ·rw[gq (by decide),gq (by decide),zk _ _ (by decide)];exact X.m0
 ·rw[gq (by decide),gq (by decide),zk _ _ (by decide)];exact X.m2
 ·intro _ _;refine⟨W.heap.size,zo _ _ _,by rw[zf];omega,h.bel.size,zm W t.vs _,fun cP kM e=>?_⟩;rw[gq (by decide)] at cP kM;rw[zk _ _ (by decide)] at e;have:=((h.m0 cP kM).lt _ e).2;omega
 ·rw[gq (by decide),zk _ _ (by decide)];exact X.m5
theorem rz_5 (h:RZ C B0 hR t x f W)(kM:x[2]? = some true)(kN:x[5]? = some false)(hc:∀v,C 5 v){v':Value}(Q:ORow W' B0.heap.size v' (hR ++ [t]))(X:W.grownBy W' (f 2).ownBlock):RZ C B0 hR t (x.set 5 true) (upd f 5 v') W':=by
 refine⟨h.bel.grown X h.bel.size (fun k hk=>((h.m2 kM kN).lt k hk).1),zC h.c (hc _),?_,?_,?_,?_⟩
 ·intro _ e;rw[gq (by decide)] at e;rw[e] at kM;cases kM
 ·intro _ e;rw[gqs kN] at e;cases e
 ·intro _ e;rw[gqs kN] at e;cases e
 ·intro _;rw[zo];exact Q
end
def RZBA (cs:(Nat->Value)->Act)(C:Nat->Value->Prop)(B0:World)(hR:List Od)(t:Od)(v0:Value)(x:List Bool)(zb:Act)(W:World):Prop:=∃f,zb=cs f/\RZ C B0 hR t x f W/\RAo 5 v0 x f
theorem rz_start {C:Nat->Value->Prop}{B0:World}{hR:List Od}{t:Od}{f:Nat->Value}{k:Nat}:RZ C B0 hR t (List.replicate k false) f { B0 with drawn:=B0.drawn+1 }:=by
 have vN:∀j,(List.replicate k false)[j]? = some true->False:=fun j hj=>by rw[yJ] at hj;split at hj <;> simp at hj
 exact⟨⟨rfl,rfl,rfl,Nat.le_refl _,fun _ _=>rfl⟩,fun j hj=>(vN j hj).elim,fun h=>(vN _ h).elim,fun h=>(vN _ h).elim,fun h=>(vN _ h).elim,fun h=>(vN _ h).elim⟩
def CZ (lv tv:Value):Nat->Value->Prop
 | 1,v=>v=lv
 | 3,v=>v=tv
 | _,_=>True
theorem acc_l {c:Cm}{next:Int}{cs:List Od × Int × List Ev}(hp:prcB c=true):accL c next cs=if 0<cs.2.1/\dT c.t=true then cs.1 ++ [⟨next,c.s,tkS c.p,cs.2.1,c.l,c.g⟩] else cs.1:=by
 rw[accL]
 by_cases hr:dT c.t=true
 ·have ht:tkOk c.p=true:=by
   rw[prcB,if_neg (by intro e;rw[dT,e] at hr;simp at hr)] at hp;exact hp
  rw[tkS_ok ht]
 ·rw[if_neg (fun h=>hr h.2),if_neg (fun h=>hr h.2)]
theorem one_allE (l:List Ev):∀u∈l.flatMap Ev.vs,u.oneCell'=true:=by
 intro u hu;obtain⟨e,_,h⟩:=List.mem_flatMap.1 hu;exact one_ev e u h
end Go.Proofs.YthhkapcbocgcoaaGreatDoor
