/-.-/
import Derived.Test.YtbghmldggahjiaaGreatDoorUj16
set_option linter.unusedVariables false
set_option maxHeartbeats 6400000
set_option maxRecDepth 100000
namespace Go.Proofs.YtbghmldggahjiaaGreatDoor
open Go.RowKit
theorem flat_set {α:Type}{f:α->List Value}{sz:Nat}(hf:∀c,(f c).length=sz):∀(l:List α) (i j:Nat) (c c':α) (u:Value),l[i]? = some c->j<sz->f c'=(f c).set j u->(l.flatMap f).set (i*sz+j) u=(l.set i c').flatMap f
 | [],_,_,_,_,_,h,_,_=>by simp at h
 | a::l,0,j,c,c',u,h,hj,hc=>by
  simp at h;subst h;rw[List.set_cons_zero,List.flatMap_cons,List.flatMap_cons,hc,Nat.zero_mul,Nat.zero_add,List.set_append_left _ _ (by rw[hf];exact hj)]
 | a::l,i+1,j,c,c',u,h,hj,hc=>by
  simp at h;rw[List.set_cons_succ,List.flatMap_cons,List.flatMap_cons,<- flat_set hf l i j c c' u h hj hc,List.set_append_right _ _ (by rw[hf,Nat.add_mul];omega),hf];congr 2;rw[Nat.add_mul];omega
def dL (l:List Od)(k:Nat)(c:Od)(qty:Int):List Od:=if c.left=qty then l.take k++l.drop (k+1) else l.set k { c with left:=c.left-qty }
structure TookAt (p o:Nat) (G:Option Nat) (w w':World):Prop where
 os:w'.os=w.os
 tape:w'.tape=w.tape
 output:w'.output=w.output
 size:w.heap.size<=w'.heap.size
 block:∀k,k<w.heap.size->k≠p->some k≠G->w'.heap[k]? = w.heap[k]?
 cell:∀j,j≠o+1->w'.cell? ⟨p,j,none⟩=w.cell? ⟨p,j,none⟩
 frozen:∀j,w'.frozen? ⟨p,j,none⟩=w.frozen? ⟨p,j,none⟩
 kind:∀cur t x,w.heap[p]? = some (.cells cur t x)->∃cur',w'.heap[p]? = some (.cells cur' t x)
theorem fd (w:World)(p o:Nat)(u:Value){xr:Array Value}{t:TypeId}{x:Nat × Nat}(h:w.heap[p]? = some (.cells xr t x)):∃cur',(w.setCell (U p o) u).heap[p]? = some (.cells cur' t x):=by
 simp[World.setCell,Array.getElem?_modify,h]
theorem dT {W:World}{B e sz n:Nat}{v:Value}{xs:List Value}(h:W.ownsRow B e sz v n xs){b:Nat}(A:some b≠v.ownBlock)(o:Nat)(u:Value):(W.setCell (U b o) u).ownsRow B e sz v n xs:=
 h.kept (row:=some b) ⟨rfl,rfl,rfl,by simp[World.setCell],fun k _ X=>yS _ _ _ _ (fun e=>X (by rw[e]))⟩ (.inr (Ne.symm A))
theorem gG {p o:Nat}{G:Option Nat}{w w':World}(h:w.grownBy w' G)(hp:p<w.heap.size)(xy:some p≠G):TookAt p o G w w':=
 ⟨h.os,h.tape,h.output,h.size,fun k X _ hG=>h.block k X hG,fun j _=>yQ (a:=(U p j)) (h.block p hp xy),fun j=>World.frozen?_of_block (a:=(U p j)) (h.block p hp xy),fun xr t x hh=>⟨xr,(h.block p hp xy).trans hh⟩⟩
theorem gX {p o:Nat}{G:Option Nat}{w w1 w2:World}(D:TookAt p o G w w1)(E:TookAt p o G w1 w2):TookAt p o G w w2:=
 ⟨E.os.trans D.os,E.tape.trans D.tape,E.output.trans D.output,yN D.size E.size,fun k X hp hG=>(E.block k (yJ X D.size) hp hG).trans (D.block k X hp hG),fun j hj=>(E.cell j hj).trans (D.cell j hj),fun j=>(E.frozen j).trans (D.frozen j),fun xr t x hh=>by obtain⟨c1,h3⟩:=D.kind xr t x hh;exact E.kind c1 t x h3⟩
theorem took_set {p o:Nat}{G:Option Nat}(w:World)(u:Value):TookAt p o G w (w.setCell (U p (o+1)) u):=
 ⟨rfl,rfl,rfl,by simp[World.setCell],fun k _ hp _=>yS _ _ _ _ hp,fun j hj=>yL _ _ _ _ (eu (fun e=>hj e.symm)),fun j=>World.frozen?_setCell _ _ _ _,fun xr t x hh=>fd w p (o+1) u hh⟩
theorem zK {W W':World}{B:Nat}{v:Value}{l:List Od}(h:ORow W B v l)(A:yn W W'):ORow W' B v l:=
 World.ownsRow.kept h (row:=none) (gf A ya) (by cases v.ownBlock <;> simp)
theorem oRow_left {W:World}{B g n cap k:Nat}{l:List Od}{c:Od}(h:ORow W B (.slice (some (U g 0)) n cap) l)(hn:l.length=n)(X:l[k]? = some c)(x:Int) :
  ORow (W.setCell (U g (k*6+3)) (H x)) B (.slice (some (U g 0)) n cap) (l.set k { c with left:=x })/\W.grownBy (W.setCell (U g (k*6+3)) (H x)) (some g):=by
 subst hn;have s:=World.ownsRow.stored h (k*6+3) (H x);refine⟨?_,s.2⟩;have e:=flat_set Od.len l k 3 c { c with left:=x } (H x) X (by omega) rfl;show World.ownsRow _ _ _ _ _ (l.set k _).length _;rw[List.length_set,<- e];exact s.1
theorem lh (p o B:Nat)(next id qty:Int)(vq:Value)(l:List Od)(k:Nat)(c:Od)(w:World)(c0:w.cell? (U p o)=some (H next))(c1:w.cell? (U p (o+1))=some vq)(f1:w.frozen? (U p (o+1))=false)
  (K:ORow w B vq l) (hp:some p≠vq.ownBlock) (hpw:p<w.heap.size) (hB:B<=w.heap.size) (hn:l.length<=1000) (X:plc l id=k) (hc:l[k]? = some c) (cG:0<=qty) (aS:qty<=c.left) (xm:c.left<=1000000) :
  Calls Tryz.prog 101 #[xj p o,H id,H qty] w fun e w'=>∃ux,e=ym (.tuple #[])/\w'.cell? (U p (o+1))=some ux/\ORow w' B ux (dL l k c qty)/\TookAt p o vq.ownBlock w w':=by
 have xy:l ≠ []:=by rintro rfl;simp at hc
 have pg:=(yG.1 hc).1;have HO:=Q K;obtain⟨g,cap,rfl,xC,hBg,hgw⟩:=fM K xy;have HK:=Q X;have HC:=Q hc;clear K X hc xy;go_enter Tryz.func101,Tryz.ntmps101;go_wp2_with fail;refine(iS next _ l id w (zP (Z HO) (by omega))).mono ?_;rintro e w1 ⟨rfl,xR⟩;rw[Z HK];have ud:=Q xR;have pp:=Q (zK (Z HO) xR);have d1:w1.cell? (U p (o+1))=some (.slice (some (U g 0)) l.length cap):=(xR.cell (p:=(U p (o+1))) hpw).trans c1;have e1:w1.frozen? (U p (o+1))=false:=(xR.frozen (p:=(U p (o+1))) hpw).trans f1;have hsz1:=xR.size;obtain⟨a',cp',ee,_,cw⟩:=zP (Z pp) (by omega);obtain⟨b',oW,e2,_,cw⟩:=cw (by intro h;rw[h] at pg;simp at pg);rw[e2] at ee;simp only[Value.slice.injEq,Option.some.injEq,Addr.mk.injEq,and_true,true_and] at ee;obtain⟨⟨rfl,rfl⟩,-⟩:=ee;have pH:=cw k c (Z HC);rw[Nat.zero_add] at pH;obtain⟨-,-,-,y3,-⟩:=zM pH;have fz:=World.ownsRow.frozenAt (Z pp) (k*6+3);have hk':(k:Int)<l.length:=by omega
 have oB:(0:Int)<=k:=by omega
 have hwr:IntKind.i64.wrap (c.left-qty)=c.left-qty:=by rw[IntKind.wrap_i64];omega
 have hpg:p≠g:=by simpa[Value.ownBlock] using hp
 have HS:=Q (oRow_left (Z pp) rfl (Z HC) (c.left-qty));have d2:(w1.setCell (U g (k*6+3)) (H (c.left-qty))).cell? (U p (o+1))=some (.slice (some (U g 0)) l.length cap):=(yL _ _ _ _ (fun e=>hpg (by have:=congrArg Addr.block e;simpa using this.symm))).trans d1;have d3:(w1.setCell (U g (k*6+3)) (H (c.left-qty))).cell? (U g (k*6+3))=some (H (c.left-qty)):=yM _ _ _ y3;have d4:(w1.setCell (U g (k*6+3)) (H (c.left-qty))).frozen? (U p (o+1))=false:=(World.frozen?_setCell _ _ _ _).trans e1;clear xR pH cw c0 c1 f1
 by_cases hz:c.left=qty
 ·have uE:c.left-qty=0:=by omega
  have HH:Hid (dL l k c qty=l.take k++l.drop (k+1)):=if_pos hz;obtain⟨m,hm⟩:∃m,l.length=k+1+m:=⟨l.length-(k+1),by omega⟩;have pt:(l.set k { c with left:=c.left-qty }).length=k+1+m:=by rw[List.length_set,hm]
  have hdel:(l.set k { c with left:=c.left-qty }).take k++(l.set k { c with left:=c.left-qty }).drop (k+1)=l.take k++l.drop (k+1):=by
   rw[List.take_set_of_le ya,List.drop_set_of_lt (by omega)]
  have HDEL:=Q hdel;have HM:=Q hm;have xA:(c.left-qty==0)=true:=by rw[beq_iff_eq];exact uE
  obtain⟨-,E|⟨g',qP,xr,E,h3,h4,h5,h6,h7,h8⟩⟩:=(Z HS).1
  ·simp at E
  simp only[Value.slice.injEq,Option.some.injEq,Addr.mk.injEq,and_true] at E;obtain⟨rfl,h9,rfl⟩:=E;have HDC:Hid (Calls Tryz.prog 136 #[.slice (some (U g 0)) (k+1+m) cap,H k,H ((k:Int)+1)] (w1.setCell (U g (k*6+3)) (H (c.left-qty))) _):=delete_any g k m cap B xr (l.set k { c with left:=c.left-qty }) _ pt (by rw[List.length_set];exact hn) h4 h5 h6 h7 h8 hBg;have ua:=Q (Z HS).2;have ju:p<(w1.setCell (U g (k*6+3)) (H (c.left-qty))).heap.size:=by simp[World.setCell];omega
  clear hdel hz pt h3 h4 h5 h6 h7 h8 h9 xC uE;rw[hm] at d1 d2 hk' |-;clear hm;go_wp2_with fail;refine(Z HDC).mono ?_;rw[Z HDEL];rintro e w3 ⟨rfl,pI,uW⟩;have s1:=uW.cell d2 (by simpa using hpg);have s2:w3.frozen? (U p (o+1))=false:=(World.frozen?_of_block (a:=(U p (o+1))) (uW.block p ju (by simpa using hpg))).trans d4;have bd:=Q pI;have uD:=Q uW;clear pI uW;go_wp2_with fail;go_end0;refine⟨_,rfl,yM _ _ _ s1,?_,?_⟩
  ·rw[Z HH];exact dT (Z bd) (by simpa[Value.ownBlock] using hpg) (o+1) _
  ·exact gX (gX (gX (gG (gf (Z ud) ya) hpw (by simpa[Value.ownBlock] using hpg)) (gG (Z ua) (by omega) (by simpa[Value.ownBlock] using hpg))) (gG (Z uD) ju (by simpa[Value.ownBlock] using hpg))) (took_set _ _)
 ·have uE:(c.left-qty==0)=false:=by rw[xd];omega
  have HH:Hid (dL l k c qty=l.set k { c with left:=c.left-qty }):=if_neg hz;go_wp2_with fail;go_end0;refine⟨_,rfl,d2,by rw[Z HH];exact(Z HS).1,?_⟩;exact gX (gG (gf (Z ud) ya) hpw (by simpa[Value.ownBlock] using hpg)) (gG (Z HS).2 (by omega) (by simpa[Value.ownBlock] using hpg))
section
variable {B0:Nat->World->Prop} {W W':World} {k:Nat} {h1:Prop->World->Nat->Value->Prop} {x:List Bool} {f:Nat->Value}
end
def RT (B0:World->Prop)(yl:(Nat->Value)->Act)(k h:Nat)(h1:Prop->Prop->World->Nat->Value->Prop)(x:List Bool)(hb:Act)(W:World):Prop:=
 ∃f,hb=yl f/\(¬ x[k]? = some true->B0 W)/\∀j,x[j]? = some true->h1 (x[k]? = some true) (x[h]? = some true) W j (f j)
section
variable {B0:World->Prop} {W W':World} {k h:Nat} {h1:Prop->Prop->World->Nat->Value->Prop} {x:List Bool} {f:Nat->Value}
theorem eC (hh:∀j,x[j]? = some true->h1 (x[k]? = some true) (x[h]? = some true) W j (f j)){i:Nat}(hik:i≠k)(hih:i≠h)(hm:∀j v,h1 (x[k]? = some true) (x[h]? = some true) W j v->h1 (x[k]? = some true) (x[h]? = some true) W' j v)(hB:¬ x[k]? = some true->B0 W'){v:Value}(hv:h1 (x[k]? = some true) (x[h]? = some true) W' i v) :
  (¬ (x.set i true)[k]? = some true->B0 W')/\∀j,(x.set i true)[j]? = some true->h1 ((x.set i true)[k]? = some true) ((x.set i true)[h]? = some true) W' j (upd f i v j):=by
 rw[yW hik,yW hih];refine⟨hB,fun j hj=>?_⟩
 by_cases hji:j=i
 ·subst hji;rw[zr];exact hv
 ·rw[zn _ _ hji];rw[yW (fun e=>hji e.symm)] at hj;exact hm _ _ (hh j hj)
theorem rt_one (hkh:k≠h)(hh:∀j,x[j]? = some true->h1 (x[k]? = some true) (x[h]? = some true) W j (f j))(X:x[k]? = some false)(hn:¬ x[h]? = some true)(hm:∀j v,j≠k->h1 False False W j v->h1 True False W' j v){v:Value}(hv:h1 True False W' k v) :
  (¬ (x.set k true)[k]? = some true->B0 W')/\∀j,(x.set k true)[j]? = some true->h1 ((x.set k true)[k]? = some true) ((x.set k true)[h]? = some true) W' j (upd f k v j):=by
 have e:((x.set k true)[k]? = some true)=True:=by
  rw[List.getElem?_set_self (yG.1 X).1];simp
 have e2:((x.set k true)[h]? = some true)=False:=by
  rw[yW hkh];exact eq_false hn
 have e3:(x[h]? = some true)=False:=eq_false hn;have e4:(x[k]? = some true)=False:=by rw[X];simp
 rw[e,e2];refine⟨fun h=>absurd trivial h,fun j hj=>?_⟩
 by_cases hji:j=k
 ·subst hji;rw[zr];exact hv
 ·rw[zn _ _ hji];rw[yW (fun e=>hji e.symm)] at hj;have:=hh j hj;rw[e3,e4] at this;exact hm j _ hji this
theorem rt_two (hkh:h≠k)(hh:∀j,x[j]? = some true->h1 (x[k]? = some true) (x[h]? = some true) W j (f j))(X:x[k]? = some true)(hn:x[h]? = some false)(hm:∀j,j≠h->x[j]? = some true->h1 True False W j (f j)->h1 True True W' j (f j)){v:Value}(hv:h1 True True W' h v) :
  (¬ (x.set h true)[k]? = some true->B0 W')/\∀j,(x.set h true)[j]? = some true->h1 ((x.set h true)[k]? = some true) ((x.set h true)[h]? = some true) W' j (upd f h v j):=by
 have e:((x.set h true)[h]? = some true)=True:=by
  rw[List.getElem?_set_self (yG.1 hn).1];simp
 have e2:((x.set h true)[k]? = some true)=True:=by
  rw[yW hkh,X];simp
 have e3:(x[h]? = some true)=False:=by rw[hn];simp
 have e4:(x[k]? = some true)=True:=by rw[X];simp
 rw[e,e2];refine⟨fun h=>absurd trivial h,fun j hj=>?_⟩
 by_cases hji:j=h
 ·subst hji;rw[zr];exact hv
 ·rw[zn _ _ hji];rw[yW (fun e=>hji e.symm)] at hj;have:=hh j hj;rw[e3,e4] at this;exact hm j hji hj this
end
def trE (uI bZ qty cd:Int):Ev:=⟨3,zCm,uI,bZ,qty,cd,0⟩
abbrev ERow (W:World)(B:Nat)(v:Value)(l:List Ev):Prop:=W.ownsRow B 89 14 v l.length (l.flatMap Ev.vs)
theorem infoEv:(Tryz.prog.info? 89).map (fun i=>(i.zero,i.size,i.bytes))=some (some (.agg (yv 0 0 0 0 0 0 0 0 ⟨#[]⟩ 0 0 0 0 0).toArray),14,120):=by kernel_rfl
theorem one_ev (e:Ev):∀u∈e.vs,u.oneCell'=true:=by
 intro u hu;simp[Ev.vs] at hu;rcases hu with rfl|rfl|rfl|rfl|rfl|rfl|rfl|rfl|rfl|rfl|rfl|rfl|rfl|rfl <;> rfl
theorem fc {W W':World}{B:Nat}{v:Value}{l:List Ev}(h:ERow W B v l)(A:yn W W'):ERow W' B v l:=
 World.ownsRow.kept h (row:=none) (gf A ya) (by cases v.ownBlock <;> simp)
theorem row_sliceT {W:World}{B e sz n:Nat}{v:Value}{xs:List Value}(h:W.ownsRow B e sz v n xs)(hn:0<n):∃g c,v = .slice (some (U g 0)) n c:=by
 rcases h.2 with⟨_,h0⟩|⟨g,cap,_,D,_⟩
 ·omega
 ·exact⟨g,cap,D⟩
theorem cellsT (W:World)(e:Ev)(t:TypeId):∀j u,e.vs[j]? = some u->(W.alloc (Obj.cells e.vs.toArray t)).cell? (((yq W 0):Addr).add j)=some u:=fun j u h=>cellsQ W e.vs t j u h
def DT (mb fb B:Nat)(W0:World)(vt:Value)(ts:List Ev)(uI bZ qty cd:Int)(p q:Prop)(V:World):Nat->Value->Prop
 | 0,v=>v=xj mb 0
 | 1,v=>v=xj mb 0
 | 2,v=>v=xj mb 0
 | 3,v=>v=xj mb 8
 | 4,v=>v=vt
 | 5,v=>v=xj mb 0
 | 6,v=>v=xj mb 0
 | 7,v=>v=xj mb 2
 | 8,v=>v=xj mb 2
 | 9,v=>v=H uI
 | 10,v=>v=xj fb 0
 | 11,v=>v=H bZ
 | 12,v=>v=H qty
 | 13,v=>v=xj fb 2
 | 14,v=>v=H cd
 | 15,v=>v=evV (trE uI bZ qty cd)
 | 16,v=>∃s,v = .slice (some (U s 0)) 1 1/\(¬ p->∀j u,(trE uI bZ qty cd).vs[j]? = some u->V.cell? (((U s 0):Addr).add j)=some u)
 | 17,v=>∃a c,v = .slice a (ts.length+1) c/\p/\(¬ q->ERow V B v (ts ++ [trE uI bZ qty cd])/\W0.grownBy V vt.ownBlock)/\(q->V.cell? (U mb 8)=some v/\ERow V B v (ts ++ [trE uI bZ qty cd])/\TookAt mb 7 vt.ownBlock W0 V)
 | 18,v=>v=xj mb 0
 | 19,v=>v=xj mb 8
 | _,_=>True
section
variable {mb fb B:Nat} {W0 V V':World} {vt:Value} {ts:List Ev} {uI bZ qty cd:Int} {p q:Prop}
theorem dt_alloc {o:Obj}(hp:¬ p):∀j v,DT mb fb B W0 vt ts uI bZ qty cd p q V j v->DT mb fb B W0 vt ts uI bZ qty cd p q (V.alloc o) j v:=by
 intro j v h
 match j with
 | 0|1|2|3|4|5|6|7|8|9|10|11|12|13|14|15|18|19=>exact h
 | 16 =>
  obtain⟨s,D,E⟩:=h;exact⟨s,D,fun hp j u hu=>(yV _ _ _ (yK V _ (E hp j u hu))).trans (E hp j u hu)⟩
 | 17=>obtain⟨_,_,_,E,_⟩:=h;exact absurd E hp
 | j+20=>trivial
theorem dt_one:∀j v,j≠17->DT mb fb B W0 vt ts uI bZ qty cd False False V j v->DT mb fb B W0 vt ts uI bZ qty cd True False V' j v:=by
 intro j v hj h
 match j with
 | 0|1|2|3|4|5|6|7|8|9|10|11|12|13|14|15|18|19=>exact h
 | 16 =>
  obtain⟨s,D,E⟩:=h;exact⟨s,D,fun hp=>absurd trivial hp⟩
 | 17=>exact absurd rfl hj
 | j+20=>trivial
theorem dt_two {v:Value}:∀j,j≠20->DT mb fb B W0 vt ts uI bZ qty cd True False V j v->(j=17->DT mb fb B W0 vt ts uI bZ qty cd True True V' 17 v)->DT mb fb B W0 vt ts uI bZ qty cd True True V' j v:=by
 intro j hj h jV
 match j with
 | 0|1|2|3|4|5|6|7|8|9|10|11|12|13|14|15|18|19=>exact h
 | 16 =>
  obtain⟨s,D,E⟩:=h;exact⟨s,D,fun hp=>absurd trivial hp⟩
 | 17=>exact jV rfl
 | j+20=>trivial
end
end Go.Proofs.YtbghmldggahjiaaGreatDoor
