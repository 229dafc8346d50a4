/-.-/
import Derived.Test.YtbghmldggahjiaaGreatDoorUj15
import Derived.Laws.AppendOwnNone
import Derived.Laws.CopyOwn
set_option linter.unusedVariables false
set_option maxHeartbeats 6400000
set_option maxRecDepth 100000
namespace Go.Proofs.YtbghmldggahjiaaGreatDoor
open Go.RowKit
def cmdI (c:Cm):Value:=if c.k=1 then .iface 96 (noV c) else if c.k=2 then .iface 230 (.agg #[H c.i]) else if c.k=3 then .iface 232 (.agg #[H c.i,H c.q]) else if c.k=4 then .iface 259 (.agg #[]) else .nilIface
theorem lR (c:Cm)(w:World) :
  Calls Tryz.prog 97 #[cmV c] w fun e w'=>e=ym (noV c)/\yn w w':=by
 obtain⟨k,s,t,l,q,i,p,g⟩:=c;unfold cmV noV;simp only;have hsf:=sfl;go_enter Tryz.func97,Tryz.ntmps97;go_wp2_with fail;go_returns;exact⟨rfl,by go_grown⟩
theorem iK (c:Cm)(w:World) :
  Calls Tryz.prog 131 #[cmV c] w fun e w'=>e=ym (cmdI c)/\yn w w':=by
 obtain⟨k,s,t,l,q,i,p,g⟩:=c;unfold cmV;simp only
 by_cases D:k=1
 ·subst D;have ud:Hid (yn w (w.alloc (J (yx 1 s t l q i p g).toArray 57))):=lT _ _;go_enter Tryz.func131,Tryz.ntmps131;go_wp2_with fail;refine(lR ⟨1,s,t,l,q,i,p,g⟩ _).mono ?_;rintro e w' ⟨rfl,A⟩;have xq:=Q (lW (Z ud) A);clear A;go_wp2_with fail;go_ret;exact⟨rfl,Z xq⟩
 have b1:(k==1)=false:=by simpa using D
 by_cases E:k=2
 ·subst E;go_enter Tryz.func131,Tryz.ntmps131;go_wp2_with fail;go_ret;exact⟨rfl,by go_grown⟩
 have b2:(k==2)=false:=by simpa using E
 by_cases h3:k=3
 ·subst h3;go_enter Tryz.func131,Tryz.ntmps131;go_wp2_with fail;go_ret;exact⟨rfl,by go_grown⟩
 have b3:(k==3)=false:=by simpa using h3
 by_cases h4:k=4
 ·subst h4;go_enter Tryz.func131,Tryz.ntmps131;go_wp2_with fail;go_ret;exact⟨rfl,by go_grown⟩
 have b4:(k==4)=false:=by simpa using h4
 have HC:Hid (cmdI ⟨k,s,t,l,q,i,p,g⟩ = .nilIface):=by show _ = _;simp[cmdI,D,E,h3,h4]
 go_enter Tryz.func131,Tryz.ntmps131;go_wp2_with fail;go_ret;exact⟨by rw[Z HC];rfl,by go_grown⟩
def plcF (id:Int):List Od->Nat->Int
 | [],_=>-1
 | o::r,k=>if o.id=id then k else plcF id r (k+1)
def plc (l:List Od)(id:Int):Int:=plcF id l 0
theorem plcF_spec (id:Int):∀(l:List Od) (k:Nat),(plcF id l k = -1/\∀o∈l,o.id≠id) \/ ∃i o,plcF id l k=((k+i:Nat):Int)/\l[i]? = some o/\o.id=id/\∀j o',j<i->l[j]? = some o'->o'.id≠id
 | [],k=>.inl ⟨rfl,by simp⟩
 | o::r,k=>by
  by_cases h:o.id=id
  ·exact .inr ⟨0,o,by rw[plcF,if_pos h];rfl,rfl,h,by simp⟩
  ·rcases plcF_spec id r (k+1) with⟨D,E⟩|⟨i,o',D,E,h3,h4⟩
   ·refine .inl ⟨by rw[plcF,if_neg h,D],fun x hx=>?_⟩;rcases List.mem_cons.1 hx with rfl|hx
    ·exact h
    ·exact E x hx
   ·refine .inr ⟨i+1,o',by rw[plcF,if_neg h,D];congr 1;omega,E,h3,fun j x hj hx=>?_⟩;cases j with
    | zero=>simp at hx;subst hx;exact h
    | succ j=>exact h4 j x (by omega) (by simpa using hx)
theorem drop_get {l:List Od}{k:Nat}{c:Od}(h:l[k]? = some c):l.drop k=c::l.drop (k+1):=by
 obtain⟨D,rfl⟩:=yG.1 h;exact xc D
theorem place1_any (o:Od)(B:Nat)(id:Int)(w:World)(hB:w.cell? (U B 0)=some (H id)) :
  Calls Tryz.prog 138 #[.agg (yw o.id o.side o.ticks o.left o.life o.tag).toArray,xj B 0] w fun e w'=>e=ym (.bool (o.id==id))/\yn w w':=by
 obtain⟨vi,side,ticks,left,life,tag⟩:=o;simp only;have hB':(w.alloc (J (yw vi side ticks left life tag).toArray 98)).cell? (U B 0)=some (H id):=(yV _ _ (U B 0) (yK w _ hB)).trans hB;go_enter Tryz.func138,Tryz.ntmps138;go_wp2_with fail;go_ret;exact⟨rfl,by go_grown⟩
theorem indexFunc_any (v:Value)(l:List Od)(B:Nat)(id:Int)(w:World)(hr:RdR Od.vs 6 w v l)(hB:w.cell? (U B 0)=some (H id)) :
  Calls Tryz.prog 137 #[v,.func (.func 138) #[] #[xj B 0]] w fun e w'=>e=ym (H (plc l id))/\yn w w':=by
 obtain⟨a,cap,rfl,xD,hc⟩:=hr
 have xp:∀(k:Nat) (c:Od),l[k]? = some c->∃b off,a=some (U b off)/\b<w.heap.size/\w.rangeAt b (off+k*6) c.vs:=by
  intro k c X;obtain⟨b,off,D,E,h3⟩:=hc (by intro h;rw[h] at X;simp at X);exact⟨b,off,D,E,h3 k c X⟩
 have HC:=Q xp;have HBC:=Q hB;have hBl:=yK w _ hB;simp only at hBl;clear xp hc hB;go_enter Tryz.func137,Tryz.ntmps137;go_wp2_with fail;go_loopw [8] (fun iv wr=>∃(k:Nat),k<=l.length/\iv=H k/\Hid (plc l id=plcF id (l.drop k) k)/\yn w wr) (fun iv _=>l.length-(intOf iv).toNat)
 case atStart=>exact⟨0,Nat.zero_le _,rfl,rfl,Below.refl _ _⟩
 case round =>
  obtain⟨k,X,rfl,uJ,xk⟩:=hrel;have HB:=Q xk;clear xk
  by_cases xH:k<l.length
  ·obtain⟨c,qk⟩:∃c,l[k]? = some c:=⟨_,yH xH⟩
   have HP:Hid (plc l id=if c.id=id then(k:Int) else plcF id (l.drop (k+1)) (k+1)):=by
    have:=Z uJ;rw[drop_get qk] at this;exact this
   obtain⟨b,off,rfl,A,xm⟩:=Z HC k c qk;obtain⟨g0,g1,g2,g3,g4,g5⟩:=zM (zd xm (Z HB) A);have uq:(k:Int)<l.length:=by omega
   have vV:=Q (((Z HB).cell (p:=(U B 0)) hBl).trans (Z HBC));clear qk xm A uJ;go_wp2_with fail;refine(place1_any c B id wr (Z vV)).mono ?_;rintro e w3 ⟨rfl,xN⟩;have xZ:=Q (lW (Z HB) xN);clear xN
   by_cases uf:c.id=id
   ·have A:(c.id==id)=true:=by simpa using uf
    have HK:Hid (plc l id=k):=by have:=Z HP;rw[if_pos uf] at this;exact this
    clear uf;go_wp2_with fail;go_ret;exact⟨zt (Z HK).symm,Z xZ⟩
   ·have A:(c.id==id)=false:=by simpa using uf
    have HK:Hid (plc l id=plcF id (l.drop (k+1)) (k+1)):=by have:=Z HP;rw[if_neg uf] at this;exact this
    clear uf;go_wp2_with fail;go_roundw
    case rel=>exact⟨k+1,by omega,by go_num,Z HK,Z xZ⟩
    case measure=>simp[intOf];omega
  ·have HK:Hid (plc l id = -1):=by
    have h:=Z uJ;rw[xa (by omega)] at h;exact h
   go_wp2_with fail;go_ret;exact⟨zt (Z HK).symm,Z HB⟩
theorem iS (next:Int)(v:Value)(l:List Od)(id:Int)(w:World)(hr:RdR Od.vs 6 w v l) :
  Calls Tryz.prog 103 #[.agg #[H next,v],H id] w fun e w'=>e=ym (H (plc l id))/\yn w w':=by
 have HR:=Q hr;obtain⟨a,cap,rfl,xD,hc⟩:=hr;have hmf:∀(fn:Fn) (first cap:Array Value) (w:World),(Instr.makeFunc fn first cap).run Tryz.prog w = .ok (.func fn first cap) w:=fun _ _ _ _=>rfl;have xI:=zh w (J #[H next,.slice a l.length cap] 41);have r1:=zo (w.alloc (J #[H next,.slice a l.length cap] 41)) [H id] 3;rw[xI] at r1;have HX:=Q (r1 0 _ rfl);have qe:Hid (yn w ((w.alloc (J #[H next,.slice a l.length cap] 41)).alloc (J #[H id] 3))):=(lT _ _).alloc (by rw[xI];omega) _;clear hc r1 xI;go_enter Tryz.func103,Tryz.ntmps103;go_wp2_with fail;have HX:Hid (World.cell? ((w.alloc (J #[H next,.slice a l.length cap] 41)).alloc (J #[H id] 3)) (U (w.heap.size+1) 0)=some (H id)):=Z HX;generalize ((w.alloc (J #[H next,.slice a l.length cap] 41)).alloc (J #[H id] 3))=W2 at HX qe |-;refine(indexFunc_any _ l (w.heap.size+1) id W2 (zq (Z HR) (Z qe) ya) (Z HX)).mono ?_;rintro e w3 ⟨rfl,xN⟩;have xZ:=Q (lW (Z qe) xN);clear xN;go_wp2_with fail;go_ret;exact⟨rfl,Z xZ⟩
abbrev ORow (W:World)(B:Nat)(v:Value)(l:List Od):Prop:=W.ownsRow B 98 6 v l.length (l.flatMap Od.vs)
theorem zP {W:World}{B:Nat}{v:Value}{l:List Od}(h:ORow W B v l)(hl:l.length<=1073741824):RdR Od.vs 6 W v l:=ik (gh Od.len hl h)
theorem cellsQ (w:World)(cs:List Value)(t:TypeId)(j:Nat)(u:Value)(h:cs[j]? = some u):(w.alloc (Obj.cells cs.toArray t)).cell? (((yq w 0):Addr).add j)=some u:=by
 rw[Addr.add_mid,cell_of_row _ w.heap.size (0+j) cs.toArray t (0,0) (heap_alloc_new w _)];simpa using h
theorem ib {W:World}{g off:Nat}{l:List Od}(h:∀i c,l[i]? = some c->W.rangeAt g (off+i*6) c.vs)(a n:Nat):∀j u,(((l.drop a).take n).flatMap Od.vs)[j]? = some u->W.cell? (((U g (off+a*6)):Addr).add j)=some u:=by
 intro j u hu;have xH:=(yG.1 hu).1;rw[ef Od.len] at xH;have hq:j / 6<((l.drop a).take n).length:=by omega
 obtain⟨c,hc⟩:∃c,((l.drop a).take n)[j / 6]? = some c:=⟨_,yH hq⟩;have D:=flat_get Od.len _ (j / 6) (j % 6) c hc (by omega);rw[show j / 6*6+j % 6=j by omega,hu] at D
 have hc':l[a+j / 6]? = some c:=by
  rw[List.getElem?_take] at hc;split at hc
  ·rw[List.getElem?_drop] at hc;exact hc
  ·cases hc
 have:=h _ c hc' (j % 6) u D.symm;rw[Addr.add_mid];rw[show off+(a+j / 6)*6+j % 6=off+a*6+j by omega] at this;exact this
theorem fQ (l:List Od):∀u∈l.flatMap Od.vs,u.oneCell'=true:=by
 intro u hu;obtain⟨o,_,K⟩:=List.mem_flatMap.1 hu;simp[Od.vs] at K;rcases K with rfl|rfl|rfl|rfl|rfl|rfl <;> rfl
structure R7 (LV:Value) (W0:World) (C:Nat->Value->Prop) (L1 L2:List Od) (x:List Bool) (f:Nat->Value) (W:World):Prop where
 bel:Below W0.heap.size W0 W
 c:∀j,x[j]? = some true->C j (f j)
 s5:x[10]? = some false->f 10=LV
 m0:x[0]? = some true->x[4]? = some false->ORow W W0.heap.size (f 0) []
 m4:x[4]? = some true->x[9]? = some false->ORow W W0.heap.size (f 4) L1
 m9:x[9]? = some true->ORow W W0.heap.size (f 9) L2
 m10:x[10]? = some true->f 10=f 9
 o4:x[4]? = some true->x[0]? = some true
 o9:x[9]? = some true->x[4]? = some true
 o10:x[10]? = some true->∀j,j<10->x[j]? = some true
theorem gq {x:List Bool}{i j:Nat}(h:i≠j):(x.set i true)[j]? = x[j]?:=yW h
theorem set_mono {x:List Bool}{i j:Nat}(h:x[j]? = some true):(x.set i true)[j]? = some true:=by
 by_cases pY:i=j
 ·subst pY;exact List.getElem?_set_self (yG.1 h).1
 ·rw[yW pY];exact h
theorem gqs {x:List Bool}{i:Nat}(h:x[i]? = some false):(x.set i true)[i]? = some true:=List.getElem?_set_self (yG.1 h).1
section
variable {LV:Value} {W0 W W':World} {C:Nat->Value->Prop} {L1 L2:List Od} {x:List Bool} {f:Nat->Value}
theorem eK (h:R7 LV W0 C L1 L2 x f W)(i:Nat)(v:Value)(hv:C i v)(h0:i≠0)(h4:i≠4)(h9:i≠9)(vv:i≠10):R7 LV W0 C L1 L2 (x.set i true) (upd f i v) W:=by
 refine⟨h.bel,zD h.c hv,?_,?_,?_,?_,?_,?_,?_,?_⟩ <;> simp only[gq h0,gq h4,gq h9,gq vv,zn f v h0.symm,zn f v h4.symm,zn f v h9.symm,zn f v vv.symm]
 ·exact h.s5
 ·exact h.m0
 ·exact h.m4
 ·exact h.m9
 ·exact h.m10
 ·exact h.o4
 ·exact h.o9
 ·exact fun e j hj=>set_mono (h.o10 e j hj)
theorem no_of {b:Option Bool}(h:b=some false):b≠some true:=by rw[h];simp
theorem r7_0 (h:R7 LV W0 C L1 L2 x f W)(h0:x[0]? = some false)(hv:∀v,C 0 v):R7 LV W0 C L1 L2 (x.set 0 true) (upd f 0 (.slice (some (yq W 0)) 0 0)) (W.alloc (J #[] 98)):=by
 have n4:x[4]? ≠ some true:=fun e=>no_of h0 (h.o4 e);have n9:x[9]? ≠ some true:=fun e=>n4 (h.o9 e);have n10:x[10]? ≠ some true:=fun e=>n9 (h.o10 e 9 (by omega));refine⟨h.bel.alloc h.bel.size _,zD h.c (hv _),?_,?_,?_,?_,?_,?_,?_,?_⟩ <;> try simp only[gq (show 0≠4 by decide),gq (show 0≠9 by decide),gq (show 0≠10 by decide),zn f _ (show 10≠0 by decide),zn f _ (show 9≠0 by decide),zn f _ (show 4≠0 by decide)]
 ·exact h.s5
 ·intro _ _;rw[zr];exact World.ownsRow_made W #[] 0 h.bel.size (by decide) rfl
 ·exact fun e=>absurd e n4
 ·exact fun e=>absurd e n9
 ·exact fun e=>absurd e n10
 ·exact fun e=>absurd e n4
 ·exact h.o9
 ·exact fun e j hj=>set_mono (h.o10 e j hj)
theorem r7_4 (h:R7 LV W0 C L1 L2 x f W)(h0:x[0]? = some true)(h4:x[4]? = some false)(hv:∀v,C 4 v){v':Value}(K:ORow W' W0.heap.size v' L1)(M:W.grownBy W' (f 0).ownBlock):R7 LV W0 C L1 L2 (x.set 4 true) (upd f 4 v') W':=by
 have n9:x[9]? ≠ some true:=fun e=>no_of h4 (h.o9 e);have n10:x[10]? ≠ some true:=fun e=>n9 (h.o10 e 9 (by omega));refine⟨h.bel.grown M h.bel.size (fun k X=>((h.m0 h0 h4).lt k X).1),zD h.c (hv _),?_,?_,?_,?_,?_,?_,?_,?_⟩ <;> try simp only[gq (show 4≠0 by decide),gq (show 4≠9 by decide),gq (show 4≠10 by decide),zn f _ (show 10≠4 by decide),zn f _ (show 9≠4 by decide),zn f _ (show 0≠4 by decide)]
 ·exact h.s5
 ·intro _ e;rw[gqs h4] at e;cases e
 ·intro _ _;rw[zr];exact K
 ·exact fun e=>absurd e n9
 ·exact fun e=>absurd e n10
 ·exact fun _=>h0
 ·exact fun e=>absurd e n9
 ·exact fun e j hj=>set_mono (h.o10 e j hj)
theorem r7_9 (h:R7 LV W0 C L1 L2 x f W)(h4:x[4]? = some true)(h9:x[9]? = some false)(hv:∀v,C 9 v){v':Value}(K:ORow W' W0.heap.size v' L2)(M:W.grownBy W' (f 4).ownBlock):R7 LV W0 C L1 L2 (x.set 9 true) (upd f 9 v') W':=by
 have n10:x[10]? ≠ some true:=fun e=>no_of h9 (h.o10 e 9 (by omega));refine⟨h.bel.grown M h.bel.size (fun k X=>((h.m4 h4 h9).lt k X).1),zD h.c (hv _),?_,?_,?_,?_,?_,?_,?_,?_⟩ <;> try simp only[gq (show 9≠0 by decide),gq (show 9≠4 by decide),gq (show 9≠10 by decide),zn f _ (show 10≠9 by decide),zn f _ (show 4≠9 by decide),zn f _ (show 0≠9 by decide)]
 ·exact h.s5
 ·exact fun _ e=>absurd e (by rw[h4];simp)
 ·intro _ e;rw[gqs h9] at e;cases e
 ·intro _;rw[zr];exact K
 ·exact fun e=>absurd e n10
 ·exact h.o4
 ·exact fun _=>h4
 ·exact fun e=>absurd e n10
theorem r7_10 (h:R7 LV W0 C L1 L2 x f W)(hA:∀j,j<10->x[j]? = some true)(vv:x[10]? = some false)(hv:∀v,C 10 v):R7 LV W0 C L1 L2 (x.set 10 true) (upd f 10 (f 9)) W:=by
 refine⟨h.bel,zD h.c (hv _),?_,?_,?_,?_,?_,?_,?_,?_⟩ <;> try simp only[gq (show 10≠0 by decide),gq (show 10≠4 by decide),gq (show 10≠9 by decide),zn f _ (show 9≠10 by decide),zn f _ (show 4≠10 by decide),zn f _ (show 0≠10 by decide)]
 ·intro e;rw[gqs vv] at e;cases e
 ·exact h.m0
 ·exact h.m4
 ·exact h.m9
 ·exact fun _=>zr _ _ _
 ·exact h.o4
 ·exact h.o9
 ·exact fun _ j hj=>set_mono (hA j hj)
end
def C7 (LV:Value)(g n cp i:Nat):Nat->Value->Prop
 | 1,v=>v=LV
 | 2,v=>v=H i
 | 3,v=>v = .slice (some (U g 0)) i cp
 | 5,v=>v=LV
 | 6,v=>v=H i
 | 7,v=>v=H ((i:Int)+1)
 | 8,v=>∃ad c,v = .slice (some ad) (n-(i+1)) c/\(i+1<n->ad=(U g ((i+1)*6)))
 | _,_=>True
def R7A (LV:Value)(W0:World)(C:Nat->Value->Prop)(L1 L2:List Od)(yl:(Nat->Value)->Act)(x:List Bool)(hb:Act)(W:World):Prop:=∃f,hb=yl f/\R7 LV W0 C L1 L2 x f W
theorem fM {W:World}{B:Nat}{v:Value}{l:List Od}(h:ORow W B v l)(xy:l ≠ []):∃g cap,v = .slice (some (U g 0)) l.length cap/\l.length<=cap/\B<=g/\g<W.heap.size:=by
 rcases h.2 with⟨rfl,h0⟩|⟨g,cap,xr,rfl,A,M,xC,_⟩
 ·exact absurd (List.length_eq_zero_iff.1 h0) xy
 ·exact⟨g,cap,rfl,xC,A,(yY.1 M).1⟩
def SlOk (v:Value):Prop:=v = .slice none 0 0 \/ ∃ad n c,v = .slice (some ad) n c
theorem oRow_sl {W:World}{B:Nat}{v:Value}{l:List Od}(h:ORow W B v l):SlOk v:=by
 rcases h.2 with⟨D,_⟩|⟨g,cap,xr,D,_⟩
 ·exact .inl D
 ·exact .inr ⟨_,_,_,D⟩
theorem rd_src {W:World}{ad:Addr}{cap:Nat}{l:List Od}(hr:RdR Od.vs 6 W (.slice (some ad) l.length cap) l):∀j u,(l.flatMap Od.vs)[j]? = some u->W.cell? (ad.add j)=some u:=by
 intro j u hu;obtain⟨a',qP,e1,_,hc⟩:=hr;simp only[Value.slice.injEq] at e1;have xy:l ≠ []:=by rintro rfl;simp at hu
 obtain⟨b,off,e2,A,xm⟩:=hc xy;rw[e2] at e1;simp only[Option.some.injEq] at e1;obtain⟨rfl,-,-⟩:=e1;have h:=ib (W:=W) (g:=b) (off:=off) (l:=l) xm 0 l.length j u (by simpa using hu);simpa using h
theorem gA {W:World}{v:Value}{l:List Od}(h:RdR Od.vs 6 W v l):∃a c,v = .slice a l.length c:=by
 obtain⟨a,c,D,_⟩:=h;exact⟨a,c,D⟩
theorem fK {W:World}{b c o k j:Nat}{u:Value}(h:W.there b o k):(W.setCell (U c j) u).there b o k:=xb (vs:=[u]) h c j
theorem oRow_set {W:World}{B:Nat}{v:Value}{l:List Od}(h:ORow W B v l){b:Nat}(A:b<B)(o:Nat)(u:Value):ORow (W.setCell (U b o) u) B v l:=
 ownsRow_setCell_below h (a:=(U b o)) A u
theorem copy_mid {w W2 w3:World}{S:Nat}{v3 sv:Value}{next:Int}{l:List Od}(hS:S=w.heap.size)(D:Below S w W2)(E:W2.heap.size=S+2)(h3:W2.rangeAt S 0 [H next,sv])(h4:W2.there S 0 2)(h5:W2.there (S+1) 0 2)(hl:l.length<=1000)
  (h6:w3.ownsRow (S+2) 98 6 v3 (0+l.length) ([]++l.flatMap Od.vs)) (h7:W2.grownBy w3 (Value.slice none 0 0).ownBlock) :
  ∃a3 c3,v3 = .slice a3 l.length c3/\ORow w3 (S+2) v3 l/\w3.cell? (U S 0)=some (H next)/\w3.cell? (U S 1)=some sv/\w3.frozen? (U S 1)=false/\w3.there (S+1) 0 2/\Below S w w3/\S+2<=w3.heap.size:=by
 have h6':ORow w3 (S+2) v3 l:=by
  show w3.ownsRow _ _ _ _ l.length _;simpa using h6
 obtain⟨a3,c3,e⟩:=gA (zP h6' (by omega));have r:=zA h3 h7 (by omega) (by simp[Value.ownBlock]);refine⟨a3,c3,e,h6',r 0 _ rfl,r 1 _ rfl,?_,iT h5 h7 (by omega) (by simp[Value.ownBlock]),D.grown h7 (by omega) (fun k X=>by simp[Value.ownBlock] at X),by have:=h7.size;omega⟩;have:=(iT h4 h7 (by omega) (by simp[Value.ownBlock]) 1 (by omega)).2;rwa[Nat.zero_add] at this
theorem copyBook_any (next:Int)(v:Value)(l:List Od)(w:World)(hr:RdR Od.vs 6 w v l)(hs:SlOk v)(hn:l.length<=1000) :
  Calls Tryz.prog 69 #[.agg #[H next,v]] w fun e w'=>∃v',e=ym (.agg #[H next,v'])/\ORow w' w.heap.size v' l/\yn w w':=by
 have HR:=Q hr;obtain⟨i0,vA,uE,uw,uC⟩:=info_parts Tryz.infoOrder;obtain⟨a,cap,rfl,xD,hc⟩:=hr;have xI:=zh w (J #[H next,.slice a l.length cap] 41);have uc:((w.alloc (J #[H next,.slice a l.length cap] 41)).alloc (J #[H 0,.slice none 0 0] 41)).heap.size=w.heap.size+2:=by rw[zh,xI]
 have t1:=zT w [H next,.slice a l.length cap] 41;have r1:=zo w [H next,.slice a l.length cap] 41;have b1:Below (w.heap.size+1) (w.alloc (J #[H next,.slice a l.length cap] 41)) ((w.alloc (J #[H next,.slice a l.length cap] 41)).alloc (J #[H 0,.slice none 0 0] 41)):=(Below.refl _ _).alloc (by rw[xI];omega) _;have t2:=zT (w.alloc (J #[H next,.slice a l.length cap] 41)) [H 0,.slice none 0 0] 41;rw[xI] at t2;have HX:Hid (_/\_/\_):=⟨zd r1 b1 (by omega),zl t1 b1 (by omega),t2⟩;have qe:Hid (yn w ((w.alloc (J #[H next,.slice a l.length cap] 41)).alloc (J #[H 0,.slice none 0 0] 41))):=(lT _ _).alloc (by rw[xI];omega) _;have vL:=Q uc;clear hc t1 r1 b1 t2 xI uc;go_enter Tryz.func69,Tryz.ntmps69;rcases hs with hs|⟨ad,nn,cc,hs⟩
 ·simp only[Value.slice.injEq] at hs;obtain⟨rfl,oS,rfl⟩:=hs;obtain rfl:=List.length_eq_zero_iff.1 oS;go_wp2_with (at_builtin;go_must (refine wpList_append_own_none rfl _ _ 39 rfl (w.heap.size+2) 98 i0 6 Tryz.underlying39 vA (.slice none 0 0) 0 [] rfl (World.ownsRow_nil _ _ _ _) rfl ?_));go_returns;refine⟨_,rfl,World.ownsRow_nil _ _ _ _,?_⟩;go_grown
 ·simp only[Value.slice.injEq] at hs;obtain⟨rfl,rfl,rfl⟩:=hs;have uA:Hid (∀j u,(l.flatMap Od.vs)[j]? = some u->World.cell? (((w.alloc (J #[H next,.slice (some ad) l.length cap] 41)).alloc (J #[H 0,.slice none 0 0] 41))) (ad.add j)=some u):=rd_src (zq (Z HR) (Z qe) ya);go_wp2_with (at_builtin;go_must (refine wpList_append_own _ rfl _ _ 39 rfl (w.heap.size+2) 98 i0 _ 6 56 Tryz.underlying39 vA uE uw uC rfl (by decide) (.slice none 0 0) 0 [] rfl (World.ownsRow_nil _ _ _ _) ad l.length cap (l.flatMap Od.vs) rfl (by rw[ef Od.len]) (Z uA) (fQ l) (by unfold maxLen;omega) (by omega) (by rw[Z vL];omega) ?_);intro v3 w3 aR uW _;obtain⟨a3,c3,rfl,pI,c0,c1,f1,ht3,xN,ja⟩:=copy_mid rfl (Z qe) (Z vL) (Z HX).1 (Z HX).2.1 (Z HX).2.2 hn aR uW;have bd:=Q pI;have jT:=Q ht3;have xZ:=Q xN;obtain⟨v0,z0,q0⟩:=zI ht3 0 (by omega);obtain⟨v1,z1,q1⟩:=zI ht3 1 (by omega);clear pI ht3 xN aR uW)
  have z0:w3.cell? (U (w.heap.size+1) 0)=some v0:=z0;have z1:w3.cell? (U (w.heap.size+1) 1)=some v1:=by rw[Nat.zero_add] at z1;exact z1
  have q0:w3.frozen? (U (w.heap.size+1) 0)=false:=q0;have q1:w3.frozen? (U (w.heap.size+1) 1)=false:=by rw[Nat.zero_add] at q1;exact q1
  have oy:=Q (yX (w3.setCell (yq w 1) (.slice a3 l.length c3)) (w.heap.size+1) 0 [H next,.slice a3 l.length c3] (fun j hj=>(fK (Z jT)) j hj));have HOX:=Q (oRow_set (oRow_set (oRow_set (Z bd) (b:=w.heap.size) (by omega) 1 (.slice a3 l.length c3)) (b:=w.heap.size+1) (by omega) 0 (H next)) (b:=w.heap.size+1) (by omega) 1 (.slice a3 l.length c3));have vV:=Q ((((Z xZ).setCell (p:=(yq w 1)) ya (.slice a3 l.length c3)).setCell (p:=(U (w.heap.size+1) 0)) (by simp) (H next)).setCell (p:=(U (w.heap.size+1) 1)) (by simp) (.slice a3 l.length c3));go_wp2_with fail;have oy:Hid (World.rangeAt (((w3.setCell (yq w 1) (.slice a3 l.length c3)).setCell (U (w.heap.size+1) 0) (H next)).setCell (U (w.heap.size+1) 1) (.slice a3 l.length c3)) (w.heap.size+1) 0 [H next,.slice a3 l.length c3]):=Z oy;generalize (((w3.setCell (yq w 1) (.slice a3 l.length c3)).setCell (U (w.heap.size+1) 0) (H next)).setCell (U (w.heap.size+1) 1) (.slice a3 l.length c3))=WE at oy HOX vV |-;have d0:WE.cell? (U (w.heap.size+1) 0)=some (H next):=Z oy 0 _ rfl;have d1:WE.cell? (U (w.heap.size+1) 1)=some (.slice a3 l.length c3):=Z oy 1 _ rfl
  try simp only[Exit.inBlock,Exit.then]
  refine bodyPost_ret (by simp[results,Tryz.results69,go_sem,d0,d1];try rfl) rfl ?_;exact⟨_,rfl,ex (Z HOX) (by omega),Z vV⟩
theorem lL {P:Program}{w:World}{ops:Array Oper}{rest:List Oper}{o:Oper}{a:Act}{yc:Exit->Act->World->Prop}(hgd:o.guard=none)(s x:Operand)(t:TypeId)
  (K:o.op = .call { callee:=.builtin .append,args:=#[s,x],argTypes:=#[t,t] })
  (e:TypeId) (i:TypeInfo) (size:Nat) (ht:P.underlying t=some (.slice e)) (hi:P.info? e=some i) (hsize:i.size=size)
  (g cL sCap:Nat) (xr:Array Value) (M:w.heap[g]? = some (.cells xr e (0,0))) (hs:a.eval s = .slice (some (U g 0)) cL sCap)
  (ad:Addr) (m c:Nat) (news:List Value) (hx:a.eval x = .slice (some ad) m c) (hl:news.length=m*size) (hnews:∀j u,news[j]? = some u->w.cell? (ad.add j)=some u) (D:∀u∈news,u.oneCell'=true)
  (hroom:cL+m<=sCap) (hfit:cL*size+news.length<=xr.size)
  (h:wpList P ops yc rest (a.put o.dst (.slice (some (U g 0)) (cL+m) sCap)) (w.setRow g (xr.toList.take (cL*size)++news++xr.toList.drop (cL*size+news.length)).toArray)):wpList P ops yc (o::rest) a w:=by
 subst hsize;refine wpList_plain hgd fun ho hK=>?_;have hrun:=run_append_room (P:=P) w t o.type e i ht hi g cL sCap xr M ad m c news hl hnews D hroom hfit;unfold Oper.wp execOp;simp only[K,resolve,invoke,builtin,Sem.run_bind,Sem.run_pure,Result.andThen_ok,List.map_toArray,List.map_cons,List.map_nil,hs,hx,hrun];exact hK _ _ h
theorem clear_row {P:Program}(w:World)(T ty e:TypeId)(i:TypeInfo)(z:Value)(ht:P.underlying T=some (.slice e))(hi:P.info? e=some i)(hz:i.zero=some z)(g o c:Nat)(xr:Array Value)(M:w.heap[g]? = some (.cells xr e (0,0)))
  (hfit:o+z.cells.toList.length<=xr.size) (D:∀v∈z.cells.toList,v.oneCell'=true) :
  (Builtin.clear_ #[T] ty #[.slice (some (U g o)) 1 c]).run P w = .ok (.tuple #[]) (w.setRow g (xr.toList.take o++z.cells.toList++xr.toList.drop (o+z.cells.toList.length)).toArray):=by
 have pK:=run_storeCells_at P g o e z.cells.toList 0 xr w M (by simpa using hfit) D;simp only[Nat.add_zero] at pK
 have hzc:(Builtin.zeroCells z.cells 1).toList=z.cells.toList:=by
  refine List.ext_getElem (by simp[Builtin.zeroCells]) fun j D E=>?_;have hj:j<z.cells.size:=by simpa using E
  simp[Builtin.zeroCells,Nat.mod_eq_of_lt hj,hj]
 simp[Builtin.clear_,run_underlying ht,zeroValue,typeInfo,hi,hz,hzc,pK]
abbrev zOdL:List Value:=(yw 0 0 0 0 0 ⟨#[]⟩)
theorem row_gone {xr:Array Value}{l:List Od}{i m cap:Nat}{zs:List Value}(hl:l.length=i+1+m)(hc:l.length<=cap)(hs:xr.size=cap*6)(ht:xr.toList.take (l.length*6)=l.flatMap Od.vs)(hz:zs.length=6) :
  (((xr.toList.take (i*6)++(l.drop (i+1)).flatMap Od.vs++xr.toList.drop (i*6+m*6)).take ((i+m)*6)++zs++(xr.toList.take (i*6)++(l.drop (i+1)).flatMap Od.vs++xr.toList.drop (i*6+m*6)).drop ((i+m)*6+zs.length)).take ((i+m)*6)=(l.take i++l.drop (i+1)).flatMap Od.vs) /\
  (xr.toList.take (i*6)++(l.drop (i+1)).flatMap Od.vs++xr.toList.drop (i*6+m*6)).length=cap*6:=by
 have xm:xr.toList.length=cap*6:=by simpa using hs
 have cx:((l.drop (i+1)).flatMap Od.vs).length=m*6:=by rw[ef Od.len,List.length_drop];congr 1;omega
 have hti:xr.toList.take (i*6)=(l.take i).flatMap Od.vs:=by
  have h:=congrArg (List.take (i*6)) ht;rw[List.take_take,show min (i*6) (l.length*6)=i*6 by omega] at h;rw[h]
  conv=>lhs;rw[<- List.take_append_drop i l,List.flatMap_append]
  rw[List.take_append_of_le_length (by rw[ef Od.len,List.length_take];omega),yZ (by rw[ef Od.len,List.length_take];omega)]
 have xD:(xr.toList.take (i*6)++(l.drop (i+1)).flatMap Od.vs).length=(i+m)*6:=by
  rw[yP,cx,List.length_take,xm];omega
 refine⟨?_,?_⟩
 ·rw[List.append_assoc ((List.take _ _)),List.take_append_of_le_length (by rw[List.length_take,yP,xD,List.length_drop,xm];omega),List.take_take,Nat.min_self,List.take_append_of_le_length (by rw[xD];omega),yZ (by rw[xD];omega),hti,List.flatMap_append]
 ·rw[yP,xD,List.length_drop,xm];omega
theorem delete_any (g i m cap B:Nat)(xr:Array Value)(l:List Od)(w:World)(hl:l.length=i+1+m)(hn:l.length<=1000)(M:w.heap[g]? = some (.cells xr 98 (0,0)))(xC:l.length<=cap)(hmx:cap<=maxLen)(uX:xr.size=cap*6)(oD:xr.toList.take (l.length*6)=l.flatMap Od.vs)(hB:B<=g) :
  Calls Tryz.prog 136 #[.slice (some (U g 0)) (i+1+m) cap,H i,H ((i:Int)+1)] w fun e w'=>e=ym (.slice (some (U g 0)) (i+m) cap)/\ORow w' B (.slice (some (U g 0)) (i+m) cap) (l.take i++l.drop (i+1))/\w.grownBy w' (some g):=by
 obtain⟨i0,vA,uE,uw,uC⟩:=info_parts Tryz.infoOrder;have HG:=Q M
 have HRC:Hid (∀j c,l[j]? = some c->w.drew.rangeAt g (0+j*6) c.vs):=by
  have K:ORow w B (.slice (some (U g 0)) l.length cap) l:=⟨by rw[ef Od.len],.inr ⟨g,cap,xr,rfl,hB,M,xC,hmx,uX,oD⟩⟩;obtain⟨a',c',e,_,h⟩:=zP K (by omega);intro j c hj;obtain⟨b',oW,e2,_,h⟩:=h (by intro h;rw[h] at hj;simp at hj);rw[e2] at e;simp only[Value.slice.injEq,Option.some.injEq,Addr.mk.injEq,and_true,true_and] at e;obtain⟨⟨rfl,rfl⟩,-⟩:=e;exact h j c hj
 have uV:=Q oD;have kG:=Q uX;have HL:=Q hl;have D:(i:Int)+1<=(i:Int)+1+m:=by omega
 have E:(i:Int)+1+m<=cap:=by omega
 have h3:(0:Int)<=i:=by omega
 have h4:(i:Int)<=(i:Int)+1:=by omega
 have h5:(0:Int)<=(i:Int)+1:=by omega
 have h6:(i:Int)<=cap:=by omega
 have b1:((i:Int)==(i:Int)+1)=false:=by rw[xd];omega
 clear M oD uX hl;go_enter Tryz.func136,Tryz.ntmps136;go_wp2_with fail;refine zw 6 (by kernel_rfl) (by kernel_rfl) ?_;simp only[yT,List.take_zero,yU,List.drop_zero]
 by_cases pH:cap=i+1
 ·have hm0:m=0:=by have:=Z HL;omega
  subst hm0;subst pH
  repeat still_step
  refine wpStill_nil ?_;refine lL rfl (.tmp 22) (.tmp 25) 39 rfl 98 i0 6 Tryz.underlying39 vA uw g i (i+1) xr (Z HG) rfl (U g 0) 0 0 ((l.drop (i+1)).flatMap Od.vs) rfl (by rw[ef Od.len,List.length_drop];congr 1;have:=Z HL;omega) (by rw[xa (by have:=Z HL;omega)];simp) (fQ _) (by omega) (by rw[ef Od.len,List.length_drop,Z kG];have:=Z HL;omega) ?_;have cx:((l.drop (i+1)).flatMap Od.vs).length=0*6:=by rw[ef Od.len,List.length_drop];congr 1;have:=Z HL;omega
  rw[cx];obtain⟨aM,kr⟩:=row_gone (zs:=zOdL) (Z HL) xC (Z kG) (Z uV) rfl;have ay:=Q aM;generalize hC1:(xr.toList.take (i*6)++(l.drop (i+1)).flatMap Od.vs++xr.toList.drop (i*6+0*6))=C1 at ay kr |-;have hx1:(w.drew.setRow g C1.toArray).heap[g]? = some (.cells C1.toArray 98 (0,0)):=setRow_heap w.drew g xr C1.toArray 98 (0,0) (Z HG);have pm:Hid (w.grownBy (w.drew.setRow g C1.toArray) (some g)):=⟨rfl,rfl,rfl,by simp,fun k X xy=>setRow_other w.drew g k C1.toArray (fun e=>xy (by rw[e]))⟩;have uh:=Q hx1;clear hx1 hC1 aM cx;generalize w.drew.setRow g C1.toArray=X1 at uh pm |-
  have xm:∀(ty:TypeId) (c:Nat),(Builtin.clear_ #[39] ty #[.slice (some (U g (i*6))) 1 c]).run Tryz.prog X1 = .ok (.tuple #[]) (X1.setRow g (C1.take (i*6)++zOdL++C1.drop (i*6+6)).toArray):=fun ty c=>by
   have:=clear_row X1 39 ty 98 i0 _ Tryz.underlying39 vA uE g (i*6) c C1.toArray (Z uh) (by show i*6+6<=C1.toArray.size;rw[List.size_toArray,kr];omega) (by simp[Value.cells,Value.oneCell']);simpa[Value.cells] using this
  have xF:=Q (setRow_heap X1 g C1.toArray (C1.take (i*6)++zOdL++C1.drop (i*6+6)).toArray 98 (0,0) (Z uh));have ua:Hid (w.grownBy (X1.setRow g (C1.take (i*6)++zOdL++C1.drop (i*6+6)).toArray) (some g)):=(Z pm).trans ⟨rfl,rfl,rfl,by simp,fun k X xy=>setRow_other X1 g k _ (fun e=>xy (by rw[e]))⟩;generalize hC2:(C1.take (i*6)++zOdL++C1.drop (i*6+6)).toArray=C2 at xm xF ua;have HC2:=Q hC2;have oE:=Q kr;clear hC2;have k1:¬ i+1=i:=by omega
  have k2:i+1-i=1:=by omega
  clear kr;go_wp2_with fail;go_ret;have pt:(l.take i++l.drop (i+1)).length=i+0:=by have:=Z HL;simp;omega
  refine⟨rfl,⟨by rw[ef Od.len],.inr ⟨g,i+1,_,by rw[pt],hB,Z xF,by rw[pt];omega,hmx,?_,?_⟩⟩,Z ua⟩
  ·rw[<- Z HC2];simp[Z oE];omega
  ·rw[pt,<- Z HC2];simpa using Z ay
 ·repeat still_step
  refine wpStill_nil ?_;refine lL rfl (.tmp 22) (.tmp 25) 39 rfl 98 i0 6 Tryz.underlying39 vA uw g i cap xr (Z HG) rfl (U g ((i+1)*6)) m (cap-(i+1)) ((l.drop (i+1)).flatMap Od.vs) rfl (by rw[ef Od.len,List.length_drop];congr 1;have:=Z HL;omega) (by have h:=ib (W:=w.drew) (g:=g) (off:=0) (l:=l) (Z HRC) (i+1) l.length;rw[yZ (by rw[List.length_drop];omega),Nat.zero_add] at h;exact h) (fQ _) (by omega) (by rw[ef Od.len,List.length_drop,Z kG];have:=Z HL;omega) ?_
  have cx:((l.drop (i+1)).flatMap Od.vs).length=m*6:=by rw[ef Od.len,List.length_drop];congr 1;have:=Z HL;omega
  rw[cx];obtain⟨aM,kr⟩:=row_gone (zs:=zOdL) (Z HL) xC (Z kG) (Z uV) rfl;have ay:=Q aM;generalize hC1:(xr.toList.take (i*6)++(l.drop (i+1)).flatMap Od.vs++xr.toList.drop (i*6+m*6))=C1 at ay kr |-;have hx1:(w.drew.setRow g C1.toArray).heap[g]? = some (.cells C1.toArray 98 (0,0)):=setRow_heap w.drew g xr C1.toArray 98 (0,0) (Z HG);have pm:Hid (w.grownBy (w.drew.setRow g C1.toArray) (some g)):=⟨rfl,rfl,rfl,by simp,fun k X xy=>setRow_other w.drew g k C1.toArray (fun e=>xy (by rw[e]))⟩;have uh:=Q hx1;clear hx1 hC1 aM cx;generalize w.drew.setRow g C1.toArray=X1 at uh pm |-
  have xm:∀(ty:TypeId) (c:Nat),(Builtin.clear_ #[39] ty #[.slice (some (U g ((i+m)*6))) 1 c]).run Tryz.prog X1 = .ok (.tuple #[]) (X1.setRow g (C1.take ((i+m)*6)++zOdL++C1.drop ((i+m)*6+6)).toArray):=fun ty c=>by
   have:=clear_row X1 39 ty 98 i0 _ Tryz.underlying39 vA uE g ((i+m)*6) c C1.toArray (Z uh) (by show(i+m)*6+6<=C1.toArray.size;rw[List.size_toArray,kr];omega) (by simp[Value.cells,Value.oneCell']);simpa[Value.cells] using this
  have xF:=Q (setRow_heap X1 g C1.toArray (C1.take ((i+m)*6)++zOdL++C1.drop ((i+m)*6+6)).toArray 98 (0,0) (Z uh));have ua:Hid (w.grownBy (X1.setRow g (C1.take ((i+m)*6)++zOdL++C1.drop ((i+m)*6+6)).toArray) (some g)):=(Z pm).trans ⟨rfl,rfl,rfl,by simp,fun k X xy=>setRow_other X1 g k _ (fun e=>xy (by rw[e]))⟩;generalize hC2:(C1.take ((i+m)*6)++zOdL++C1.drop ((i+m)*6+6)).toArray=C2 at xm xF ua;have HC2:=Q hC2;have oE:=Q kr;clear hC2;have k1:¬ cap=i+m:=by have:=Z HL;omega
  have k2:i+1+m-(i+m)=1:=by omega
  have k3:(i:Int)+m<=(i:Int)+1+m:=by omega
  have k4:(0:Int)<=(i:Int)+m:=by omega
  clear kr;go_wp2_with fail;go_ret;have pt:(l.take i++l.drop (i+1)).length=i+m:=by have:=Z HL;simp;omega
  refine⟨rfl,⟨by rw[ef Od.len],.inr ⟨g,cap,_,by rw[pt],hB,Z xF,by rw[pt];omega,hmx,?_,?_⟩⟩,Z ua⟩
  ·rw[<- Z HC2];simp[Z oE];omega
  ·rw[pt,<- Z HC2];simpa using Z ay
end Go.Proofs.YtbghmldggahjiaaGreatDoor
