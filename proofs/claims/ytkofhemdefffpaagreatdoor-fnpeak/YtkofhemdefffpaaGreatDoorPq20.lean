/-.-/
import Derived.Test.YtkofhemdefffpaaGreatDoorPq13
import Derived.Test.YtkofhemdefffpaaGreatDoorPq19
set_option linter.unusedVariables false
set_option maxHeartbeats 6400000
set_option maxRecDepth 100000
namespace Go.Proofs.YtkofhemdefffpaaGreatDoor
open Go.RowKit
def aggL:Value->List Value
 | .agg xs=>xs.toList
 | _=>[]
def DS (S:Nat)(next:Int)(L:List Od)(hk:List Ev):Nat->World->Value->Prop
 | 0,W,v=>ORow W S v L/\∃a c,v = .slice a L.length c
 | 1,W,v=>∃v4,v = .agg #[H next,v4]/\(∃a c,v4 = .slice a L.length c)/\ORow W S v4 L
 | 2,W,v=>ERow W S v hk/\∃a c,v = .slice a hk.length c
 | 3,W,v=>∃b,v = .slice (some (Y b 0)) 1 1/\b<W.heap.size/\S<=b/\W.rangeAt b 0 (hk.flatMap Ev.vs)
 | _,_,_=>True
def CX (vs:List Value)(ks:List (Nat × Nat))(S:Nat)(next:Int)(L:List Od)(hk:List Ev)(W:World)(j:Nat)(v:Value):Prop:=
 match ks.lookup j with
 | some d=>DS S next L hk d W v
 | none=>∀u,vs[j]? = some u->v=u
section
variable {vs:List Value} {ks:List (Nat × Nat)} {S R:Nat} {next:Int} {L:List Od} {hk:List Ev} {W W':World} {j d:Nat} {v u:Value}
theorem dh (h:CX vs ks S next L hk W j v)(E:ks.lookup j=none)(hu:vs[j]? = some u):v=u:=by
 rw[CX,E] at h;exact h u hu
theorem cx_sp (h:CX vs ks S next L hk W j v)(E:ks.lookup j=some d):DS S next L hk d W v:=by
 rw[CX,E] at h;exact h
theorem dn (E:ks.lookup j=none)(hu:vs[j]? = some v):CX vs ks S next L hk W j v:=by
 rw[CX,E];intro u h;rw[hu] at h;cases h;rfl
theorem fH (E:ks.lookup j=some d)(hd:DS S next L hk d W v):CX vs ks S next L hk W j v:=by
 rw[CX,E];exact hd
theorem ds_mono (hR:R<S)(K:KB R W W')(h:DS S next L hk d W v):DS S next L hk d W' v:=by
 match d with
 | 0=>exact⟨kb_row h.1 K hR,h.2⟩
 | 1=>obtain⟨v4,Z,Q,I⟩:=h;exact⟨v4,Z,Q,kb_row I K hR⟩
 | 2=>exact⟨kb_row h.1 K hR,h.2⟩
 | 3=>obtain⟨b,Z,Q,I,h4⟩:=h;exact⟨b,Z,yK Q K.size,I,kb_range K h4 (by omega)⟩
 | d+4=>trivial
theorem gS (hR:R<S):∀W W' j v,KB R W W'->CX vs ks S next L hk W j v->CX vs ks S next L hk W' j v:=by
 intro W W' j v K h;unfold CX at h |-;split at h
 ·exact ds_mono hR K h
 ·exact h
theorem cx_monoB (hS:0<S):∀W W' j v,yp W W'->CX vs ks S next L hk W j v->CX vs ks S next L hk W' j v:=by
 intro W W' j v K h;unfold CX at h |-;split at h
 ·exact ds_mono hS (kb_below K) h
 ·exact h
end
theorem rowE_made {B e sz n:Nat}(W:World)(xs:List Value)(hB:B<=W.heap.size)(hn:n<=maxLen)(hl:xs.length=n*sz):(W.alloc (Obj.cells xs.toArray e)).ownsRow B e sz (.slice (some (yr W 0)) n n) n xs:=
 ⟨hl,.inr ⟨W.heap.size,n,xs.toArray,rfl,hB,heap_alloc_new W _,Nat.le_refl _,hn,by simpa using hl,by simp[<- hl]⟩⟩
theorem eRow_one {B:Nat}(W:World)(e:Ev)(hB:B<=W.heap.size):ERow (W.alloc (Obj.cells e.vs.toArray 78)) B (.slice (some (yr W 0)) 1 1) [e]:=by
 have h:=rowE_made (B:=B) (e:=78) (sz:=14) (n:=1) W e.vs hB (by decide) (by rfl);have e1:[e].flatMap Ev.vs=e.vs:=by simp
 show World.ownsRow _ _ _ _ _ [e].length ([e].flatMap Ev.vs);rw[e1];exact h
theorem ref_newS {next:Int}{l:List Od}{c:Cm}(h:refR next l c=0)(E:c.k=1):(c.s=1\/c.s=2)/\prcB c=true/\tagB c.g=true/\c.i=0:=by
 have h0:=h;have h:=ref_new h E;rw[newR] at h;split at h
 ·cases h
 rename_i Z;split at h
 ·cases h
 split at h
 ·cases h
 split at h
 ·cases h
 rename_i h4;split at h
 ·cases h
 split at h
 ·cases h
 rename_i h6;refine⟨side_of (by simpa using Z),by simpa using h4,by simpa using h6,?_⟩;rw[<- ref_eq,refS] at h0;split at h0
 ·cases h0
 split at h0
 ·cases h0
 rename_i hf;simp[dP,E] at hf;exact hf
def RAo (n:Nat)(v0:Value)(x:List Bool)(f:Nat->Value):Prop:=(x[n+1]? = some true->f (n+1)=f n)/\(x[n+1]? = some false->f (n+1)=v0)
def RYBA (hg:(Nat->Value)->Act)(C:World->Nat->Value->Prop)(n:Nat)(v0:Value)(h2:(Nat->Value)->World->Prop)(base:World)(x:List Bool)(md:Act)(W:World):Prop:=∃f,md=hg f/\RY C n h2 base x f W/\RAo n v0 x f
theorem ryb_start {f:Nat->Value}{n k:Nat}{v0:Value}(h:f (n+1)=v0):RAo n v0 (List.replicate k false) f:=⟨fun h=>by rw[yJ] at h;split at h <;> simp at h,fun _=>h⟩
theorem dV {x:List Bool}{f:Nat->Value}{n i:Nat}{v0:Value}(v:Value)(h:RAo n v0 x f)(hi:i≠n)(qR:i≠n+1):RAo n v0 (x.set i true) (upd f i v):=by
 rw[RAo,gq qR,zu _ _ (fun e=>qR e.symm),zu _ _ (fun e=>hi e.symm)];exact h
theorem ryb_write {x:List Bool}{f:Nat->Value}{n:Nat}{v0:Value}(v:Value)(h:RAo n v0 x f)(hx:x[n+1]? = some false):RAo n v0 (x.set n true) (upd f n v):=by
 rw[RAo,gq (by omega),zu _ _ (show n+1≠n by omega)];exact⟨fun e=>(by rw[hx] at e;cases e),h.2⟩
theorem ryb_lay {x:List Bool}{f:Nat->Value}{n:Nat}{v0:Value}(hx:x[n+1]? = some false):RAo n v0 (x.set (n+1) true) (upd f (n+1) (f n)):=by
 rw[RAo,gqs hx];exact⟨fun _=>by rw[zp,zu _ _ (by omega)],fun e=>by cases e⟩
theorem row_src {B e sz n g c:Nat}{xs:List Value}{W:World}(h:W.ownsRow B e sz (.slice (some (Y g 0)) n c) n xs):∀j u,xs[j]? = some u->W.cell? (((Y g 0):Addr).add j)=some u:=by
 intro j u hu;rcases h.2 with⟨Z,_⟩|⟨g',cap,xt,Z,_,pD,_,_,oZ,hx⟩
 ·cases Z
 ·simp only[Value.slice.injEq,Option.some.injEq,Addr.mk.injEq,and_true,true_and] at Z;obtain⟨rfl,-⟩:=Z;rw[Addr.add_mid,cell_of_row W g (0+j) xt _ (0,0) pD];rw[<- hx] at hu;rw[List.getElem?_take] at hu;split at hu
  ·simpa using hu
  ·cases hu
theorem take_nd {l:List Od}{j:Nat}{o:Od}(h:l[j]? = some o)(hd:o.life≠1):(l.take (j+1)).filter ndy=(l.take j).filter ndy ++ [o]:=by
 rw[List.take_add_one,h,List.filter_append];simp[ndy,hd]
theorem take_ny {l:List Od}{j:Nat}{o:Od}(h:l[j]? = some o)(hd:o.life=1):(l.take (j+1)).filter ndy=(l.take j).filter ndy:=by
 rw[List.take_add_one,h,List.filter_append];simp[ndy,hd]
theorem dysF_lenO:∀(l:List Od) (k:Nat),(dysF l k).length=(l.filter dyB).length
 | [],_=>rfl
 | o::r,k=>by
  rw[dysF,List.filter_cons]
  by_cases h:o.life=1
  ·rw[if_pos h,if_pos (by simp[dyB,h])];simp[dysF_lenO r]
  ·rw[if_neg h,if_neg (by simp[dyB,h])];exact dysF_lenO r _
theorem cutB_tag {g:ByteArray}(h:tagB g=true):cutB g=g:=by
 simp only[tagB,xf,xg] at h;rw[cutB,if_neg (by omega)]
structure RZ (C:Nat->Value->Prop) (B0:World) (L:List Od) (t:Od) (x:List Bool) (f:Nat->Value) (W:World):Prop where
 bel:Below B0.heap.size B0 W
 c:∀j,x[j]? = some true->C j (f j)
 m0:x[0]? = some true->x[2]? = some false->ORow W B0.heap.size (f 0) []
 m2:x[2]? = some true->x[5]? = some false->ORow W B0.heap.size (f 2) L
 m4:x[4]? = some true->x[5]? = some false->∃b,f 4 = .slice (some ⟨b,0,none⟩) 1 1/\b<W.heap.size/\B0.heap.size<=b/\W.rangeAt b 0 t.vs/\(x[0]? = some true->x[2]? = some false->(f 0).ownBlock≠some b)
 m5:x[5]? = some true->ORow W B0.heap.size (f 5) (L ++ [t])
section
variable {C:Nat->Value->Prop} {B0 W W':World} {L:List Od} {t:Od} {x:List Bool} {f:Nat->Value}
theorem rz_grow (h:RZ C B0 L t x f W)(K:yp W W'):RZ C B0 L t x f W':=
 ⟨h.bel.trans (K.mono h.bel.size),h.c,fun a b=>zn (h.m0 a b) K,fun a b=>zn (h.m2 a b) K,fun a b=>by
  obtain⟨b',Z,Q,I,h4,h5⟩:=h.m4 a b;exact⟨b',Z,yK Q K.size,I,zf h4 K Q,h5⟩,fun a=>zn (h.m5 a) K⟩
theorem rz_val (h:RZ C B0 L t x f W)(i:Nat)(v:Value)(hv:C i v)(hh0:i≠0)(cT:i≠2)(hh4:i≠4)(cU:i≠5):RZ C B0 L t (x.set i true) (upd f i v) W:=by
 refine⟨h.bel,zP h.c hv,?_,?_,?_,?_⟩ <;> simp only[gq hh0,gq cT,gq hh4,gq cU,zu f v hh0.symm,zu f v cT.symm,zu f v hh4.symm,zu f v cU.symm]
 ·exact h.m0
 ·exact h.m2
 ·exact h.m4
 ·exact h.m5
theorem rz_0 (h:RZ C B0 L t x f W)(hh0:x[0]? = some false)(hc:∀v,C 0 v):RZ C B0 L t (x.set 0 true) (upd f 0 (.slice (some (yr W 0)) 0 0)) (W.alloc (me #[] 71)):=by
 have F:=rz_grow h ((Below.refl W.heap.size W).alloc yb (me #[] 71));refine⟨F.bel,zP F.c (hc _),?_,?_,?_,?_⟩
 ·intro _ _;rw[zp];exact World.ownsRow_made W #[] 0 h.bel.size (by decide) rfl
 ·rw[gq (by decide),gq (by decide),zu _ _ (by decide)];exact F.m2
 ·intro hh4 cU;rw[gq (by decide)] at hh4 cU;obtain⟨b,Z,Q,I,h4,h5⟩:=F.m4 hh4 cU;obtain⟨b',e1,e2,_⟩:=h.m4 hh4 cU;rw[Z] at e1;simp only[Value.slice.injEq,Option.some.injEq,Addr.mk.injEq,and_true] at e1;subst e1;refine⟨b,by rw[zu _ _ (by decide)];exact Z,Q,I,h4,fun _ _ e=>?_⟩;rw[zp] at e;simp[Value.ownBlock] at e;omega
 ·rw[gq (by decide),zu _ _ (by decide)];exact F.m5
theorem rz_2 (h:RZ C B0 L t x f W)(hh0:x[0]? = some true)(cT:x[2]? = some false)(cU:x[5]? = some false)(hc:∀v,C 2 v){v':Value}(D:ORow W' B0.heap.size v' L)(F:W.grownBy W' (f 0).ownBlock):RZ C B0 L t (x.set 2 true) (upd f 2 v') W':=by
 refine⟨h.bel.grown F h.bel.size (fun k E=>((h.m0 hh0 cT).lt k E).1),zP h.c (hc _),?_,?_,?_,?_⟩
 ·intro _ e;rw[gqs cT] at e;cases e
 ·intro _ _;rw[zp];exact D
 ·intro hh4 _;rw[gq (by decide)] at hh4;obtain⟨b,Z,Q,I,h4,h5⟩:=h.m4 hh4 cU;refine⟨b,by rw[zu _ _ (by decide)];exact Z,yK Q F.size,I,zv h4 F Q (fun e=>h5 hh0 cT e.symm),fun _ e=>?_⟩;rw[gqs cT] at e;cases e
 ·intro e;rw[gq (by decide),cU] at e;cases e
theorem rz_4 (h:RZ C B0 L t x f W)(hh4:x[4]? = some false)(cU:x[5]? = some false)(hc:∀v,C 4 v):RZ C B0 L t (x.set 4 true) (upd f 4 (.slice (some (yr W 0)) 1 1)) (W.alloc (Obj.cells t.vs.toArray 71)):=by
 have F:=rz_grow h ((Below.refl W.heap.size W).alloc yb (Obj.cells t.vs.toArray 71));refine⟨F.bel,zP F.c (hc _),?_,?_,?_,?_⟩
 ·rw[gq (by decide),gq (by decide),zu _ _ (by decide)];exact F.m0
 ·rw[gq (by decide),gq (by decide),zu _ _ (by decide)];exact F.m2
 ·intro _ _;refine⟨W.heap.size,zp _ _ _,by rw[zi];omega,h.bel.size,zm W t.vs _,fun hh0 cT e=>?_⟩;rw[gq (by decide)] at hh0 cT;rw[zu _ _ (by decide)] at e;have:=((h.m0 hh0 cT).lt _ e).2;omega
 ·rw[gq (by decide),zu _ _ (by decide)];exact F.m5
theorem rz_5 (h:RZ C B0 L t x f W)(cT:x[2]? = some true)(cU:x[5]? = some false)(hc:∀v,C 5 v){v':Value}(D:ORow W' B0.heap.size v' (L ++ [t]))(F:W.grownBy W' (f 2).ownBlock):RZ C B0 L t (x.set 5 true) (upd f 5 v') W':=by
 refine⟨h.bel.grown F h.bel.size (fun k E=>((h.m2 cT cU).lt k E).1),zP h.c (hc _),?_,?_,?_,?_⟩
 ·intro _ e;rw[gq (by decide)] at e;rw[e] at cT;cases cT
 ·intro _ e;rw[gqs cU] at e;cases e
 ·intro _ e;rw[gqs cU] at e;cases e
 ·intro _;rw[zp];exact D
end
def RZBA (hg:(Nat->Value)->Act)(C:Nat->Value->Prop)(B0:World)(L:List Od)(t:Od)(v0:Value)(x:List Bool)(md:Act)(W:World):Prop:=∃f,md=hg f/\RZ C B0 L t x f W/\RAo 5 v0 x f
theorem rz_start {C:Nat->Value->Prop}{B0:World}{L:List Od}{t:Od}{f:Nat->Value}{k:Nat}:RZ C B0 L t (List.replicate k false) f { B0 with drawn:=B0.drawn+1 }:=by
 have qZ:∀j,(List.replicate k false)[j]? = some true->False:=fun j hj=>by rw[yJ] at hj;split at hj <;> simp at hj
 exact⟨⟨rfl,rfl,rfl,Nat.le_refl _,fun _ _=>rfl⟩,fun j hj=>(qZ j hj).elim,fun h=>(qZ _ h).elim,fun h=>(qZ _ h).elim,fun h=>(qZ _ h).elim,fun h=>(qZ _ h).elim⟩
def CZ (lv tv:Value):Nat->Value->Prop
 | 1,v=>v=lv
 | 3,v=>v=tv
 | _,_=>True
theorem acc_l {c:Cm}{next:Int}{hg:List Od × Int × List Ev}(hp:prcB c=true):accL c next hg=if 0<hg.2.1/\dj c.t=true then hg.1 ++ [⟨next,c.s,tkS c.p,hg.2.1,c.l,c.g⟩] else hg.1:=by
 rw[accL]
 by_cases hr:dj c.t=true
 ·have ht:tkOk c.p=true:=by
   rw[prcB,if_neg (by intro e;rw[dj,e] at hr;simp at hr)] at hp;exact hp
  rw[tkS_ok ht]
 ·rw[if_neg (fun h=>hr h.2),if_neg (fun h=>hr h.2)]
theorem one_allE (l:List Ev):∀u∈l.flatMap Ev.vs,u.oneCell'=true:=by
 intro u hu;obtain⟨e,_,h⟩:=List.mem_flatMap.1 hu;exact one_ev e u h
theorem l04Step_any (next:Int)(vb:Value)(l:List Od)(c:Cm)(w:World)(hr:RdR Od.vs 6 w vb l)(hs:SlOk vb)(F:GoodL l)(uF:∀x∈l,x.side=1\/x.side=2)(h0:0<=next)(Z:next<=1000000)(ht:c.g.size<=maxLen) :
  Calls Tryz.prog 13 #[.agg #[H next,vb],cmV c] w fun e w'=>∃vq vg,e=yn (.tuple #[.agg #[H (stN next l c),vq],vg])/\ORow w' w.heap.size vq (stL next l c)/\ERow w' w.heap.size vg (stE next l c)/\yp w w':=by
 obtain⟨i0,uo,ub,xX,uh⟩:=info_parts Tryz.infoOrder;obtain⟨j0,ax,ph,cz,hy2⟩:=info_parts infoEv;have HR:=U hr;have qJ:=U hs;have HG:=U F;have pX:=U ht;have hlen20:=F.len;have vN:Hid (0<=next/\next<=1000000):=⟨h0,Z⟩;have HREA:=U (fun(W:World) hW=>l04Reason_any next vb l c W hW hs F uF ht);rw[ref_eq] at HREA;have HK:=U (@ref_kind next l c);have HQ:=U (@iL next l c);have HID:=U (@ref_id next l c);have HNS:=U (@ref_newS next l c);have oW:Hid (stN next l c=if refR next l c=0/\c.k=1 then next+1 else next):=rfl
 have jV:=U (stL.eq_1 next l c);have oU:=U (stE.eq_1 next l c);have HNO:=U (fun W=>l02Normal_any c W ht);have pW:=U (fun(a:Option Addr) (n cap:Nat) (W:World)=>l04Taker_any next a n cap c W);have cI:=U (fun(v:Value) (W:World) hr hs hp aE aG=>l04Match_any v l c next W hr F hs hp aE aG);obtain⟨a,cap,rfl,hrlen,hc⟩:=hr;obtain⟨kk,s,ty,li,qt,ii,pr,tg⟩:=c;generalize stN next l ⟨kk,s,ty,li,qt,ii,pr,tg⟩=sN at oW |-;generalize stL next l ⟨kk,s,ty,li,qt,ii,pr,tg⟩=sL at jV |-;generalize stE next l ⟨kk,s,ty,li,qt,ii,pr,tg⟩=sE at oU |-;generalize refR next l ⟨kk,s,ty,li,qt,ii,pr,tg⟩=rr at HREA oW jV oU HK HQ HID HNS;unfold cmV at HREA pW |-;simp only at HREA oW jV oU HK HQ HID HNS HNO pW cI pX |-;have HB:=U (box3 w [H next,.slice a l.length cap] (yy kk s ty li qt ii pr tg) [H 0,.slice none 0 0] 31 37 31);clear hs F uF h0 Z ht hc hrlen;go_enter Tryz.func13,Tryz.ntmps13;refine mg fun hb xw=>?_;go_wp2_with fail;refine O xw _ _ ?_;clear xw;change Hid ((((w.alloc (me #[H next,.slice a l.length cap] 31)).alloc (me (yy kk s ty li qt ii pr tg).toArray 37)).alloc (me #[H 0,.slice none 0 0] 31)).heap.size=w.heap.size+3/\World.rangeAt (((w.alloc (me #[H next,.slice a l.length cap] 31)).alloc (me (yy kk s ty li qt ii pr tg).toArray 37)).alloc (me #[H 0,.slice none 0 0] 31)) w.heap.size 0 [H next,.slice a l.length cap]/\World.rangeAt (((w.alloc (me #[H next,.slice a l.length cap] 31)).alloc (me (yy kk s ty li qt ii pr tg).toArray 37)).alloc (me #[H 0,.slice none 0 0] 31)) (w.heap.size+1) 0 (yy kk s ty li qt ii pr tg)/\World.rangeAt (((w.alloc (me #[H next,.slice a l.length cap] 31)).alloc (me (yy kk s ty li qt ii pr tg).toArray 37)).alloc (me #[H 0,.slice none 0 0] 31)) (w.heap.size+1+1) 0 [H 0,.slice none 0 0]/\World.there (((w.alloc (me #[H next,.slice a l.length cap] 31)).alloc (me (yy kk s ty li qt ii pr tg).toArray 37)).alloc (me #[H 0,.slice none 0 0] 31)) (w.heap.size+1+1) 0 2/\yp w (((w.alloc (me #[H next,.slice a l.length cap] 31)).alloc (me (yy kk s ty li qt ii pr tg).toArray 37)).alloc (me #[H 0,.slice none 0 0] 31))) at HB;generalize (((w.alloc (me #[H next,.slice a l.length cap] 31)).alloc (me (yy kk s ty li qt ii pr tg).toArray 37)).alloc (me #[H 0,.slice none 0 0] 31))=xh at HB |-
 have vi:Hid (∀W:World,yp xh W->W.cell? (yr w 0)=some (H next)/\W.cell? (yr w 1)=some (.slice a l.length cap)/\W.cell? (Y (w.heap.size+1) 0)=some (H kk)/\W.cell? (Y (w.heap.size+1) 1)=some (H s)/\W.cell? (Y (w.heap.size+1) 2)=some (H ty)/\W.cell? (Y (w.heap.size+1) 3)=some (H li)/\W.cell? (Y (w.heap.size+1) 4)=some (H qt)/\W.cell? (Y (w.heap.size+1) 5)=some (H ii)/\W.cell? (Y (w.heap.size+1) 6)=some (yk pr)/\W.cell? (Y (w.heap.size+1) 7)=some (yl tg)):=fun W hW =>
  have p:=zf (O HB).2.1 hW (by have:=(O HB).1;omega);have q:=zf (O HB).2.2.1 hW (by have:=(O HB).1;omega)
  ⟨p 0 _ rfl,p 1 _ rfl,q 0 _ rfl,q 1 _ rfl,q 2 _ rfl,q 3 _ rfl,q 4 _ rfl,q 5 _ rfl,q 6 _ rfl,q 7 _ rfl⟩
 have jw:w.heap.size+1+1<xh.heap.size:=by have:=(O HB).1;omega
 refine wp_seq_k fun hb hK=>?_
 have HT:∀(a6:Option Addr) (c6:Nat) (w1:World),ORow w1 xh.heap.size (.slice a6 l.length c6) l->yp xh w1->hb { tmps:=#[.agg #[H next,.slice a l.length cap],.agg (yy kk s ty li qt ii pr tg).toArray,yq w 0,h3 (w.heap.size+1) 0,h3 (w.heap.size+1+1) 0,.slice none 0 0,.slice a6 l.length c6,M,M,M,M,M,M,M,M,M,M,M,.slice (some (yr xh 0)) 0 0,yq w 1,.slice a l.length cap,.slice a6 l.length c6,M,M,M,M,M,M,M,M,M,M,M,M,M,M,M,M,M,M,M,M,M,M,M,M,M,M,M,M,M,M,M,M,M,M,M,M,M,M,M,M,M,M,M,M,M,M,M,M,M,M,M,M,M,M,M,M,M,M,M,M,M,M,M,M,M,M,M,M,M,M,M,M,M,M,M,M,M,M,M,M,M,M,M,M,M,M,M,M,M,M,M,M,M,M,M,M,M,M,M,M,M,M,M,M,M,M,M,M,M,M,M,M,M,M,M,M,M,M,M,M,M,M,M,M,M,M,M,M,M,M,M,M,M,M,M,M,M,M,M,M,M,M,M,M,M,M,M,M,M],defers:=[] } w1:=by
  intro a6 c6 w1 oi ud;refine hK _ _ ?_;clear hK;have kc:=U oi;have ui:=U ud;clear oi ud;obtain⟨z0,z1,y0,y1,y2,y3,y4,y5,y6,y7⟩:=O vi w1 (O ui);refine mg fun hb xw=>?_;go_wp2_with fail;refine(O HREA w1 (zq (O HR) ((O HB).2.2.2.2.2.trans ((O ui).mono (O HB).2.2.2.2.2.size)) yb)).mono ?_;rintro e w2 ⟨rfl,xy⟩;have jt:=U (zn (O kc) xy);have xz:=U (mf (O ui) xy);clear z0 z1 y0 y1 y2 y3 y4 y5 y6 y7 xy kc;obtain⟨z0,z1,y0,y1,y2,y3,y4,y5,y6,y7⟩:=O vi w2 (O xz);have qU:=U (zk (O HB).2.2.2.2.1 (O xz) jw);have hRb:w.heap.size+1+1<w2.heap.size:=yK jw (O xz).size;have uZ:=U ((O HB).2.2.2.2.2.trans ((O xz).mono (O HB).2.2.2.2.2.size));have hXw:w.heap.size<=xh.heap.size:=by omega
  have hX2:xh.heap.size<=w2.heap.size:=(O xz).size;have cN:=hX2
  by_cases hrr:rr=0
  ·subst hrr;have hkk:=O HK rfl;rcases hkk with rfl|rfl|rfl|rfl
   ·have hq:=O HQ rfl rfl;obtain⟨hss,hpp,htt,hii⟩:=O HNS rfl rfl;have HMTT:=U (fun(v:Value) (W:World) hr=>O cI v W hr hss hpp (by omega) hq.2);have HFG:=U (fY (c:=⟨1,s,ty,li,qt,ii,pr,tg⟩) (id:=next) 21 l qt [] (O HG) (by omega) hq.2);have HMF:=U (matL_few (c:=⟨1,s,ty,li,qt,ii,pr,tg⟩) (id:=next) 21 l qt []);have vS:Hid (sN=next+1/\sL=(if 0<(matL ⟨1,s,ty,li,qt,ii,pr,tg⟩ next 21 l qt []).2.1/\dj ty=true then(matL ⟨1,s,ty,li,qt,ii,pr,tg⟩ next 21 l qt []).1 ++ [⟨next,s,tkS pr,(matL ⟨1,s,ty,li,qt,ii,pr,tg⟩ next 21 l qt []).2.1,li,tg⟩] else(matL ⟨1,s,ty,li,qt,ii,pr,tg⟩ next 21 l qt []).1)/\sE=⟨1,⟨1,s,ty,li,qt,ii,pr,cutB tg⟩,next,0,0,0,0⟩::(matL ⟨1,s,ty,li,qt,ii,pr,tg⟩ next 21 l qt []).2.2++(if 0<(matL ⟨1,s,ty,li,qt,ii,pr,tg⟩ next 21 l qt []).2.1 then[⟨if dj ty=true then 4 else 5,zCm,next,0,(matL ⟨1,s,ty,li,qt,ii,pr,tg⟩ next 21 l qt []).2.1,0,0⟩] else[])):=⟨by rw[O oW,if_pos ⟨rfl,rfl⟩],by rw[O jV,if_pos rfl,if_pos rfl];exact acc_l hpp,by rw[O oU,if_pos rfl,if_pos rfl,accE,cutB_tag htt,hii]⟩
    generalize matL ⟨1,s,ty,li,qt,ii,pr,tg⟩ next 21 l qt []=hg at vS HMTT HFG HMF;obtain⟨FL,Fl,Ft⟩:=hg;simp only at vS HMTT HFG HMF;generalize tkS pr=tt at vS HMTT pW;have hFL:=(O HFG).1.len;have hFt:Ft.length<=21:=by simpa using O HMF
    obtain⟨hn0,hn1⟩:=O vN;clear oW jV oU HQ HID HK HNS cI hpp htt hii hss HFG HMF;go_wp2_with fail;refine O xw _ _ ?_;clear xw;refine mg fun hb xw=>?_;go_wp2_with fail;refine(iC _ l ii w2 (zZ (O jt) (by omega))).mono ?_;generalize plc l ii=pk;rintro e w3 ⟨rfl,xV⟩;have qO:=U (zn (O jt) xV);have xL:=U (mf (O xz) xV);clear xV z0 z1 y0 y1 y2 y3 y4 y5 y6 y7 qU uZ hRb cN;have qU:=U (zk (O HB).2.2.2.2.1 (O xL) jw);have hRb:w.heap.size+1+1<w3.heap.size:=yK jw (O xL).size;have uZ:=U ((O HB).2.2.2.2.2.trans ((O xL).mono (O HB).2.2.2.2.2.size));have cN:xh.heap.size<=w3.heap.size:=(O xL).size;obtain⟨z0,z1,y0,y1,y2,y3,y4,y5,y6,y7⟩:=O vi w3 (O xL);have HZ0:=U z0;have aS:=U z1;have HY0:=U y0;have HY1:=U y1;have HY2:=U y2;have HY3:=U y3;have ju:=U y4;have HY5:=U y5;have HY6:=U y6;have jE:=U y7;go_wp2_with fail;refine O xw _ _ ?_;clear xw;refine mg fun hb xw=>?_;go_wp2_with fail;refine O xw _ _ ?_;clear xw;refine mg fun hb xw=>?_;clear z0 z1 y0 y1 y2 y3 y4 y5 y6 y7;refine zA (RYBA (fun f=>{ tmps:=#[.agg #[H next,.slice a l.length cap],.agg (yy 1 s ty li qt ii pr tg).toArray,yq w 0,h3 (w.heap.size+1) 0,h3 (w.heap.size+1+1) 0,.slice none 0 0,.slice a6 l.length c6,H 0,H pk,M,M,M,M,M,f 6,M,M,M,.slice (some (yr xh 0)) 0 0,yq w 1,.slice a l.length cap,.slice a6 l.length c6,.agg #[H next,.slice a l.length cap],.agg (yy 1 s ty li qt ii pr tg).toArray,H 0,H 0,.bool false,M,M,M,M,M,M,M,M,M,.slice a6 l.length c6,h3 (w.heap.size+1) 5,H ii,H pk,h3 (w.heap.size+1) 0,H 1,.bool false,.bool false,M,M,M,M,M,M,M,M,M,M,M,M,M,M,M,M,.bool false,.bool false,M,M,M,M,M,M,M,M,M,M,M,M,M,M,M,M,.bool false,.bool false,M,M,M,M,M,M,M,M,M,M,M,M,M,M,M,M,M,M,M,M,M,M,M,M,M,M,M,M,M,M,M,M,M,M,M,M,M,M,M,M,M,M,M,M,M,f 0,f 1,f 2,f 3,f 4,f 5,M,M,M,M,M,M,M,M,M,M,M,M,M,M,M,M,M,M,M,M,M,M,M,M,M,M,M,M,M,M,M,M,M,M,M,M,M,M,M,M],defers:=[] }) (CX [.agg (yy 1 s ty li qt ii pr tg).toArray,.agg (yy 1 s ty li qt ii pr (cutB tg)).toArray,yq w 0,H next,.agg (yw 1 1 s ty li qt ii pr (cutB tg) next 0 0 0 0).toArray,M,M] [] (w3.heap.size) 0 [] ([])) 5 (M) (fun f W=>∃be,f 5 = .slice (some (Y be 0)) 1 1/\ERow W w3.heap.size (.slice (some (Y be 0)) 1 1) [⟨1,⟨1,s,ty,li,qt,ii,pr,cutB tg⟩,next,0,0,0,0⟩]/\yp xh W/\ORow W xh.heap.size (.slice a6 l.length c6) l) w3) (by kernel_rfl) ?_ ?_ ?_
    ·exact⟨fun _=>M,rfl,ry_start (by decide),ryb_start rfl⟩
    rotate_left
    ·rintro x md V i op ⟨f,rfl,hR,hA⟩ xo hx D xA X;have xJ:=U hR;have jq:=U hA;clear hA;have xm:x[5]? = some false->∀(p:Addr) u,w3.cell? p=some u->V.cell? p=some u:=fun hn p u hu=>((hR.b hn).cell (yL w3 _ hu)).trans hu
     match i,D with
     | 0,D =>
      cases D;have hn:x[5]? = some false:=zS xo 12 0 5 (by kernel_rfl) hx (by simp) xA;have y0:=xm hn (Y (w.heap.size+1) 0) _ (O HY0);have y1:=xm hn (Y (w.heap.size+1) 1) _ (O HY1);have y2:=xm hn (Y (w.heap.size+1) 2) _ (O HY2);have y3:=xm hn (Y (w.heap.size+1) 3) _ (O HY3);have y4:=xm hn (Y (w.heap.size+1) 4) _ (O ju);have y5:=xm hn (Y (w.heap.size+1) 5) _ (O HY5);have y6:=xm hn (Y (w.heap.size+1) 6) _ (O HY6);have y7:=xm hn (Y (w.heap.size+1) 7) _ (O jE);clear X hR xo xm;go_simp;exact⟨upd f 0 (.agg (yy 1 s ty li qt ii pr tg).toArray),by simp[upd],dO (O xJ) 0 _ hn (by decide) (dn rfl rfl),dV _ (O jq) (by decide) (by decide)⟩
     | 1,D =>
      cases D;have hn:x[5]? = some false:=zS xo 12 1 5 (by kernel_rfl) hx (by simp) xA;have g0:f 0 = .agg (yy 1 s ty li qt ii pr tg).toArray:=dh (hR.c hn 0 (yf X 0 rfl)) rfl rfl;clear X hR xo xm;go_simp;refine(O HNO V).mono ?_;rintro e w4 ⟨rfl,xF⟩;exact⟨upd f 1 (.agg (yy 1 s ty li qt ii pr (cutB tg)).toArray),by simp[upd,g0],dO (ry_grow (cx_monoB (by omega)) (O xJ) hn xF) 1 _ hn (by decide) (dn rfl rfl),dV _ (O jq) (by decide) (by decide)⟩
     | 2,D =>
      cases D;have hn:x[5]? = some false:=zS xo 12 2 5 (by kernel_rfl) hx (by simp) xA;clear X hR xo xm;go_simp;exact⟨upd f 2 (yq w 0),by simp[upd],dO (O xJ) 2 _ hn (by decide) (dn rfl rfl),dV _ (O jq) (by decide) (by decide)⟩
     | 3,D =>
      cases D;have hn:x[5]? = some false:=zS xo 12 3 5 (by kernel_rfl) hx (by simp) xA;have g2:f 2=yq w 0:=dh (hR.c hn 2 (yf X 2 rfl)) rfl rfl;have z0:=xm hn (yr w 0) _ (O HZ0);clear X hR xo xm;go_simp;exact⟨upd f 3 (H next),by simp[upd,g2],dO (O xJ) 3 _ hn (by decide) (dn rfl rfl),dV _ (O jq) (by decide) (by decide)⟩
     | 4,D =>
      cases D;have hn:x[5]? = some false:=zS xo 12 4 5 (by kernel_rfl) hx (by simp) xA;have g1:f 1 = .agg (yy 1 s ty li qt ii pr (cutB tg)).toArray:=dh (hR.c hn 1 (yf X 1 rfl)) rfl rfl;have g3:f 3=H next:=dh (hR.c hn 3 (yf X 3 rfl)) rfl rfl;clear X hR xo xm;go_simp;exact⟨upd f 4 (.agg (yw 1 1 s ty li qt ii pr (cutB tg) next 0 0 0 0).toArray),by simp[upd,g1,g3],dO (O xJ) 4 _ hn (by decide) (dn rfl rfl),dV _ (O jq) (by decide) (by decide)⟩
     | 5,D =>
      cases D;have hn:x[5]? = some false:=xA;have g4:f 4 = .agg (yw 1 1 s ty li qt ii pr (cutB tg) next 0 0 0 0).toArray:=dh (hR.c hn 4 (yf X 4 rfl)) rfl rfl;have bQ:x[6]? = some false:=zS xo 12 5 6 (by kernel_rfl) hx (by simp) xA;have vH:=hR.b hn;have oz:=mc V (me (yw 1 1 s ty li qt ii pr (cutB tg) next 0 0 0 0).toArray 78);have HQQ:Hid (ERow (V.alloc (me (yw 1 1 s ty li qt ii pr (cutB tg) next 0 0 0 0).toArray 78)) w3.heap.size (.slice (some (yr V 0)) 1 1) [⟨1,⟨1,s,ty,li,qt,ii,pr,cutB tg⟩,next,0,0,0,0⟩]/\yp xh (V.alloc (me (yw 1 1 s ty li qt ii pr (cutB tg) next 0 0 0 0).toArray 78))/\ORow (V.alloc (me (yw 1 1 s ty li qt ii pr (cutB tg) next 0 0 0 0).toArray 78)) xh.heap.size (.slice a6 l.length c6) l):=⟨eRow_one V ⟨1,⟨1,s,ty,li,qt,ii,pr,cutB tg⟩,next,0,0,0,0⟩ vH.size,(mf (O xL) vH).trans (oz.mono (yO (O xL).size vH.size)),zn (zn (O qO) vH) oz⟩;clear X hR xo xm oz vH;go_simp;exact⟨upd f 5 (.slice (some (yr V 0)) 1 1),by simp[upd,g4],ry_write (O xJ) hn _ ⟨V.heap.size,zp _ _ _,O HQQ⟩,ryb_write _ (O jq) bQ⟩
     | 6,D =>
      cases D;have hn:x[5]? = some true:=X ⟨5,.data⟩ (by simp) rfl;clear X hR xo xm;go_simp;exact⟨upd f 6 (f 5),by simp[upd],ry_after (O xJ) 6 _ hn (by decide) (fun h=>h),ryb_lay xA⟩
     | n+7,D=>simp at D
    ·rintro x md V ⟨f,rfl,hR,hA⟩ hx xY;have xq:=fo xY hx (by kernel_rfl);have e6:f 6=f 5:=hA.1 (xq 6 (by simp));obtain⟨be,e5,q1,q2,q3⟩:=hR.m (xq 5 (by simp));rw[e5] at e6;refine O xw _ _ ?_;clear xw;simp only[e5,e6];have HE4:=U q1;have xQ:=U q2;have kT:=U q3;have h3V:w3.heap.size<=V.heap.size:=by have:=(O HE4).lt be rfl;omega
     clear hR hA xq xY hx q1 q2 q3 e5 e6;generalize f 0=tm0,f 1=tm1,f 2=tm2,f 3=tm3,f 4=tm4;refine mg fun hb xw=>?_;obtain⟨z0,z1,y0,y1,y2,y3,y4,y5,y6,y7⟩:=O vi V (O xQ);go_wp2_with fail;refine(O pW a l.length cap V).mono ?_;rintro e w5 ⟨rfl,uj⟩;have HE5:=U (zO (O HE4) uj);have uY:=U (mf (O xQ) uj);have pu:=U (zn (O kT) uj);clear uj z0 z1 y0 y1 y2 y3 y4 y5 y6 y7;go_wp2_with fail;refine(O HMTT _ w5 (zZ (O pu) (by omega))).mono ?_;rintro e w6 ⟨v6',ve,rfl,hl6,he6,vU⟩
     have hOm:ORow w6 xh.heap.size v6' FL:=by
      rcases hl6 with⟨Z,Q⟩|h
      ·rw[Z,show FL=l from Q];exact zn (O pu) vU
      ·exact zR h (O uY).size
     clear hl6;obtain⟨am,cm,rfl⟩:=et hOm;obtain⟨ae,ce,rfl⟩:=et he6;have jk:=mc w6 (me (yx next s tt Fl li tg).toArray 71);have HE6:=U (zO (zO (O HE5) vU) jk);have kf:=U (zO he6 jk);have HO6:=U (zn hOm jk);have qS:=U ((O uY).trans ((mf vU jk).mono (O uY).size));have vJ:Hid (World.rangeAt (w6.alloc (me (yx next s tt Fl li tg).toArray 71)) w6.heap.size 0 (yx next s tt Fl li tg)):=zm w6 (yx next s tt Fl li tg) _;have HTX:Hid (∃xt,(w6.alloc (me (yx next s tt Fl li tg).toArray 71)).heap[w6.heap.size]? = some (.cells xt 71 (0,0))):=⟨_,heap_alloc_new w6 _⟩;have hlt6:w6.heap.size<(w6.alloc (me (yx next s tt Fl li tg).toArray 71)).heap.size:=by rw[zi];omega
     have hX6:xh.heap.size<=w6.heap.size:=yO (O uY).size vU.size;have h35:w3.heap.size<=w5.heap.size:=by have:=(O HE5).lt be rfl;omega
     clear jk vU hOm he6;go_wp2_with fail;refine O xw _ _ ?_;clear xw;generalize (w6.alloc (me (yx next s tt Fl li tg).toArray 71))=ya at HE6 kf HO6 qS vJ HTX hlt6 |-;generalize w6.heap.size=tb at vJ HTX hlt6 hX6 |-;have hX3:xh.heap.size<=w3.heap.size:=(O xL).size;have aU:w.heap.size+1+1<w3.heap.size:=yK jw hX3;refine wp_seq_k fun hb hK=>?_
     have qg:∀(v14:Value) (W:World),ERow W w3.heap.size v14 (⟨1,⟨1,s,ty,li,qt,ii,pr,cutB tg⟩,next,0,0,0,0⟩::Ft)->ORow W xh.heap.size (.slice am FL.length cm) FL->W.rangeAt tb 0 (yx next s tt Fl li tg)->yp xh W->tb<W.heap.size->w3.heap.size<=W.heap.size->hb { tmps:=#[.agg #[H next,.slice a l.length cap],.agg (yy 1 s ty li qt ii pr tg).toArray,yq w 0,h3 (w.heap.size+1) 0,h3 (w.heap.size+1+1) 0,.slice none 0 0,.slice am FL.length cm,H 0,H pk,M,M,M,M,M,v14,h3 tb 0,.slice ae Ft.length ce,M,.slice (some (yr xh 0)) 0 0,yq w 1,.slice a l.length cap,.slice a6 l.length c6,.agg #[H next,.slice a l.length cap],.agg (yy 1 s ty li qt ii pr tg).toArray,H 0,H 0,.bool false,M,M,M,M,M,M,M,M,M,.slice a6 l.length c6,h3 (w.heap.size+1) 5,H ii,H pk,h3 (w.heap.size+1) 0,H 1,.bool false,.bool false,M,M,M,M,M,M,M,M,M,M,M,M,M,M,M,M,.bool false,.bool false,M,M,M,M,M,M,M,M,M,M,M,M,M,M,M,M,.bool false,.bool false,M,M,M,M,M,M,M,M,M,M,M,M,M,M,M,M,M,M,M,M,M,M,M,M,M,M,M,M,M,M,M,M,M,M,M,M,M,M,M,M,M,M,M,M,M,tm0,tm1,tm2,tm3,tm4,.slice (some (Y be 0)) 1 1,.tuple #[.slice am FL.length cm,.agg (yx next s tt Fl li tg).toArray,.slice ae Ft.length ce],.slice a6 l.length c6,.agg #[H next,.slice a l.length cap],.agg (yy 1 s ty li qt ii pr tg).toArray,.agg (yx next s tt qt li tg).toArray,.tuple #[.slice am FL.length cm,.agg (yx next s tt Fl li tg).toArray,.slice ae Ft.length ce],.slice am FL.length cm,.agg (yx next s tt Fl li tg).toArray,.slice ae Ft.length ce,.slice (some (Y be 0)) 1 1,.slice ae Ft.length ce,v14,M,M,M,M,M,M,M,M,M,M,M,M,M,M,M,M,M,M,M,M,M,M,M,M,M,M,M,M],defers:=[] } W:=by
      intro v14 W he D pG vL htb h3W0;refine hK _ _ ?_;clear hK HTX vJ HE6 kf HO6 qS hlt6 HE5 pu uY HE4 kT xQ HMTT pW HNO;have hlev:(⟨1,⟨1,s,ty,li,qt,ii,pr,cutB tg⟩,next,0,0,0,0⟩::Ft:List Ev).length<=100:=by simp;omega
      generalize hevs:(⟨1,⟨1,s,ty,li,qt,ii,pr,cutB tg⟩,next,0,0,0,0⟩::Ft:List Ev)=evs at he hlev;have HEVS:=U hevs;have qp:=U he;have kS:=U D;have HTKV:=U pG;have xI:=U vL;clear he D pG vL hevs;have q0:W.cell? (Y tb 0)=some (H next):=O HTKV 0 _ rfl;have q3:W.cell? (Y tb 3)=some (H Fl):=O HTKV 3 _ rfl;refine mg fun K3 vZ=>?_
      by_cases kg:0<Fl
      ·have ai:yp W (W.alloc (me (yw 5 0 0 0 0 0 0 0 ⟨#[]⟩ next 0 Fl 0 0).toArray 78)):=mc _ _;have hy2:World.cell? (W.alloc (me (yw 5 0 0 0 0 0 0 0 ⟨#[]⟩ next 0 Fl 0 0).toArray 78)) (Y (w.heap.size+1) 2)=some (H ty):=(O vi _ (mf (O xI) ai)).2.2.2.2.1;have HEW:=U (zO (O qp) ai);have cH:=U (zn (O kS) ai);have pR:=U (mf (O xI) ai);have oF:=U (zf (O HTKV) ai htb);have H3W:Hid (w3.heap.size<=(W.alloc (me (yw 5 0 0 0 0 0 0 0 ⟨#[]⟩ next 0 Fl 0 0).toArray 78)).heap.size):=yO h3W0 ai.size;have uG:Hid (World.rangeAt (W.alloc (me (yw 5 0 0 0 0 0 0 0 ⟨#[]⟩ next 0 Fl 0 0).toArray 78)) W.heap.size 0 (Ev.vs ⟨5,zCm,next,0,Fl,0,0⟩)):=zm W (Ev.vs ⟨5,zCm,next,0,Fl,0,0⟩) _;have HXT:Hid (World.there (W.alloc (me (yw 5 0 0 0 0 0 0 0 ⟨#[]⟩ next 0 Fl 0 0).toArray 78)) W.heap.size 0 14):=zM W (Ev.vs ⟨5,zCm,next,0,Fl,0,0⟩) _;have htb7:tb<(W.alloc (me (yw 5 0 0 0 0 0 0 0 ⟨#[]⟩ next 0 Fl 0 0).toArray 78)).heap.size:=yK htb ai.size;have hebX:xh.heap.size<=W.heap.size:=(O xI).size;have heb7:W.heap.size<(W.alloc (me (yw 5 0 0 0 0 0 0 0 ⟨#[]⟩ next 0 Fl 0 0).toArray 78)).heap.size:=by rw[zi];omega
       have htbe:tb≠W.heap.size:=by omega
       have HXB:Hid (∃xt,(W.alloc (me (yw 5 0 0 0 0 0 0 0 ⟨#[]⟩ next 0 Fl 0 0).toArray 78)).heap[W.heap.size]? = some (.cells xt 78 (0,0))):=⟨_,heap_alloc_new W _⟩;have hebE:Hid (∀g,v14.ownBlock=some g->g≠W.heap.size):=fun g F=>by have:=((O qp).lt g F).2;omega
       have hsf:=sfl;clear ai;go_wp2_with fail;refine(iA ty _).mono ?_;rintro e w' ⟨rfl,uy⟩;rw[uy];clear uy w' q0 q3;generalize (W.alloc (me (yw 5 0 0 0 0 0 0 0 ⟨#[]⟩ next 0 Fl 0 0).toArray 78))=W7 at HEW cH pR oF H3W uG HXT HXB htb7 heb7 hy2 |-;generalize W.heap.size=eb at uG HXT HXB hebX heb7 htbe hebE |-;clear hy2;cases oo:dj ty
       ·have x0:W7.cell? (Y eb 0)=some (H 5):=O uG 0 _ rfl;have x1:W7.cell? (Y eb 1)=some (H 0):=O uG 1 _ rfl;have x2:W7.cell? (Y eb 2)=some (H 0):=O uG 2 _ rfl;have x3:W7.cell? (Y eb 3)=some (H 0):=O uG 3 _ rfl;have x4:W7.cell? (Y eb 4)=some (H 0):=O uG 4 _ rfl;have x5:W7.cell? (Y eb 5)=some (H 0):=O uG 5 _ rfl;have x6:W7.cell? (Y eb 6)=some (H 0):=O uG 6 _ rfl;have x7:W7.cell? (Y eb 7)=some (yk 0):=O uG 7 _ rfl;have x8:W7.cell? (Y eb 8)=some (yl ⟨#[]⟩):=O uG 8 _ rfl;have x9:W7.cell? (Y eb 9)=some (H next):=O uG 9 _ rfl;have cY:W7.cell? (Y eb 10)=some (H 0):=O uG 10 _ rfl;have x11:W7.cell? (Y eb 11)=some (H Fl):=O uG 11 _ rfl;have x12:W7.cell? (Y eb 12)=some (H 0):=O uG 12 _ rfl;have x13:W7.cell? (Y eb 13)=some (H 0):=O uG 13 _ rfl;have HEA:=U ((O HEW).alloc (me (yw 5 0 0 0 0 0 0 0 ⟨#[]⟩ next 0 Fl 0 0).toArray 78));have qH:Hid (yp W7 (W7.alloc (me (yw 5 0 0 0 0 0 0 0 ⟨#[]⟩ next 0 Fl 0 0).toArray 78))):=mc _ _;have h3W:w3.heap.size<=W7.heap.size:=O H3W;go_wp2_with (at_builtin;go_must (refine wpList_append_own _ rfl _ _ 32 rfl w3.heap.size 78 j0 _ 14 120 Tryz.underlying32 ax ph cz hy2 rfl (by decide) v14 evs.length (evs.flatMap Ev.vs) rfl (O HEA) (yr W7 0) 1 1 (Ev.vs ⟨5,zCm,next,0,Fl,0,0⟩) rfl rfl (cellsQ W7 (Ev.vs ⟨5,zCm,next,0,Fl,0,0⟩) 78) (one_ev ⟨5,zCm,next,0,Fl,0,0⟩) (by unfold maxLen;omega) (by omega) (yO h3W (O qH).size) ?_);intro v5 w9 vA vR _;have bC:=U vA;have HG9:=U vR;clear vA vR)
        have HE9:Hid (ERow w9 w3.heap.size v5 (evs ++ [⟨5,zCm,next,0,Fl,0,0⟩])):=by
         show w9.ownsRow _ _ _ _ (evs ++ [(⟨5,zCm,next,0,Fl,0,0⟩:Ev)]).length _;rw[yQ,List.flatMap_append];simpa using O bC
        have HL9:=U (World.ownsRow.kept (zn (O cH) (O qH)) (O HG9) (fg (zn (O cH) (O qH)) (O HEA) (by decide)))
        have jh:Hid (yp xh w9):=by
         have Z:=(O pR).trans ((O qH).mono (O pR).size);exact Z.grown (O HG9) Z.size (fun g F=>yO hX3 ((O HEA).lt g F).1)
        clear bC HG9 HEA qH;go_wp2_with fail;refine O vZ _ _ ?_;clear vZ;obtain⟨z0,z1,y0,y1,y2,y3,y4,y5,y6,y7⟩:=O vi w9 (O jh);have qV:=zk (O HB).2.2.2.2.1 (O jh) jw;obtain⟨p0,x0,f0⟩:=zh qV (j:=0) (by omega);obtain⟨p1,x1,f1⟩:=zh qV (j:=1) (by omega);have cM:=(O HB).2.2.2.2.2.trans ((O jh).mono (O HB).2.2.2.2.2.size);have HWF:Hid (yp w ((w9.setCell (Y (w.heap.size+1+1) 0) (H (next+1))).setCell (Y (w.heap.size+1+1) 1) (.slice am FL.length cm))):=(cM.setCell (p:=(Y (w.heap.size+1+1) 0)) (show w.heap.size<=w.heap.size+1+1 by omega) _).setCell (p:=(Y (w.heap.size+1+1) 1)) (show w.heap.size<=w.heap.size+1+1 by omega) _;have HEF:Hid (ERow ((w9.setCell (Y (w.heap.size+1+1) 0) (H (next+1))).setCell (Y (w.heap.size+1+1) 1) (.slice am FL.length cm)) w.heap.size v5 (evs ++ [⟨5,zCm,next,0,Fl,0,0⟩])):=zR (gf (gf (O HE9) aU 0 _) aU 1 _) (by omega);have HLF:Hid (ORow ((w9.setCell (Y (w.heap.size+1+1) 0) (H (next+1))).setCell (Y (w.heap.size+1+1) 1) (.slice am FL.length cm)) w.heap.size (.slice am FL.length cm) (FL)):=zR (eU (eU (O HL9) jw 0 _) jw 1 _) hXw;have oD:Hid (((w9.setCell (Y (w.heap.size+1+1) 0) (H (next+1))).setCell (Y (w.heap.size+1+1) 1) (.slice am FL.length cm)).cell? (Y (w.heap.size+1+1) 0)=some (H (next+1))):=(yM _ _ _ _ (zV (by decide))).trans (yN _ _ _ x0);have ji:Hid (((w9.setCell (Y (w.heap.size+1+1) 0) (H (next+1))).setCell (Y (w.heap.size+1+1) 1) (.slice am FL.length cm)).cell? (Y (w.heap.size+1+1) 1)=some (.slice am FL.length cm)):=yN _ _ _ ((yM _ _ _ _ (zV (by decide))).trans x1);clear qV cM y0 y1 y2 y3 y4 y5 y6 y7;go_wp2_with fail;have d0:=O oD;have d1:=O ji
        try simp only[Exit.inBlock,Exit.then]
        refine bodyPost_ret (by simp[results,Tryz.results13,go_sem,d0,d1];try rfl) rfl ?_;obtain⟨rfl,oL,ot⟩:=O vS;rw[if_neg (fun h=>by rw[oo] at h;cases h.2)] at oL;rw[if_pos kg,if_neg (by rw[oo];simp),O HEVS] at ot;subst oL ot;exact⟨_,_,rfl,O HLF,O HEF,O HWF⟩
       ·have xe0:W7.cell? (Y eb 0)=some (H 5):=O uG 0 _ rfl;have fe0:W7.frozen? (Y eb 0)=false:=(O HXT 0 (by omega)).2;have HEW8:Hid (ERow (W7.setCell (Y eb 0) (H 4)) w3.heap.size v14 evs):=zX (O HEW) (fun e=>O hebE eb e.symm rfl) 0 _;have HLW8:Hid (ORow (W7.setCell (Y eb 0) (H 4)) xh.heap.size (.slice am FL.length cm) FL):=zX (O cH) (zF (O cH) (O HXB) (by decide)) 0 _;have HBW8:Hid (yp xh (W7.setCell (Y eb 0) (H 4))):=(O pR).setCell (p:=(Y eb 0)) hebX _;have HTKW8:Hid (World.rangeAt (W7.setCell (Y eb 0) (H 4)) tb 0 (yx next s tt Fl li tg)):=fun j u hj=>(yM _ _ _ _ (fun e=>htbe (congrArg Addr.block e).symm)).trans (O oF j u hj);have HXR8:Hid (World.rangeAt (W7.setCell (Y eb 0) (H 4)) eb 0 (Ev.vs ⟨4,zCm,next,0,Fl,0,0⟩)):=by have:=gN (j:=0) (u:=H 4) (O uG) (by rw[Ev.len];decide);exact this
        have H3W8:Hid (w3.heap.size<=(W7.setCell (Y eb 0) (H 4)).heap.size):=by have:=O H3W;simp only[World.setCell,Array.size_modify];exact this
        have heb8:eb<(W7.setCell (Y eb 0) (H 4)).heap.size:=by simp only[World.setCell,Array.size_modify];exact heb7
        have htb8:tb<(W7.setCell (Y eb 0) (H 4)).heap.size:=by simp only[World.setCell,Array.size_modify];exact htb7
        clear HEW cH pR oF uG H3W HXT HXB;go_wp2_with fail;clear xe0 fe0;generalize (W7.setCell (Y eb 0) (H 4))=W8 at HEW8 HLW8 HBW8 HTKW8 HXR8 H3W8 heb8 htb8 |-;have cH:=U (O HLW8);have oF:=U (O HTKW8);refine zA (RZBA (fun f=>{ tmps:=#[.agg #[H next,.slice a l.length cap],.agg (yy 1 s ty li qt ii pr tg).toArray,yq w 0,h3 (w.heap.size+1) 0,h3 (w.heap.size+1+1) 0,.slice none 0 0,f 6,H 0,H pk,M,M,M,M,M,v14,h3 tb 0,.slice ae Ft.length ce,h3 eb 0,.slice (some (yr xh 0)) 0 0,yq w 1,.slice a l.length cap,.slice a6 l.length c6,.agg #[H next,.slice a l.length cap],.agg (yy 1 s ty li qt ii pr tg).toArray,H 0,H 0,.bool false,M,M,M,M,M,M,M,M,M,.slice a6 l.length c6,h3 (w.heap.size+1) 5,H ii,H pk,h3 (w.heap.size+1) 0,H 1,.bool false,.bool false,M,M,M,M,M,M,M,M,M,M,M,M,M,M,M,M,.bool false,.bool false,M,M,M,M,M,M,M,M,M,M,M,M,M,M,M,M,.bool false,.bool false,M,M,M,M,M,M,M,M,M,M,M,M,M,M,M,M,M,M,M,M,M,M,M,M,M,M,M,M,M,M,M,M,M,M,M,M,M,M,M,M,M,M,M,M,M,tm0,tm1,tm2,tm3,tm4,.slice (some (Y be 0)) 1 1,.tuple #[.slice am FL.length cm,.agg (yx next s tt Fl li tg).toArray,.slice ae Ft.length ce],.slice a6 l.length c6,.agg #[H next,.slice a l.length cap],.agg (yy 1 s ty li qt ii pr tg).toArray,.agg (yx next s tt qt li tg).toArray,.tuple #[.slice am FL.length cm,.agg (yx next s tt Fl li tg).toArray,.slice ae Ft.length ce],.slice am FL.length cm,.agg (yx next s tt Fl li tg).toArray,.slice ae Ft.length ce,.slice (some (Y be 0)) 1 1,.slice ae Ft.length ce,v14,h3 tb 3,H Fl,.bool true,h3 tb 0,H next,h3 tb 3,H Fl,.agg (yw 5 0 0 0 0 0 0 0 ⟨#[]⟩ next 0 Fl 0 0).toArray,h3 (w.heap.size+1) 2,H ty,.bool true,h3 eb 0,f 0,f 1,f 2,f 3,f 4,f 5,M,M,M,M,M,M,M,M,M,M],defers:=[] }) (CZ (.slice am FL.length cm) (.agg (yx next s tt Fl li tg).toArray)) W8 FL ⟨next,s,tt,Fl,li,tg⟩ (.slice am FL.length cm)) (by kernel_rfl) ?_ ?_ ?_
        ·exact⟨fun j=>if j=6 then .slice am FL.length cm else M,rfl,rz_start,ryb_start rfl⟩
        rotate_left
        ·rintro x md V i op ⟨f,rfl,hR,hA⟩ xo hx D xA X;have xJ:=U hR;have jq:=U hA;clear hA;have xm:∀(p:Addr) u,W8.cell? p=some u->V.cell? p=some u:=fun p u hu=>(hR.bel.cell (yL W8 _ hu)).trans hu
         match i,D with
         | 0,D =>
          cases D;clear X hR xo xm;go_simp;exact⟨upd f 0 (.slice (some (yr V 0)) 0 0),by simp[upd],rz_0 (O xJ) xA (fun _=>trivial),dV _ (O jq) (by decide) (by decide)⟩
         | 1,D =>
          cases D;have g6:f 6 = .slice am FL.length cm:=(O jq).2 (zS xo 12 1 6 (by kernel_rfl) hx (by simp) xA);clear X hR xo xm;go_simp;exact⟨upd f 1 (.slice am FL.length cm),by simp[upd,g6],rz_val (O xJ) 1 _ rfl (by decide) (by decide) (by decide) (by decide),dV _ (O jq) (by decide) (by decide)⟩
         | 2,D =>
          cases D;have k0:x[0]? = some true:=X ⟨0,.data⟩ (by simp) rfl;have g1:f 1 = .slice am FL.length cm:=hR.c 1 (yf X 1 rfl);have n5:x[5]? = some false:=zS xo 12 2 5 (by kernel_rfl) hx (by simp) xA;have bB:=U (hR.m0 k0 xA);have vH:=hR.bel
          have HRDV:Hid (∀ad,am=some ad->∀j u,(FL.flatMap Od.vs)[j]? = some u->V.cell? (ad.add j)=some u):=fun ad had=>by
           have h:=zZ (zn (O cH) vH) (by omega);rw[had] at h;exact rd_src h
          have HSLV:=U (iq (O cH));clear X hR xo xm;rw[if_pos (by rfl)];rcases O HSLV with h|⟨ad,nn,cc,h⟩
          ·simp only[Value.slice.injEq] at h;have hL:FL = []:=List.length_eq_zero_iff.1 h.2.1;refine ma (.tmp 155) (.tmp 156) 29 rfl W8.heap.size 71 i0 6 Tryz.underlying29 uo (f 0) 0 [] rfl (O bB) (by show f 1 = _;rw[g1,h.1,h.2.1,h.2.2]) ?_;exact⟨upd f 2 (f 0),rfl,rz_2 (O xJ) k0 xA n5 (fun _=>trivial) (by rw[hL];exact O bB) (yS _ _),dV _ (O jq) (by decide) (by decide)⟩
          ·simp only[Value.slice.injEq] at h;refine wp_append_own V (.tmp 155) (.tmp 156) 29 rfl W8.heap.size 71 i0 _ 6 56 Tryz.underlying29 uo ub xX uh rfl (by decide) (f 0) 0 [] rfl (O bB) ad FL.length cm (FL.flatMap Od.vs) (by show f 1 = _;rw[g1,h.1]) (by rw[dT Od.len]) (O HRDV ad h.1) (fQ FL) (by unfold maxLen;omega) (by omega) vH.size ?_;intro v' w' xu uN _;refine⟨upd f 2 v',rfl,rz_2 (O xJ) k0 xA n5 (fun _=>trivial) ?_ uN,dV _ (O jq) (by decide) (by decide)⟩;show w'.ownsRow _ _ _ _ FL.length _;simpa using xu
         | 3,D =>
          cases D;have t0:=xm (Y tb 0) _ (O oF 0 _ rfl);have t1:=xm (Y tb 1) _ (O oF 1 _ rfl);have t2:=xm (Y tb 2) _ (O oF 2 _ rfl);have t3:=xm (Y tb 3) _ (O oF 3 _ rfl);have t4:=xm (Y tb 4) _ (O oF 4 _ rfl);have t5:=xm (Y tb 5) _ (O oF 5 _ rfl);clear X hR xo xm;go_simp;exact⟨upd f 3 (.agg (yx next s tt Fl li tg).toArray),by simp[upd],rz_val (O xJ) 3 _ rfl (by decide) (by decide) (by decide) (by decide),dV _ (O jq) (by decide) (by decide)⟩
         | 4,D =>
          cases D;have g3:f 3 = .agg (yx next s tt Fl li tg).toArray:=hR.c 3 (yf X 3 rfl);have n5:x[5]? = some false:=zS xo 12 4 5 (by kernel_rfl) hx (by simp) xA;clear X hR xo xm;go_simp;exact⟨upd f 4 (.slice (some (yr V 0)) 1 1),by simp[upd,g3],rz_4 (O xJ) xA n5 (fun _=>trivial),dV _ (O jq) (by decide) (by decide)⟩
         | 5,D =>
          cases D;have k2:x[2]? = some true:=X ⟨2,.data⟩ (by simp) rfl;obtain⟨b4,g4,ud,xy,xV,-⟩:=hR.m4 (yf X 4 rfl) xA;have jt:=U (hR.m2 k2 xA);have vH:=hR.bel;have h6:x[6]? = some false:=zS xo 12 5 6 (by kernel_rfl) hx (by simp) xA
          have uk:Hid (∀j u,(Od.vs ⟨next,s,tt,Fl,li,tg⟩)[j]? = some u->V.cell? (((Y b4 0):Addr).add j)=some u):=fun j u hu=>by
           have:=xV j u hu;rw[Addr.add_mid];exact this
          clear X hR xo xV xm;rw[if_pos (by rfl)];refine wp_append_own V (.tmp 157) (.tmp 159) 29 rfl W8.heap.size 71 i0 _ 6 56 Tryz.underlying29 uo ub xX uh rfl (by decide) (f 2) FL.length (FL.flatMap Od.vs) rfl (O jt) (Y b4 0) 1 1 (Od.vs ⟨next,s,tt,Fl,li,tg⟩) (by show f 4 = _;exact g4) rfl (O uk) (one_od ⟨next,s,tt,Fl,li,tg⟩) (by unfold maxLen;omega) (by omega) vH.size ?_;intro v' w' xu uN _;refine⟨upd f 5 v',rfl,rz_5 (O xJ) k2 xA (fun _=>trivial) ?_ uN,ryb_write v' (O jq) h6⟩;show w'.ownsRow _ _ _ _ (FL ++ [(⟨next,s,tt,Fl,li,tg⟩:Od)]).length _;rw[yQ,List.flatMap_append];simpa using xu
         | 6,D =>
          cases D;have k5:x[5]? = some true:=X ⟨5,.data⟩ (by simp) rfl;clear X hR xo xm;go_simp;exact⟨upd f 6 (f 5),by simp[upd],rz_val (O xJ) 6 _ trivial (by decide) (by decide) (by decide) (by decide),ryb_lay xA⟩
         | n+7,D=>simp at D
        ·rintro x md V ⟨f,rfl,hR,hA⟩ hx xY;have xq:=fo xY hx (by kernel_rfl);have e6:f 6=f 5:=hA.1 (xq 6 (by simp));have hO5:=hR.m5 (xq 5 (by simp));have vH:=hR.bel;obtain⟨aL,cL,hvL⟩:=et hO5;rw[hvL] at hO5 e6;generalize (FL ++ [(⟨next,s,tt,Fl,li,tg⟩:Od)]).length=nL at hO5 e6;simp only[e6];have cH:=U (zR hO5 (show xh.heap.size<=W8.heap.size from(O HBW8).size));have HEW:=U (zO (O HEW8) vH);have pR:=U (mf (O HBW8) vH);have uG:=U (zf (O HXR8) vH heb8);have H3W:Hid (w3.heap.size<=V.heap.size):=yO (O H3W8) vH.size;clear hR hA xq xY hx hO5 vH e6 hvL;generalize f 0=tn0,f 1=tn1,f 2=tn2,f 3=tn3,f 4=tn4,f 5=tn5;obtain⟨x0,x1,x2,x3,x4,x5,x6,x7,x8,x9,cY,x11,x12,x13⟩:=yG (O uG);have HEA:=U ((O HEW).alloc (me (yw 4 0 0 0 0 0 0 0 ⟨#[]⟩ next 0 Fl 0 0).toArray 78));have qH:Hid (yp V (V.alloc (me (yw 4 0 0 0 0 0 0 0 ⟨#[]⟩ next 0 Fl 0 0).toArray 78))):=mc _ _;have h3W:w3.heap.size<=V.heap.size:=O H3W;go_wp2_with (at_builtin;go_must (refine wpList_append_own _ rfl _ _ 32 rfl w3.heap.size 78 j0 _ 14 120 Tryz.underlying32 ax ph cz hy2 rfl (by decide) v14 evs.length (evs.flatMap Ev.vs) rfl (O HEA) (yr V 0) 1 1 (Ev.vs ⟨4,zCm,next,0,Fl,0,0⟩) rfl rfl (cellsQ V (Ev.vs ⟨4,zCm,next,0,Fl,0,0⟩) 78) (one_ev ⟨4,zCm,next,0,Fl,0,0⟩) (by unfold maxLen;omega) (by omega) (yO h3W (O qH).size) ?_);intro v5 w9 vA vR _;have bC:=U vA;have HG9:=U vR;clear vA vR)
         have HE9:Hid (ERow w9 w3.heap.size v5 (evs ++ [⟨4,zCm,next,0,Fl,0,0⟩])):=by
          show w9.ownsRow _ _ _ _ (evs ++ [(⟨4,zCm,next,0,Fl,0,0⟩:Ev)]).length _;rw[yQ,List.flatMap_append];simpa using O bC
         have HL9:=U (World.ownsRow.kept (zn (O cH) (O qH)) (O HG9) (fg (zn (O cH) (O qH)) (O HEA) (by decide)))
         have jh:Hid (yp xh w9):=by
          have Z:=(O pR).trans ((O qH).mono (O pR).size);exact Z.grown (O HG9) Z.size (fun g F=>yO hX3 ((O HEA).lt g F).1)
         clear bC HG9 HEA qH;go_wp2_with fail;refine O vZ _ _ ?_;clear vZ;obtain⟨z0,z1,y0,y1,y2,y3,y4,y5,y6,y7⟩:=O vi w9 (O jh);have qV:=zk (O HB).2.2.2.2.1 (O jh) jw;obtain⟨p0,x0,f0⟩:=zh qV (j:=0) (by omega);obtain⟨p1,x1,f1⟩:=zh qV (j:=1) (by omega);have cM:=(O HB).2.2.2.2.2.trans ((O jh).mono (O HB).2.2.2.2.2.size);have HWF:Hid (yp w ((w9.setCell (Y (w.heap.size+1+1) 0) (H (next+1))).setCell (Y (w.heap.size+1+1) 1) (.slice aL nL cL))):=(cM.setCell (p:=(Y (w.heap.size+1+1) 0)) (show w.heap.size<=w.heap.size+1+1 by omega) _).setCell (p:=(Y (w.heap.size+1+1) 1)) (show w.heap.size<=w.heap.size+1+1 by omega) _;have HEF:Hid (ERow ((w9.setCell (Y (w.heap.size+1+1) 0) (H (next+1))).setCell (Y (w.heap.size+1+1) 1) (.slice aL nL cL)) w.heap.size v5 (evs ++ [⟨4,zCm,next,0,Fl,0,0⟩])):=zR (gf (gf (O HE9) aU 0 _) aU 1 _) (by omega);have HLF:Hid (ORow ((w9.setCell (Y (w.heap.size+1+1) 0) (H (next+1))).setCell (Y (w.heap.size+1+1) 1) (.slice aL nL cL)) w.heap.size (.slice aL nL cL) (FL ++ [⟨next,s,tt,Fl,li,tg⟩])):=zR (eU (eU (O HL9) jw 0 _) jw 1 _) hXw;have oD:Hid (((w9.setCell (Y (w.heap.size+1+1) 0) (H (next+1))).setCell (Y (w.heap.size+1+1) 1) (.slice aL nL cL)).cell? (Y (w.heap.size+1+1) 0)=some (H (next+1))):=(yM _ _ _ _ (zV (by decide))).trans (yN _ _ _ x0);have ji:Hid (((w9.setCell (Y (w.heap.size+1+1) 0) (H (next+1))).setCell (Y (w.heap.size+1+1) 1) (.slice aL nL cL)).cell? (Y (w.heap.size+1+1) 1)=some (.slice aL nL cL)):=yN _ _ _ ((yM _ _ _ _ (zV (by decide))).trans x1);clear qV cM y0 y1 y2 y3 y4 y5 y6 y7;go_wp2_with fail;have d0:=O oD;have d1:=O ji
         try simp only[Exit.inBlock,Exit.then]
         refine bodyPost_ret (by simp[results,Tryz.results13,go_sem,d0,d1];try rfl) rfl ?_;obtain⟨rfl,oL,ot⟩:=O vS;rw[if_pos ⟨kg,oo⟩] at oL;rw[if_pos kg,if_pos oo,O HEVS] at ot;subst oL ot;exact⟨_,_,rfl,O HLF,O HEF,O HWF⟩
      ·go_wp2_with fail;refine O vZ _ _ ?_;clear vZ;obtain⟨z0,z1,y0,y1,y2,y3,y4,y5,y6,y7⟩:=O vi W (O xI);have qV:=zk (O HB).2.2.2.2.1 (O xI) jw;obtain⟨p0,x0,f0⟩:=zh qV (j:=0) (by omega);obtain⟨p1,x1,f1⟩:=zh qV (j:=1) (by omega);have cM:=(O HB).2.2.2.2.2.trans ((O xI).mono (O HB).2.2.2.2.2.size);have HWF:Hid (yp w ((W.setCell (Y (w.heap.size+1+1) 0) (H (next+1))).setCell (Y (w.heap.size+1+1) 1) (.slice am FL.length cm))):=(cM.setCell (p:=(Y (w.heap.size+1+1) 0)) (show w.heap.size<=w.heap.size+1+1 by omega) _).setCell (p:=(Y (w.heap.size+1+1) 1)) (show w.heap.size<=w.heap.size+1+1 by omega) _;have HEF:Hid (ERow ((W.setCell (Y (w.heap.size+1+1) 0) (H (next+1))).setCell (Y (w.heap.size+1+1) 1) (.slice am FL.length cm)) w.heap.size v14 (evs)):=zR (gf (gf (O qp) aU 0 _) aU 1 _) (by omega);have HLF:Hid (ORow ((W.setCell (Y (w.heap.size+1+1) 0) (H (next+1))).setCell (Y (w.heap.size+1+1) 1) (.slice am FL.length cm)) w.heap.size (.slice am FL.length cm) (FL)):=zR (eU (eU (O kS) jw 0 _) jw 1 _) hXw;have oD:Hid (((W.setCell (Y (w.heap.size+1+1) 0) (H (next+1))).setCell (Y (w.heap.size+1+1) 1) (.slice am FL.length cm)).cell? (Y (w.heap.size+1+1) 0)=some (H (next+1))):=(yM _ _ _ _ (zV (by decide))).trans (yN _ _ _ x0);have ji:Hid (((W.setCell (Y (w.heap.size+1+1) 0) (H (next+1))).setCell (Y (w.heap.size+1+1) 1) (.slice am FL.length cm)).cell? (Y (w.heap.size+1+1) 1)=some (.slice am FL.length cm)):=yN _ _ _ ((yM _ _ _ _ (zV (by decide))).trans x1);clear qV cM y0 y1 y2 y3 y4 y5 y6 y7;go_wp2_with fail;have d0:=O oD;have d1:=O ji
       try simp only[Exit.inBlock,Exit.then]
       refine bodyPost_ret (by simp[results,Tryz.results13,go_sem,d0,d1];try rfl) rfl ?_;obtain⟨rfl,oL,ot⟩:=O vS;rw[if_neg (fun h=>by have:=h.1;omega)] at oL;rw[if_neg (by omega),List.append_nil,O HEVS] at ot;subst oL ot;exact⟨_,_,rfl,O HLF,O HEF,O HWF⟩
     have HT2':=U qg;clear qg hK;have h3Y:w3.heap.size<=ya.heap.size:=by have:=(O HE6).lt be rfl;omega
     rcases(O kf).2 with⟨hv,h0⟩|⟨gt,ct,cut,hv,_⟩
     ·simp only[Value.slice.injEq] at hv;obtain⟨rfl,oJ,rfl⟩:=hv;obtain rfl:=List.length_eq_zero_iff.1 oJ;go_wp2_with (at_builtin;go_must (refine wpList_append_own_none rfl _ _ 32 rfl w3.heap.size 78 j0 14 Tryz.underlying32 ax (.slice (some (Y be 0)) 1 1) 1 _ rfl (O HE6) rfl ?_));exact O HT2' _ _ (O HE6) (O HO6) (O vJ) (O qS) hlt6 h3Y
     ·simp only[Value.slice.injEq] at hv;obtain⟨rfl,-,rfl⟩:=hv;have uk:=U (row_src (O kf));go_wp2_with (at_builtin;go_must (refine wpList_append_own _ rfl _ _ 32 rfl w3.heap.size 78 j0 _ 14 120 Tryz.underlying32 ax ph cz hy2 rfl (by decide) (.slice (some (Y be 0)) 1 1) 1 _ rfl (O HE6) (Y gt 0) Ft.length ce (Ft.flatMap Ev.vs) rfl (by rw[dT Ev.len]) (O uk) (one_allE Ft) (by unfold maxLen;omega) (by omega) h3Y ?_);intro v14 w7 hown7 hg7 _;have HO7:=U hown7;have js:=U hg7;clear hown7 hg7)
      have HE7:Hid (ERow w7 w3.heap.size v14 (⟨1,⟨1,s,ty,li,qt,ii,pr,cutB tg⟩,next,0,0,0,0⟩::Ft)):=by
       show w7.ownsRow _ _ _ _ (⟨1,⟨1,s,ty,li,qt,ii,pr,cutB tg⟩,next,0,0,0,0⟩::Ft:List Ev).length _;have h:=O HO7;rw[List.length_cons,Nat.add_comm];simpa using h
      exact O HT2' _ _ (O HE7) (World.ownsRow.kept (O HO6) (O js) (fg (O HO6) (O HE6) (by decide))) (fun j u hj=>(yR (a:=(Y tb (0+j))) ((O js).block tb hlt6 (zF (O HE6) (O HTX) (by decide)))).trans (O vJ j u hj)) ((O qS).grown (O js) (O qS).size (fun g F=>yO hX3 ((O HE6).lt g F).1)) (yK hlt6 (O js).size) (yO h3Y (O js).size)
   ·obtain⟨k,o,hpk,bY⟩:=O HID rfl (by simp);have jY:(plc l ii).toNat=k:=by rw[hpk];rfl
    have xE:l ≠ []:=by rintro rfl;simp at bY
    have bX:=(yH.1 bY).1;have vS:Hid (sN=next/\sE = [⟨6,zCm,ii,0,o.left,0,0⟩]):=⟨by rw[O oW,if_neg (fun h=>by have:=h.2;omega)],by rw[O oU,if_pos rfl,if_neg (by omega),if_pos rfl];simp only[jY,bY]⟩;have HLD:Hid (l.take k++l.drop (k+1)=sL):=by show _ = _;rw[O jV,if_pos rfl,if_neg (by omega),if_pos rfl];simp only[jY,bY];rw[db,if_pos rfl]
    have HPK:=U hpk;have HLO:=U bY;clear hpk bY jY oW jV oU HQ HID HK HNS pW cI HNO;obtain⟨g,cp,hv6,xW,hBg,hgw⟩:=iG (O jt) xE;simp only[Value.slice.injEq] at hv6;obtain⟨rfl,-,rfl⟩:=hv6;go_wp2_with fail;refine O xw _ _ ?_;clear xw;go_wp2_with fail;refine(iC _ l ii w2 (zZ (O jt) (by omega))).mono ?_;rw[O HPK];rintro e w3 ⟨rfl,xV⟩;have qO:=U (zn (O jt) xV);have xL:=U (mf (O xz) xV);clear xV z0 z1 y0 y1 y2 y3 y4 y5 y6 y7 qU uZ hRb cN;have qU:=U (zk (O HB).2.2.2.2.1 (O xL) jw);have hRb:w.heap.size+1+1<w3.heap.size:=yK jw (O xL).size;have uZ:=U ((O HB).2.2.2.2.2.trans ((O xL).mono (O HB).2.2.2.2.2.size));have cN:xh.heap.size<=w3.heap.size:=(O xL).size;obtain⟨z0,z1,y0,y1,y2,y3,y4,y5,y6,y7⟩:=O vi w3 (O xL);have xN:=ie (O qO) (by omega) (O HLO);have hkl':(k:Int)<l.length:=by omega
    have pP:(0:Int)<=k:=by omega
    have hgR:g≠w.heap.size+1+1:=by omega
    have hRS:w.heap.size+1+1<xh.heap.size:=jw;have HZ0:=U z0;have aS:=U z1;have HY0:=U y0;have HY1:=U y1;have HY2:=U y2;have HY3:=U y3;have ju:=U y4;have HY5:=U y5;have HY6:=U y6;have jE:=U y7;have hG3:w3.cell? (Y g (k*6+3))=some (H o.left):=xN.1 3 _ rfl;clear xN;go_wp2_with fail;clear z0 z1 y0 y1 y2 y3 y4 y5 y6 y7 hG3;refine zA (RXA (fun f=>{ tmps:=#[.agg #[H next,.slice a l.length cap],.agg (yy 2 s ty li qt ii pr tg).toArray,yq w 0,h3 (w.heap.size+1) 0,h3 (w.heap.size+1+1) 0,f 12,.slice (some (Y g 0)) l.length c6,H 0,H k,H o.left,M,M,M,M,M,M,M,M,.slice (some (yr xh 0)) 0 0,yq w 1,.slice a l.length cap,.slice (some (Y g 0)) l.length c6,.agg #[H next,.slice a l.length cap],.agg (yy 2 s ty li qt ii pr tg).toArray,H 0,H 0,.bool false,M,M,M,M,M,M,M,M,M,.slice (some (Y g 0)) l.length c6,h3 (w.heap.size+1) 5,H ii,H k,h3 (w.heap.size+1) 0,H 2,.bool true,.bool true,.slice (some (Y g 0)) l.length c6,H k,h3 g (k*6),h3 g (k*6+3),H o.left,f 0,f 1,f 2,f 3,f 4,f 5,f 6,f 7,f 8,f 9,f 10,M,M,M,M,M,M,M,M,M,M,M,M,M,M,M,M,M,M,M,M,M,M,M,M,M,M,M,M,M,M,M,M,M,M,M,M,M,M,M,M,M,M,M,M,M,M,M,M,M,M,M,M,M,M,M,M,M,M,M,M,M,M,M,M,M,M,M,M,M,M,M,M,M,M,M,M,M,M,M,M,M,M,M,M,M,M,M,M,M,M,M,M,M,M,M,M,M,M,M,M,M,M,M,M,M,M,M,M,M,M,M],defers:=[] }) (CX [yq w 0,H next,.slice (some (Y g 0)) l.length c6,H k,M,M,h3 (w.heap.size+1) 5,H ii,H o.left,.agg (yw 6 0 0 0 0 0 0 0 ⟨#[]⟩ ii 0 o.left 0 0).toArray,M,M,M] [(4,0),(5,1),(10,2),(11,9),(12,2)] (xh.heap.size) (next) (sL) ([⟨6,zCm,ii,0,o.left,0,0⟩])) (w.heap.size+1+1) 2 11 (fun f=>aggL (f 5)) w3) (by kernel_rfl) ?_ ?_ ?_
    ·exact⟨fun j=>if j=12 then .slice none 0 0 else M,rfl,rx_start hRb (O qU)⟩
    rotate_left
    ·rintro x md V i op ⟨f,rfl,hR⟩ xo hx D xA X;have xJ:=U hR;have xm:∀(p:Addr) u,w3.cell? p=some u->p.block≠w.heap.size+1+1->V.cell? p=some u:=fun p u hu hp=>kb_cell hR.k hu hp
     match i,D with
      | 0,D =>
       cases D;clear X hR xm xo;go_simp;exact⟨upd f 0 (yq w 0),by simp[upd],dJ (O xJ) 0 _ (by decide) (fun _=>rfl) (dn rfl rfl)⟩
      | 1,D =>
       cases D;have g0:f 0=yq w 0:=dh (hR.c 0 (yf X 0 rfl)) rfl rfl;have z0:=xm (yr w 0) _ (O HZ0) (show w.heap.size≠w.heap.size+1+1 by omega);clear X hR xm xo;go_simp;exact⟨upd f 1 (H next),by simp[upd,g0],dJ (O xJ) 1 _ (by decide) (fun _=>rfl) (dn rfl rfl)⟩
      | 2,D =>
       cases D;clear X hR xm xo;go_simp;exact⟨upd f 2 (.slice (some (Y g 0)) l.length c6),by simp[upd],dJ (O xJ) 2 _ (by decide) (fun _=>rfl) (dn rfl rfl)⟩
      | 3,D =>
       cases D;clear X hR xm xo;go_simp;exact⟨upd f 3 (H k),by simp[upd],dJ (O xJ) 3 _ (by decide) (fun _=>rfl) (dn rfl rfl)⟩
      | 4,D =>
       cases D;have g2:f 2 = .slice (some (Y g 0)) l.length c6:=dh (hR.c 2 (yf X 2 rfl)) rfl rfl;have g3:f 3=H k:=dh (hR.c 3 (yf X 3 rfl)) rfl rfl;have hOV:=kb_row (O qO) hR.k hRS;have HCV:Hid (∀j c,l[j]? = some c->V.rangeAt g (0+j*6) c.vs):=fun j c hj=>by have:=(ie hOV (by omega) hj).1;rw[Nat.zero_add];exact this
       have hgV:g<V.heap.size:=yK ((O qO).lt g rfl).2 hR.k.size;have hXV:=yO cN hR.k.size;clear X hR xm xo hOV;go_simp;refine(l04Drop_any g 0 c6 l k V (O HCV) hgV bX xW (by omega)).mono ?_;rw[O HLD];rintro e w4 ⟨v',rfl,qe,xF⟩;exact⟨upd f 4 v',by simp[upd,g2,g3],dJ (rx_grow (gS hRS) (O xJ) xF) 4 _ (by decide) (fun _=>rfl) (fH (d:=0) rfl ⟨zR qe hXV,et qe⟩)⟩
      | 5,D =>
       cases D;have g1:f 1=H next:=dh (hR.c 1 (yf X 1 rfl)) rfl rfl;have h4:=cx_sp (d:=0) (hR.c 4 (yf X 4 rfl)) rfl;obtain⟨a4,c4,g4⟩:=h4.2;rw[g4] at h4;have H4:=U h4;have hcl0:=xo;clear X hR xm xo h4;go_simp;exact⟨upd f 5 (.agg #[H next,.slice a4 sL.length c4]),by simp[upd,g1,g4],dJ (O xJ) 5 _ (by decide) (fun h=>by rw[zS hcl0 12 5 11 (by kernel_rfl) hx (by simp) xA] at h;cases h) (fH (d:=1) rfl ⟨_,rfl,⟨_,_,rfl⟩,(O H4).1⟩)⟩
      | 6,D =>
       cases D;clear X hR xm xo;go_simp;exact⟨upd f 6 (h3 (w.heap.size+1) 5),by simp[upd],dJ (O xJ) 6 _ (by decide) (fun _=>rfl) (dn rfl rfl)⟩
      | 7,D =>
       cases D;have g6:f 6=h3 (w.heap.size+1) 5:=dh (hR.c 6 (yf X 6 rfl)) rfl rfl;have y5:=xm (Y (w.heap.size+1) 5) _ (O HY5) (show w.heap.size+1≠w.heap.size+1+1 by omega);clear X hR xm xo;go_simp;exact⟨upd f 7 (H ii),by simp[upd,g6],dJ (O xJ) 7 _ (by decide) (fun _=>rfl) (dn rfl rfl)⟩
      | 8,D =>
       cases D;clear X hR xm xo;go_simp;exact⟨upd f 8 (H o.left),by simp[upd],dJ (O xJ) 8 _ (by decide) (fun _=>rfl) (dn rfl rfl)⟩
      | 9,D =>
       cases D;have g7:f 7=H ii:=dh (hR.c 7 (yf X 7 rfl)) rfl rfl;have g8:f 8=H o.left:=dh (hR.c 8 (yf X 8 rfl)) rfl rfl;clear X hR xm xo;go_simp;exact⟨upd f 9 (.agg (yw 6 0 0 0 0 0 0 0 ⟨#[]⟩ ii 0 o.left 0 0).toArray),by simp[upd,g7,g8],dJ (O xJ) 9 _ (by decide) (fun _=>rfl) (dn rfl rfl)⟩
      | 10,D =>
       cases D;have g9:f 9 = .agg (yw 6 0 0 0 0 0 0 0 ⟨#[]⟩ ii 0 o.left 0 0).toArray:=dh (hR.c 9 (yf X 9 rfl)) rfl rfl;have cj:=yO cN hR.k.size;clear X hR xm xo;go_simp;exact⟨upd f 10 (.slice (some (yr V 0)) 1 1),by simp[upd,g9],dJ (rx_grow (gS hRS) (O xJ) (mc _ _)) 10 _ (by decide) (fun _=>rfl) (fH (d:=2) rfl ⟨eRow_one V ⟨6,zCm,ii,0,o.left,0,0⟩ cj,_,_,rfl⟩)⟩
      | 11,D =>
       cases D;obtain⟨v4,g0,⟨a4,c4,rfl⟩,-⟩:=cx_sp (d:=1) (hR.c 5 (yf X 5 rfl)) rfl;obtain⟨y0,z0,q0⟩:=zh hR.t (j:=0) (by omega);obtain⟨y1,z1,q1⟩:=zh hR.t (j:=1) (by omega);clear X hR xm xo;go_simp;have qm:=rx_store (gS hRS) (O xJ) xA (by simp[g0,aggL]) (fun _ _=>fH (d:=9) rfl trivial);simp only[g0,aggL] at qm;exact⟨f,by simp[g0],qm⟩
      | 12,D =>
       cases D;have h8:=cx_sp (d:=2) (hR.c 10 (yf X 10 rfl)) rfl;obtain⟨a8,c8,g8⟩:=h8.2;rw[g8] at h8;have H8:=U h8;clear h8;clear X hR xm xo;go_simp;exact⟨upd f 12 (f 10),by simp[upd,g8],dJ (O xJ) 12 _ (by decide) (fun _=>rfl) (fH (d:=2) rfl (by rw[g8];exact O H8))⟩
      | n+13,D=>simp at D
    ·rintro x md V ⟨f,rfl,hR⟩ hx xY;have xq:=fo xY hx (by kernel_rfl);obtain⟨hE8,a8,c8,e8⟩:=cx_sp (d:=2) (hR.c 12 (xq 12 (by simp))) rfl;have qk:=hR.r (xq 11 (by simp));obtain⟨v4,g5,-,pQ⟩:=cx_sp (d:=1) (hR.c 5 (xq 5 (by simp))) rfl;simp only[g5,aggL] at qk;clear g5;have HO:Hid (ORow V w.heap.size v4 _/\ERow V w.heap.size (.slice a8 _ c8) _):=⟨zR pQ (by omega),zR (e8 ▸ hE8) (by omega)⟩;have xI:Hid (yp w V):=⟨hR.k.os.trans (O uZ).os,hR.k.tape.trans (O uZ).tape,hR.k.output.trans (O uZ).output,yO (O uZ).size hR.k.size,fun k E=>(hR.k.block k (yK E (O uZ).size) (by omega)).trans ((O uZ).block k E)⟩;have d0:V.cell? (Y (w.heap.size+1+1) 0)=some (H next):=qk 0 _ rfl;have d1:V.cell? (Y (w.heap.size+1+1) 1)=some v4:=qk 1 _ rfl;simp only[e8];generalize f 0=w0,f 1=w1,f 2=w2,f 3=w3,f 4=w4,f 5=w5,f 6=w6,f 7=w7,f 8=w8,f 9=w9,f 10=w10;clear hR xq xY hx qk hE8 pQ;go_wp2_with fail
     try simp only[Exit.inBlock,Exit.then]
     refine bodyPost_ret (by simp[results,Tryz.results13,go_sem,d0,d1];try rfl) rfl ?_;obtain⟨rfl,rfl⟩:=O vS;exact⟨_,_,rfl,(O HO).1,(O HO).2,O xI⟩
   ·obtain⟨k,o,hpk,bY⟩:=O HID rfl (by simp);have jY:(plc l ii).toNat=k:=by rw[hpk];rfl
    have xE:l ≠ []:=by rintro rfl;simp at bY
    have bX:=(yH.1 bY).1;have vS:Hid (sN=next/\sE = [⟨7,zCm,ii,0,qt,0,0⟩]):=⟨by rw[O oW,if_neg (fun h=>by have:=h.2;omega)],by rw[O oU,if_pos rfl,if_neg (by omega),if_neg (by omega),if_pos rfl]⟩;have HLD:Hid (l.set k { o with left:=qt } = sL):=by show _ = _;rw[O jV,if_pos rfl,if_neg (by omega),if_neg (by omega),if_pos rfl];simp only[jY,bY]
    have HPK:=U hpk;have HLO:=U bY;clear hpk bY jY oW jV oU HQ HID HK HNS pW cI HNO;obtain⟨g,cp,hv6,xW,hBg,hgw⟩:=iG (O jt) xE;simp only[Value.slice.injEq] at hv6;obtain⟨rfl,-,rfl⟩:=hv6;go_wp2_with fail;refine O xw _ _ ?_;clear xw;go_wp2_with fail;refine(iC _ l ii w2 (zZ (O jt) (by omega))).mono ?_;rw[O HPK];rintro e w3 ⟨rfl,xV⟩;have qO:=U (zn (O jt) xV);have xL:=U (mf (O xz) xV);clear xV z0 z1 y0 y1 y2 y3 y4 y5 y6 y7 qU uZ hRb cN;have qU:=U (zk (O HB).2.2.2.2.1 (O xL) jw);have hRb:w.heap.size+1+1<w3.heap.size:=yK jw (O xL).size;have uZ:=U ((O HB).2.2.2.2.2.trans ((O xL).mono (O HB).2.2.2.2.2.size));have cN:xh.heap.size<=w3.heap.size:=(O xL).size;obtain⟨z0,z1,y0,y1,y2,y3,y4,y5,y6,y7⟩:=O vi w3 (O xL);have xN:=ie (O qO) (by omega) (O HLO);have hkl':(k:Int)<l.length:=by omega
    have pP:(0:Int)<=k:=by omega
    have hgR:g≠w.heap.size+1+1:=by omega
    have hRS:w.heap.size+1+1<xh.heap.size:=jw;have hG3:w3.cell? (Y g (k*6+3))=some (H o.left):=xN.1 3 _ rfl;have hF3:w3.frozen? (Y g (k*6+3))=false:=xN.2 3 (by omega);clear xN;have kT:Hid (ORow (w3.setCell (Y g (k*6+3)) (H qt)) xh.heap.size (.slice (some (Y g 0)) l.length c6) sL):=by have:=(oRow_left (O qO) rfl (O HLO) qt).1;rw[O HLD] at this;exact this
    have xQ:Hid (yp xh (w3.setCell (Y g (k*6+3)) (H qt))):=(O xL).setCell (p:=(Y g (k*6+3))) hBg _;go_wp2_with fail;clear z0 z1 y0 y1 y2 y3 y4 y5 y6 y7 hG3 hF3 qU uZ hRb cN;generalize (w3.setCell (Y g (k*6+3)) (H qt))=w4 at kT xQ |-;have qU:=U (zk (O HB).2.2.2.2.1 (O xQ) jw);have hRb:w.heap.size+1+1<w4.heap.size:=yK jw (O xQ).size;have uZ:=U ((O HB).2.2.2.2.2.trans ((O xQ).mono (O HB).2.2.2.2.2.size));have cN:xh.heap.size<=w4.heap.size:=(O xQ).size;obtain⟨z0,z1,y0,y1,y2,y3,y4,y5,y6,y7⟩:=O vi w4 (O xQ);have HZ0:=U z0;have aS:=U z1;have HY0:=U y0;have HY1:=U y1;have HY2:=U y2;have HY3:=U y3;have ju:=U y4;have HY5:=U y5;have HY6:=U y6;have jE:=U y7;go_wp2_with fail;clear z0 z1 y0 y1 y2 y3 y4 y5 y6 y7;refine zA (RXA (fun f=>{ tmps:=#[.agg #[H next,.slice a l.length cap],.agg (yy 3 s ty li qt ii pr tg).toArray,yq w 0,h3 (w.heap.size+1) 0,h3 (w.heap.size+1+1) 0,f 11,.slice (some (Y g 0)) l.length c6,H 0,H k,M,M,M,M,M,M,M,M,M,.slice (some (yr xh 0)) 0 0,yq w 1,.slice a l.length cap,.slice (some (Y g 0)) l.length c6,.agg #[H next,.slice a l.length cap],.agg (yy 3 s ty li qt ii pr tg).toArray,H 0,H 0,.bool false,M,M,M,M,M,M,M,M,M,.slice (some (Y g 0)) l.length c6,h3 (w.heap.size+1) 5,H ii,H k,h3 (w.heap.size+1) 0,H 3,.bool false,.bool false,M,M,M,M,M,M,M,M,M,M,M,M,M,M,M,M,.bool true,.bool true,.slice (some (Y g 0)) l.length c6,H k,h3 (w.heap.size+1) 4,H qt,h3 g (k*6),h3 g (k*6+3),f 0,f 1,f 2,f 3,f 4,f 5,f 6,f 7,f 8,f 9,M,M,M,M,M,M,M,M,M,M,M,M,M,M,M,M,M,M,M,M,M,M,M,M,M,M,M,M,M,M,M,M,M,M,M,M,M,M,M,M,M,M,M,M,M,M,M,M,M,M,M,M,M,M,M,M,M,M,M,M,M,M,M,M,M,M,M,M,M,M,M,M,M,M,M,M,M,M,M,M,M,M,M,M,M,M,M,M,M,M,M,M,M],defers:=[] }) (CX [yq w 0,H next,.slice (some (Y g 0)) l.length c6,.agg #[H next,.slice (some (Y g 0)) l.length c6],h3 (w.heap.size+1) 5,H ii,h3 (w.heap.size+1) 4,H qt,.agg (yw 7 0 0 0 0 0 0 0 ⟨#[]⟩ ii 0 qt 0 0).toArray,M,M,M] [(9,2),(10,9),(11,2)] (xh.heap.size) (next) (sL) ([⟨7,zCm,ii,0,qt,0,0⟩])) (w.heap.size+1+1) 2 10 (fun f=>aggL (f 3)) w4) (by kernel_rfl) ?_ ?_ ?_
    ·exact⟨fun j=>if j=11 then .slice none 0 0 else M,rfl,rx_start hRb (O qU)⟩
    rotate_left
    ·rintro x md V i op ⟨f,rfl,hR⟩ xo hx D xA X;have xJ:=U hR;have xm:∀(p:Addr) u,w4.cell? p=some u->p.block≠w.heap.size+1+1->V.cell? p=some u:=fun p u hu hp=>kb_cell hR.k hu hp
     match i,D with
      | 0,D =>
       cases D;clear X hR xm xo;go_simp;exact⟨upd f 0 (yq w 0),by simp[upd],dJ (O xJ) 0 _ (by decide) (fun _=>rfl) (dn rfl rfl)⟩
      | 1,D =>
       cases D;have g0:f 0=yq w 0:=dh (hR.c 0 (yf X 0 rfl)) rfl rfl;have z0:=xm (yr w 0) _ (O HZ0) (show w.heap.size≠w.heap.size+1+1 by omega);clear X hR xm xo;go_simp;exact⟨upd f 1 (H next),by simp[upd,g0],dJ (O xJ) 1 _ (by decide) (fun _=>rfl) (dn rfl rfl)⟩
      | 2,D =>
       cases D;clear X hR xm xo;go_simp;exact⟨upd f 2 (.slice (some (Y g 0)) l.length c6),by simp[upd],dJ (O xJ) 2 _ (by decide) (fun _=>rfl) (dn rfl rfl)⟩
      | 3,D =>
       cases D;have g1:f 1=H next:=dh (hR.c 1 (yf X 1 rfl)) rfl rfl;have g2:f 2 = .slice (some (Y g 0)) l.length c6:=dh (hR.c 2 (yf X 2 rfl)) rfl rfl;have hcl0:=xo;clear X hR xm xo;go_simp;exact⟨upd f 3 (.agg #[H next,.slice (some (Y g 0)) l.length c6]),by simp[upd,g1,g2],dJ (O xJ) 3 _ (by decide) (fun h=>by rw[zS hcl0 12 3 10 (by kernel_rfl) hx (by simp) xA] at h;cases h) (dn rfl rfl)⟩
      | 4,D =>
       cases D;clear X hR xm xo;go_simp;exact⟨upd f 4 (h3 (w.heap.size+1) 5),by simp[upd],dJ (O xJ) 4 _ (by decide) (fun _=>rfl) (dn rfl rfl)⟩
      | 5,D =>
       cases D;have g4:f 4=h3 (w.heap.size+1) 5:=dh (hR.c 4 (yf X 4 rfl)) rfl rfl;have y5:=xm (Y (w.heap.size+1) 5) _ (O HY5) (show w.heap.size+1≠w.heap.size+1+1 by omega);clear X hR xm xo;go_simp;exact⟨upd f 5 (H ii),by simp[upd,g4],dJ (O xJ) 5 _ (by decide) (fun _=>rfl) (dn rfl rfl)⟩
      | 6,D =>
       cases D;clear X hR xm xo;go_simp;exact⟨upd f 6 (h3 (w.heap.size+1) 4),by simp[upd],dJ (O xJ) 6 _ (by decide) (fun _=>rfl) (dn rfl rfl)⟩
      | 7,D =>
       cases D;have g6:f 6=h3 (w.heap.size+1) 4:=dh (hR.c 6 (yf X 6 rfl)) rfl rfl;have y4:=xm (Y (w.heap.size+1) 4) _ (O ju) (show w.heap.size+1≠w.heap.size+1+1 by omega);clear X hR xm xo;go_simp;exact⟨upd f 7 (H qt),by simp[upd,g6],dJ (O xJ) 7 _ (by decide) (fun _=>rfl) (dn rfl rfl)⟩
      | 8,D =>
       cases D;have g5:f 5=H ii:=dh (hR.c 5 (yf X 5 rfl)) rfl rfl;have g7:f 7=H qt:=dh (hR.c 7 (yf X 7 rfl)) rfl rfl;clear X hR xm xo;go_simp;exact⟨upd f 8 (.agg (yw 7 0 0 0 0 0 0 0 ⟨#[]⟩ ii 0 qt 0 0).toArray),by simp[upd,g5,g7],dJ (O xJ) 8 _ (by decide) (fun _=>rfl) (dn rfl rfl)⟩
      | 9,D =>
       cases D;have g8:f 8 = .agg (yw 7 0 0 0 0 0 0 0 ⟨#[]⟩ ii 0 qt 0 0).toArray:=dh (hR.c 8 (yf X 8 rfl)) rfl rfl;have cj:=yO cN hR.k.size;clear X hR xm xo;go_simp;exact⟨upd f 9 (.slice (some (yr V 0)) 1 1),by simp[upd,g8],dJ (rx_grow (gS hRS) (O xJ) (mc _ _)) 9 _ (by decide) (fun _=>rfl) (fH (d:=2) rfl ⟨eRow_one V ⟨7,zCm,ii,0,qt,0,0⟩ cj,_,_,rfl⟩)⟩
      | 10,D =>
       cases D;have g0:f 3 = .agg #[H next,.slice (some (Y g 0)) l.length c6]:=dh (hR.c 3 (yf X 3 rfl)) rfl rfl;obtain⟨y0,z0,q0⟩:=zh hR.t (j:=0) (by omega);obtain⟨y1,z1,q1⟩:=zh hR.t (j:=1) (by omega);clear X hR xm xo;go_simp;have qm:=rx_store (gS hRS) (O xJ) xA (by simp[g0,aggL]) (fun _ _=>fH (d:=9) rfl trivial);simp only[g0,aggL] at qm;exact⟨f,by simp[g0],qm⟩
      | 11,D =>
       cases D;have h8:=cx_sp (d:=2) (hR.c 9 (yf X 9 rfl)) rfl;obtain⟨a8,c8,g8⟩:=h8.2;rw[g8] at h8;have H8:=U h8;clear h8;clear X hR xm xo;go_simp;exact⟨upd f 11 (f 9),by simp[upd,g8],dJ (O xJ) 11 _ (by decide) (fun _=>rfl) (fH (d:=2) rfl (by rw[g8];exact O H8))⟩
      | n+12,D=>simp at D
    ·rintro x md V ⟨f,rfl,hR⟩ hx xY;have xq:=fo xY hx (by kernel_rfl);obtain⟨hE8,a8,c8,e8⟩:=cx_sp (d:=2) (hR.c 11 (xq 11 (by simp))) rfl;have qk:=hR.r (xq 10 (by simp));obtain⟨v4,hv4,pQ⟩:∃v4,v4 = .slice (some (Y g 0)) l.length c6/\ORow V xh.heap.size v4 sL:=⟨_,rfl,kb_row (O kT) hR.k hRS⟩;have g3:f 3 = .agg #[H next,.slice (some (Y g 0)) l.length c6]:=dh (hR.c 3 (xq 3 (by simp))) rfl rfl;simp only[g3,aggL] at qk;rw[<- hv4] at qk;clear g3;have HO:Hid (ORow V w.heap.size v4 _/\ERow V w.heap.size (.slice a8 _ c8) _):=⟨zR pQ (by omega),zR (e8 ▸ hE8) (by omega)⟩;have xI:Hid (yp w V):=⟨hR.k.os.trans (O uZ).os,hR.k.tape.trans (O uZ).tape,hR.k.output.trans (O uZ).output,yO (O uZ).size hR.k.size,fun k E=>(hR.k.block k (yK E (O uZ).size) (by omega)).trans ((O uZ).block k E)⟩;have d0:V.cell? (Y (w.heap.size+1+1) 0)=some (H next):=qk 0 _ rfl;have d1:V.cell? (Y (w.heap.size+1+1) 1)=some v4:=qk 1 _ rfl;simp only[e8];generalize f 0=w0,f 1=w1,f 2=w2,f 3=w3,f 4=w4,f 5=w5,f 6=w6,f 7=w7,f 8=w8,f 9=w9;clear hR xq xY hx qk hE8 pQ;go_wp2_with fail
     try simp only[Exit.inBlock,Exit.then]
     refine bodyPost_ret (by simp[results,Tryz.results13,go_sem,d0,d1];try rfl) rfl ?_;obtain⟨rfl,rfl⟩:=O vS;exact⟨_,_,rfl,(O HO).1,(O HO).2,O xI⟩
   ·have vS:Hid (sN=next/\sL=l.filter ndy/\sE=⟨8,zCm,0,0,((l.filter dyB).length:Nat),0,0⟩::(l.filter dyB).map expE):=⟨by rw[O oW,if_neg (fun h=>by have:=h.2;omega)],by rw[O jV,if_pos rfl,if_neg (by omega),if_neg (by omega),if_neg (by omega)],by rw[O oU,if_pos rfl,if_neg (by omega),if_neg (by omega),if_neg (by omega)]⟩;clear oW jV oU HQ HID HK HNS pW cI HNO;go_wp2_with fail;refine O xw _ _ ?_;clear xw;go_wp2_with fail;refine(iC _ l ii w2 (zZ (O jt) (by omega))).mono ?_;generalize plc l ii=pk;rintro e w3 ⟨rfl,xV⟩;have qO:=U (zn (O jt) xV);have xL:=U (mf (O xz) xV);clear xV z0 z1 y0 y1 y2 y3 y4 y5 y6 y7 qU uZ hRb cN;have qU:=U (zk (O HB).2.2.2.2.1 (O xL) jw);have hRb:w.heap.size+1+1<w3.heap.size:=yK jw (O xL).size;have uZ:=U ((O HB).2.2.2.2.2.trans ((O xL).mono (O HB).2.2.2.2.2.size));have cN:xh.heap.size<=w3.heap.size:=(O xL).size;obtain⟨z0,z1,y0,y1,y2,y3,y4,y5,y6,y7⟩:=O vi w3 (O xL);go_wp2_with fail;refine(l04Days_any _ l w3 (zZ (O qO) (by omega)) (by omega)).mono ?_;rintro e w4 ⟨v4,rfl,hI4,xF⟩;obtain⟨ad,cd,hv4⟩:=et hI4;subst hv4;have hnd0:(dys l).length=(l.filter dyB).length:=dysF_lenO l 0;clear hI4;generalize (dys l).length=nd at hnd0 |-;have HND:=U hnd0;have hnd20:nd<=20:=by rw[hnd0];exact yO (List.length_filter_le _ _) hlen20
    clear hnd0;have kT:=U (zn (O qO) xF);have xQ:=U (mf (O xL) xF);clear xF z0 z1 y0 y1 y2 y3 y4 y5 y6 y7;have hsE:=zi w4 (me (yw 8 0 0 0 0 0 0 0 ⟨#[]⟩ 0 0 nd 0 0).toArray 78);have hbE:yp w4 ((w4.alloc (me (yw 8 0 0 0 0 0 0 0 ⟨#[]⟩ 0 0 nd 0 0).toArray 78)).alloc (me #[] 71)):=(mc _ _).alloc (by rw[hsE];omega) _;have HE5:Hid (ERow ((w4.alloc (me (yw 8 0 0 0 0 0 0 0 ⟨#[]⟩ 0 0 nd 0 0).toArray 78)).alloc (me #[] 71)) w4.heap.size (.slice (some (yr w4 0)) 1 1) [⟨8,zCm,0,0,(nd:Int),0,0⟩]):=(eRow_one w4 ⟨8,zCm,0,0,(nd:Int),0,0⟩ yb).alloc _;have HL5:Hid (ORow ((w4.alloc (me (yw 8 0 0 0 0 0 0 0 ⟨#[]⟩ 0 0 nd 0 0).toArray 78)).alloc (me #[] 71)) w4.heap.size (.slice (some (Y (w4.heap.size+1) 0)) 0 0) []):=by have:=World.ownsRow_made (base:=w4.heap.size) (e:=71) (size:=6) (w4.alloc (me (yw 8 0 0 0 0 0 0 0 ⟨#[]⟩ 0 0 nd 0 0).toArray 78)) #[] 0 (by rw[hsE];omega) (by decide) rfl;rw[hsE] at this;exact this
    have pu:=U (zn (O kT) hbE);have uY:=U (mf (O xQ) hbE);have h45:w4.heap.size<=((w4.alloc (me (yw 8 0 0 0 0 0 0 0 ⟨#[]⟩ 0 0 nd 0 0).toArray 78)).alloc (me #[] 71)).heap.size:=hbE.size;have hX4:xh.heap.size<=w4.heap.size:=(O xQ).size;have hO4lt:Hid (∀g,(Value.slice a6 l.length c6).ownBlock=some g->g<w4.heap.size):=fun g F=>((O kT).lt g F).2;clear hsE hbE;have hsf:=sfl;go_wp2_with fail;generalize ((w4.alloc (me (yw 8 0 0 0 0 0 0 0 ⟨#[]⟩ 0 0 nd 0 0).toArray 78)).alloc (me #[] 71))=W5 at HE5 HL5 pu uY h45 |-;go_loopw [11,12,13] (fun evv lfv iv wr=>∃(k:Nat),k<=l.length/\iv=H k/\Hid (ERow wr w4.heap.size evv (⟨8,zCm,0,0,(nd:Int),0,0⟩::((l.take k).filter dyB).map expE)/\ORow wr w4.heap.size lfv ((l.take k).filter ndy)/\ORow wr xh.heap.size (.slice a6 l.length c6) l/\yp xh wr/\w4.heap.size<=wr.heap.size)) (fun _ _ iv _=>l.length-(intOf iv).toNat)
    case atStart=>exact⟨0,Nat.zero_le _,rfl,O HE5,O HL5,O pu,O uY,h45⟩
    case round =>
     obtain⟨k,E,rfl,ue⟩:=hrel
     by_cases xK:k<l.length
     ·obtain⟨o,hko⟩:∃o,l[k]? = some o:=⟨_,yI xK⟩;obtain⟨a',c',e1,_,xo⟩:=zZ (O ue).2.2.1 (by omega);obtain⟨b,off,e2,K,xo⟩:=xo (by rintro rfl;simp at hko);simp only[Value.slice.injEq] at e1;obtain⟨e1,-,-⟩:=e1;rw[e2] at e1;subst e1;have aN:=U (xo k o hko);obtain⟨g0,g1,g2,g3,g4,g5⟩:=zL (xo k o hko);have ux:(k:Int)<l.length:=by omega
      have pP:(0:Int)<=k:=by omega
      have HKO:=U hko;clear xo hko K e2
      by_cases hd:o.life=1
      ·have hbd:(o.life==1)=true:=by simpa using hd
       have uM:=U (take_dy (O HKO) hd);have HNY:=U (take_ny (O HKO) hd);clear hd;go_wp2_with fail;obtain⟨hE,hL,hO,hB9,hs4⟩:=O ue
       have hlev:(⟨8,zCm,0,0,(nd:Int),0,0⟩::((l.take k).filter dyB).map expE:List Ev).length<=100:=by
        have Z:((l.take k).filter dyB).length<=20:=yO (List.length_filter_le _ _) (yO (List.length_take_le _ _) (by omega));simp only[List.length_cons,List.length_map];omega
       have hllf:((l.take k).filter ndy).length<=20:=yO (List.length_filter_le _ _) (yO (List.length_take_le _ _) (by omega));have HNXE:Hid ((⟨8,zCm,0,0,(nd:Int),0,0⟩::((l.take (k+1)).filter dyB).map expE:List Ev)=(⟨8,zCm,0,0,(nd:Int),0,0⟩::((l.take k).filter dyB).map expE) ++ [expE o]):=by show _ = _;rw[O uM,List.map_append];rfl
       have ps:=O HNY;generalize (⟨8,zCm,0,0,(nd:Int),0,0⟩::((l.take k).filter dyB).map expE:List Ev)=evs at hE hlev HNXE;generalize (l.take k).filter ndy=LF at hL hllf ps;have ps:=U ps;have HE:=U hE;have HL:=U hL;have HO:=U hO;have jh:=U hB9;clear hE hL hO hB9 ue;have HG0:=U g0;have uL:=U g3;clear g0 g1 g2 g3 g4 g5;refine zA (RYBA (fun f=>{ tmps:=#[.agg #[H next,.slice a l.length cap],.agg (yy 4 s ty li qt ii pr tg).toArray,yq w 0,h3 (w.heap.size+1) 0,h3 (w.heap.size+1+1) 0,.slice none 0 0,.slice (some (Y b off)) l.length c6,H 0,H pk,M,.slice ad nd cd,f 14,u12,H k,M,M,M,M,.slice (some (yr xh 0)) 0 0,yq w 1,.slice a l.length cap,.slice (some (Y b off)) l.length c6,.agg #[H next,.slice a l.length cap],.agg (yy 4 s ty li qt ii pr tg).toArray,H 0,H 0,.bool false,M,M,M,M,M,M,M,M,M,.slice (some (Y b off)) l.length c6,h3 (w.heap.size+1) 5,H ii,H pk,h3 (w.heap.size+1) 0,H 4,.bool false,.bool false,M,M,M,M,M,M,M,M,M,M,M,M,M,M,M,M,.bool false,.bool false,M,M,M,M,M,M,M,M,M,M,M,M,M,M,M,M,.bool true,.bool true,.slice (some (Y b off)) l.length c6,.slice ad nd cd,.slice ad nd cd,H nd,.agg (yw 8 0 0 0 0 0 0 0 ⟨#[]⟩ 0 0 nd 0 0).toArray,.slice (some (yr w4 0)) 1 1,.slice (some (Y (w4.heap.size+1) 0)) 0 0,H k,.slice (some (Y b off)) l.length c6,H l.length,.bool true,u91,u92,.slice (some (Y b off)) l.length c6,H k,h3 b (off+k*6),h3 b (off+k*6+4),H o.life,.bool true,f 0,f 1,f 2,f 3,f 4,f 5,f 6,f 7,f 8,f 9,f 10,f 11,f 12,f 13,u113,u114,u115,u116,u117,u118,u119,M,M,M,M,M,M,M,M,M,M,M,M,M,M,M,M,M,M,M,M,M,M,M,M,M,M,M,M,M,M,M,M,M,M,M,M,M,M,M,M,M,M,M,M,M,M,M,M,M,M,M],defers:=[] }) (CX [u11,.slice (some (Y b off)) l.length c6,H k,h3 b (off+k*6),h3 b (off+k*6),H o.id,.slice (some (Y b off)) l.length c6,H k,h3 b (off+k*6),h3 b (off+k*6+3),H o.left,.agg (yw 9 0 0 0 0 0 0 0 ⟨#[]⟩ o.id 0 o.left 0 0).toArray,M,M,M] [(12,3)] (w4.heap.size) 0 [] ([expE o])) 13 (u11) (fun f W=>ERow W w4.heap.size (f 13) (evs ++ [expE o])/\ORow W w4.heap.size u12 LF/\ORow W xh.heap.size (.slice (some (Y b off)) l.length c6) l/\yp xh W/\w4.heap.size<=W.heap.size) wr) (by kernel_rfl) ?_ ?_ ?_
       ·exact⟨fun j=>([u99,u100,u101,u102,u103,u104,u105,u106,u107,u108,u109,u110,u111,u112,u11]:List Value)[j]?.getD M,rfl,ry_start (by decide),ryb_start rfl⟩
       rotate_left
       ·rintro x md V i op ⟨f,rfl,hR,hA⟩ xo hx D xA X;have xJ:=U hR;have jq:=U hA;clear hA;have xm:x[13]? = some false->∀(p:Addr) u,wr.cell? p=some u->V.cell? p=some u:=fun hn p u hu=>((hR.b hn).cell (yL wr _ hu)).trans hu
        match i,D with
        | 0,D =>
         cases D;have hn:x[13]? = some false:=zS xo 12 0 13 (by kernel_rfl) hx (by simp) xA;have bP:f 14=u11:=(O jq).2 (zS xo 12 0 14 (by kernel_rfl) hx (by simp) xA);clear X hR xo xm;go_simp;exact⟨upd f 0 u11,by simp[upd,bP],dO (O xJ) 0 _ hn (by decide) (dn rfl rfl),dV _ (O jq) (by decide) (by decide)⟩
        | 1,D =>
         cases D;have hn:x[13]? = some false:=zS xo 12 1 13 (by kernel_rfl) hx (by simp) xA;clear X hR xo xm;go_simp;exact⟨upd f 1 (.slice (some (Y b off)) l.length c6),by simp[upd],dO (O xJ) 1 _ hn (by decide) (dn rfl rfl),dV _ (O jq) (by decide) (by decide)⟩
        | 2,D =>
         cases D;have hn:x[13]? = some false:=zS xo 12 2 13 (by kernel_rfl) hx (by simp) xA;clear X hR xo xm;go_simp;exact⟨upd f 2 (H k),by simp[upd],dO (O xJ) 2 _ hn (by decide) (dn rfl rfl),dV _ (O jq) (by decide) (by decide)⟩
        | 3,D =>
         cases D;have hn:x[13]? = some false:=zS xo 12 3 13 (by kernel_rfl) hx (by simp) xA;have g1:f 1 = .slice (some (Y b off)) l.length c6:=dh (hR.c hn 1 (yf X 1 rfl)) rfl rfl;have g2:f 2=H k:=dh (hR.c hn 2 (yf X 2 rfl)) rfl rfl;clear X hR xo xm;go_simp;exact⟨upd f 3 (h3 b (off+k*6)),by simp[upd,g1,g2],dO (O xJ) 3 _ hn (by decide) (dn rfl rfl),dV _ (O jq) (by decide) (by decide)⟩
        | 4,D =>
         cases D;have hn:x[13]? = some false:=zS xo 12 4 13 (by kernel_rfl) hx (by simp) xA;have g3:f 3=h3 b (off+k*6):=dh (hR.c hn 3 (yf X 3 rfl)) rfl rfl;clear X hR xo xm;go_simp;exact⟨upd f 4 (h3 b (off+k*6)),by simp[upd,g3],dO (O xJ) 4 _ hn (by decide) (dn rfl rfl),dV _ (O jq) (by decide) (by decide)⟩
        | 5,D =>
         cases D;have hn:x[13]? = some false:=zS xo 12 5 13 (by kernel_rfl) hx (by simp) xA;have g4:f 4=h3 b (off+k*6):=dh (hR.c hn 4 (yf X 4 rfl)) rfl rfl;have q0:=xm hn (Y b (off+k*6)) _ (O HG0);clear X hR xo xm;go_simp;exact⟨upd f 5 (H o.id),by simp[upd,g4],dO (O xJ) 5 _ hn (by decide) (dn rfl rfl),dV _ (O jq) (by decide) (by decide)⟩
        | 6,D =>
         cases D;have hn:x[13]? = some false:=zS xo 12 6 13 (by kernel_rfl) hx (by simp) xA;clear X hR xo xm;go_simp;exact⟨upd f 6 (.slice (some (Y b off)) l.length c6),by simp[upd],dO (O xJ) 6 _ hn (by decide) (dn rfl rfl),dV _ (O jq) (by decide) (by decide)⟩
        | 7,D =>
         cases D;have hn:x[13]? = some false:=zS xo 12 7 13 (by kernel_rfl) hx (by simp) xA;clear X hR xo xm;go_simp;exact⟨upd f 7 (H k),by simp[upd],dO (O xJ) 7 _ hn (by decide) (dn rfl rfl),dV _ (O jq) (by decide) (by decide)⟩
        | 8,D =>
         cases D;have hn:x[13]? = some false:=zS xo 12 8 13 (by kernel_rfl) hx (by simp) xA;have g6:f 6 = .slice (some (Y b off)) l.length c6:=dh (hR.c hn 6 (yf X 6 rfl)) rfl rfl;have g7:f 7=H k:=dh (hR.c hn 7 (yf X 7 rfl)) rfl rfl;clear X hR xo xm;go_simp;exact⟨upd f 8 (h3 b (off+k*6)),by simp[upd,g6,g7],dO (O xJ) 8 _ hn (by decide) (dn rfl rfl),dV _ (O jq) (by decide) (by decide)⟩
        | 9,D =>
         cases D;have hn:x[13]? = some false:=zS xo 12 9 13 (by kernel_rfl) hx (by simp) xA;have g8:f 8=h3 b (off+k*6):=dh (hR.c hn 8 (yf X 8 rfl)) rfl rfl;clear X hR xo xm;go_simp;exact⟨upd f 9 (h3 b (off+k*6+3)),by simp[upd,g8],dO (O xJ) 9 _ hn (by decide) (dn rfl rfl),dV _ (O jq) (by decide) (by decide)⟩
        | 10,D =>
         cases D;have hn:x[13]? = some false:=zS xo 12 10 13 (by kernel_rfl) hx (by simp) xA;have g9:f 9=h3 b (off+k*6+3):=dh (hR.c hn 9 (yf X 9 rfl)) rfl rfl;have q3:=xm hn (Y b (off+k*6+3)) _ (O uL);clear X hR xo xm;go_simp;exact⟨upd f 10 (H o.left),by simp[upd,g9],dO (O xJ) 10 _ hn (by decide) (dn rfl rfl),dV _ (O jq) (by decide) (by decide)⟩
        | 11,D =>
         cases D;have hn:x[13]? = some false:=zS xo 12 11 13 (by kernel_rfl) hx (by simp) xA;have g5:f 5=H o.id:=dh (hR.c hn 5 (yf X 5 rfl)) rfl rfl;have kN:f 10=H o.left:=dh (hR.c hn 10 (yf X 10 rfl)) rfl rfl;clear X hR xo xm;go_simp;exact⟨upd f 11 (.agg (yw 9 0 0 0 0 0 0 0 ⟨#[]⟩ o.id 0 o.left 0 0).toArray),by simp[upd,g5,kN],dO (O xJ) 11 _ hn (by decide) (dn rfl rfl),dV _ (O jq) (by decide) (by decide)⟩
        | 12,D =>
         cases D;have hn:x[13]? = some false:=zS xo 12 12 13 (by kernel_rfl) hx (by simp) xA;have jR:f 11 = .agg (yw 9 0 0 0 0 0 0 0 ⟨#[]⟩ o.id 0 o.left 0 0).toArray:=dh (hR.c hn 11 (yf X 11 rfl)) rfl rfl;have cj:=yO hs4 (hR.b hn).size;clear X hR xo xm;go_simp;exact⟨upd f 12 (.slice (some (yr V 0)) 1 1),by simp[upd,jR],dO (ry_grow (cx_monoB (by omega)) (O xJ) hn (mc _ _)) 12 _ hn (by decide) (fH (d:=3) rfl ⟨V.heap.size,rfl,by rw[zi];omega,cj,zm V (expE o).vs _⟩),dV _ (O jq) (by decide) (by decide)⟩
        | 13,D =>
         cases D;have hn:x[13]? = some false:=xA;have g0:f 0=u11:=dh (hR.c hn 0 (yf X 0 rfl)) rfl rfl;obtain⟨qE,ql,oG,_,hr12⟩:=cx_sp (d:=3) (hR.c hn 12 (yf X 12 rfl)) rfl;have bQ:x[14]? = some false:=zS xo 12 13 14 (by kernel_rfl) hx (by simp) xA;have vH:=hR.b hn;have hEV:=zO (O HE) vH;have hLV:=zn (O HL) vH;have hOV:=zn (O HO) vH;have vw:=(O jh).trans (vH.mono (O jh).size);have hsV:=yO hs4 vH.size;rw[if_pos (by rfl)];refine wp_append_own V (.tmp 99) (.tmp 111) 32 rfl w4.heap.size 78 j0 _ 14 120 Tryz.underlying32 ax ph cz hy2 rfl (by decide) u11 evs.length (evs.flatMap Ev.vs) g0 hEV (Y qE 0) 1 1 (expE o).vs ql rfl (fun j u hu=>by rw[Addr.add_mid];exact hr12 j u hu) (one_ev (expE o)) (by unfold maxLen;omega) (by omega) hsV ?_;intro v' w' xu uN _;refine⟨upd f 13 v',rfl,ry_write (O xJ) hn v' ⟨?_,World.ownsRow.kept hLV uN (fg hLV hEV (by decide)),World.ownsRow.kept hOV uN (fg hOV hEV (by decide)),vw.grown uN vw.size (fun g F=>yO hX4 (hEV.lt g F).1),yO hsV uN.size⟩,ryb_write v' (O jq) bQ⟩;rw[show upd f 13 v' 13=v' from zp _ _ _];show w'.ownsRow _ _ _ _ (evs ++ [expE o]).length _;rw[yQ,List.flatMap_append];simpa using xu
        | 14,D =>
         cases D;have hn:x[13]? = some true:=X ⟨13,.data⟩ (by simp) rfl;clear X hR xo xm;go_simp;exact⟨upd f 14 (f 13),by simp[upd],ry_after (O xJ) 14 _ hn (by decide) (fun h=>h),ryb_lay xA⟩
        | n+15,D=>simp at D
       ·rintro x md V ⟨f,rfl,hR,hA⟩ hx xY;have xq:=fo xY hx (by kernel_rfl);have e14:f 14=f 13:=hA.1 (xq 14 (by simp));obtain⟨q1,q2,q3,q4,q5⟩:=hR.m (xq 13 (by simp));rw[<- e14] at q1;have aQ:=U q1;have HQ2:=U q2;have HQ3:=U q3;have aR:=U q4;clear hR hA xq xY hx q1 q2 q3 q4 e14;dsimp only;generalize f 0=w0,f 1=w1,f 2=w2,f 3=w3,f 4=w4,f 5=w5,f 6=w6,f 7=w7,f 8=w8,f 9=w9,f 10=w10,f 11=w11,f 12=w12,f 13=w13;generalize f 14=w14 at aQ |-;go_wp2_with fail
        try dsimp only[H,h3,Y,M,yk,yl,yw,yx,yy,yq,yr,me]
        go_roundw
        case rel=>exact⟨k+1,by omega,by go_num,by rw[O HNXE];exact O aQ,by rw[O ps];exact O HQ2,O HQ3,O aR,q5⟩
        case measure=>simp[intOf];omega
      ·have hbd:(o.life==1)=false:=by rw[xe];exact hd
       have uM:=U (take_no (O HKO) hd);have HNY:=U (take_nd (O HKO) hd);clear hd;obtain⟨hE,hL,hO,hB9,hs4⟩:=O ue
       have hlev:(⟨8,zCm,0,0,(nd:Int),0,0⟩::((l.take k).filter dyB).map expE:List Ev).length<=100:=by
        have Z:((l.take k).filter dyB).length<=20:=yO (List.length_filter_le _ _) (yO (List.length_take_le _ _) (by omega));simp only[List.length_cons,List.length_map];omega
       have hllf:((l.take k).filter ndy).length<=20:=yO (List.length_filter_le _ _) (yO (List.length_take_le _ _) (by omega));have HNXE:Hid ((⟨8,zCm,0,0,(nd:Int),0,0⟩::((l.take (k+1)).filter dyB).map expE:List Ev)=(⟨8,zCm,0,0,(nd:Int),0,0⟩::((l.take k).filter dyB).map expE)):=by show _ = _;rw[O uM]
       have ps:=O HNY;generalize (⟨8,zCm,0,0,(nd:Int),0,0⟩::((l.take k).filter dyB).map expE:List Ev)=evs at hE hlev HNXE;generalize (l.take k).filter ndy=LF at hL hllf ps;have ps:=U ps;have HE:=U hE;have HL:=U hL;have HO:=U hO;have jh:=U hB9;clear hE hL hO hB9 ue;have HLA:=U ((O HL).alloc (me (yx o.id o.side o.ticks o.left o.life o.tag).toArray 71));have qH:Hid (yp wr (wr.alloc (me (yx o.id o.side o.ticks o.left o.life o.tag).toArray 71))):=mc _ _;go_wp2_with (at_builtin;go_must (refine wpList_append_own _ rfl _ _ 29 rfl w4.heap.size 71 i0 _ 6 56 Tryz.underlying29 uo ub xX uh rfl (by decide) u12 LF.length (LF.flatMap Od.vs) rfl (O HLA) (yr wr 0) 1 1 o.vs rfl rfl (cellsQ wr o.vs 71) (one_od o) (by unfold maxLen;omega) (by omega) (yO hs4 (O qH).size) ?_);intro v5 w5 vA vR _;have pu:=U vA;have uE:=U vR;clear vA vR)
       have HN:Hid (ERow w5 w4.heap.size u11 evs/\ORow w5 w4.heap.size v5 (LF ++ [o])/\ORow w5 xh.heap.size (.slice (some (Y b off)) l.length c6) l/\yp xh w5/\w4.heap.size<=w5.heap.size):=by
        have hEA:=zO (O HE) (O qH);have hOA:=zn (O HO) (O qH);have hBA:=(O jh).trans ((O qH).mono (O jh).size);refine⟨World.ownsRow.kept hEA (O uE) (fg hEA (O HLA) (by decide)),?_,World.ownsRow.kept hOA (O uE) (.inr fun e=>?_),hBA.grown (O uE) hBA.size (fun g F=>yO hX4 ((O HLA).lt g F).1),yO hs4 (yO (O qH).size (O uE).size)⟩
        ·show w5.ownsRow _ _ _ _ (LF ++ [o]).length _;rw[yQ,List.flatMap_append];simpa using O pu
        ·have Z:=O hO4lt b rfl;have Q:=((O HLA).lt b e.symm).1;omega
       clear pu uE;go_wp2_with fail
       try dsimp only[H,h3,Y,M,yk,yl,yw,yx,yy,yq,yr,me]
       go_roundw
       case rel=>exact⟨k+1,by omega,by go_num,by rw[O HNXE];exact(O HN).1,by rw[O ps];exact(O HN).2.1,(O HN).2.2.1,(O HN).2.2.2.1,(O HN).2.2.2.2⟩
       case measure=>simp[intOf];omega
     ·obtain rfl:k=l.length:=by omega
      have ux:¬ (l.length:Int)<l.length:=by omega
      obtain⟨hE,hL,hO,hB9,hs4⟩:=O ue;rw[xa yb] at hE hL;have HSL9:Hid (sL=l.filter ndy):=(O vS).2.1;generalize l.filter ndy=LF at hL HSL9;obtain⟨al,cl,hv⟩:=et hL;subst hv;obtain⟨z0,z1,y0,y1,y2,y3,y4,y5,y6,y7⟩:=O vi wr hB9;have qV:=zk (O HB).2.2.2.2.1 hB9 jw;obtain⟨p0,x0,f0⟩:=zh qV (j:=0) (by omega);obtain⟨p1,x1,f1⟩:=zh qV (j:=1) (by omega);have cM:=(O HB).2.2.2.2.2.trans (hB9.mono (O HB).2.2.2.2.2.size);have HWF:Hid (yp w ((wr.setCell (Y (w.heap.size+1+1) 0) (H next)).setCell (Y (w.heap.size+1+1) 1) (.slice al LF.length cl))):=(cM.setCell (p:=(Y (w.heap.size+1+1) 0)) (show w.heap.size<=w.heap.size+1+1 by omega) _).setCell (p:=(Y (w.heap.size+1+1) 1)) (show w.heap.size<=w.heap.size+1+1 by omega) _;have vm:w.heap.size+1+1<w4.heap.size:=by omega
      have HEF:Hid (ERow ((wr.setCell (Y (w.heap.size+1+1) 0) (H next)).setCell (Y (w.heap.size+1+1) 1) (.slice al LF.length cl)) w.heap.size u11 _):=zR (gf (gf hE vm 0 _) vm 1 _) (by omega);have HLF:Hid (ORow ((wr.setCell (Y (w.heap.size+1+1) 0) (H next)).setCell (Y (w.heap.size+1+1) 1) (.slice al LF.length cl)) w.heap.size (.slice al LF.length cl) LF):=zR (eU (eU hL vm 0 _) vm 1 _) (by omega);have d0:((wr.setCell (Y (w.heap.size+1+1) 0) (H next)).setCell (Y (w.heap.size+1+1) 1) (.slice al LF.length cl)).cell? (Y (w.heap.size+1+1) 0)=some (H next):=(yM _ _ _ _ (zV (by decide))).trans (yN _ _ _ x0);have d1:((wr.setCell (Y (w.heap.size+1+1) 0) (H next)).setCell (Y (w.heap.size+1+1) 1) (.slice al LF.length cl)).cell? (Y (w.heap.size+1+1) 1)=some (.slice al LF.length cl):=yN _ _ _ ((yM _ _ _ _ (zV (by decide))).trans x1);have oD:=U d0;have ji:=U d1;clear hE hL hO hB9 ue qV cM d0 d1 y0 y1 y2 y3 y4 y5 y6 y7;go_wp2_with fail;have d0:=O oD;have d1:=O ji
      try simp only[Exit.inBlock,Exit.then]
      refine bodyPost_ret (by simp[results,Tryz.results13,go_sem,d0,d1];try rfl) rfl ?_;obtain⟨rfl,-,ot⟩:=O vS;rw[<- O HND] at ot;have oL:=O HSL9;subst oL ot;exact⟨_,_,rfl,O HLF,O HEF,O HWF⟩
  ·have hrr0:=hrr;have oo:(rr==0)=false:=by rw[xe];exact hrr
   have vS:Hid (sN=next/\sL=l/\sE = [⟨2,⟨kk,s,ty,li,qt,ii,pr,cutB tg⟩,0,0,0,0,rr⟩]):=⟨by rw[O oW,if_neg (fun h=>hrr h.1)],by rw[O jV,if_neg hrr],by rw[O oU,if_neg hrr]⟩;clear hrr hrr0 oW jV oU HQ HID HK HNS pW cI;have HZ0:=U z0;have aS:=U z1;have HY0:=U y0;have HY1:=U y1;have HY2:=U y2;have HY3:=U y3;have ju:=U y4;have HY5:=U y5;have HY6:=U y6;have jE:=U y7;have hRS:w.heap.size+1+1<xh.heap.size:=jw;go_wp2_with fail;clear z0 z1 y0 y1 y2 y3 y4 y5 y6 y7;refine zA (RXA (fun f=>{ tmps:=#[.agg #[H next,.slice a l.length cap],.agg (yy kk s ty li qt ii pr tg).toArray,yq w 0,h3 (w.heap.size+1) 0,h3 (w.heap.size+1+1) 0,f 10,.slice a6 l.length c6,H rr,M,M,M,M,M,M,M,M,M,M,.slice (some (yr xh 0)) 0 0,yq w 1,.slice a l.length cap,.slice a6 l.length c6,.agg #[H next,.slice a l.length cap],.agg (yy kk s ty li qt ii pr tg).toArray,H rr,H rr,.bool (rr != 0),f 0,f 1,f 2,f 3,f 4,f 5,f 6,f 7,f 8,M,M,M,M,M,M,M,M,M,M,M,M,M,M,M,M,M,M,M,M,M,M,M,M,M,M,M,M,M,M,M,M,M,M,M,M,M,M,M,M,M,M,M,M,M,M,M,M,M,M,M,M,M,M,M,M,M,M,M,M,M,M,M,M,M,M,M,M,M,M,M,M,M,M,M,M,M,M,M,M,M,M,M,M,M,M,M,M,M,M,M,M,M,M,M,M,M,M,M,M,M,M,M,M,M,M,M,M,M,M,M,M,M,M,M,M,M,M,M,M,M,M,M,M,M,M,M,M,M,M,M,M,M,M,M],defers:=[] }) (CX [yq w 0,H next,.slice a6 l.length c6,.agg #[H next,.slice a6 l.length c6],.agg (yy kk s ty li qt ii pr tg).toArray,.agg (yy kk s ty li qt ii pr (cutB tg)).toArray,H rr,.agg (yw 2 kk s ty li qt ii pr (cutB tg) 0 0 0 0 rr).toArray,M,M,M] [(8,2),(9,9),(10,2)] (xh.heap.size) (next) (l) ([⟨2,⟨kk,s,ty,li,qt,ii,pr,cutB tg⟩,0,0,0,0,rr⟩])) (w.heap.size+1+1) 2 9 (fun f=>aggL (f 3)) w2) (by kernel_rfl) ?_ ?_ ?_
   ·exact⟨fun j=>if j=10 then .slice none 0 0 else M,rfl,rx_start hRb (O qU)⟩
   rotate_left
   ·rintro x md V i op ⟨f,rfl,hR⟩ xo hx D xA X;have xJ:=U hR;have xm:∀(p:Addr) u,w2.cell? p=some u->p.block≠w.heap.size+1+1->V.cell? p=some u:=fun p u hu hp=>kb_cell hR.k hu hp
    match i,D with
    | 0,D =>
     cases D;clear X hR xm xo;go_simp;exact⟨upd f 0 (yq w 0),by simp[upd],dJ (O xJ) 0 _ (by decide) (fun _=>rfl) (dn rfl rfl)⟩
    | 1,D =>
     cases D;have g0:f 0=yq w 0:=dh (hR.c 0 (yf X 0 rfl)) rfl rfl;have z0:=xm (yr w 0) _ (O HZ0) (show w.heap.size≠w.heap.size+1+1 by omega);clear X hR xm xo;go_simp;exact⟨upd f 1 (H next),by simp[upd,g0],dJ (O xJ) 1 _ (by decide) (fun _=>rfl) (dn rfl rfl)⟩
    | 2,D =>
     cases D;clear X hR xm xo;go_simp;exact⟨upd f 2 (.slice a6 l.length c6),by simp[upd],dJ (O xJ) 2 _ (by decide) (fun _=>rfl) (dn rfl rfl)⟩
    | 3,D =>
     cases D;have g1:f 1=H next:=dh (hR.c 1 (yf X 1 rfl)) rfl rfl;have g2:f 2 = .slice a6 l.length c6:=dh (hR.c 2 (yf X 2 rfl)) rfl rfl;have hcl0:=xo;clear X hR xm xo;go_simp;exact⟨upd f 3 (.agg #[H next,.slice a6 l.length c6]),by simp[upd,g1,g2],dJ (O xJ) 3 _ (by decide) (fun h=>by rw[zS hcl0 12 3 9 (by kernel_rfl) hx (by simp) xA] at h;cases h) (dn rfl rfl)⟩
    | 4,D =>
     cases D;have y0:=xm (Y (w.heap.size+1) 0) _ (O HY0) (show w.heap.size+1≠w.heap.size+1+1 by omega);have y1:=xm (Y (w.heap.size+1) 1) _ (O HY1) (show w.heap.size+1≠w.heap.size+1+1 by omega);have y2:=xm (Y (w.heap.size+1) 2) _ (O HY2) (show w.heap.size+1≠w.heap.size+1+1 by omega);have y3:=xm (Y (w.heap.size+1) 3) _ (O HY3) (show w.heap.size+1≠w.heap.size+1+1 by omega);have y4:=xm (Y (w.heap.size+1) 4) _ (O ju) (show w.heap.size+1≠w.heap.size+1+1 by omega);have y5:=xm (Y (w.heap.size+1) 5) _ (O HY5) (show w.heap.size+1≠w.heap.size+1+1 by omega);have y6:=xm (Y (w.heap.size+1) 6) _ (O HY6) (show w.heap.size+1≠w.heap.size+1+1 by omega);have y7:=xm (Y (w.heap.size+1) 7) _ (O jE) (show w.heap.size+1≠w.heap.size+1+1 by omega);clear X hR xm xo;go_simp;exact⟨upd f 4 (.agg (yy kk s ty li qt ii pr tg).toArray),by simp[upd],dJ (O xJ) 4 _ (by decide) (fun _=>rfl) (dn rfl rfl)⟩
    | 5,D =>
     cases D;have g4:f 4 = .agg (yy kk s ty li qt ii pr tg).toArray:=dh (hR.c 4 (yf X 4 rfl)) rfl rfl;clear X hR xo xm;go_simp;refine(O HNO V).mono ?_;rintro e w4 ⟨rfl,xF⟩;exact⟨upd f 5 (.agg (yy kk s ty li qt ii pr (cutB tg)).toArray),by simp[upd,g4],dJ (rx_grow (gS hRS) (O xJ) xF) 5 _ (by decide) (fun _=>rfl) (dn rfl rfl)⟩
    | 6,D =>
     cases D;clear X hR xm xo;go_simp;exact⟨upd f 6 (H rr),by simp[upd],dJ (O xJ) 6 _ (by decide) (fun _=>rfl) (dn rfl rfl)⟩
    | 7,D =>
     cases D;have g5:f 5 = .agg (yy kk s ty li qt ii pr (cutB tg)).toArray:=dh (hR.c 5 (yf X 5 rfl)) rfl rfl;have g6:f 6=H rr:=dh (hR.c 6 (yf X 6 rfl)) rfl rfl;clear X hR xm xo;go_simp;exact⟨upd f 7 (.agg (yw 2 kk s ty li qt ii pr (cutB tg) 0 0 0 0 rr).toArray),by simp[upd,g5,g6],dJ (O xJ) 7 _ (by decide) (fun _=>rfl) (dn rfl rfl)⟩
    | 8,D =>
     cases D;have g7:f 7 = .agg (yw 2 kk s ty li qt ii pr (cutB tg) 0 0 0 0 rr).toArray:=dh (hR.c 7 (yf X 7 rfl)) rfl rfl;have cj:=yO cN hR.k.size;clear X hR xm xo;go_simp;exact⟨upd f 8 (.slice (some (yr V 0)) 1 1),by simp[upd,g7],dJ (rx_grow (gS hRS) (O xJ) (mc _ _)) 8 _ (by decide) (fun _=>rfl) (fH (d:=2) rfl ⟨eRow_one V ⟨2,⟨kk,s,ty,li,qt,ii,pr,cutB tg⟩,0,0,0,0,rr⟩ cj,_,_,rfl⟩)⟩
    | 9,D =>
     cases D;have g0:f 3 = .agg #[H next,.slice a6 l.length c6]:=dh (hR.c 3 (yf X 3 rfl)) rfl rfl;obtain⟨y0,z0,q0⟩:=zh hR.t (j:=0) (by omega);obtain⟨y1,z1,q1⟩:=zh hR.t (j:=1) (by omega);clear X hR xm xo;go_simp;have qm:=rx_store (gS hRS) (O xJ) xA (by simp[g0,aggL]) (fun _ _=>fH (d:=9) rfl trivial);simp only[g0,aggL] at qm;exact⟨f,by simp[g0],qm⟩
    | 10,D =>
     cases D;have h8:=cx_sp (d:=2) (hR.c 8 (yf X 8 rfl)) rfl;obtain⟨a8,c8,g8⟩:=h8.2;rw[g8] at h8;have H8:=U h8;clear h8;clear X hR xm xo;go_simp;exact⟨upd f 10 (f 8),by simp[upd,g8],dJ (O xJ) 10 _ (by decide) (fun _=>rfl) (fH (d:=2) rfl (by rw[g8];exact O H8))⟩
    | n+11,D=>simp at D
   ·rintro x md V ⟨f,rfl,hR⟩ hx xY;have xq:=fo xY hx (by kernel_rfl);obtain⟨hE8,a8,c8,e8⟩:=cx_sp (d:=2) (hR.c 10 (xq 10 (by simp))) rfl;have qk:=hR.r (xq 9 (by simp));obtain⟨v4,hv4,pQ⟩:∃v4,v4 = .slice a6 l.length c6/\ORow V xh.heap.size v4 l:=⟨_,rfl,kb_row (O jt) hR.k hRS⟩;have g3:f 3 = .agg #[H next,.slice a6 l.length c6]:=dh (hR.c 3 (xq 3 (by simp))) rfl rfl;simp only[g3,aggL] at qk;rw[<- hv4] at qk;clear g3;have HO:Hid (ORow V w.heap.size v4 _/\ERow V w.heap.size (.slice a8 _ c8) _):=⟨zR pQ (by omega),zR (e8 ▸ hE8) (by omega)⟩;have xI:Hid (yp w V):=⟨hR.k.os.trans (O uZ).os,hR.k.tape.trans (O uZ).tape,hR.k.output.trans (O uZ).output,yO (O uZ).size hR.k.size,fun k E=>(hR.k.block k (yK E (O uZ).size) (by omega)).trans ((O uZ).block k E)⟩;have d0:V.cell? (Y (w.heap.size+1+1) 0)=some (H next):=qk 0 _ rfl;have d1:V.cell? (Y (w.heap.size+1+1) 1)=some v4:=qk 1 _ rfl;simp only[e8];generalize f 0=w0,f 1=w1,f 2=w2,f 3=w3,f 4=w4,f 5=w5,f 6=w6,f 7=w7,f 8=w8;clear hR xq xY hx qk hE8 pQ;go_wp2_with fail
    try simp only[Exit.inBlock,Exit.then]
    refine bodyPost_ret (by simp[results,Tryz.results13,go_sem,d0,d1];try rfl) rfl ?_;obtain⟨rfl,rfl,rfl⟩:=O vS;exact⟨_,_,rfl,(O HO).1,(O HO).2,O xI⟩
 rcases O qJ with hs|⟨ad,nn,cc,hs⟩
 ·simp only[Value.slice.injEq] at hs;obtain⟨rfl,oJ,rfl⟩:=hs;obtain rfl:=List.length_eq_zero_iff.1 oJ;obtain⟨z0,z1,y0,y1,y2,y3,y4,y5,y6,y7⟩:=O vi xh (Below.refl _ _);have bB:=U (World.ownsRow_made (base:=xh.heap.size) (e:=71) (size:=6) xh #[] 0 yb (by decide) rfl);have hzX:World.cell? (xh.alloc (me #[] 71)) (yr w 1)=some (.slice none 0 0):=(O vi _ (mc _ _)).2.1;have HT':=U HT;clear HT hK;go_wp2_with (at_builtin;go_must (refine wpList_append_own_none rfl _ _ 29 rfl xh.heap.size 71 i0 6 Tryz.underlying29 uo (.slice (some (yr xh 0)) 0 0) 0 [] rfl (O bB) rfl ?_));exact O HT' _ _ _ (O bB) (mc _ _)
 ·simp only[Value.slice.injEq] at hs;obtain⟨rfl,rfl,rfl⟩:=hs;obtain⟨z0,z1,y0,y1,y2,y3,y4,y5,y6,y7⟩:=O vi xh (Below.refl _ _);have HBX0:Hid (yp xh (xh.alloc (me #[] 71))):=mc _ _;have bB:=U (World.ownsRow_made (base:=xh.heap.size) (e:=71) (size:=6) xh #[] 0 yb (by decide) rfl);have hzX:World.cell? (xh.alloc (me #[] 71)) (yr w 1)=some (.slice (some ad) l.length cap):=(O vi _ (O HBX0)).2.1;have uk:Hid (∀j u,(l.flatMap Od.vs)[j]? = some u->World.cell? (xh.alloc (me #[] 71)) (ad.add j)=some u):=rd_src (zq (O HR) ((O HB).2.2.2.2.2.trans ((O HBX0).mono (O HB).2.2.2.2.2.size)) yb);have HT':=U HT;clear HT hK;go_wp2_with (at_builtin;go_must (refine wpList_append_own _ rfl _ _ 29 rfl xh.heap.size 71 i0 _ 6 56 Tryz.underlying29 uo ub xX uh rfl (by decide) (.slice (some (yr xh 0)) 0 0) 0 [] rfl (O bB) ad l.length cap (l.flatMap Od.vs) rfl (by rw[dT Od.len]) (O uk) (fQ l) (by unfold maxLen;omega) (by omega) (O HBX0).size ?_);intro v1 w1 aB oh _;have kc:=U aB;have kQ:=U oh;clear aB oh)
  have HOO:Hid (ORow w1 xh.heap.size v1 l):=by
   show w1.ownsRow _ _ _ _ l.length _;simpa using O kc
  obtain⟨a6,c6,hv⟩:=et (O HOO);subst hv;exact O HT' _ _ _ (O HOO) ((O HBX0).grown (O kQ) (O HBX0).size (fun k E=>((O bB).lt k E).1))
theorem specStepBook_any (next:Int)(vb:Value)(l:List Od)(c:Cm)(w:World)(hr:RdR Od.vs 6 w vb l)(hs:SlOk vb)(hgt:∀o∈l,o.tag.size<=maxLen)(ht:c.g.size<=maxLen) :
  Calls Tryz.prog 7 #[.agg #[H next,vb],cmV c] w fun e w'=>∃vq vg,e=yn (.tuple #[.agg #[H (spN next l c),vq],vg,H (reaC next l)])/\ORow w' w.heap.size vq (spL next l c)/\ERow w' w.heap.size vg (spE next l c)/\yp w w':=by
 have HR:=U hr;have qJ:=U hs;have HGT:=U hgt;have pX:=U ht;obtain⟨a,cap,rfl,xC,hc⟩:=hr;clear hc hs hgt ht xC;have HDO:=U (fun(uA:okS next l=true) (W:World) hW=>l04Step_any next (.slice a l.length cap) l c W hW (O qJ) (okS_good uA).1 (okS_sides uA) (okS_good uA).2.1 (okS_good uA).2.2 (O pX));have oW:Hid (spN next l c=if okS next l=true then stN next l c else 0):=rfl
 have HSL2:Hid (spL next l c=if okS next l=true then stL next l c else[]):=rfl
 have oU:Hid (spE next l c=if okS next l=true then stE next l c else[]):=rfl
 have ul:Hid (reaC next l=if okS next l=true then 0 else 1):=rfl
 obtain⟨kk,s,ty,li,qt,ii,pr,tg⟩:=c;generalize spN next l ⟨kk,s,ty,li,qt,ii,pr,tg⟩=sN at oW |-;generalize spL next l ⟨kk,s,ty,li,qt,ii,pr,tg⟩=sL at HSL2 |-;generalize spE next l ⟨kk,s,ty,li,qt,ii,pr,tg⟩=sE at oU |-;generalize reaC next l=sC at ul |-;generalize stN next l ⟨kk,s,ty,li,qt,ii,pr,tg⟩=tN at oW HDO;generalize stL next l ⟨kk,s,ty,li,qt,ii,pr,tg⟩=tL at HSL2 HDO;generalize stE next l ⟨kk,s,ty,li,qt,ii,pr,tg⟩=tE at oU HDO;unfold cmV at HDO |-;simp only at HDO pX |-;have HB:=U (box3 w [H next,.slice a l.length cap] (yy kk s ty li qt ii pr tg) [H 0,.slice none 0 0] 31 37 31);go_enter Tryz.func7,Tryz.ntmps7;refine mg fun hb xw=>?_;go_wp2_with fail;refine O xw _ _ ?_;clear xw;change Hid ((((w.alloc (me #[H next,.slice a l.length cap] 31)).alloc (me (yy kk s ty li qt ii pr tg).toArray 37)).alloc (me #[H 0,.slice none 0 0] 31)).heap.size=w.heap.size+3/\World.rangeAt (((w.alloc (me #[H next,.slice a l.length cap] 31)).alloc (me (yy kk s ty li qt ii pr tg).toArray 37)).alloc (me #[H 0,.slice none 0 0] 31)) w.heap.size 0 [H next,.slice a l.length cap]/\World.rangeAt (((w.alloc (me #[H next,.slice a l.length cap] 31)).alloc (me (yy kk s ty li qt ii pr tg).toArray 37)).alloc (me #[H 0,.slice none 0 0] 31)) (w.heap.size+1) 0 (yy kk s ty li qt ii pr tg)/\World.rangeAt (((w.alloc (me #[H next,.slice a l.length cap] 31)).alloc (me (yy kk s ty li qt ii pr tg).toArray 37)).alloc (me #[H 0,.slice none 0 0] 31)) (w.heap.size+1+1) 0 [H 0,.slice none 0 0]/\World.there (((w.alloc (me #[H next,.slice a l.length cap] 31)).alloc (me (yy kk s ty li qt ii pr tg).toArray 37)).alloc (me #[H 0,.slice none 0 0] 31)) (w.heap.size+1+1) 0 2/\yp w (((w.alloc (me #[H next,.slice a l.length cap] 31)).alloc (me (yy kk s ty li qt ii pr tg).toArray 37)).alloc (me #[H 0,.slice none 0 0] 31))) at HB;generalize (((w.alloc (me #[H next,.slice a l.length cap] 31)).alloc (me (yy kk s ty li qt ii pr tg).toArray 37)).alloc (me #[H 0,.slice none 0 0] 31))=xh at HB |-
 have vi:Hid (∀W:World,yp xh W->W.cell? (yr w 0)=some (H next)/\W.cell? (yr w 1)=some (.slice a l.length cap)/\W.cell? (Y (w.heap.size+1) 0)=some (H kk)/\W.cell? (Y (w.heap.size+1) 1)=some (H s)/\W.cell? (Y (w.heap.size+1) 2)=some (H ty)/\W.cell? (Y (w.heap.size+1) 3)=some (H li)/\W.cell? (Y (w.heap.size+1) 4)=some (H qt)/\W.cell? (Y (w.heap.size+1) 5)=some (H ii)/\W.cell? (Y (w.heap.size+1) 6)=some (yk pr)/\W.cell? (Y (w.heap.size+1) 7)=some (yl tg)):=fun W hW =>
  have p:=zf (O HB).2.1 hW (by have:=(O HB).1;omega);have q:=zf (O HB).2.2.1 hW (by have:=(O HB).1;omega)
  ⟨p 0 _ rfl,p 1 _ rfl,q 0 _ rfl,q 1 _ rfl,q 2 _ rfl,q 3 _ rfl,q 4 _ rfl,q 5 _ rfl,q 6 _ rfl,q 7 _ rfl⟩
 obtain⟨z0,z1,y0,y1,y2,y3,y4,y5,y6,y7⟩:=O vi xh (Below.refl _ _);refine mg fun hb xw=>?_;go_wp2_with fail;refine(specBookOK_any next _ l xh (zq (O HR) (O HB).2.2.2.2.2 yb) (O HGT)).mono ?_;rintro e w3 ⟨rfl,xV⟩;have xL:=U xV;clear xV z0 z1 y0 y1 y2 y3 y4 y5 y6 y7;have jw:w.heap.size+1+1<xh.heap.size:=by have:=(O HB).1;omega
 cases uA:okS next l
 ·have HK:Hid (sN=0/\sL = []/\sE = []/\sC=1):=⟨by rw[O oW,uA];rfl,by rw[O HSL2,uA];rfl,by rw[O oU,uA];rfl,by rw[O ul,uA];rfl⟩;have oz:=mc w3 (me #[] 78);have xQ:=U (mf (O xL) oz);have jQ:=U (zk (O HB).2.2.2.2.1 (O xQ) jw);have jP:=U (zf (O HB).2.2.2.1 (O xQ) jw);have HEA:Hid (ERow (w3.alloc (me #[] 78)) w.heap.size (.slice (some (yr w3 0)) 0 0) []):=World.ownsRow_made w3 #[] 0 (by have:=(O HB).2.2.2.2.2.size;have:=(O xL).size;omega) (by decide) rfl;have x0:World.cell? (w3.alloc (me #[] 78)) (Y (w.heap.size+1+1) 0)=some (H 0):=O jP 0 _ rfl;have x1:World.cell? (w3.alloc (me #[] 78)) (Y (w.heap.size+1+1) 1)=some (.slice none 0 0):=O jP 1 _ rfl;have q0:World.frozen? (w3.alloc (me #[] 78)) (Y (w.heap.size+1+1) 0)=false:=(O jQ 0 (by omega)).2;have q1:World.frozen? (w3.alloc (me #[] 78)) (Y (w.heap.size+1+1) 1)=false:=(O jQ 1 (by omega)).2;have hne3:some (w.heap.size+1+1)≠(Value.slice (some (yr w3 0)) 0 0).ownBlock:=by simp only[Value.ownBlock,ne_eq,Option.some.injEq];have:=(O xL).size;omega
  have HEF:Hid (ERow (((w3.alloc (me #[] 78)).setCell (Y (w.heap.size+1+1) 0) (H 0)).setCell (Y (w.heap.size+1+1) 1) (.slice none 0 0)) w.heap.size (.slice (some (yr w3 0)) 0 0) []):=zX (zX (O HEA) hne3 0 _) hne3 1 _;have HW:Hid (yp w (((w3.alloc (me #[] 78)).setCell (Y (w.heap.size+1+1) 0) (H 0)).setCell (Y (w.heap.size+1+1) 1) (.slice none 0 0))):=(((O HB).2.2.2.2.2.trans ((O xQ).mono (O HB).2.2.2.2.2.size)).setCell (p:=(Y (w.heap.size+1+1) 0)) (show w.heap.size<=w.heap.size+1+1 by omega) _).setCell (p:=(Y (w.heap.size+1+1) 1)) (show w.heap.size<=w.heap.size+1+1 by omega) _;have oD:Hid ((((w3.alloc (me #[] 78)).setCell (Y (w.heap.size+1+1) 0) (H 0)).setCell (Y (w.heap.size+1+1) 1) (.slice none 0 0)).cell? (Y (w.heap.size+1+1) 0)=some (H 0)):=(yM _ _ _ _ (zV (by decide))).trans (yN _ _ _ x0);have ji:Hid ((((w3.alloc (me #[] 78)).setCell (Y (w.heap.size+1+1) 0) (H 0)).setCell (Y (w.heap.size+1+1) 1) (.slice none 0 0)).cell? (Y (w.heap.size+1+1) 1)=some (.slice none 0 0)):=yN _ _ _ ((yM _ _ _ _ (zV (by decide))).trans x1);clear uA oW HSL2 oU ul HDO oz hne3;go_wp2_with fail;have d0:=O oD;have d1:=O ji
  try simp only[Exit.inBlock,Exit.then]
  refine bodyPost_ret (by simp[results,Tryz.results7,go_sem,d0,d1];try rfl) rfl ?_;obtain⟨rfl,rfl,rfl,rfl⟩:=O HK;exact⟨_,_,rfl,World.ownsRow_nil _ _ _ _,O HEF,O HW⟩
 have HK:Hid (sN=tN/\sL=tL/\sE=tE/\sC=0):=⟨by rw[O oW,if_pos uA],by rw[O HSL2,if_pos uA],by rw[O oU,if_pos uA],by rw[O ul,if_pos uA]⟩;have HDO1:=U (O HDO uA);have ay:=(okS_good uA).1.len;clear uA oW HSL2 oU ul HDO;obtain⟨z0,z1,y0,y1,y2,y3,y4,y5,y6,y7⟩:=O vi w3 (O xL);go_wp2_with fail;refine O xw _ _ ?_;clear xw;refine mg fun hb xw=>?_;go_wp2_with fail;refine(O HDO1 w3 (zq (O HR) ((O HB).2.2.2.2.2.trans ((O xL).mono (O HB).2.2.2.2.2.size)) yb)).mono ?_;rintro e w4 ⟨vq4,vg4,rfl,hq4,jH,xF⟩;obtain⟨aq,cq,rfl⟩:=et hq4;obtain⟨ag,cg,rfl⟩:=et jH;have oz:=mc w4 (me #[H tN,.slice aq tL.length cq] 31);have qH:=U ((O xL).trans ((mf xF oz).mono (O xL).size));have aR:=U (zn hq4 oz);have uX:=U (zO jH oz);have I:w.heap.size+1+1<w3.heap.size:=yK jw (O xL).size;have qU:=U (zk (O HB).2.2.2.2.1 (O qH) jw);have vv:Hid (World.rangeAt (w4.alloc (me #[H tN,.slice aq tL.length cq] 31)) w4.heap.size 0 [H tN,.slice aq tL.length cq]):=zm w4 [H tN,.slice aq tL.length cq] _;clear oz xF hq4 jH z0 z1 y0 y1 y2 y3 y4 y5 y6 y7;go_wp2_with fail;refine O xw _ _ ?_;clear xw;generalize hWW:(w4.alloc (me #[H tN,.slice aq tL.length cq] 31))=ya at qH aR uX qU vv |-;clear hWW;obtain⟨p0,x0,f0⟩:=zh (O qU) (j:=0) (by omega);obtain⟨p1,x1,f1⟩:=zh (O qU) (j:=1) (by omega);have k0:ya.cell? (yr w4 0)=some (H tN):=O vv 0 _ rfl;have k1:ya.cell? (yr w4 1)=some (.slice aq tL.length cq):=O vv 1 _ rfl;have cM:=(O HB).2.2.2.2.2.trans ((O qH).mono (O HB).2.2.2.2.2.size);have HW:Hid (yp w ((ya.setCell (Y (w.heap.size+1+1) 0) (H tN)).setCell (Y (w.heap.size+1+1) 1) (.slice aq tL.length cq))):=(cM.setCell (p:=(Y (w.heap.size+1+1) 0)) (show w.heap.size<=w.heap.size+1+1 by omega) _).setCell (p:=(Y (w.heap.size+1+1) 1)) (show w.heap.size<=w.heap.size+1+1 by omega) _;have HQF:Hid (ORow ((ya.setCell (Y (w.heap.size+1+1) 0) (H tN)).setCell (Y (w.heap.size+1+1) 1) (.slice aq tL.length cq)) w.heap.size (.slice aq tL.length cq) tL):=zR (eU (eU (O aR) I 0 _) I 1 _) (by omega);have jC:Hid (ERow ((ya.setCell (Y (w.heap.size+1+1) 0) (H tN)).setCell (Y (w.heap.size+1+1) 1) (.slice aq tL.length cq)) w.heap.size (.slice ag tE.length cg) tE):=zR (gf (gf (O uX) I 0 _) I 1 _) (by omega);have oD:Hid (((ya.setCell (Y (w.heap.size+1+1) 0) (H tN)).setCell (Y (w.heap.size+1+1) 1) (.slice aq tL.length cq)).cell? (Y (w.heap.size+1+1) 0)=some (H tN)):=(yM _ _ _ _ (zV (by decide))).trans (yN _ _ _ x0);have ji:Hid (((ya.setCell (Y (w.heap.size+1+1) 0) (H tN)).setCell (Y (w.heap.size+1+1) 1) (.slice aq tL.length cq)).cell? (Y (w.heap.size+1+1) 1)=some (.slice aq tL.length cq)):=yN _ _ _ ((yM _ _ _ _ (zV (by decide))).trans x1);clear cM;go_wp2_with fail;have d0:=O oD;have d1:=O ji
 try simp only[Exit.inBlock,Exit.then]
 refine bodyPost_ret (by simp[results,Tryz.results7,go_sem,d0,d1];try rfl) rfl ?_;obtain⟨rfl,rfl,rfl,rfl⟩:=O HK;exact⟨_,_,rfl,O HQF,O jC,O HW⟩
theorem look_only {d i:Nat}:∀ {ks:List (Nat × Nat)} {j:Nat},ks.lookup j=some d->ks.all (fun p=>p.2 != d||p.1==i)=true->j=i
 | [],_,h,_=>by cases h
 | (a,b)::r,j,h,X=>by
  rw[List.lookup_cons] at h;simp only[List.all_cons,xf] at X
  by_cases e:j=a
  ·subst e;simp at h;subst h;have:=X.1;simp at this;exact this
  ·have:(j==a)=false:=by rw[xe];exact e
   rw[this] at h;exact look_only h X.2
theorem hit_len {l:List Od}{k:Nat}{o:Od}{q:Int}:(db l k o q).length<=l.length:=by
 rw[db];split
 ·simp only[yQ,List.length_take,List.length_drop];omega
 ·simp
theorem stL_len {next:Int}{l:List Od}{c:Cm}(F:GoodL l):(stL next l c).length<=100:=by
 have hl:=F.len;rw[stL];split
 ·next hr =>
  split
  ·next E =>
   have hq:=iL hr E;have Z:=(fY (c:=c) (id:=next) 21 l c.q [] F (by omega) hq.2).1.len;rw[accL];split
   ·simp;omega
   ·omega
  ·split
   ·split
    ·have:=@hit_len l (plc l c.i).toNat;rename_i o _;have:=@hit_len l (plc l c.i).toNat o o.left;omega
    ·omega
   ·split
    ·split
     ·simp;omega
     ·omega
    ·exact yO (List.length_filter_le _ _) (by omega)
 ·omega
theorem stE_len {next:Int}{l:List Od}{c:Cm}(F:GoodL l):(stE next l c).length<=100:=by
 have hl:=F.len;rw[stE];split
 ·split
  ·have Z:=matL_few (c:=c) (id:=next) 21 l c.q [];rw[accE];simp only[yQ,List.length_cons,List.length_nil] at Z |-;split <;> simp <;> omega
  ·split
   ·split <;> simp
   ·split
    ·simp
    ·have Z:(l.filter dyB).length<=20:=yO (List.length_filter_le _ _) hl;simp only[List.length_cons,List.length_map];omega
 ·simp
section
variable {vs:List Value} {ks:List (Nat × Nat)} {S:Nat} {n N rc:Int} {l L:List Od} {hk:List Ev} {p:Prop} {W W':World} {j d:Nat} {v u:Value}
end
theorem rg_write2 {base W W':World}{k:Nat}{ho:Prop->World->Nat->Value->Prop}{x:List Bool}{f:Nat->Value}(K:yp base W')(h:∀j,x[j]? = some true->ho (x[k]? = some true) W j (f j))(E:x[k]? = some false)(hm:∀j,j≠k->x[j]? = some true->ho False W j (f j)->ho True W' j (f j))(hv:ho True W' k (f k)) :
  yp base W'/\∀j,(x.set k true)[j]? = some true->ho ((x.set k true)[k]? = some true) W' j (f j):=by
 have e:((x.set k true)[k]? = some true)=True:=by
  rw[List.getElem?_set_self (yH.1 E).1];simp
 refine⟨K,fun j hj=>?_⟩;rw[e]
 by_cases hji:j=k
 ·subst hji;exact hv
 ·rw[yX (fun e=>hji e.symm)] at hj;refine hm j hji hj ?_;have:=h j hj;rw[E] at this;simpa using this
def DP (vs:List Value)(ks:List (Nat × Nat))(S:Nat)(n N:Int)(l L:List Od)(hk:List Ev)(p:Prop)(W:World)(j:Nat)(v:Value):Prop:=
 match ks.lookup j with
 | none=>∀u,vs[j]? = some u->v=u
 | some 1=>¬ p->∃ad cp,v = .agg #[H n,.slice (some ad) l.length cp]/\RdR Od.vs 6 W (.slice (some ad) l.length cp) l
 | some 2=>∃aq cq ag cg,v = .tuple #[.agg #[H N,.slice aq L.length cq],.slice ag hk.length cg]/\ORow W S (.slice aq L.length cq) L/\ERow W S (.slice ag hk.length cg) hk
 | some 3=>∃aq cq,v = .agg #[H N,.slice aq L.length cq]/\ORow W S (.slice aq L.length cq) L
 | some 4=>∃ag cg,v = .slice ag hk.length cg/\ERow W S (.slice ag hk.length cg) hk
 | some 5=>∃b,v=h3 b 0/\S<=b/\b<W.heap.size/\W.there b 0 2/\(∃xt,W.heap[b]? = some (.cells xt 31 (0,0)))/\(p->∃aq cq,W.rangeAt b 0 [H N,.slice aq L.length cq]/\ORow W S (.slice aq L.length cq) L)
 | some _=>True
section
variable {vs:List Value} {ks:List (Nat × Nat)} {S:Nat} {n N:Int} {l L:List Od} {hk:List Ev} {p:Prop} {W W':World} {j d:Nat} {v u:Value}
theorem dp_val (h:DP vs ks S n N l L hk p W j v)(E:ks.lookup j=none)(hu:vs[j]? = some u):v=u:=by
 rw[DP,E] at h;exact h u hu
theorem dp_mkv (E:ks.lookup j=none)(hu:vs[j]? = some v):DP vs ks S n N l L hk p W j v:=by
 rw[DP,E];intro u h;rw[hu] at h;cases h;rfl
theorem dp_2 (h:DP vs ks S n N l L hk p W j v)(E:ks.lookup j=some 2):∃aq cq ag cg,v = .tuple #[.agg #[H N,.slice aq L.length cq],.slice ag hk.length cg]/\ORow W S (.slice aq L.length cq) L/\ERow W S (.slice ag hk.length cg) hk:=by
 rw[DP,E] at h;exact h
theorem dp_mk2 (E:ks.lookup j=some 2)(h:∃aq cq ag cg,v = .tuple #[.agg #[H N,.slice aq L.length cq],.slice ag hk.length cg]/\ORow W S (.slice aq L.length cq) L/\ERow W S (.slice ag hk.length cg) hk):DP vs ks S n N l L hk p W j v:=by
 rw[DP,E];exact h
theorem dp_3 (h:DP vs ks S n N l L hk p W j v)(E:ks.lookup j=some 3):∃aq cq,v = .agg #[H N,.slice aq L.length cq]/\ORow W S (.slice aq L.length cq) L:=by
 rw[DP,E] at h;exact h
theorem dp_mk3 (E:ks.lookup j=some 3)(h:∃aq cq,v = .agg #[H N,.slice aq L.length cq]/\ORow W S (.slice aq L.length cq) L):DP vs ks S n N l L hk p W j v:=by
 rw[DP,E];exact h
theorem dp_4 (h:DP vs ks S n N l L hk p W j v)(E:ks.lookup j=some 4):∃ag cg,v = .slice ag hk.length cg/\ERow W S (.slice ag hk.length cg) hk:=by
 rw[DP,E] at h;exact h
theorem dp_mk4 (E:ks.lookup j=some 4)(h:∃ag cg,v = .slice ag hk.length cg/\ERow W S (.slice ag hk.length cg) hk):DP vs ks S n N l L hk p W j v:=by
 rw[DP,E];exact h
theorem dp_5 (h:DP vs ks S n N l L hk p W j v)(E:ks.lookup j=some 5):∃b,v=h3 b 0/\S<=b/\b<W.heap.size/\W.there b 0 2/\(∃xt,W.heap[b]? = some (.cells xt 31 (0,0)))/\(p->∃aq cq,W.rangeAt b 0 [H N,.slice aq L.length cq]/\ORow W S (.slice aq L.length cq) L):=by
 rw[DP,E] at h;exact h
theorem dp_mk5 (E:ks.lookup j=some 5)(hp:¬ p)(hS:S<=W.heap.size):DP vs ks S n N l L hk p (W.alloc (me #[H 0,.slice none 0 0] 31)) j (yq W 0):=by
 rw[DP,E];exact⟨W.heap.size,rfl,hS,by rw[zi];omega,zM W [H 0,.slice none 0 0] _,⟨_,heap_alloc_new W _⟩,fun h=>absurd h hp⟩
theorem dp_mk9 (E:ks.lookup j=some 9):DP vs ks S n N l L hk p W j v:=by rw[DP,E];trivial
theorem dp_grow:∀p W W' j v,yp W W'->DP vs ks S n N l L hk p W j v->DP vs ks S n N l L hk p W' j v:=by
 intro p W W' j v K h;unfold DP at h |-;split
 ·next E=>rw[E] at h;exact h
 ·next E=>rw[E] at h;intro hp;obtain⟨ad,cp,Z,Q⟩:=h hp;exact⟨ad,cp,Z,zq Q K yb⟩
 ·next E=>rw[E] at h;obtain⟨aq,cq,ag,cg,Z,Q,I⟩:=h;exact⟨aq,cq,ag,cg,Z,zn Q K,zO I K⟩
 ·next E=>rw[E] at h;obtain⟨aq,cq,Z,Q⟩:=h;exact⟨aq,cq,Z,zn Q K⟩
 ·next E=>rw[E] at h;obtain⟨ag,cg,Z,Q⟩:=h;exact⟨ag,cg,Z,zO Q K⟩
 ·next E=>rw[E] at h;obtain⟨b,Z,Q,I,h4,⟨xt,h5⟩,h6⟩:=h;exact⟨b,Z,Q,yK I K.size,zk h4 K I,⟨xt,(K.block b I).trans h5⟩,fun hp=>by obtain⟨aq,cq,h7,h8⟩:=h6 hp;exact⟨aq,cq,zf h7 K I,zn h8 K⟩⟩
 ·trivial
theorem dp_store {b:Nat}{aq:Option Addr}{cq:Nat}(hS:S<=b)(xU:W.there b 0 2)(xK:b<W.heap.size)(vL:∃xt,W.heap[b]? = some (.cells xt 31 (0,0)))(D:ORow W S (.slice aq L.length cq) L)(h5:ks.lookup j=some 5->v=h3 b 0)(h:DP vs ks S n N l L hk False W j v):DP vs ks S n N l L hk True (W.setCells b 0 [H N,.slice aq L.length cq]) j v:=by
 have hO:∀ {v L},ORow W S v L->ORow (W.setCells b 0 [H N,.slice aq L.length cq]) S v L:=fun h=>iz (zF h vL (by decide)) _ _ _ h;have hO':∀ {v:Value} {L':List Od},ORow W S v L'->ORow (W.setCells b 0 [H N,.slice aq L.length cq]) S v L':=fun h=>iz (zF h vL (by decide)) _ _ _ h;have hE:∀ {v:Value} {E':List Ev},ERow W S v E'->ERow (W.setCells b 0 [H N,.slice aq L.length cq]) S v E':=fun h=>iz (zF h vL (by decide)) _ _ _ h;unfold DP at h |-;split
 ·next E=>rw[E] at h;exact h
 ·next E=>intro hp;exact absurd trivial hp
 ·next E=>rw[E] at h;obtain⟨aq,cq,ag,cg,Z,Q,I⟩:=h;exact⟨aq,cq,ag,cg,Z,hO' Q,hE I⟩
 ·next E=>rw[E] at h;obtain⟨aq,cq,Z,Q⟩:=h;exact⟨aq,cq,Z,hO' Q⟩
 ·next E=>rw[E] at h;obtain⟨ag,cg,Z,Q⟩:=h;exact⟨ag,cg,Z,hE Q⟩
 ·next E =>
  refine⟨b,h5 E,hS,by rw[gw];exact xK,xc xU _ _ _,?_,fun _=>⟨aq,cq,yY W b 0 _ (fun j hj=>xU j hj),hO' D⟩⟩;obtain⟨xt,hc⟩:=vL;exact kind_setC W b _ 0 hc
 ·trivial
end
theorem grs_rd {W:World}{B:Nat}{gv:Value}{gs:List Value}{gl:List (List Ev)}(F:GRow W B gv gs)(hl:gs.length=gl.length)(he:∀(i:Nat) (g:Value) (es:List Ev),gs[i]? = some g->gl[i]? = some es->ERow W B g es)(hn:gl.length<=1000)(hm:∀es∈gl,es.length<=1000):RdG W gv gl:=by
 rcases F.2 with⟨e,h0⟩|⟨g',cap,xt,e,K,pD,h4,h5,h6,h7⟩
 ·refine⟨none,0,?_,by omega,fun xE=>absurd (List.length_eq_zero_iff.1 (by omega)) xE⟩;have:gl.length=0:=by omega
  rw[e,this]
 ·refine⟨some (Y g' 0),cap,by rw[e,hl],by omega,fun _=>⟨g',0,rfl,(yZ.1 pD).1,fun i es hi=>?_⟩⟩;have xK:i<gs.length:=by rw[hl];exact(yH.1 hi).1
  obtain⟨g,oh⟩:∃g,gs[i]? = some g:=⟨_,yI xK⟩;refine⟨g,?_,ownR_rd (gi Ev.len (by have:=hm es (yP hi);omega) (he i g es oh hi))⟩;rw[cell_of_row W g' (0+i) xt _ (0,0) pD];have h8:=congrArg (fun l=>l[i]?) h7;simp[oh,List.getElem?_take] at h8;simpa using h8.2
structure LG (w W:World) (gv:Value) (gs:List Value) (vq:Value) (s:RunSt):Prop where
 r:W.rangeAt (w.heap.size+1) 0 [gv,.int .i64 s.n,vq,.int .i64 0,.int .i64 0,.int .i64 0,.int .i64 0,.int .i64 0,.int .i64 0,.int .i64 0,.int .i64 0]
 t:W.there (w.heap.size+1) 0 11
 o:W.there w.heap.size 0 11
 bx:∃cur,W.heap[w.heap.size+1]? = some (.cells cur 58 (0,0))
 g:GRow W (w.heap.size+1+1) gv gs
 gl:gs.length=s.g.length
 ge:∀(i:Nat) (g:Value) (es:List Ev),gs[i]? = some g->s.g[i]? = some es->ERow W (w.heap.size+1+1) g es
 q:ORow W (w.heap.size+1+1) vq s.l
 b:Below w.heap.size w W
 z:w.heap.size+1+1<=W.heap.size
theorem lg_below {w W V:World}{gv:Value}{gs:List Value}{vq:Value}{s:RunSt}(h:LG w W gv gs vq s)(K:yp W V):LG w V gv gs vq s:=by
 have hz:=h.z;have E:∀ {e sz n:Nat} {v:Value} {xs:List Value},W.ownsRow (w.heap.size+1+1) e sz v n xs->V.ownsRow (w.heap.size+1+1) e sz v n xs:=fun {e sz n v xs} hr=>World.ownsRow.kept (row:=none) hr (ft K yb) (by cases v.ownBlock <;> simp);refine⟨zf h.r K (by omega),zk h.t K (by omega),zk h.o K (by omega),?_,E h.g,h.gl,fun i g es F he=>E (h.ge i g es F he),E h.q,h.b.trans (K.mono h.b.size),yO hz K.size⟩;obtain⟨xt,hc⟩:=h.bx;exact⟨xt,(K.block _ (by omega)).trans hc⟩
theorem lg_book {w W:World}{gv:Value}{gs:List Value}{vq uB:Value}{s:RunSt}(h:LG w W gv gs vq s)(N:Int)(L:List Od)(D:ORow W (w.heap.size+1+1) uB L):LG w ((W.setCell (Y (w.heap.size+1) 1) (H N)).setCell (Y (w.heap.size+1) 2) uB) gv gs uB ⟨N,L,s.g,s.t⟩:=by
 have E:∀ {e sz n:Nat} {v:Value} {xs:List Value},58 ≠ e->W.ownsRow (w.heap.size+1+1) e sz v n xs->World.ownsRow ((W.setCell (Y (w.heap.size+1) 1) (H N)).setCell (Y (w.heap.size+1) 2) uB) (w.heap.size+1+1) e sz v n xs:=fun {e sz n v xs} xE hr=>zX (zX hr (zF hr h.bx xE) 1 _) (zF hr h.bx xE) 2 _;have r1:=gN (j:=1) (u:=H N) h.r (by simp);have r2:=gN (j:=2) (u:=uB) r1 (by simp);refine⟨r2,zU (zU h.t),zU (zU h.o),?_,E (by decide) h.g,h.gl,fun i g es F he=>E (by decide) (h.ge i g es F he),E (by decide) D,(h.b.setCell (p:=(Y (w.heap.size+1) 1)) (show w.heap.size<=w.heap.size+1 by omega) _).setCell (p:=(Y (w.heap.size+1) 2)) (show w.heap.size<=w.heap.size+1 by omega) _,by simp only[World.setCell,Array.size_modify];exact h.z⟩;obtain⟨xt,hc⟩:=h.bx;obtain⟨c1,Z⟩:=ez W (w.heap.size+1) 1 (H N) hc;exact ez _ (w.heap.size+1) 2 uB Z
theorem lg_group {w W V:World}{gv gv' g0:Value}{gs:List Value}{vq:Value}{n:Int}{l:List Od}{gl:List (List Ev)}{t:Tot}{hk:List Ev}(h:LG w W gv gs vq ⟨n,l,gl,t⟩)(he:ERow W (w.heap.size+1+1) g0 hk)(F:GRow V (w.heap.size+1+1) gv' (gs ++ [g0]))(uN:W.grownBy V gv.ownBlock):LG w (V.setCell (Y (w.heap.size+1) 0) gv') gv' (gs ++ [g0]) vq ⟨n,l,gl ++ [hk],t⟩:=by
 have hz:=h.z;have hnm:some (w.heap.size+1)≠gv.ownBlock:=zF h.g h.bx (by decide);have hn0:some w.heap.size≠gv.ownBlock:=fun e=>by have:=(h.g.lt _ e.symm).1;omega
 have vL:∃xt,V.heap[w.heap.size+1]? = some (.cells xt 58 (0,0)):=by
  obtain⟨xt,hc⟩:=h.bx;exact⟨xt,(uN.block _ (by omega) hnm).trans hc⟩
 have E:∀ {e sz m:Nat} {v:Value} {xs:List Value},58 ≠ e->32 ≠ e->W.ownsRow (w.heap.size+1+1) e sz v m xs->World.ownsRow (V.setCell (Y (w.heap.size+1) 0) gv') (w.heap.size+1+1) e sz v m xs:=fun {e sz m v xs} Z Q hr =>
  have I:V.ownsRow (w.heap.size+1+1) e sz v m xs:=World.ownsRow.kept hr uN (fg hr h.g (fun e'=>Q e'.symm))
  zX I (zF I vL Z) 0 _
 have r0:=gN (j:=0) (u:=gv') (zv h.r uN (by omega) hnm) (by simp);refine⟨r0,zU (fK h.t uN (by omega) hnm),zU (fK h.o uN (by omega) hn0),?_,zX F (zF F vL (by decide)) 0 _,by simp[h.gl],?_,E (by decide) (by decide) h.q,?_,by simp only[World.setCell,Array.size_modify];exact yO hz uN.size⟩
 ·obtain⟨xt,hc⟩:=vL;exact ez V (w.heap.size+1) 0 gv' hc
 ·intro i g es oh oH;have jn:gs.length=gl.length:=h.gl
  by_cases hi:i<gs.length
  ·rw[List.getElem?_append_left hi] at oh;rw[List.getElem?_append_left (by omega)] at oH;exact E (by decide) (by decide) (h.ge i g es oh oH)
  ·rw[List.getElem?_append_right (by omega)] at oh;rw[List.getElem?_append_right (by omega)] at oH;rw[jn] at oh;cases hd:i-gl.length with
   | zero=>rw[hd] at oh oH;cases oh;cases oH;exact E (by decide) (by decide) he
   | succ d=>rw[hd] at oh;simp at oh
 ·have xS:yp w V:=⟨uN.os.trans h.b.os,uN.tape.trans h.b.tape,uN.output.trans h.b.output,yO h.b.size uN.size,fun k hk'=>(uN.block k (by omega) (fun e=>by have:=(h.g.lt _ e.symm).1;omega)).trans (h.b.block k hk')⟩;exact xS.setCell (p:=(Y (w.heap.size+1) 0)) (show w.heap.size<=w.heap.size+1 by omega) _
theorem lg_tot {w W:World}{gv:Value}{gs:List Value}{vq:Value}{n:Int}{l:List Od}{g:List (List Ev)}{t:Tot}(t':Tot)(h:LG w W gv gs vq ⟨n,l,g,t⟩):LG w W gv gs vq ⟨n,l,g,t'⟩:=⟨h.r,h.t,h.o,h.bx,h.g,h.gl,h.ge,h.q,h.b,h.z⟩
theorem run_few (cs:List Cm)(h:cs.length<=200):∀k,k<=cs.length->∀es∈(runS (cs.take k)).g,es.length<=100:=by
 intro k
 induction k with
 | zero=>intro _ es oH;simp[runS] at oH
 | succ k ih =>
  intro E es oH;obtain⟨c,hc⟩:∃c,cs[k]? = some c:=⟨_,yI (by omega)⟩;have hi:=(run_take cs h k (by omega)).1;have ih:=ih (by omega);rw[ig cs hc] at oH;generalize runS (cs.take k)=s at hi ih oH;rcases List.mem_append.1 (show es∈s.g ++ [stE s.n s.l c] from oH) with Z|Z
  ·exact ih es Z
  ·rw[List.mem_singleton.1 Z];exact stE_len hi.good
theorem l04Run_any (v:Value)(cs:List Cm)(w:World)(hr:RdR Cm.vs 8 w v cs)(aJ:∀c∈cs,c.g.size<=maxLen)(kZ:cs.length<=200) :
  Calls Tryz.prog 17 #[v] w fun e w'=>∃gv vq,e=yn (.agg #[gv,H (rsF cs).n,vq,H (rsF cs).t.gr,H (rsF cs).t.ac,H (rsF cs).t.rf,H (rsF cs).t.tr,H (rsF cs).t.vo,H (rsF cs).t.no,H (rsF cs).t.li,H (rsF cs).t.le])/\GRs w' w.heap.size gv (rsF cs).g/\ORow w' w.heap.size vq (rsF cs).l/\yp w w':=by
 have pX:=U aJ;obtain⟨a,cap,rfl,xC,hc⟩:=hr
 have xp:∀(k:Nat) (c:Cm),cs[k]? = some c->∃b off,a=some (Y b off)/\b<w.heap.size/\w.rangeAt b (off+k*8) c.vs:=by
  intro k c E;obtain⟨b,off,Z,Q,I⟩:=hc (by intro h;rw[h] at E;simp at E);exact⟨b,off,Z,Q,I k c E⟩
 have HC:=U xp;clear xp hc aJ;have hsf:=sfl;have HIV:=U (run_take cs kZ);have HF:Hid (rsF cs = { runS cs with t:=totM (runS cs).g (runS cs).l }):=U (by rw[rsF,if_pos kZ,tot_eq cs kZ]);generalize rsF cs=hg at HF |-;obtain⟨i0,uo,ub,xX,uh⟩:=info_parts infoEvS;have hbX:=mc w (me #[.slice none 0 0,H 0,.slice none 0 0,H 0,H 0,H 0,H 0,H 0,H 0,H 0,H 0] 58);have HX:Hid ((w.alloc (me #[.slice none 0 0,H 0,.slice none 0 0,H 0,H 0,H 0,H 0,H 0,H 0,H 0,H 0] 58)).heap.size=w.heap.size+1/\World.there (w.alloc (me #[.slice none 0 0,H 0,.slice none 0 0,H 0,H 0,H 0,H 0,H 0,H 0,H 0,H 0] 58)) w.heap.size 0 11/\yp w (w.alloc (me #[.slice none 0 0,H 0,.slice none 0 0,H 0,H 0,H 0,H 0,H 0,H 0,H 0,H 0] 58))):=⟨zi _ _,zM w [.slice none 0 0,H 0,.slice none 0 0,H 0,H 0,H 0,H 0,H 0,H 0,H 0,H 0] 58,hbX⟩;clear hbX;go_enter Tryz.func17,Tryz.ntmps17;refine mg fun hb xw=>?_;go_wp2_with fail;refine O xw _ _ ?_;clear xw;generalize (w.alloc (me #[.slice none 0 0,H 0,.slice none 0 0,H 0,H 0,H 0,H 0,H 0,H 0,H 0,H 0] 58))=xh at HX |-;have hXs:=(O HX).1
 have HL:Hid (LG w (xh.alloc (me #[.slice none 0 0,H 1,.slice none 0 0,H 0,H 0,H 0,H 0,H 0,H 0,H 0,H 0] 58)) (.slice none 0 0) [] (.slice none 0 0) (runS (cs.take 0))):=by
  have b3:=mc xh (me #[.slice none 0 0,H 1,.slice none 0 0,H 0,H 0,H 0,H 0,H 0,H 0,H 0,H 0] 58);have r3:=zm xh [.slice none 0 0,H 1,.slice none 0 0,H 0,H 0,H 0,H 0,H 0,H 0,H 0,H 0] 58;have t3:=zM xh [.slice none 0 0,H 1,.slice none 0 0,H 0,H 0,H 0,H 0,H 0,H 0,H 0,H 0] 58;have k3:=heap_alloc_new xh (me #[.slice none 0 0,H 1,.slice none 0 0,H 0,H 0,H 0,H 0,H 0,H 0,H 0,H 0] 58);rw[hXs] at r3 t3 k3;exact⟨r3,t3,zk (O HX).2.1 b3 (by omega),⟨_,k3⟩,World.ownsRow_nil _ _ _ _,rfl,fun i g es F=>by simp at F,World.ownsRow_nil _ _ _ _,(O HX).2.2.trans (b3.mono (by omega)),by rw[zi];omega⟩
 refine mg fun hb xw=>?_;go_wp2_with fail;refine O xw _ _ ?_;clear xw;generalize (xh.alloc (me #[.slice none 0 0,H 1,.slice none 0 0,H 0,H 0,H 0,H 0,H 0,H 0,H 0,H 0] 58))=ya at HL |-;clear hXs HX;refine mg fun hb xw=>?_;go_wp2_with fail;go_loopw [4] (fun iv wr=>∃(k:Nat),k<=cs.length/\iv=H k/\Hid (∃gv gs vq,LG w wr gv gs vq (runS (cs.take k)))) (fun iv _=>cs.length-(intOf iv).toNat)
 case atStart=>exact⟨0,Nat.zero_le _,rfl,_,_,_,O HL⟩
 case round =>
  obtain⟨k,E,rfl,ue⟩:=hrel;obtain⟨gv,gs,vq,hlg⟩:=O ue;have HG:=U hlg;clear ue hlg
  by_cases xK:k<cs.length
  ·obtain⟨c,vX⟩:∃c,cs[k]? = some c:=⟨_,yI xK⟩;obtain⟨b,off,rfl,K,xo⟩:=O HC k c vX;have uM:Hid (runS (cs.take (k+1))=rstep (runS (cs.take k)) c):=ig cs vX;have ux:(k:Int)<cs.length:=by omega
   obtain⟨hi1,hi2,hi3,hi4⟩:=O HIV k E;have htge:=O pX c (yP vX);have HCM:=U (zf xo (O HG).b K);have oY:b<wr.heap.size:=yK K (O HG).b.size;generalize runS (cs.take k)=s at uM hi1 hi2 hi3 hi4 HG;obtain⟨n,l,gl,t⟩:=s;simp only[rstep] at uM;simp only at hi1 hi2 hi3 hi4;have ay:=hi1.good.len;obtain⟨aq0,cq0,hv⟩:=et (O HG).q;simp only at hv;subst hv;have HGS:Hid (gs.length=k):=(O HG).gl.trans hi4;clear hi4;have vu:=U (O HG).g;obtain⟨ga,gc,hgv⟩:=et (O vu);subst hgv;have oy:Hid (RdR Od.vs 6 wr (.slice aq0 l.length cq0) l):=zZ (O HG).q (by omega);have vS:=U (fun(V:World) hV=>l04Step_any n (.slice aq0 l.length cq0) l c V hV (iq (O HG).q) hi1.good hi1.side (by omega) (by omega) htge);have HLN:=U (stE_len (c:=c) (next:=n) hi1.good);have HLL:=U (stL_len (c:=c) (next:=n) hi1.good);generalize stN n l c=N at uM vS;generalize stL n l c=L at uM vS HLL;generalize stE n l c=hk at uM vS HLN;unfold cmV at vS;have ko:=(O HG).z;clear vX xo hi1 htge;go_wp2_with fail;refine zA (RG wr (fun f=>{ tmps:=#[.slice (some (Y b off)) cs.length cap,M,h3 w.heap.size 0,h3 (w.heap.size+1) 0,H k,f 10,f 12,.agg #[H 1,.slice none 0 0],.agg #[.slice none 0 0,H 1,.slice none 0 0,H 0,H 0,H 0,H 0,H 0,H 0,H 0,H 0],H k,.slice (some (Y b off)) cs.length cap,H cs.length,.bool true,u13,u14,f 7,f 0,f 1,f 2,f 3,f 4,f 5,f 6,f 8,f 9,u25,u26,u27,u28,u29,u30,u31,u32,M,M,M,M,M,M,M],defers:=[] }) 11 (DP [h3 (w.heap.size+1) 1,.agg #[H n,.slice aq0 l.length cq0],.slice (some (Y b off)) cs.length cap,H k,h3 b (off+k*8),.agg (yy c.k c.s c.t c.l c.q c.i c.p c.g).toArray] [(6,2),(7,2),(8,3),(9,4),(10,5),(11,9),(12,4)] wr.heap.size n N l L hk)) (by kernel_rfl) ?_ ?_ ?_
   ·exact⟨fun j=>([u16,u17,u18,u19,u20,u21,u22,u15,u23,u24,u5,M,u6]:List Value)[j]?.getD M,rfl,⟨rfl,rfl,rfl,Nat.le_refl _,fun _ _=>rfl⟩,fun j hj=>by rw[yJ] at hj;split at hj <;> simp at hj⟩
   rotate_left
   ·rintro x md V i op ⟨f,rfl,xl,hD⟩ xo hx D xA X;have xI:=U xl;have HD:=U hD
    match i,D with
    | 0,D =>
     cases D;clear X hD xl xo;go_simp;exact⟨upd f 0 (h3 (w.heap.size+1) 1),by simp[upd],zx (O xI) (O HD) (by decide) (dp_mkv rfl rfl)⟩
    | 1,D =>
     cases D;have g0:f 0=h3 (w.heap.size+1) 1:=dp_val (hD 0 (yf X 0 rfl)) rfl rfl;have y1:=zf (O HG).r xl (by omega) 1 _ rfl;have y2:=zf (O HG).r xl (by omega) 2 _ rfl;simp only[Nat.zero_add] at y1 y2;clear X hD xl xo;go_simp;exact⟨upd f 1 (.agg #[H n,.slice aq0 l.length cq0]),by simp[upd,g0],zx (O xI) (O HD) (by decide) (dp_mkv rfl rfl)⟩
    | 2,D =>
     cases D;clear X hD xl xo;go_simp;exact⟨upd f 2 (.slice (some (Y b off)) cs.length cap),by simp[upd],zx (O xI) (O HD) (by decide) (dp_mkv rfl rfl)⟩
    | 3,D =>
     cases D;clear X hD xl xo;go_simp;exact⟨upd f 3 (H k),by simp[upd],zx (O xI) (O HD) (by decide) (dp_mkv rfl rfl)⟩
    | 4,D =>
     cases D;have g2:f 2 = .slice (some (Y b off)) cs.length cap:=dp_val (hD 2 (yf X 2 rfl)) rfl rfl;have g3:f 3=H k:=dp_val (hD 3 (yf X 3 rfl)) rfl rfl;clear X hD xl xo;go_simp;exact⟨upd f 4 (h3 b (off+k*8)),by simp[upd,g2,g3],zx (O xI) (O HD) (by decide) (dp_mkv rfl rfl)⟩
    | 5,D =>
     cases D;have g4:f 4=h3 b (off+k*8):=dp_val (hD 4 (yf X 4 rfl)) rfl rfl;obtain⟨q0,q1,q2,q3,q4,q5,q6,q7⟩:=cm_cells (zf (O HCM) xl oY);clear X hD xl xo;go_simp;exact⟨upd f 5 (.agg (yy c.k c.s c.t c.l c.q c.i c.p c.g).toArray),by simp[upd,g4],zx (O xI) (O HD) (by decide) (dp_mkv rfl rfl)⟩
    | 6,D =>
     cases D;have g1:f 1 = .agg #[H n,.slice aq0 l.length cq0]:=dp_val (hD 1 (yf X 1 rfl)) rfl rfl;have g5:f 5 = .agg (yy c.k c.s c.t c.l c.q c.i c.p c.g).toArray:=dp_val (hD 5 (yf X 5 rfl)) rfl rfl;have hS:=xl.size;have HRV:=U (zq (O oy) xl yb);clear X hD xl xo;go_simp;refine(O vS V (O HRV)).mono ?_;rintro e w4 ⟨vq,vg,rfl,pQ,he4,xF⟩;obtain⟨aq,cq,rfl⟩:=et pQ;obtain⟨ag,cg,rfl⟩:=et he4;exact⟨upd f 6 (.tuple #[.agg #[H N,.slice aq L.length cq],.slice ag hk.length cg]),by simp[upd,g1,g5],rg_grow dp_grow (O xI) (O HD) xF (by decide) (dp_mk2 rfl ⟨aq,cq,ag,cg,rfl,zR pQ hS,zR he4 hS⟩)⟩
    | 7,D =>
     cases D;obtain⟨aq,cq,ag,cg,g,Q,I⟩:=dp_2 (hD 6 (yf X 6 rfl)) rfl;have H2:=U Q;have H3:=U I;clear Q I;clear X hD xl xo;go_simp;exact⟨upd f 7 (.tuple #[.agg #[H N,.slice aq L.length cq],.slice ag hk.length cg]),by simp[upd,g],zx (O xI) (O HD) (by decide) (dp_mk2 rfl ⟨aq,cq,ag,cg,rfl,O H2,O H3⟩)⟩
    | 8,D =>
     cases D;obtain⟨aq,cq,ag,cg,g,Q,I⟩:=dp_2 (hD 7 (yf X 7 rfl)) rfl;have H2:=U Q;have H3:=U I;clear Q I;clear X hD xl xo;go_simp;exact⟨upd f 8 (.agg #[H N,.slice aq L.length cq]),by simp[upd,g],zx (O xI) (O HD) (by decide) (dp_mk3 rfl ⟨aq,cq,rfl,O H2⟩)⟩
    | 9,D =>
     cases D;obtain⟨aq,cq,ag,cg,g,Q,I⟩:=dp_2 (hD 7 (yf X 7 rfl)) rfl;have H2:=U Q;have H3:=U I;clear Q I;clear X hD xl xo;go_simp;exact⟨upd f 9 (.slice ag hk.length cg),by simp[upd,g],zx (O xI) (O HD) (by decide) (dp_mk4 rfl ⟨ag,cg,rfl,O H3⟩)⟩
    | 10,D =>
     cases D;have hp:¬ x[11]? = some true:=by rw[zS xo 12 10 11 (by kernel_rfl) hx (by simp) xA];simp
     have hS:=xl.size;clear X hD xl xo;go_simp;exact⟨upd f 10 (h3 V.heap.size 0),by simp[upd],rg_grow dp_grow (O xI) (O HD) (mc _ _) (by decide) (dp_mk5 rfl hp hS)⟩
    | 11,D =>
     cases D;obtain⟨aq,cq,g6,kO⟩:=dp_3 (hD 8 (yf X 8 rfl)) rfl;obtain⟨b0,g9,hSb,hlt0,xU,vL,-⟩:=dp_5 (hD 10 (yf X 10 rfl)) rfl;have HSX:Hid (∀j,j≠11->x[j]? = some true->DP [h3 (w.heap.size+1) 1,.agg #[H n,.slice aq0 l.length cq0],.slice (some (Y b off)) cs.length cap,H k,h3 b (off+k*8),.agg (yy c.k c.s c.t c.l c.q c.i c.p c.g).toArray] [(6,2),(7,2),(8,3),(9,4),(10,5),(11,9),(12,4)] wr.heap.size n N l L hk False V j (f j)->DP [h3 (w.heap.size+1) 1,.agg #[H n,.slice aq0 l.length cq0],.slice (some (Y b off)) cs.length cap,H k,h3 b (off+k*8),.agg (yy c.k c.s c.t c.l c.q c.i c.p c.g).toArray] [(6,2),(7,2),(8,3),(9,4),(10,5),(11,9),(12,4)] wr.heap.size n N l L hk True (V.setCells b0 0 [H N,.slice aq L.length cq]) j (f j)):=fun j hj hxj h=>dp_store hSb xU hlt0 vL kO (fun E=>by rw[look_only E (i:=10) (by decide)];exact g9) h;have qh:=U (zj b0 hSb [H N,.slice aq L.length cq] 0 _ xl);obtain⟨p0,x0,f0⟩:=zh xU (j:=0) (by omega);obtain⟨p1,x1,f1⟩:=zh xU (j:=1) (by omega);clear X hD xl xo xU vL kO;go_simp;exact⟨f,by simp[g6,g9],rg_write2 (O qh) (O HD) xA (O HSX) (dp_mk9 rfl)⟩
    | 12,D =>
     cases D;obtain⟨ag,cg,g,I⟩:=dp_4 (hD 9 (yf X 9 rfl)) rfl;have H3:=U I;clear I;clear X hD xl xo;go_simp;exact⟨upd f 12 (.slice ag hk.length cg),by simp[upd,g],zx (O xI) (O HD) (by decide) (dp_mk4 rfl ⟨ag,cg,rfl,O H3⟩)⟩
    | n+13,D=>simp at D
   ·rintro x md V ⟨f,rfl,xl,hD⟩ hx xY;have xq:=fo xY hx (by kernel_rfl);obtain⟨ag,cg,qq,hge⟩:=dp_4 (hD 12 (xq 12 (by simp))) rfl;obtain⟨bb,vQ,hSb,hltb,-,hbxb,qm⟩:=dp_5 (hD 10 (xq 10 (by simp))) rfl;obtain⟨aq,cq,hra,hro⟩:=qm (xq 11 (by simp));simp only[qq,vQ];have kS:=U (lg_below (O HG) xl);have HOV:=U (zR hro ko);have qp:=U (zR hge ko);have x0:V.cell? (Y bb 0)=some (H N):=hra 0 _ rfl;have x1:V.cell? (Y bb 1)=some (.slice aq L.length cq):=hra 1 _ rfl;obtain⟨y1,z1,q1⟩:=zh (O kS).t (j:=1) (by omega);obtain⟨y2,z2,q2⟩:=zh (O kS).t (j:=2) (by omega);have m0:V.cell? (Y (w.heap.size+1) 0)=some (.slice ga gs.length gc):=(O kS).r 0 _ rfl;clear qq hge vQ hltb hbxb qm hra hro hD xq xY hx xl;generalize f 0=v0,f 1=v1,f 2=v2,f 3=v3,f 4=v4,f 5=v5,f 6=v6,f 7=v7,f 8=v8,f 9=v9;rename_i KA haA;refine haA _ _ ?_;clear haA KA;refine mg fun K2 kL=>?_;go_wp2_with fail;refine O kL _ _ ?_;clear kL x0 x1 z1 q1 z2 q2 m0;have aP:=U (lg_book (O kS) N L (O HOV));have HEB:=U (zX (zX (O qp) (zF (O qp) (O kS).bx (by decide)) 1 (H N)) (zF (O qp) (O kS).bx (by decide)) 2 (.slice aq L.length cq));clear kS qp HOV;generalize (V.setCell (Y (w.heap.size+1) 1) (H N)).setCell (Y (w.heap.size+1) 2) (.slice aq L.length cq)=V1 at aP HEB |-;have m0:V1.cell? (Y (w.heap.size+1) 0)=some (.slice ga gs.length gc):=(O aP).r 0 _ rfl;refine wp_region_lit ?_;refine wpList_step fun K3 qG=>?_;have vZ:=U qG;clear qG;go_simp;refine O vZ _ _ ?_;clear vZ;refine wpList_step fun K3 qG=>?_;have vZ:=U qG;clear qG;go_simp;refine O vZ _ _ ?_;clear vZ;refine wpList_step fun K3 qG=>?_;have vZ:=U qG;clear qG;go_simp;refine O vZ _ _ ?_;clear vZ;refine wpList_step fun K3 qG=>?_;have vZ:=U qG;clear qG;go_simp;refine O vZ _ _ ?_;clear vZ;have bA:=mc V1 (me #[.slice ag hk.length cg] 32);have pU:=U (lg_below (O aP) bA);have HEC:=U (zO (O HEB) bA);have oZ:(V1.alloc (me #[.slice ag hk.length cg] 32)).cell? (Y V1.heap.size 0)=some (.slice ag hk.length cg):=zm V1 [.slice ag hk.length cg] 32 0 _ rfl;generalize V1.alloc (me #[.slice ag hk.length cg] 32)=V2 at pU HEC oZ |-;generalize V1.heap.size=vs at oZ |-;clear bA aP HEB m0;refine wpList_step fun K3 qG=>?_;have vZ:=U qG;clear qG;rw[if_pos (by rfl)];refine wp_append_own V2 (.tmp 28) (.tmp 30) 56 rfl (w.heap.size+1+1) 32 i0 _ 1 24 Tryz.underlying56 uo ub xX uh rfl (by decide) (.slice ga gs.length gc) gs.length gs rfl (O pU).g (Y vs 0) 1 1 [.slice ag hk.length cg] rfl rfl (fun j u hu=>by match j,hu with|0,hu=>cases hu;rw[Addr.add_mid];exact oZ|j+1,hu=>simp at hu) (by intro u hu;simp at hu;subst hu;rfl) (by have:=O HGS;unfold maxLen;omega) (by have:=O HGS;omega) (by have:=(O pU).z;omega) ?_
    intro v' w' xu uN _;have vD:Hid (GRow w' (w.heap.size+1+1) v' (gs ++ [Value.slice ag hk.length cg])):=by show w'.ownsRow _ _ _ _ (gs ++ [Value.slice ag hk.length cg]).length _;rw[yQ];exact xu
    obtain⟨ga',gc',hv'⟩:=et (O vD);subst hv';have HLD:=U (lg_group (O pU) (O HEC) (O vD) uN);obtain⟨y0,z0,q0⟩:=zh (fK (O pU).t uN (by have:=(O pU).z;omega) (zF (O pU).g (O pU).bx (by decide))) (j:=0) (by omega);clear xu uN pU HEC oZ;refine O vZ _ _ ?_;clear vZ;refine wpList_step fun K3 qG=>?_;have vZ:=U qG;clear qG;go_simp;refine O vZ _ _ ?_;clear vZ;refine wpList_step fun K3 qG=>?_;have vZ:=U qG;clear qG;go_simp;refine O vZ _ _ ?_;clear vZ;have elen:(gs ++ [Value.slice ag hk.length cg]).length=gs.length+1:=by simp
    rw[elen] at HLD;clear elen;generalize w'.setCell (Y (w.heap.size+1) 0) (.slice ga' (gs.length+1) gc')=V3 at HLD |-;clear z0 q0;refine wpList_nil ?_;go_wp2_with fail;go_roundw
    case rel=>exact⟨k+1,by omega,by go_num,_,_,_,by rw[O uM];exact lg_tot _ (O HLD)⟩
    case measure=>simp[intOf];omega
  ·have ux:¬ (k:Int)<cs.length:=by omega
   rw[xa (by omega)] at HG;have HFW:=U (run_few cs kZ cs.length yb);have HRI:=U (iu cs kZ);rw[xa yb] at HFW;go_wp2_with fail;refine O xw _ _ ?_;clear xw xK ux;generalize runS cs=s at HG HF HFW HRI;obtain⟨n,l,gl,t⟩:=s;simp only at HF HFW HRI;obtain⟨aq,cq,hv⟩:=et (O HG).q;simp only at hv;subst hv;obtain⟨ga,gc,hgv⟩:=et (O HG).g;subst hgv;have jn:gs.length=gl.length:=(O HG).gl;have qf:=U (grs_rd (O HG).g jn (O HG).ge (by have:=(O HRI).2.2.2;omega) (fun es oH=>yO (O HFW es oH) (by omega)));have HOD:Hid (RdR Od.vs 6 wr (.slice aq l.length cq) l):=zZ (O HG).q (by have:=(O HRI).1.good.len;omega);have kK:=U jn;clear jn;have qK:=U (l04Totals_any _ gl n _ l wr (O qf) (O HOD));generalize totM gl l=T at qK HF;obtain⟨uS,uR,uU,uV,uW,uT,uD,vk⟩:=T;simp only at qK;have m0:wr.cell? (Y (w.heap.size+1) 0)=some (.slice ga gs.length gc):=(O HG).r 0 _ rfl;have m1:wr.cell? (Y (w.heap.size+1) 1)=some (H n):=(O HG).r 1 _ rfl;have m2:wr.cell? (Y (w.heap.size+1) 2)=some (.slice aq l.length cq):=(O HG).r 2 _ rfl;refine mg fun hb xw=>?_;go_wp2_with fail;refine(O qK).mono ?_;rintro e V2 ⟨rfl,xy⟩;clear m0 m1 m2;have uf:=U (lg_below (O HG) xy);clear xy;have uh:=(O uf).z;obtain⟨y3,z3,q3⟩:=zh (O uf).t (j:=3) (by omega);obtain⟨y4,z4,q4⟩:=zh (O uf).t (j:=4) (by omega);obtain⟨y5,z5,q5⟩:=zh (O uf).t (j:=5) (by omega);obtain⟨y6,z6,q6⟩:=zh (O uf).t (j:=6) (by omega);obtain⟨y7,z7,q7⟩:=zh (O uf).t (j:=7) (by omega);obtain⟨y8,z8,q8⟩:=zh (O uf).t (j:=8) (by omega);obtain⟨y9,z9,q9⟩:=zh (O uf).t (j:=9) (by omega);obtain⟨cE,kI,q10⟩:=zh (O uf).t (j:=10) (by omega);go_wp2_with fail;refine O xw _ _ ?_;clear xw z3 q3 z4 q4 z5 q5 z6 q6 z7 q7 z8 q8 z9 q9 kI q10;change Code.wp _ _ _ _ (V2.setCells (w.heap.size+1) 3 (Tot.mk uS uR uU uV uW uT uD vk).vs)
   have pY:Hid (V2.there (w.heap.size+1) 3 8):=fun j hj=>by
    have:=(O uf).t (3+j) (by omega);rwa[Nat.zero_add] at this
   have jO:=U (yY V2 (w.heap.size+1) 3 (Tot.mk uS uR uU uV uW uT uD vk).vs (fun j hj=>O pY j (by simpa[Tot.vs] using hj)));have HC0:Hid (∀j u,j<3->V2.cell? (Y (w.heap.size+1) j)=some u->(V2.setCells (w.heap.size+1) 3 (Tot.mk uS uR uU uV uW uT uD vk).vs).cell? (Y (w.heap.size+1) j)=some u):=fun j u hj hu=>(World.cell?_setCells_out (w.heap.size+1) _ 3 V2 (Y (w.heap.size+1) j) (fun _ _=>.inl hj)).trans hu;have pZ:Hid (World.there (V2.setCells (w.heap.size+1) 3 (Tot.mk uS uR uU uV uW uT uD vk).vs) w.heap.size 0 11):=there_blk (O uf).o (lr (w.heap.size+1) w.heap.size (by omega) _ 3 V2);have xI:=U (zj (w.heap.size+1) (by omega) (Tot.mk uS uR uU uV uW uT uD vk).vs 3 V2 (O uf).b);have px:Hid (∀ {e sz m:Nat} {v:Value} {xs:List Value},V2.ownsRow (w.heap.size+1+1) e sz v m xs->58 ≠ e->World.ownsRow ((V2.setCells (w.heap.size+1) 3 (Tot.mk uS uR uU uV uW uT uD vk).vs).setCells w.heap.size 0 [.slice ga gs.length gc,H n,.slice aq l.length cq,H uS,H uR,H uU,H uV,H uW,H uT,H uD,H vk]) w.heap.size e sz v m xs):=fun {e sz m v xs} h hne'=>row_end h (zF h (O uf).bx hne') (Below.refl _ _) (by omega) (by omega) _ _ _ _;generalize V2.setCells (w.heap.size+1) 3 (Tot.mk uS uR uU uV uW uT uD vk).vs=V at jO HC0 pZ xI px |-;have m0:=O HC0 0 _ (by omega) ((O uf).r 0 _ rfl);have m1:=O HC0 1 _ (by omega) ((O uf).r 1 _ rfl);have m2:=O HC0 2 _ (by omega) ((O uf).r 2 _ rfl);simp only at m1;have m3:V.cell? (Y (w.heap.size+1) 3)=some (H uS):=O jO 0 _ rfl;have m4:V.cell? (Y (w.heap.size+1) 4)=some (H uR):=O jO 1 _ rfl;have m5:V.cell? (Y (w.heap.size+1) 5)=some (H uU):=O jO 2 _ rfl;have m6:V.cell? (Y (w.heap.size+1) 6)=some (H uV):=O jO 3 _ rfl;have m7:V.cell? (Y (w.heap.size+1) 7)=some (H uW):=O jO 4 _ rfl;have m8:V.cell? (Y (w.heap.size+1) 8)=some (H uT):=O jO 5 _ rfl;have m9:V.cell? (Y (w.heap.size+1) 9)=some (H uD):=O jO 6 _ rfl;have m10:V.cell? (Y (w.heap.size+1) 10)=some (H vk):=O jO 7 _ rfl;obtain⟨y0,z0,q0⟩:=zh (O pZ) (j:=0) (by omega);obtain⟨y1,z1,q1⟩:=zh (O pZ) (j:=1) (by omega);obtain⟨y2,z2,q2⟩:=zh (O pZ) (j:=2) (by omega);obtain⟨y3,z3,q3⟩:=zh (O pZ) (j:=3) (by omega);obtain⟨y4,z4,q4⟩:=zh (O pZ) (j:=4) (by omega);obtain⟨y5,z5,q5⟩:=zh (O pZ) (j:=5) (by omega);obtain⟨y6,z6,q6⟩:=zh (O pZ) (j:=6) (by omega);obtain⟨y7,z7,q7⟩:=zh (O pZ) (j:=7) (by omega);obtain⟨y8,z8,q8⟩:=zh (O pZ) (j:=8) (by omega);obtain⟨y9,z9,q9⟩:=zh (O pZ) (j:=9) (by omega);obtain⟨cE,kI,q10⟩:=zh (O pZ) (j:=10) (by omega);have vI:=U (yY V w.heap.size 0 [.slice ga gs.length gc,H n,.slice aq l.length cq,H uS,H uR,H uU,H uV,H uW,H uT,H uD,H vk] (fun j hj=>O pZ j hj));have oP:=U (zj w.heap.size yb [.slice ga gs.length gc,H n,.slice aq l.length cq,H uS,H uR,H uU,H uV,H uW,H uT,H uD,H vk] 0 V (O xI));have cG:Hid (GRs (V.setCells w.heap.size 0 [.slice ga gs.length gc,H n,.slice aq l.length cq,H uS,H uR,H uU,H uV,H uW,H uT,H uD,H vk]) w.heap.size (.slice ga gs.length gc) gl):=⟨gs,O px (O uf).g (by decide),O kK,fun i g es F oH=>O px ((O uf).ge i g es F oH) (by decide)⟩;have HO:Hid (ORow (V.setCells w.heap.size 0 [.slice ga gs.length gc,H n,.slice aq l.length cq,H uS,H uR,H uU,H uV,H uW,H uT,H uD,H vk]) w.heap.size (.slice aq l.length cq) l):=O px (O uf).q (by decide);clear px;go_wp2_with fail;change bodyPost _ _ _ _ _ (V.setCells w.heap.size 0 [.slice ga gs.length gc,H n,.slice aq l.length cq,H uS,H uR,H uU,H uV,H uW,H uT,H uD,H vk]);generalize V.setCells w.heap.size 0 [.slice ga gs.length gc,H n,.slice aq l.length cq,H uS,H uR,H uU,H uV,H uW,H uT,H uD,H vk]=WE at vI oP cG HO |-;obtain rfl:=O HF;have d0:WE.cell? (Y w.heap.size 0)=some (.slice ga gs.length gc):=O vI 0 _ rfl;have d1:WE.cell? (Y w.heap.size 1)=some (H n):=O vI 1 _ rfl;have d2:WE.cell? (Y w.heap.size 2)=some (.slice aq l.length cq):=O vI 2 _ rfl;have d3:WE.cell? (Y w.heap.size 3)=some (H uS):=O vI 3 _ rfl;have d4:WE.cell? (Y w.heap.size 4)=some (H uR):=O vI 4 _ rfl;have d5:WE.cell? (Y w.heap.size 5)=some (H uU):=O vI 5 _ rfl;have d6:WE.cell? (Y w.heap.size 6)=some (H uV):=O vI 6 _ rfl;have d7:WE.cell? (Y w.heap.size 7)=some (H uW):=O vI 7 _ rfl;have d8:WE.cell? (Y w.heap.size 8)=some (H uT):=O vI 8 _ rfl;have d9:WE.cell? (Y w.heap.size 9)=some (H uD):=O vI 9 _ rfl;have pz:WE.cell? (Y w.heap.size 10)=some (H vk):=O vI 10 _ rfl;refine bodyPost_ret (by simp[results,Tryz.results17,go_sem,d0,d1,d2,d3,d4,d5,d6,d7,d8,d9,pz];try rfl) rfl ?_;exact⟨_,_,rfl,O cG,O HO,O oP⟩
end Go.Proofs.YtkofhemdefffpaaGreatDoor
