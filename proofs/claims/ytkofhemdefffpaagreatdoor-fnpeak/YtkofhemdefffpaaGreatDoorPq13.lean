/-.-/
import Derived.Test.YtkofhemdefffpaaGreatDoorPq06
import Derived.Test.YtkofhemdefffpaaGreatDoorPq11
set_option linter.unusedVariables false
set_option maxHeartbeats 6400000
set_option maxRecDepth 100000
namespace Go.Proofs.YtkofhemdefffpaaGreatDoor
open Go.RowKit
def EN (S:Nat)(vb bv cv ta tw u5:Value):Nat->Value->Prop
 | 0,v=>v=h3 S 1
 | 1,v=>v=vb
 | 2,v=>v=bv
 | 3,v=>v=cv
 | 4,v=>v=ta
 | 6,v=>v=u5
 | 7,v=>∃lv ev,u5 = .tuple #[lv,tw,ev]/\v=lv
 | 8,v=>v=tw
 | 9,v=>∃lv ev,u5 = .tuple #[lv,tw,ev]/\v=ev
 | 11,v=>∃lv ev,u5 = .tuple #[lv,tw,ev]/\v=lv
 | 13,v=>∃lv ev,u5 = .tuple #[lv,tw,ev]/\v=ev
 | _,_=>True
theorem en_any {S:Nat}{vb bv cv ta tw u u':Value}{j:Nat}{v:Value}(h:EN S vb bv cv ta tw u j v)(h6:j≠6)(h7:j≠7)(h9:j≠9)(jS:j≠11)(pM:j≠13):EN S vb bv cv ta tw u' j v:=by
 match j with
 | 0|1|2|3|4|8=>exact h
 | 5|10|12=>trivial
 | 6=>omega
 | 7=>omega
 | 9=>omega
 | 11=>omega
 | 13=>omega
 | j+14=>trivial
def LVok (W:World)(lv:Value)(L:List Od):Prop:=RdR Od.vs 6 W lv L/\SlOk lv
def Dst (L:List Od)(u v:Value):Prop:=∀lv tw ev c8,u = .tuple #[lv,tw,ev]->v=h3 c8 0->L ≠ []->lv.ownBlock≠some c8
structure RN (S:Nat) (vb bv cv ta tw:Value) (twl:List Value) (L:List Od) (n2:Nat) (base:World) (x:List Bool) (f:Nat->Value) (W:World):Prop where
 bel:Below base.heap.size base W
 e:∀j,x[j]? = some true->EN S vb bv cv ta tw (f 5) j (f j)
 m5:x[5]? = some true->∃lv ev,f 5 = .tuple #[lv,tw,ev]/\LVok W lv L/\∃a c,ev = .slice a n2 c
 m10:x[10]? = some true->∃c8,f 10 = .pointer (some ⟨c8,0,none⟩)/\base.heap.size<=c8/\c8<W.heap.size/\W.there c8 0 6/\(x[12]? = some true->W.rangeAt c8 0 twl)
 ap:x[5]? = some true->x[10]? = some true->Dst L (f 5) (f 10)
def RNA (hg:(Nat->Value)->Act)(S:Nat)(vb bv cv ta tw:Value)(bj:List Value)(L:List Od)(n2:Nat)(base:World)(x:List Bool)(md:Act)(W:World):Prop:=∃f,md=hg f/\RN S vb bv cv ta tw bj L n2 base x f W
theorem tup3 {a b c a' b' c':Value}(h:Value.tuple #[a,b,c] = .tuple #[a',b',c']):a=a'/\b=b'/\c=c':=by
 have:=congrArg Array.toList (Value.tuple.inj h);simpa using this
theorem rd_block {W:World}{v:Value}{L:List Od}(h:RdR Od.vs 6 W v L)(xE:L ≠ []):∃b,v.ownBlock=some b/\b<W.heap.size:=by
 obtain⟨a,c,rfl,_,hc⟩:=h;obtain⟨b,off,rfl,K,_⟩:=hc xE;exact⟨b,rfl,K⟩
theorem rd_setC {W:World}{v:Value}{L:List Od}{c8 o:Nat}{vs:List Value}(h:RdR Od.vs 6 W v L)(xE:L ≠ []->v.ownBlock≠some c8):RdR Od.vs 6 (W.setCells c8 o vs) v L:=by
 obtain⟨a,c,rfl,Z,hc⟩:=h;refine⟨a,c,rfl,Z,fun hl=>?_⟩;obtain⟨b,off,rfl,K,hr⟩:=hc hl;have hbc:c8≠b:=fun e=>xE hl (by rw[e];rfl);exact⟨b,off,rfl,by rw[gw];exact K,fun i c hi=>lD (hr i c hi) hbc⟩
section
variable {S:Nat} {vb bv cv ta tw:Value} {bj:List Value} {L:List Od} {n2:Nat} {base W W':World} {x:List Bool} {f:Nat->Value}
theorem rn_grow (h:RN S vb bv cv ta tw bj L n2 base x f W)(K:yp W W'):RN S vb bv cv ta tw bj L n2 base x f W':=
 ⟨h.bel.trans (K.mono h.bel.size),h.e,fun h5=>by
  obtain⟨lv,ev,Z,Q,I⟩:=h.m5 h5;exact⟨lv,ev,Z,⟨zq Q.1 K yb,Q.2⟩,I⟩,fun vj=>by
  obtain⟨c8,Z,Q,I,h4,h5⟩:=h.m10 vj;exact⟨c8,Z,Q,yK I K.size,zk h4 K I,fun qP=>zf (h5 qP) K I⟩,h.ap⟩
theorem fU (h:RN S vb bv cv ta tw bj L n2 base x f W)(i:Nat)(u:Value)(h5:i≠5)(vj:i≠10)(qP:i≠12)(hu:EN S vb bv cv ta tw (f 5) i u):RN S vb bv cv ta tw bj L n2 base (x.set i true) (upd f i u) W:=by
 refine⟨h.bel,fun j hj=>?_,?_,?_,?_⟩
 ·rw[zu f u (show 5≠i from fun e=>h5 e.symm)]
  by_cases hji:j=i
  ·subst hji;rw[zp];exact hu
  ·rw[zu _ _ hji];rw[gq (fun e=>hji e.symm)] at hj;exact h.e j hj
 ·rw[gq h5,zu f u (show 5≠i from fun e=>h5 e.symm)];exact h.m5
 ·rw[gq vj,gq qP,zu f u (show 10≠i from fun e=>vj e.symm)];exact h.m10
 ·rw[gq h5,gq vj,zu f u (show 5≠i from fun e=>h5 e.symm),zu f u (show 10≠i from fun e=>vj e.symm)];exact h.ap
theorem rn_5 (h:RN S vb bv cv ta tw bj L n2 base x f W)(K:yp W W'){lv ev:Value}(hl:LVok W' lv L)(he:∃a c,ev = .slice a n2 c)(qZ:∀j,(j=6\/j=7\/j=9\/j=11\/j=13)->x[j]? ≠ some true)
  (hap:∀c8,base.heap.size<=c8->c8<W.heap.size->L ≠ []->lv.ownBlock≠some c8):RN S vb bv cv ta tw bj L n2 base (x.set 5 true) (upd f 5 (.tuple #[lv,tw,ev])) W':=by
 have F:=rn_grow h K;refine⟨F.bel,fun j hj=>?_,fun _=>⟨lv,ev,zp _ _ _,hl,he⟩,?_,?_⟩
 ·by_cases hji:j=5
  ·subst hji;trivial
  ·rw[gq (fun e=>hji e.symm)] at hj;rw[zu _ _ hji];refine en_any (F.e j hj) ?_ ?_ ?_ ?_ ?_ <;> intro e <;> exact qZ j (by omega) hj
 ·rw[gq (by omega),gq (by omega),zu _ _ (by omega)];exact F.m10
 ·intro _ vj;rw[gq (by omega)] at vj;rw[zp,zu _ _ (by omega)];obtain⟨c8,Z,Q,I,_⟩:=h.m10 vj;intro lv' tw' ev' c8' e1 e2 xE;rw[Z] at e2;simp only[Value.pointer.injEq,Option.some.injEq,Addr.mk.injEq,and_true] at e2;obtain rfl:c8=c8':=e2;have e1:lv=lv':=(tup3 e1).1;rw[<- e1];exact hap c8 Q I xE
theorem rn_10 (h:RN S vb bv cv ta tw bj L n2 base x f W)(qP:x[12]? ≠ some true){o:Obj}(ht:(W.alloc o).there W.heap.size 0 6):RN S vb bv cv ta tw bj L n2 base (x.set 10 true) (upd f 10 (h3 W.heap.size 0)) (W.alloc o):=by
 have F:=rn_grow h ((Below.refl W.heap.size W).alloc yb o);refine⟨F.bel,fun j hj=>?_,?_,fun _=>⟨W.heap.size,zp _ _ _,h.bel.size,by rw[zi];omega,ht,fun e=>absurd (by rwa[gq (by omega)] at e) qP⟩,?_⟩
 ·rw[zu _ _ (by omega)]
  by_cases hji:j=10
  ·subst hji;trivial
  ·rw[gq (fun e=>hji e.symm)] at hj;rw[zu _ _ hji];exact F.e j hj
 ·rw[gq (by omega),zu _ _ (by omega)];exact F.m5
 ·intro h5 _;rw[gq (by omega)] at h5;rw[zp,zu _ _ (by omega)];obtain⟨lv,ev,Z,Q,_⟩:=h.m5 h5;intro lv' tw' ev' c8' e1 e2 xE e3;rw[Z] at e1;simp only[Value.pointer.injEq,Option.some.injEq,Addr.mk.injEq,and_true] at e2;have e1:lv=lv':=(tup3 e1).1;obtain⟨b,ud,xy⟩:=rd_block Q.1 xE;rw[<- e1,ud] at e3;simp only[Option.some.injEq] at e3;omega
theorem rn_12 (h:RN S vb bv cv ta tw bj L n2 base x f W)(h5:x[5]? = some true)(vj:x[10]? = some true){c8:Nat}(hc:f 10=h3 c8 0)(hl:bj.length=6)(hx:x[12]? = some false):RN S vb bv cv ta tw bj L n2 base (x.set 12 true) f (W.setCells c8 0 bj):=by
 obtain⟨c',Z,Q,I,h4,_⟩:=h.m10 vj;rw[hc] at Z;simp only[Value.pointer.injEq,Option.some.injEq,Addr.mk.injEq,and_true] at Z;subst Z;obtain⟨lv,ev,e1,e2,e3⟩:=h.m5 h5;have hd:=h.ap h5 vj lv tw ev c8 e1 hc;refine⟨zj _ Q _ _ _ h.bel,fun j hj=>?_,fun _=>⟨lv,ev,e1,⟨rd_setC e2.1 hd,e2.2⟩,e3⟩,fun _=>⟨c8,hc,Q,by rw[gw];exact I,xc h4 _ _ _,fun _=>yY W c8 0 _ (fun j hj=>h4 j (by omega))⟩,?_⟩
 ·by_cases hji:j=12
  ·subst hji;trivial
  ·rw[gq (fun e=>hji e.symm)] at hj;exact h.e j hj
 ·intro _ _;exact h.ap h5 vj
end
structure R9 (C:Nat->Value->Prop) (B0:World) (L:List Od) (t:Od) (x:List Bool) (f:Nat->Value) (W:World):Prop where
 bel:Below B0.heap.size B0 W
 c:∀j,x[j]? = some true->C j (f j)
 m13:x[13]? = some true->x[15]? = some false->ORow W B0.heap.size (f 13) []
 m15:x[15]? = some true->x[18]? = some false->ORow W B0.heap.size (f 15) L
 m17:x[17]? = some true->x[18]? = some false->∃b,f 17 = .slice (some ⟨b,0,none⟩) 1 1/\b<W.heap.size/\B0.heap.size<=b/\W.rangeAt b 0 t.vs/\(x[13]? = some true->x[15]? = some false->(f 13).ownBlock≠some b)
 m18:x[18]? = some true->ORow W B0.heap.size (f 18) (L ++ [t])
def R9A (hg:(Nat->Value)->Act)(C:Nat->Value->Prop)(B0:World)(L:List Od)(t:Od)(x:List Bool)(md:Act)(W:World):Prop:=∃f,md=hg f/\R9 C B0 L t x f W
section
variable {C:Nat->Value->Prop} {B0 W W':World} {L:List Od} {t:Od} {x:List Bool} {f:Nat->Value}
theorem r9_grow (h:R9 C B0 L t x f W)(K:yp W W'):R9 C B0 L t x f W':=
 ⟨h.bel.trans (K.mono h.bel.size),h.c,fun a b=>zn (h.m13 a b) K,fun a b=>zn (h.m15 a b) K,fun a b=>by
  obtain⟨b',Z,Q,I,h4,h5⟩:=h.m17 a b;exact⟨b',Z,yK Q K.size,I,zf h4 K Q,h5⟩,fun a=>zn (h.m18 a) K⟩
theorem ew (h:R9 C B0 L t x f W)(i:Nat)(v:Value)(hv:C i v)(pM:i≠13)(jF:i≠15)(kz:i≠17)(aT:i≠18):R9 C B0 L t (x.set i true) (upd f i v) W:=by
 refine⟨h.bel,zP h.c hv,?_,?_,?_,?_⟩ <;> simp only[gq pM,gq jF,gq kz,gq aT,zu f v pM.symm,zu f v jF.symm,zu f v kz.symm,zu f v aT.symm]
 ·exact h.m13
 ·exact h.m15
 ·exact h.m17
 ·exact h.m18
theorem r9_13 (h:R9 C B0 L t x f W)(pM:x[13]? = some false)(hc:∀v,C 13 v):R9 C B0 L t (x.set 13 true) (upd f 13 (.slice (some (Y W.heap.size 0)) 0 0)) (W.alloc (me #[] 71)):=by
 have F:=r9_grow h ((Below.refl W.heap.size W).alloc yb (me #[] 71));refine⟨F.bel,zP F.c (hc _),?_,?_,?_,?_⟩
 ·intro _ _;rw[zp];exact World.ownsRow_made W #[] 0 h.bel.size (by decide) rfl
 ·rw[gq (by decide),gq (by decide),zu _ _ (by decide)];exact F.m15
 ·intro kz aT;rw[gq (by decide)] at kz aT;obtain⟨b,Z,Q,I,h4,h5⟩:=F.m17 kz aT;obtain⟨b',e1,e2,_⟩:=h.m17 kz aT;rw[Z] at e1;simp only[Value.slice.injEq,Option.some.injEq,Addr.mk.injEq,and_true] at e1;subst e1;refine⟨b,by rw[zu _ _ (by decide)];exact Z,Q,I,h4,fun _ _ e=>?_⟩;rw[zp] at e;simp[Value.ownBlock] at e;omega
 ·rw[gq (by decide),zu _ _ (by decide)];exact F.m18
theorem r9_15 (h:R9 C B0 L t x f W)(pM:x[13]? = some true)(jF:x[15]? = some false)(aT:x[18]? = some false)(hc:∀v,C 15 v){v':Value}(D:ORow W' B0.heap.size v' L)(F:W.grownBy W' (f 13).ownBlock):R9 C B0 L t (x.set 15 true) (upd f 15 v') W':=by
 refine⟨h.bel.grown F h.bel.size (fun k E=>((h.m13 pM jF).lt k E).1),zP h.c (hc _),?_,?_,?_,?_⟩
 ·intro _ e;rw[gqs jF] at e;cases e
 ·intro _ _;rw[zp];exact D
 ·intro kz _;rw[gq (by decide)] at kz;obtain⟨b,Z,Q,I,h4,h5⟩:=h.m17 kz aT;refine⟨b,by rw[zu _ _ (by decide)];exact Z,yK Q F.size,I,zv h4 F Q (fun e=>h5 pM jF e.symm),fun _ e=>?_⟩;rw[gqs jF] at e;cases e
 ·intro e;rw[gq (by decide),aT] at e;cases e
theorem r9_17 (h:R9 C B0 L t x f W)(kz:x[17]? = some false)(aT:x[18]? = some false)(hc:∀v,C 17 v):R9 C B0 L t (x.set 17 true) (upd f 17 (.slice (some (Y W.heap.size 0)) 1 1)) (W.alloc (Obj.cells t.vs.toArray 71)):=by
 have F:=r9_grow h ((Below.refl W.heap.size W).alloc yb (Obj.cells t.vs.toArray 71));refine⟨F.bel,zP F.c (hc _),?_,?_,?_,?_⟩
 ·rw[gq (by decide),gq (by decide),zu _ _ (by decide)];exact F.m13
 ·rw[gq (by decide),gq (by decide),zu _ _ (by decide)];exact F.m15
 ·intro _ _;refine⟨W.heap.size,zp _ _ _,by rw[zi];omega,h.bel.size,zm W t.vs _,fun pM jF e=>?_⟩;rw[gq (by decide)] at pM jF;rw[zu _ _ (by decide)] at e;have:=((h.m13 pM jF).lt _ e).2;omega
 ·rw[gq (by decide),zu _ _ (by decide)];exact F.m18
theorem r9_18 (h:R9 C B0 L t x f W)(jF:x[15]? = some true)(aT:x[18]? = some false)(hc:∀v,C 18 v){v':Value}(D:ORow W' B0.heap.size v' (L ++ [t]))(F:W.grownBy W' (f 15).ownBlock):R9 C B0 L t (x.set 18 true) (upd f 18 v') W':=by
 refine⟨h.bel.grown F h.bel.size (fun k E=>((h.m15 jF aT).lt k E).1),zP h.c (hc _),?_,?_,?_,?_⟩
 ·intro _ e;rw[gq (by decide)] at e;rw[e] at jF;cases jF
 ·intro _ e;rw[gqs aT] at e;cases e
 ·intro _ e;rw[gqs aT] at e;cases e
 ·intro _;rw[zp];exact D
end
def C9 (S c8:Nat)(ty left:Int)(lv:Value)(n1:Nat)(ta:Value)(N:Int):Nat->Value->Prop
 | 0,v=>v=h3 (S+1) 2
 | 1,v=>v=H ty
 | 2,v=>v = .bool true
 | 3,v=>v = .bool true
 | 4,v=>v=h3 c8 3
 | 5,v=>v=H left
 | 6,v=>v = .bool true
 | 7,v=>v = .bool true
 | 8,v=>v = .bool true
 | 9,v=>v=lv
 | 10,v=>v=H n1
 | 11,v=>v = .bool false
 | 12,v=>v = .bool false
 | 14,v=>v=lv
 | 16,v=>v=ta
 | 19,v=>v=H N
 | 20,v=>v = .bool (decide (8<N))
 | 21,v=>v = .bool (decide (8<N))
 | 22,v=>v = .bool (decide (8<N))
 | _,_=>True
theorem l04New_any (next:Int)(vb:Value)(l:List Od)(c:Cm)(w:World)(hr:RdR Od.vs 6 w vb l)(hs:SlOk vb)(F:GoodL l)(uF:∀x∈l,x.side=1\/x.side=2)(ht:c.g.size<=maxLen) :
  Calls Tryz.prog 53 #[.agg #[H next,vb],cmV c] w fun e w'=>e = .returned (H (newR next l c))/\yp w w':=by
 have HR:=U hr;have HG:=U F;have qJ:=U hs;have bF:=U uF;have pW:=U (fun W=>l03Tag_any c.g W ht);have HZR:=U (fun W=>l04Zero_any c.p W);have vJ:=U (fun W=>l01Ticks_any c.p W);obtain⟨a,cap,rfl,xC,hc⟩:=hr;obtain⟨kk,s,ty,li,qt,ii,pr,tg⟩:=c;unfold cmV;simp only at pW HZR vJ |-;clear hc F hs uF xC ht;have xG:=zi w (me #[H next,.slice a l.length cap] 31);have ug:((w.alloc (me #[H next,.slice a l.length cap] 31)).alloc (me (yy kk s ty li qt ii pr tg).toArray 37)).heap.size=w.heap.size+1+1:=by rw[zi,xG]
 have r1:=zm w [H next,.slice a l.length cap] 31;have r2:=zm (w.alloc (me #[H next,.slice a l.length cap] 31)) (yy kk s ty li qt ii pr tg) 37;rw[xG] at r2;have qE:Below (w.heap.size+1) (w.alloc (me #[H next,.slice a l.length cap] 31)) ((w.alloc (me #[H next,.slice a l.length cap] 31)).alloc (me (yy kk s ty li qt ii pr tg).toArray 37)):=(Below.refl _ _).alloc (by rw[xG];omega) _;have xz:Hid (yp w ((w.alloc (me #[H next,.slice a l.length cap] 31)).alloc (me (yy kk s ty li qt ii pr tg).toArray 37))):=(mc _ _).alloc (by rw[xG];omega) _;have HX:Hid (_/\_):=⟨zf r1 qE (by omega),r2⟩;have uz:Hid (w.heap.size+1<((w.alloc (me #[H next,.slice a l.length cap] 31)).alloc (me (yy kk s ty li qt ii pr tg).toArray 37)).heap.size):=by show _ < _;omega
 clear xG ug r1 r2 qE;go_enter Tryz.func53,Tryz.ntmps53;refine mg fun hb xw=>?_;go_wp2_with fail;refine O xw _ _ ?_;clear xw;generalize ((w.alloc (me #[H next,.slice a l.length cap] 31)).alloc (me (yy kk s ty li qt ii pr tg).toArray 37))=X2 at xz HX uz |-;have HX:Hid (X2.rangeAt w.heap.size 0 [H next,.slice a l.length cap]/\X2.rangeAt (w.heap.size+1) 0 (yy kk s ty li qt ii pr tg)):=O HX;have o1:X2.cell? (Y (w.heap.size+1) 1)=some (H s):=(O HX).2 1 _ rfl;have o2:X2.cell? (Y (w.heap.size+1) 2)=some (H ty):=(O HX).2 2 _ rfl;have o3:X2.cell? (Y (w.heap.size+1) 3)=some (H li):=(O HX).2 3 _ rfl;have o4:X2.cell? (Y (w.heap.size+1) 4)=some (H qt):=(O HX).2 4 _ rfl;have o6:X2.cell? (Y (w.heap.size+1) 6)=some (yk pr):=(O HX).2 6 _ rfl;have o7:X2.cell? (Y (w.heap.size+1) 7)=some (yl tg):=(O HX).2 7 _ rfl;refine mg fun hb xw=>?_;go_wp2_with (first|(go_at_call 57;refine(O vJ _).mono ?_;rintro e w' ⟨rfl,uy⟩;rw[uy];clear uy w')|(go_at_call 24;refine(eK _ _ _ _).mono ?_;rintro e w' ⟨rfl,uy⟩;rw[uy];clear uy w')|(go_at_call 35;refine(iA _ _).mono ?_;rintro e w' ⟨rfl,uy⟩;rw[uy];clear uy w')|(go_at_call 82;refine(O HZR _).mono ?_;rintro e w' ⟨rfl,uy⟩;rw[uy];clear uy w')|(go_at_call 50;refine(O pW _).mono ?_;rintro e w' ⟨rfl,uy⟩;rw[uy];clear uy w'));refine O xw _ _ ?_;clear xw;refine mg fun hb xw=>?_;cases bs:betB s 1 2;have HK:Hid (newR next l ⟨kk,s,ty,li,qt,ii,pr,tg⟩=3):=by show _ = _;simp[newR,bs]
 rotate_left;cases bt:betB ty 1 5;have HK:Hid (newR next l ⟨kk,s,ty,li,qt,ii,pr,tg⟩=4):=by show _ = _;simp[newR,bs,bt]
 rotate_left
 have HT:Hid (lifW ⟨kk,s,ty,li,qt,ii,pr,tg⟩=false->prcB ⟨kk,s,ty,li,qt,ii,pr,tg⟩=true->betB qt 1 1000000=true->tagB tg=true->∀(u5 u6 u10 u11 u12 u13 u14 u15 u16 u17 u18 u19 u20 u21 u22 u23 u24 u25 u26 u27 u28 u29 u30 u31 u32 u33 u34 u35 u36 u37 u38 u39 u40 u41 u42 u43 u44 u45 u46 u47 u48 u49 u50 u51 u52 u53 u54 u55 u56 u57 u58 u59 u60 u61 u62 u63 u64 u65 u66 u67 u68 u69 u70:Value),hb { tmps:=#[.agg #[H next,.slice a l.length cap],.agg (yy kk s ty li qt ii pr tg).toArray,h3 w.heap.size 0,h3 (w.heap.size+1) 0,H 0,u5,u6,M,M,M,u10,u11,u12,u13,u14,u15,u16,u17,u18,u19,u20,u21,u22,u23,u24,u25,u26,u27,u28,u29,u30,u31,u32,u33,u34,u35,u36,u37,u38,u39,u40,u41,u42,u43,u44,u45,u46,u47,u48,u49,u50,u51,u52,u53,u54,u55,u56,u57,u58,u59,u60,u61,u62,u63,u64,u65,u66,u67,u68,u69,u70,M,M,M,M,M,M,M,M,M,M,M,M,M,M,M,M,M,M,M,M,M,M,M,M,M,M,M,M,M,M,M,M,M,M,M,M,M,M,M,M,M,M,M,M,M,M,M,M,M,M,M,M,M,M,M],defers:=[] } X2):=by
  intro hlif hprc hqty htag u5 u6 u10 u11 u12 u13 u14 u15 u16 u17 u18 u19 u20 u21 u22 u23 u24 u25 u26 u27 u28 u29 u30 u31 u32 u33 u34 u35 u36 u37 u38 u39 u40 u41 u42 u43 u44 u45 u46 u47 u48 u49 u50 u51 u52 u53 u54 u55 u56 u57 u58 u59 u60 u61 u62 u63 u64 u65 u66 u67 u68 u69 u70;refine O xw _ _ ?_;clear xw o1 o2 o3 o4 o6 o7;have hside:=side_of bs;have hqq:1<=qt/\qt<=1000000:=by simpa[betB] using hqty
  have oE:Hid (newR next l ⟨kk,s,ty,li,qt,ii,pr,tg⟩=matS next ⟨kk,s,ty,li,qt,ii,pr,tg⟩ (matL ⟨kk,s,ty,li,qt,ii,pr,tg⟩ next 21 l qt [])):=by
   show _ = _;rw[matS_eq (O HG) (O bF) bs hprc hqty];simp[newR,bs,bt,hlif,hprc,hqty,htag]
  have cI:=U (fun W hW=>l04Match_any (.slice a l.length cap) l ⟨kk,s,ty,li,qt,ii,pr,tg⟩ next W hW (O HG) hside hprc (by show 0<=qt;omega) hqq.2);have jC:=U (fY (c:=⟨kk,s,ty,li,qt,ii,pr,tg⟩) (id:=next) 21 l qt [] (O HG) (by omega) hqq.2);simp only at cI jC;generalize matL ⟨kk,s,ty,li,qt,ii,pr,tg⟩ next 21 l qt []=hg at oE cI jC;generalize newR next l ⟨kk,s,ty,li,qt,ii,pr,tg⟩=res at oE |-;have HTKR:=U (fun W=>l04Taker_any next a l.length cap ⟨kk,s,ty,li,qt,ii,pr,tg⟩ W);unfold cmV at HTKR;simp only at HTKR
  have HMS:Hid (matS next ⟨kk,s,ty,li,qt,ii,pr,tg⟩ hg=if ty=5/\0<hg.2.2.length then 11 else if ty=4/\0<hg.2.1 then 12 else if next=1000000 then 13
   else if dj ty=true then(if 0<hg.2.1 then(if hg.1.length=20 then 13 else if 8<nlev (hg.1 ++ [⟨next,s,tkS pr,hg.2.1,li,tg⟩]) then 13 else 0) else 0) else 0):=rfl
  have oE:Hid (res = _):=(O oE).trans (O HMS);clear HMS hlif hprc hqty htag hqq;generalize tkS pr=tt at cI HTKR oE;obtain⟨L,left,ts⟩:=hg;simp only at cI oE jC;refine mg fun hb xw=>?_;refine zA (RNA (fun f=>{ tmps:=#[.agg #[H next,.slice a l.length cap],.agg (yy kk s ty li qt ii pr tg).toArray,h3 w.heap.size 0,h3 (w.heap.size+1) 0,H 0,u5,u6,f 11,f 10,f 13,u10,u11,u12,u13,u14,u15,u16,u17,u18,u19,u20,u21,u22,u23,u24,u25,u26,u27,u28,u29,u30,u31,u32,u33,u34,u35,u36,u37,u38,u39,u40,u41,u42,u43,u44,u45,u46,u47,u48,u49,u50,u51,u52,u53,u54,u55,u56,u57,u58,u59,u60,u61,u62,u63,u64,u65,u66,u67,u68,u69,u70,f 6,f 0,f 1,f 2,f 3,f 4,f 5,f 7,f 8,f 9,M,M,M,M,M,M,M,M,M,M,M,M,M,M,M,M,M,M,M,M,M,M,M,M,M,M,M,M,M,M,M,M,M,M,M,M,M,M,M,M,M,M,M,M,M],defers:=[] }) w.heap.size (.slice a l.length cap) (.agg #[H next,.slice a l.length cap]) (.agg (yy kk s ty li qt ii pr tg).toArray) (.agg (yx next s tt qt li tg).toArray) (.agg (yx next s tt left li tg).toArray) (yx next s tt left li tg) L ts.length X2) (by kernel_rfl) ?_ ?_ ?_
  ·exact⟨fun j=>M,rfl,⟨⟨rfl,rfl,rfl,Nat.le_refl _,fun _ _=>rfl⟩,fun j hj=>by rw[yJ] at hj;split at hj <;> simp at hj,by simp,by simp,by simp⟩⟩
  ·rintro x md V ⟨f,rfl,hR⟩ hx xY;have xq:=fo xY hx (by kernel_rfl);obtain⟨lv,ev,e5,hlv,ae,ce,hev⟩:=hR.m5 (xq 5 (by simp));obtain⟨c8,vQ,jT,jX,-,hcr⟩:=hR.m10 (xq 10 (by simp));obtain⟨lv',ev',vY,e11'⟩:=hR.e 11 (xq 11 (by simp));obtain⟨lv'',ev'',qF,e13'⟩:=hR.e 13 (xq 13 (by simp));have HC8:=U (hcr (xq 12 (by simp)));rw[e5] at vY qF;have q1:lv=lv':=(tup3 vY).1;have q2:ev=ev'':=(tup3 qF).2.2;rw[<- q1] at e11';rw[<- q2,hev] at e13';have kS:=U hlv;have xI:=U ((O xz).trans (hR.bel.mono (O xz).size));have HXV:Hid (V.rangeAt w.heap.size 0 [H next,.slice a l.length cap]/\V.rangeAt (w.heap.size+1) 0 (yy kk s ty li qt ii pr tg)):=⟨zf (O HX).1 hR.bel (by have:=O uz;omega),zf (O HX).2 hR.bel (O uz)⟩;have hVS:w.heap.size+1<V.heap.size:=yK (O uz) hR.bel.size;refine O xw _ _ ?_;clear xw;simp only[vQ,e11',e13'];generalize f 6=u71,f 0=u72,f 1=u73,f 2=u74,f 3=u75,f 4=u76,f 5=u77,f 7=u78,f 8=u79,f 9=u80;clear hR xq e5 vQ vY qF e11' e13' q1 q2 hcr xY hx hlv hev cI HTKR HX xz uz;obtain⟨⟨al,cal,uJ,jf,qd⟩,hsl⟩:=O kS;have HRL:Hid (RdR Od.vs 6 V (.slice al L.length cal) L):=by rw[<- uJ];exact(O kS).1
   have HSV:Hid (SlOk (.slice al L.length cal)):=by rw[<- uJ];exact hsl
   subst uJ;clear qd hsl jf kS;have k0:V.cell? (Y w.heap.size 0)=some (H next):=(O HXV).1 0 _ rfl;have o2:V.cell? (Y (w.heap.size+1) 2)=some (H ty):=(O HXV).2 2 _ rfl;have c3:V.cell? (Y c8 3)=some (H left):=O HC8 3 _ rfl;have h20:L.length<=20:=(O jC).1.len;refine mg fun hb xw=>?_
   have qg:Hid (¬ (ty=5/\0<ts.length)->¬ (ty=4/\0<left)->next≠1000000->∀(u5 u6 u10 u11 u12 u13 u14 u15 u16 u17 u18 u19 u20 u21 u22 u23 u24 u25 u26 u27 u28 u29 u30 u31 u32 u33 u34 u35 u36 u37 u38 u39 u40 u41 u42 u43 u44 u45 u46 u47 u48 u49 u50 u51 u52 u53 u54 u55 u56 u57 u58 u59 u60 u61 u62 u63 u64 u65 u66 u67 u68 u69 u70 u71 u72 u73 u74 u75 u76 u77 u78 u79 u80 u81 u82 u83 u84 u85 u86 u87 u88 u89 u90 u91 u92 u93 u94 u95 u96 u97 u98 u99 u100 u101 u102:Value),hb { tmps:=#[.agg #[H next,.slice a l.length cap],.agg (yy kk s ty li qt ii pr tg).toArray,h3 w.heap.size 0,h3 (w.heap.size+1) 0,H 0,u5,u6,.slice al L.length cal,h3 c8 0,.slice ae ts.length ce,u10,u11,u12,u13,u14,u15,u16,u17,u18,u19,u20,u21,u22,u23,u24,u25,u26,u27,u28,u29,u30,u31,u32,u33,u34,u35,u36,u37,u38,u39,u40,u41,u42,u43,u44,u45,u46,u47,u48,u49,u50,u51,u52,u53,u54,u55,u56,u57,u58,u59,u60,u61,u62,u63,u64,u65,u66,u67,u68,u69,u70,u71,u72,u73,u74,u75,u76,u77,u78,u79,u80,u81,u82,u83,u84,u85,u86,u87,u88,u89,u90,u91,u92,u93,u94,u95,u96,u97,u98,u99,u100,u101,u102,M,M,M,M,M,M,M,M,M,M,M,M,M,M,M,M,M,M,M,M,M,M,M],defers:=[] } V):=by
    intro g5 g4 gn u5 u6 u10 u11 u12 u13 u14 u15 u16 u17 u18 u19 u20 u21 u22 u23 u24 u25 u26 u27 u28 u29 u30 u31 u32 u33 u34 u35 u36 u37 u38 u39 u40 u41 u42 u43 u44 u45 u46 u47 u48 u49 u50 u51 u52 u53 u54 u55 u56 u57 u58 u59 u60 u61 u62 u63 u64 u65 u66 u67 u68 u69 u70 u71 u72 u73 u74 u75 u76 u77 u78 u79 u80 u81 u82 u83 u84 u85 u86 u87 u88 u89 u90 u91 u92 u93 u94 u95 u96 u97 u98 u99 u100 u101 u102
    have HRS:Hid (res=if dj ty=true then(if 0<left then(if L.length=20 then 13 else if 8<nlev (L ++ [⟨next,s,tt,left,li,tg⟩]) then 13 else 0) else 0) else 0):=by
     have:=O oE;rw[if_neg g5,if_neg g4,if_neg gn] at this;exact this
    refine O xw _ _ ?_;clear xw g5 g4 gn oE k0;have jr:Hid (∀w':World,V.grownBy w' none->w'.cell? (Y (w.heap.size+1) 2)=some (H ty)/\w'.cell? (Y c8 3)=some (H left)):=fun w' h'=>⟨zv (O HXV).2 h' hVS (by simp) 2 _ rfl,zv (O HC8) h' jX (by simp) 3 _ rfl⟩;have HRB:=U (fun W=>iA ty W);cases brs:dj ty
    ·have HQ0:Hid (res=0):=(O HRS).trans (by rw[brs];rfl);rw[brs] at HRB;go_wp2_with fail;go_quiet ((go_at_call 35;refine Calls.quiet_of_same (O HRB _)));go_wp2_with fail;go_ret;exact⟨zt (O HQ0).symm,zY (O xI) _⟩
    rw[brs] at HRB
    by_cases aZ:0<left
    ·by_cases ay:L.length=20
     ·have HQ0:Hid (res=13):=(O HRS).trans (by rw[if_pos brs,if_pos aZ,if_pos ay]);have cV:(L.length:Int)=20:=by omega
      have hb20:((L.length:Int)==20)=true:=by simpa using cV
      have hlf':decide (0<left)=true:=by simpa using aZ
      clear ay cV;go_wp2_with fail;go_quiet ((go_at_call 35;refine Calls.quiet_of_same (O HRB _)));go_wp2_with fail;go_ret;exact⟨zt (O HQ0).symm,zY (O xI) _⟩
     ·have HQ0:Hid (res=if decide (8<((nlev (L ++ [⟨next,s,tt,left,li,tg⟩]):Nat):Int))=true then 13 else 0):=(O HRS).trans (by
       rw[if_pos brs,if_pos aZ,if_neg ay]
       by_cases h8:8<nlev (L ++ [⟨next,s,tt,left,li,tg⟩])
       ·rw[if_pos h8,if_pos (by simp only[xg];omega)]
       ·rw[if_neg h8,if_neg (by simp only[xg];omega)])
      have HLV2:=U (fun(W:World) (v:Value) (hW:RdR Od.vs 6 W v (L ++ [⟨next,s,tt,left,li,tg⟩]))=>l03Levels_any v (L ++ [⟨next,s,tt,left,li,tg⟩]) W hW (by simp;omega));generalize ((nlev (L ++ [⟨next,s,tt,left,li,tg⟩]):Nat):Int)=N at HQ0 HLV2;have cV:¬ (L.length:Int)=20:=by omega
      have hb20:((L.length:Int)==20)=false:=by rw[xe];exact cV
      have hlf':decide (0<left)=true:=by simpa using aZ
      obtain⟨i0,uo,ub,xX,uh⟩:=info_parts Tryz.infoOrder;clear ay;go_wp2_with fail;refine zA (R9A (fun f=>{ tmps:=#[.agg #[H next,.slice a l.length cap],.agg (yy kk s ty li qt ii pr tg).toArray,h3 w.heap.size 0,h3 (w.heap.size+1) 0,H 0,u5,u6,.slice al L.length cal,h3 c8 0,.slice ae ts.length ce,u10,u11,u12,u13,u14,u15,u16,u17,u18,u19,u20,u21,u22,u23,u24,u25,u26,u27,u28,u29,u30,u31,u32,u33,u34,u35,u36,u37,u38,u39,u40,u41,u42,u43,u44,u45,u46,u47,u48,u49,u50,u51,u52,u53,u54,u55,u56,u57,u58,u59,u60,u61,u62,u63,u64,u65,u66,u67,u68,u69,u70,u71,u72,u73,u74,u75,u76,u77,u78,u79,u80,u81,u82,u83,u84,u85,u86,u87,u88,u89,u90,u91,u92,u93,u94,u95,u96,u97,u98,u99,u100,u101,u102,f 0,f 1,f 2,f 3,f 4,f 5,f 6,f 7,f 8,f 9,f 10,f 11,f 12,f 13,f 14,f 15,f 16,f 17,f 18,f 19,f 20,f 21,f 22],defers:=[] }) (C9 w.heap.size c8 ty left (.slice al L.length cal) L.length (.agg (yx next s tt left li tg).toArray) N) V L ⟨next,s,tt,left,li,tg⟩) (by kernel_rfl) ?_ ?_ ?_
      ·exact⟨fun j=>M,rfl,⟨⟨rfl,rfl,rfl,Nat.le_refl _,fun _ _=>rfl⟩,fun j hj=>by rw[yJ] at hj;split at hj <;> simp at hj,by simp,by simp,by simp,by simp⟩⟩
      ·rintro x md V' ⟨f,rfl,hR⟩ hx xY;have xq:=eM xY hx (acyc _ (by kernel_rfl));have e22:f 22 = .bool (decide (8<N)):=hR.c 22 (xq 22 (by simp));have xL:=U ((O xI).trans (hR.bel.mono (O xI).size));simp only[e22];clear hR xq e22 xY hx;cases hd:decide (8<N)
       ·have aQ:Hid (res=0):=(O HQ0).trans (by rw[hd];rfl);go_wp2_with fail;go_ret;exact⟨zt (O aQ).symm,O xL⟩
       ·have aQ:Hid (res=13):=(O HQ0).trans (by rw[hd];rfl);go_wp2_with fail;go_ret;exact⟨zt (O aQ).symm,O xL⟩
      ·rintro x md V' i' o' ⟨f,rfl,hR⟩ xo hx D xA X;have xJ:=U hR;have o2:V'.cell? (Y (w.heap.size+1) 2)=some (H ty):=zf (O HXV).2 hR.bel hVS 2 _ rfl;have HC9:=U (zf (O HC8) hR.bel jX);have c3:V'.cell? (Y c8 3)=some (H left):=O HC9 3 _ rfl;have xl:=U hR.bel;clear HRS HQ0
       match i',D with
       | 0,D =>
        cases D;clear X hR xo;go_simp;exact⟨upd f 0 (h3 (w.heap.size+1) 2),by simp[upd],ew (O xJ) 0 _ rfl (by decide) (by decide) (by decide) (by decide)⟩
       | 1,D =>
        cases D;have g0:f 0=h3 (w.heap.size+1) 2:=hR.c 0 (yf X 0 rfl);clear X hR xo;go_simp;exact⟨upd f 1 (H ty),by simp[upd,g0],ew (O xJ) 1 _ rfl (by decide) (by decide) (by decide) (by decide)⟩
       | 2,D =>
        cases D;have g1:f 1=H ty:=hR.c 1 (yf X 1 rfl);clear X hR xo;go_simp;refine(iA ty _).mono ?_;rintro e w3 ⟨rfl,hw3⟩;rw[hw3,brs];exact⟨upd f 2 (.bool true),by simp[upd,g1],ew (O xJ) 2 _ rfl (by decide) (by decide) (by decide) (by decide)⟩
       | 3,D =>
        cases D;have g2:f 2 = .bool true:=hR.c 2 (yf X 2 rfl);clear X hR xo;go_simp;exact⟨upd f 3 (.bool true),by simp[upd,g2],ew (O xJ) 3 _ rfl (by decide) (by decide) (by decide) (by decide)⟩
       | 4,D =>
        cases D;have g3:f 3 = .bool true:=hR.c 3 (yf X 3 rfl);clear X hR xo;rw[if_pos (by simp only[g3];rfl)];unfold Oper.wp;go_simp;exact⟨upd f 4 (h3 c8 3),by simp[upd,g3],ew (O xJ) 4 _ rfl (by decide) (by decide) (by decide) (by decide)⟩
       | 5,D =>
        cases D;have g4:f 4=h3 c8 3:=hR.c 4 (yf X 4 rfl);have g3:f 3 = .bool true:=hR.c 3 (yf X 3 rfl);clear X hR xo;rw[if_pos (by simp only[g3];rfl)];unfold Oper.wp;go_simp;exact⟨upd f 5 (H left),by simp[upd,g4,g3],ew (O xJ) 5 _ rfl (by decide) (by decide) (by decide) (by decide)⟩
       | 6,D =>
        cases D;have g5:f 5=H left:=hR.c 5 (yf X 5 rfl);have g3:f 3 = .bool true:=hR.c 3 (yf X 3 rfl);clear X hR xo;rw[if_pos (by simp only[g3];rfl)];unfold Oper.wp;go_simp;exact⟨upd f 6 (.bool true),by simp[upd,g5,g3],ew (O xJ) 6 _ rfl (by decide) (by decide) (by decide) (by decide)⟩
       | 7,D =>
        cases D;have g3:f 3 = .bool true:=hR.c 3 (yf X 3 rfl);have g6:f 6 = .bool true:=hR.c 6 (yf X 6 rfl);clear X hR xo;go_simp;exact⟨upd f 7 (.bool true),by simp[upd,g3,g6],ew (O xJ) 7 _ rfl (by decide) (by decide) (by decide) (by decide)⟩
       | 8,D =>
        cases D;have g7:f 7 = .bool true:=hR.c 7 (yf X 7 rfl);clear X hR xo;go_simp;exact⟨upd f 8 (.bool true),by simp[upd,g7],ew (O xJ) 8 _ rfl (by decide) (by decide) (by decide) (by decide)⟩
       | 9,D =>
        cases D;have g8:f 8 = .bool true:=hR.c 8 (yf X 8 rfl);clear X hR xo;rw[if_pos (by simp only[g8];rfl)];unfold Oper.wp;go_simp;exact⟨upd f 9 (.slice al L.length cal),by simp[upd,g8],ew (O xJ) 9 _ rfl (by decide) (by decide) (by decide) (by decide)⟩
       | 10,D =>
        cases D;have g9:f 9 = .slice al L.length cal:=hR.c 9 (yf X 9 rfl);have g8:f 8 = .bool true:=hR.c 8 (yf X 8 rfl);clear X hR xo;rw[if_pos (by simp only[g8];rfl)];unfold Oper.wp;go_simp;exact⟨upd f 10 (H L.length),by simp[upd,g9,g8],ew (O xJ) 10 _ rfl (by decide) (by decide) (by decide) (by decide)⟩
       | 11,D =>
        cases D;have kN:f 10=H L.length:=hR.c 10 (yf X 10 rfl);have g8:f 8 = .bool true:=hR.c 8 (yf X 8 rfl);clear X hR xo;rw[if_pos (by simp only[g8];rfl)];unfold Oper.wp;go_simp;exact⟨upd f 11 (.bool false),by simp[upd,kN,g8],ew (O xJ) 11 _ rfl (by decide) (by decide) (by decide) (by decide)⟩
       | 12,D =>
        cases D;have jR:f 11 = .bool false:=hR.c 11 (yf X 11 rfl);have g8:f 8 = .bool true:=hR.c 8 (yf X 8 rfl);clear X hR xo;rw[if_pos (by simp only[g8];rfl)];unfold Oper.wp;go_simp;exact⟨upd f 12 (.bool false),by simp[upd,jR,g8],ew (O xJ) 12 _ rfl (by decide) (by decide) (by decide) (by decide)⟩
       | 13,D =>
        cases D;have ql:f 12 = .bool false:=hR.c 12 (yf X 12 rfl);clear X hR xo;rw[if_pos (by simp only[ql];rfl)];unfold Oper.wp;go_simp;exact⟨upd f 13 (.slice (some (Y V'.heap.size 0)) 0 0),by simp[upd,ql],r9_13 (O xJ) xA (fun _=>trivial)⟩
       | 14,D =>
        cases D;have ql:f 12 = .bool false:=hR.c 12 (yf X 12 rfl);clear X hR xo;rw[if_pos (by simp only[ql];rfl)];unfold Oper.wp;go_simp;exact⟨upd f 14 (.slice al L.length cal),by simp[upd,ql],ew (O xJ) 14 _ rfl (by decide) (by decide) (by decide) (by decide)⟩
       | 15,D =>
        cases D;have ql:f 12 = .bool false:=hR.c 12 (yf X 12 rfl);have bP:f 14 = .slice al L.length cal:=hR.c 14 (yf X 14 rfl);have k13:x[13]? = some true:=X ⟨13,.data⟩ (by simp) rfl
        have n18:x[18]? = some false:=by
         rcases fD hx (show 18<23 by omega) with h|h
         ·exact h
         ·have:=yh xo 18 rfl h 15 rfl;rw[xA] at this;cases this
        have HO13:=U (hR.m13 k13 xA)
        have uk:Hid (∀ad,al=some ad->∀j u,(L.flatMap Od.vs)[j]? = some u->V'.cell? (ad.add j)=some u):=fun ad had=>by
         have h:=zq (O HRL) (O xl) yb;rw[had] at h;exact rd_src h
        clear X hR xo;rw[if_pos (by simp only[ql];rfl)];rcases O HSV with h|⟨ad,nn,cc,h⟩
        ·simp only[Value.slice.injEq] at h;have hL:L = []:=List.length_eq_zero_iff.1 h.2.1;refine ma (.tmp 116) (.tmp 117) 29 rfl V.heap.size 71 i0 6 Tryz.underlying29 uo (f 13) 0 [] rfl (O HO13) (by show f 14 = _;rw[bP,h.1,h.2.1,h.2.2]) ?_;refine⟨upd f 15 (f 13),rfl,r9_15 (O xJ) k13 xA n18 (fun _=>trivial) (by rw[hL];exact O HO13) (yS _ _)⟩
        ·simp only[Value.slice.injEq] at h;refine wp_append_own V' (.tmp 116) (.tmp 117) 29 rfl V.heap.size 71 i0 _ 6 56 Tryz.underlying29 uo ub xX uh rfl (by decide) (f 13) 0 [] rfl (O HO13) ad L.length cal (L.flatMap Od.vs) (by show f 14 = _;rw[bP,h.1]) (by rw[dT Od.len]) (O uk ad h.1) (fQ L) (by unfold maxLen;omega) (by omega) (O xl).size ?_;intro v' w' xu uN _;refine⟨upd f 15 v',rfl,r9_15 (O xJ) k13 xA n18 (fun _=>trivial) ?_ uN⟩;show w'.ownsRow _ _ _ _ L.length _;simpa using xu
       | 16,D =>
        cases D;have ql:f 12 = .bool false:=hR.c 12 (yf X 12 rfl);obtain⟨q0,q1,q2,q3,q4,q5⟩:=yD (O HC9);clear X hR xo;rw[if_pos (by simp only[ql];rfl)];unfold Oper.wp;go_simp;exact⟨upd f 16 (.agg (yx next s tt left li tg).toArray),by simp[upd,ql],ew (O xJ) 16 _ rfl (by decide) (by decide) (by decide) (by decide)⟩
       | 17,D =>
        cases D;have ql:f 12 = .bool false:=hR.c 12 (yf X 12 rfl);have g16:f 16 = .agg (yx next s tt left li tg).toArray:=hR.c 16 (yf X 16 rfl)
        have n18:x[18]? = some false:=by
         rcases fD hx (show 18<23 by omega) with h|h
         ·exact h
         ·have:=yh xo 18 rfl h 17 rfl;rw[xA] at this;cases this
        clear X hR xo;rw[if_pos (by simp only[ql];rfl)];unfold Oper.wp;go_simp;exact⟨upd f 17 (.slice (some (Y V'.heap.size 0)) 1 1),by simp[upd,ql,g16],r9_17 (O xJ) xA n18 (fun _=>trivial)⟩
       | 18,D =>
        cases D;have ql:f 12 = .bool false:=hR.c 12 (yf X 12 rfl);have k15:x[15]? = some true:=X ⟨15,.data⟩ (by simp) rfl;obtain⟨b,g17,ud,xy,xV,-⟩:=hR.m17 (yf X 17 rfl) xA;have HO15:=U (hR.m15 k15 xA)
        have uk:Hid (∀j u,(Od.vs ⟨next,s,tt,left,li,tg⟩)[j]? = some u->V'.cell? (((Y b 0):Addr).add j)=some u):=fun j u hu=>by
         have:=xV j u hu;rw[Addr.add_mid];exact this
        clear X hR xo xV;rw[if_pos (by simp only[ql];rfl)];refine wp_append_own V' (.tmp 118) (.tmp 120) 29 rfl V.heap.size 71 i0 _ 6 56 Tryz.underlying29 uo ub xX uh rfl (by decide) (f 15) L.length (L.flatMap Od.vs) rfl (O HO15) (Y b 0) 1 1 (Od.vs ⟨next,s,tt,left,li,tg⟩) (by show f 17 = _;exact g17) rfl (O uk) (one_od _) (by unfold maxLen;omega) (by omega) (O xl).size ?_;intro v' w' xu uN _;refine⟨upd f 18 v',rfl,r9_18 (O xJ) k15 xA (fun _=>trivial) ?_ uN⟩;show w'.ownsRow _ _ _ _ (L ++ [(⟨next,s,tt,left,li,tg⟩:Od)]).length _;rw[yQ,List.flatMap_append];simpa using xu
       | 19,D =>
        cases D;have ql:f 12 = .bool false:=hR.c 12 (yf X 12 rfl);have HO18:=U (hR.m18 (yf X 18 rfl));clear X hR xo;rw[if_pos (by simp only[ql];rfl)];unfold Oper.wp;go_simp;refine(O HLV2 V' (f 18) (zZ (O HO18) (by simp;omega))).mono ?_;rintro e w4 ⟨rfl,jH⟩;exact⟨upd f 19 (H N),by simp[upd,ql],ew (r9_grow (O xJ) (lm jH (fun g F=>by cases F) yb)) 19 _ rfl (by decide) (by decide) (by decide) (by decide)⟩
       | 20,D =>
        cases D;have g19:f 19=H N:=hR.c 19 (yf X 19 rfl);have ql:f 12 = .bool false:=hR.c 12 (yf X 12 rfl);clear X hR xo;rw[if_pos (by simp only[ql];rfl)];unfold Oper.wp;go_simp;exact⟨upd f 20 (.bool (decide (8<N))),by simp[upd,g19,ql],ew (O xJ) 20 _ rfl (by decide) (by decide) (by decide) (by decide)⟩
       | 21,D =>
        cases D;have ql:f 12 = .bool false:=hR.c 12 (yf X 12 rfl);have g20:f 20 = .bool (decide (8<N)):=hR.c 20 (yf X 20 rfl);have g8:f 8 = .bool true:=hR.c 8 (yf X 8 rfl);clear X hR xo;rw[if_pos (by simp only[g8];rfl)];unfold Oper.wp;go_simp;exact⟨upd f 21 (.bool (decide (8<N))),by simp[upd,ql,g20,g8],ew (O xJ) 21 _ rfl (by decide) (by decide) (by decide) (by decide)⟩
       | 22,D =>
        cases D;have g8:f 8 = .bool true:=hR.c 8 (yf X 8 rfl);have g21:f 21 = .bool (decide (8<N)):=hR.c 21 (yf X 21 rfl);clear X hR xo;go_simp;exact⟨upd f 22 (.bool (decide (8<N))),by simp[upd,g8,g21],ew (O xJ) 22 _ rfl (by decide) (by decide) (by decide) (by decide)⟩
       | n+23,D=>simp at D
    ·have HQ0:Hid (res=0):=(O HRS).trans (by rw[if_pos brs,if_neg aZ]);have hlf':decide (0<left)=false:=by simpa using aZ
     go_wp2_with fail;go_quiet ((go_at_call 35;refine Calls.quiet_of_same (O HRB _)));go_wp2_with fail;go_ret;exact⟨zt (O HQ0).symm,zY (O xI) _⟩
   clear xw
   have HTN:Hid (¬ (ty=5/\0<ts.length)->¬ (ty=4/\0<left)->next=1000000->res=13):=fun g5 g4 gn=>by
    have:=O oE;rw[if_neg g5,if_neg g4,if_pos gn] at this;exact this
   by_cases h5:ty=5
   ·by_cases hts:0<ts.length
    ·have aQ:Hid (res=11):=(O oE).trans (if_pos ⟨h5,hts⟩);subst h5;have hts':(0:Int)<ts.length:=by omega
     clear hts qg HTN;go_wp2_with fail;go_ret;exact⟨zt (O aQ).symm,O xI⟩
    ·subst h5;have g5:¬ ((5:Int)=5/\0<ts.length):=fun h=>hts h.2;have g4:¬ ((5:Int)=4/\0<left):=fun h=>by omega
     have hts':¬ (0:Int)<ts.length:=by omega
     have htz:(ts.length:Int)=0:=by omega
     by_cases qu:next=1000000
     ·have aQ:=U (O HTN g5 g4 qu);subst qu;clear qg HTN g5 g4;go_wp2_with fail;go_ret;exact⟨zt (O aQ).symm,O xI⟩
     have bn:(next==1000000)=false:=by rw[xe];exact qu
     have jQ:=U (O qg g5 g4 qu);clear qg HTN g5 g4 qu;go_wp2_with fail;exact O jQ _ _ _ _ _ _ _ _ _ _ _ _ _ _ _ _ _ _ _ _ _ _ _ _ _ _ _ _ _ _ _ _ _ _ _ _ _ _ _ _ _ _ _ _ _ _ _ _ _ _ _ _ _ _ _ _ _ _ _ _ _ _ _ _ _ _ _ _ _ _ _ _ _ _ _ _ _ _ _ _ _ _ _ _ _ _ _ _ _ _ _ _ _ _ _
   ·have b5:(ty==5)=false:=by rw[xe];exact h5
    have g5:¬ (ty=5/\0<ts.length):=fun h=>h5 h.1
    by_cases h4:ty=4
    ·by_cases aZ:0<left
     ·have aQ:Hid (res=12):=(O oE).trans (by rw[if_neg g5,if_pos ⟨h4,aZ⟩]);subst h4;clear qg HTN h5 g5 b5;go_wp2_with fail;go_ret;exact⟨zt (O aQ).symm,O xI⟩
     ·subst h4;have g4:¬ ((4:Int)=4/\0<left):=fun h=>aZ h.2
      by_cases qu:next=1000000
      ·have aQ:=U (O HTN g5 g4 qu);subst qu;clear qg HTN g5 g4;go_wp2_with fail;go_ret;exact⟨zt (O aQ).symm,O xI⟩
      have bn:(next==1000000)=false:=by rw[xe];exact qu
      have jQ:=U (O qg g5 g4 qu);clear qg HTN g5 g4 qu;go_wp2_with fail;exact O jQ _ _ _ _ _ _ _ _ _ _ _ _ _ _ _ _ _ _ _ _ _ _ _ _ _ _ _ _ _ _ _ _ _ _ _ _ _ _ _ _ _ _ _ _ _ _ _ _ _ _ _ _ _ _ _ _ _ _ _ _ _ _ _ _ _ _ _ _ _ _ _ _ _ _ _ _ _ _ _ _ _ _ _ _ _ _ _ _ _ _ _ _ _ _ _
    ·have b4:(ty==4)=false:=by rw[xe];exact h4
     have g4:¬ (ty=4/\0<left):=fun h=>h4 h.1
     by_cases qu:next=1000000
     ·have aQ:=U (O HTN g5 g4 qu);subst qu;clear qg HTN g5 g4;go_wp2_with fail;go_ret;exact⟨zt (O aQ).symm,O xI⟩
     have bn:(next==1000000)=false:=by rw[xe];exact qu
     have jQ:=U (O qg g5 g4 qu);clear qg HTN g5 g4 qu;go_wp2_with fail;exact O jQ _ _ _ _ _ _ _ _ _ _ _ _ _ _ _ _ _ _ _ _ _ _ _ _ _ _ _ _ _ _ _ _ _ _ _ _ _ _ _ _ _ _ _ _ _ _ _ _ _ _ _ _ _ _ _ _ _ _ _ _ _ _ _ _ _ _ _ _ _ _ _ _ _ _ _ _ _ _ _ _ _ _ _ _ _ _ _ _ _ _ _ _ _ _ _
  ·rintro x md V i' o' ⟨f,rfl,hR⟩ xo hx D xA X;have xJ:=U hR;have xl:=hR.bel;have xK:=O uz;clear xw
   match i',D with
   | 0,D =>
    cases D;clear X hR xo;go_simp;exact⟨upd f 0 (h3 w.heap.size 1),by simp[upd],fU (O xJ) 0 _ (by decide) (by decide) (by decide) (rfl)⟩
   | 1,D =>
    cases D;have g0:f 0=h3 w.heap.size 1:=hR.e 0 (yf X 0 rfl);have z1:V.cell? (Y w.heap.size 1)=some (.slice a l.length cap):=zf (O HX).1 xl (by omega) 1 _ rfl;clear X hR xo;go_simp;exact⟨upd f 1 (.slice a l.length cap),by simp[upd,g0],fU (O xJ) 1 _ (by decide) (by decide) (by decide) (rfl)⟩
   | 2,D =>
    cases D;have z0:V.cell? (Y w.heap.size 0)=some (H next):=zf (O HX).1 xl (by omega) 0 _ rfl;have z1:V.cell? (Y w.heap.size 1)=some (.slice a l.length cap):=zf (O HX).1 xl (by omega) 1 _ rfl;clear X hR xo;go_simp;exact⟨upd f 2 (.agg #[H next,.slice a l.length cap]),by simp[upd],fU (O xJ) 2 _ (by decide) (by decide) (by decide) (rfl)⟩
   | 3,D =>
    cases D;obtain⟨z0,z1,z2,z3,z4,z5,z6,z7⟩:=yE (zf (O HX).2 xl (by omega));clear X hR xo;go_simp;exact⟨upd f 3 (.agg (yy kk s ty li qt ii pr tg).toArray),by simp[upd],fU (O xJ) 3 _ (by decide) (by decide) (by decide) (rfl)⟩
   | 4,D =>
    cases D;have g2:f 2 = .agg #[H next,.slice a l.length cap]:=hR.e 2 (yf X 2 rfl);have g3:f 3 = .agg (yy kk s ty li qt ii pr tg).toArray:=hR.e 3 (yf X 3 rfl);clear X hR xo;go_simp;refine(O HTKR _).mono ?_;rintro e w4 ⟨rfl,xF⟩;exact⟨upd f 4 (.agg (yx next s tt qt li tg).toArray),by simp[upd,g2,g3],fU (rn_grow (O xJ) xF) 4 _ (by decide) (by decide) (by decide) rfl⟩
   | 5,D =>
    cases D;have g1:f 1 = .slice a l.length cap:=hR.e 1 (yf X 1 rfl);have g4:f 4 = .agg (yx next s tt qt li tg).toArray:=hR.e 4 (yf X 4 rfl)
    have qZ:∀j,(j=6\/j=7\/j=9\/j=11\/j=13)->x[j]? ≠ some true:=fun j hj e=>by
     have h6:x[6]? ≠ some true:=fun e6=>by have:=yh xo 6 rfl e6 5 rfl;rw[xA] at this;cases this
     rcases hj with rfl|rfl|rfl|rfl|rfl
     ·exact h6 e
     ·exact h6 (yh xo 7 rfl e 6 rfl)
     ·exact h6 (yh xo 9 rfl e 6 rfl)
     ·exact h6 (yh xo 11 rfl e 6 rfl)
     ·exact h6 (yh xo 13 rfl e 6 rfl)
    have HNO:=U qZ;have HRV:=U (zq (zq (O HR) (O xz) yb) xl yb);clear X hR xo qZ;go_simp;refine(O cI V (O HRV)).mono ?_;rintro e w4 ⟨lv,ve,rfl,hl4,he4,xF⟩;refine⟨upd f 5 (.tuple #[lv,.agg (yx next s tt left li tg).toArray,ve]),by simp[upd,g1,g4],rn_5 (O xJ) xF ?_ ?_ (O HNO) ?_⟩
    ·rcases hl4 with⟨rfl,hL⟩|h
     ·simp only at hL;rw[hL];exact⟨zq (O HRV) xF yb,O qJ⟩
     ·exact⟨zZ h (by have h20:L.length<=20:=(O jC).1.len;show L.length <= _;omega),iq h⟩
    ·rcases he4.2 with⟨Z,Q⟩|⟨g,jd,xt,Z,_⟩
     ·exact⟨none,0,by rw[Z];simp only at Q;rw[Q]⟩
     ·exact⟨_,_,Z⟩
    ·intro c8 jT jX xE e;rcases hl4 with⟨rfl,hL⟩|h
     ·simp only at hL;obtain⟨b,ud,xy⟩:=rd_block (O HR) (by rw[<- hL];exact xE);rw[ud] at e;simp only[Option.some.injEq] at e;have:=(O xz).size;omega
     ·have:=(h.lt c8 e).1;omega
   | 6,D =>
    cases D;clear X hR xo;go_simp;exact⟨upd f 6 (f 5),by simp[upd],fU (O xJ) 6 _ (by decide) (by decide) (by decide) (rfl)⟩
   | 7,D =>
    cases D;obtain⟨lv,ev,e5,-⟩:=hR.m5 (yh xo 6 rfl (yf X 6 rfl) 5 rfl);have g6:f 6=f 5:=hR.e 6 (yf X 6 rfl);rw[e5] at g6;clear X hR xo;go_simp;exact⟨upd f 7 lv,by simp[upd,g6,e5],fU (O xJ) 7 _ (by decide) (by decide) (by decide) ⟨lv,ev,e5,rfl⟩⟩
   | 8,D =>
    cases D;obtain⟨lv,ev,e5,-⟩:=hR.m5 (yh xo 6 rfl (yf X 6 rfl) 5 rfl);have g6:f 6=f 5:=hR.e 6 (yf X 6 rfl);rw[e5] at g6;clear X hR xo;go_simp;exact⟨upd f 8 (.agg (yx next s tt left li tg).toArray),by simp[upd,g6,e5],fU (O xJ) 8 _ (by decide) (by decide) (by decide) rfl⟩
   | 9,D =>
    cases D;obtain⟨lv,ev,e5,-⟩:=hR.m5 (yh xo 6 rfl (yf X 6 rfl) 5 rfl);have g6:f 6=f 5:=hR.e 6 (yf X 6 rfl);rw[e5] at g6;clear X hR xo;go_simp;exact⟨upd f 9 ev,by simp[upd,g6,e5],fU (O xJ) 9 _ (by decide) (by decide) (by decide) ⟨lv,ev,e5,rfl⟩⟩
   | 10,D =>
    cases D;have cA:x[12]? ≠ some true:=fun e=>by have:=yh xo 12 rfl e 10 rfl;rw[xA] at this;cases this
    clear X hR xo;go_simp;exact⟨upd f 10 (h3 V.heap.size 0),by simp[upd],rn_10 (O xJ) cA (zM V (yx 0 0 0 0 0 ⟨#[]⟩) _)⟩
   | 11,D =>
    cases D;obtain⟨lv,ev,e5,e7⟩:=hR.e 7 (yf X 7 rfl);clear X hR xo;go_simp;exact⟨upd f 11 lv,by simp[upd,e7,e5],fU (O xJ) 11 _ (by decide) (by decide) (by decide) ⟨lv,ev,e5,rfl⟩⟩
   | 12,D =>
    cases D;have k5:x[5]? = some true:=X ⟨5,.phase⟩ (by simp) rfl;have k10:x[10]? = some true:=X ⟨10,.data⟩ (by simp) rfl;have g8:f 8 = .agg (yx next s tt left li tg).toArray:=hR.e 8 (yf X 8 rfl);obtain⟨c8,kN,jT,jX,xU,-⟩:=hR.m10 k10;obtain⟨y0,z0,q0⟩:=zh xU (j:=0) (by omega);obtain⟨y1,z1,q1⟩:=zh xU (j:=1) (by omega);obtain⟨y2,z2,q2⟩:=zh xU (j:=2) (by omega);obtain⟨y3,z3,q3⟩:=zh xU (j:=3) (by omega);obtain⟨y4,z4,q4⟩:=zh xU (j:=4) (by omega);obtain⟨y5,z5,q5⟩:=zh xU (j:=5) (by omega);clear X hR xo xU;go_simp;exact⟨f,by simp[g8,kN],rn_12 (O xJ) k5 k10 kN rfl xA⟩
   | 13,D =>
    cases D;obtain⟨lv,ev,e5,e9⟩:=hR.e 9 (yf X 9 rfl);clear X hR xo;go_simp;exact⟨upd f 13 ev,by simp[upd,e9,e5],fU (O xJ) 13 _ (by decide) (by decide) (by decide) ⟨lv,ev,e5,rfl⟩⟩
   | n+14,D=>simp at D
 clear xw;cases bl:betB li 0 1;have hl:lifW ⟨kk,s,ty,li,qt,ii,pr,tg⟩=true:=by simp[lifW,bl]
 have HK:Hid (newR next l ⟨kk,s,ty,li,qt,ii,pr,tg⟩=5):=by show _ = _;simp[newR,bs,bt,hl]
 clear hl;rotate_left
 by_cases Z:li=1
 subst Z;cases brs:dj ty;have hl:lifW ⟨kk,s,ty,1,qt,ii,pr,tg⟩=true:=by simp[lifW,brs]
 have HK:Hid (newR next l ⟨kk,s,ty,1,qt,ii,pr,tg⟩=5):=by show _ = _;simp[newR,bs,bt,hl]
 clear hl;rotate_left;have hl:lifW ⟨kk,s,ty,1,qt,ii,pr,tg⟩=false:=by simp[lifW,brs,bl]
 by_cases Q:ty=2
 subst Q
 by_cases hz:fbit pr=0
 have hp:prcB ⟨kk,s,2,1,qt,ii,pr,tg⟩=true:=by simp[prcB,hz]
 have dz:decide (fbit pr=0)=true:=by simpa using hz
 clear hz;cases bq:betB qt 1 1000000;have HK:Hid (newR next l ⟨kk,s,2,1,qt,ii,pr,tg⟩=7):=by show _ = _;simp[newR,bs,bt,hl,hp,bq]
 clear hl hp;rotate_left;cases bg:tagB tg;have HK:Hid (newR next l ⟨kk,s,2,1,qt,ii,pr,tg⟩=8):=by show _ = _;simp[newR,bs,bt,hl,hp,bq,bg]
 clear hl hp;rotate_left;have qg:=U (O HT hl hp bq bg);clear HT hl hp;rotate_left;have hp:prcB ⟨kk,s,2,1,qt,ii,pr,tg⟩=false:=by simp[prcB,hz]
 have dz:decide (fbit pr=0)=false:=by simpa using hz
 clear hz;have HK:Hid (newR next l ⟨kk,s,2,1,qt,ii,pr,tg⟩=6):=by show _ = _;simp[newR,bs,bt,hl,hp]
 clear hl hp;rotate_left;have b2:(ty==2)=false:=by rw[xe];exact Q
 have b2n:(ty != 2)=true:=by simpa using Q
 cases bk:tkOk pr;have hp:prcB ⟨kk,s,ty,1,qt,ii,pr,tg⟩=false:=by simp[prcB,Q,bk]
 have HK:Hid (newR next l ⟨kk,s,ty,1,qt,ii,pr,tg⟩=6):=by show _ = _;simp[newR,bs,bt,hl,hp]
 clear hl hp Q;rotate_left;have hp:prcB ⟨kk,s,ty,1,qt,ii,pr,tg⟩=true:=by simp[prcB,Q,bk]
 clear Q;cases bq:betB qt 1 1000000;have HK:Hid (newR next l ⟨kk,s,ty,1,qt,ii,pr,tg⟩=7):=by show _ = _;simp[newR,bs,bt,hl,hp,bq]
 clear hl hp;rotate_left;cases bg:tagB tg;have HK:Hid (newR next l ⟨kk,s,ty,1,qt,ii,pr,tg⟩=8):=by show _ = _;simp[newR,bs,bt,hl,hp,bq,bg]
 clear hl hp;rotate_left;have qg:=U (O HT hl hp bq bg);clear HT hl hp;rotate_left;have hl:lifW ⟨kk,s,ty,li,qt,ii,pr,tg⟩=false:=by simp[lifW,bl,Z]
 have b1:(li==1)=false:=by rw[xe];exact Z
 clear Z
 by_cases Q:ty=2
 subst Q
 by_cases hz:fbit pr=0
 have hp:prcB ⟨kk,s,2,li,qt,ii,pr,tg⟩=true:=by simp[prcB,hz]
 have dz:decide (fbit pr=0)=true:=by simpa using hz
 clear hz;cases bq:betB qt 1 1000000;have HK:Hid (newR next l ⟨kk,s,2,li,qt,ii,pr,tg⟩=7):=by show _ = _;simp[newR,bs,bt,hl,hp,bq]
 clear hl hp;rotate_left;cases bg:tagB tg;have HK:Hid (newR next l ⟨kk,s,2,li,qt,ii,pr,tg⟩=8):=by show _ = _;simp[newR,bs,bt,hl,hp,bq,bg]
 clear hl hp;rotate_left;have qg:=U (O HT hl hp bq bg);clear HT hl hp;rotate_left;have hp:prcB ⟨kk,s,2,li,qt,ii,pr,tg⟩=false:=by simp[prcB,hz]
 have dz:decide (fbit pr=0)=false:=by simpa using hz
 clear hz;have HK:Hid (newR next l ⟨kk,s,2,li,qt,ii,pr,tg⟩=6):=by show _ = _;simp[newR,bs,bt,hl,hp]
 clear hl hp;rotate_left;have b2:(ty==2)=false:=by rw[xe];exact Q
 have b2n:(ty != 2)=true:=by simpa using Q
 cases bk:tkOk pr;have hp:prcB ⟨kk,s,ty,li,qt,ii,pr,tg⟩=false:=by simp[prcB,Q,bk]
 have HK:Hid (newR next l ⟨kk,s,ty,li,qt,ii,pr,tg⟩=6):=by show _ = _;simp[newR,bs,bt,hl,hp]
 clear hl hp Q;rotate_left;have hp:prcB ⟨kk,s,ty,li,qt,ii,pr,tg⟩=true:=by simp[prcB,Q,bk]
 clear Q;cases bq:betB qt 1 1000000;have HK:Hid (newR next l ⟨kk,s,ty,li,qt,ii,pr,tg⟩=7):=by show _ = _;simp[newR,bs,bt,hl,hp,bq]
 clear hl hp;rotate_left;cases bg:tagB tg;have HK:Hid (newR next l ⟨kk,s,ty,li,qt,ii,pr,tg⟩=8):=by show _ = _;simp[newR,bs,bt,hl,hp,bq,bg]
 clear hl hp;rotate_left;have qg:=U (O HT hl hp bq bg);clear HT hl hp
 all_goals
  go_wp2_with (first|(go_at_call 57;refine(O vJ _).mono ?_;rintro e w' ⟨rfl,uy⟩;rw[uy];clear uy w')|(go_at_call 24;refine(eK _ _ _ _).mono ?_;rintro e w' ⟨rfl,uy⟩;rw[uy];clear uy w')|(go_at_call 35;refine(iA _ _).mono ?_;rintro e w' ⟨rfl,uy⟩;rw[uy];clear uy w')|(go_at_call 82;refine(O HZR _).mono ?_;rintro e w' ⟨rfl,uy⟩;rw[uy];clear uy w')|(go_at_call 50;refine(O pW _).mono ?_;rintro e w' ⟨rfl,uy⟩;rw[uy];clear uy w'))
  first
  | exact O qg _ _ _ _ _ _ _ _ _ _ _ _ _ _ _ _ _ _ _ _ _ _ _ _ _ _ _ _ _ _ _ _ _ _ _ _ _ _ _ _ _ _ _ _ _ _ _ _ _ _ _ _ _ _ _ _ _ _ _ _ _ _ _
  | (go_ret;exact⟨zt (O HK).symm,O xz⟩)
theorem okS_sides {next:Int}{l:List Od}(h:okS next l=true):∀x∈l,x.side=1\/x.side=2:=by
 simp only[okS,xf,xg] at h;obtain⟨⟨⟨Z,Q⟩,h4⟩,_⟩:=h;intro o D;have:=allR_sides h4 o D;simp[ordB,betB] at this;omega
theorem l04Reason_any (next:Int)(vb:Value)(l:List Od)(c:Cm)(w:World)(hr:RdR Od.vs 6 w vb l)(hs:SlOk vb)(F:GoodL l)(uF:∀x∈l,x.side=1\/x.side=2)(ht:c.g.size<=maxLen) :
  Calls Tryz.prog 28 #[.agg #[H next,vb],cmV c] w fun e w'=>e = .returned (H (refS next l c))/\yp w w':=by
 have HNW:=U (fun W hW=>l04New_any next vb l c W hW hs F uF ht);have HFM:=U (fun W=>l04Form_any c W);have hlen20:=F.len;generalize kn:refS next l c=res;have qT:=U kn.symm;generalize hnr:newR next l c=nr at HNW;have oE:=U hnr;clear F uF ht kn hnr;obtain⟨kk,s,ty,li,qt,ii,pr,tg⟩:=c;unfold cmV at HNW HFM |-;simp only at HNW HFM |-;have HR:=U hr;have qJ:=U hs;obtain⟨a,cap,rfl,xC,hc⟩:=hr
 have xp:∀(k:Nat) (c:Od),l[k]? = some c->∃b off,a=some (Y b off)/\b<w.heap.size/\w.rangeAt b (off+k*6) c.vs:=by
  intro k c E;obtain⟨b,off,Z,Q,I⟩:=hc (by intro h;rw[h] at E;simp at E);exact⟨b,off,Z,Q,I k c E⟩
 have HC:=U xp;clear xp hc xC hs;have xG:=zi w (me #[H next,.slice a l.length cap] 31);have ug:((w.alloc (me #[H next,.slice a l.length cap] 31)).alloc (me (yy kk s ty li qt ii pr tg).toArray 37)).heap.size=w.heap.size+1+1:=by rw[zi,xG]
 have r1:=zm w [H next,.slice a l.length cap] 31;have r2:=zm (w.alloc (me #[H next,.slice a l.length cap] 31)) (yy kk s ty li qt ii pr tg) 37;rw[xG] at r2;have qE:Below (w.heap.size+1) (w.alloc (me #[H next,.slice a l.length cap] 31)) ((w.alloc (me #[H next,.slice a l.length cap] 31)).alloc (me (yy kk s ty li qt ii pr tg).toArray 37)):=(Below.refl _ _).alloc (by rw[xG];omega) _;have xz:Hid (yp w ((w.alloc (me #[H next,.slice a l.length cap] 31)).alloc (me (yy kk s ty li qt ii pr tg).toArray 37))):=(mc _ _).alloc (by rw[xG];omega) _;have HX:Hid (_/\_):=⟨zf r1 qE (by omega),r2⟩;have uz:Hid (w.heap.size+1<((w.alloc (me #[H next,.slice a l.length cap] 31)).alloc (me (yy kk s ty li qt ii pr tg).toArray 37)).heap.size):=by show _ < _;omega
 clear xG ug r1 r2 qE;go_enter Tryz.func28,Tryz.ntmps28;refine mg fun hb xw=>?_;go_wp2_with fail;refine O xw _ _ ?_;clear xw;generalize ((w.alloc (me #[H next,.slice a l.length cap] 31)).alloc (me (yy kk s ty li qt ii pr tg).toArray 37))=X2 at xz HX uz |-;have HX:Hid (X2.rangeAt w.heap.size 0 [H next,.slice a l.length cap]/\X2.rangeAt (w.heap.size+1) 0 (yy kk s ty li qt ii pr tg)):=O HX;have k0:X2.cell? (Y w.heap.size 0)=some (H next):=(O HX).1 0 _ rfl;have k1:X2.cell? (Y w.heap.size 1)=some (.slice a l.length cap):=(O HX).1 1 _ rfl;obtain⟨o0,o1,o2,o3,o4,o5,o6,o7⟩:=yE (O HX).2;cases bk:betB kk 1 4
 ·have HK:Hid (res=1):=(O qT).trans (by simp[refS,bk]);go_wp2_with (first|(go_at_call 24;refine(eK _ _ _ _).mono ?_;rintro e w' ⟨rfl,uy⟩;rw[uy];clear uy w'));go_ret;exact⟨zt (O HK).symm,O xz⟩
 go_wp2_with (first|(go_at_call 24;refine(eK _ _ _ _).mono ?_;rintro e w' ⟨rfl,uy⟩;rw[uy];clear uy w'));refine(O HFM _).mono ?_;cases bf:dP ⟨kk,s,ty,li,qt,ii,pr,tg⟩
 ·rintro e w3 ⟨rfl,xV⟩;have xL:=U (mf (O xz) xV);have HK:Hid (res=2):=(O qT).trans (by simp[refS,bk,bf]);clear xV bf bk;go_wp2_with fail;go_ret;exact⟨zt (O HK).symm,O xL⟩
 rintro e w3 ⟨rfl,xV⟩;have xL:=U (mf (O xz) xV);have vz:Hid (w3.rangeAt w.heap.size 0 [H next,.slice a l.length cap]/\w3.rangeAt (w.heap.size+1) 0 (yy kk s ty li qt ii pr tg)):=⟨zf (O HX).1 xV (by have:=O uz;omega),zf (O HX).2 xV (O uz)⟩;have hl3:w.heap.size+1<w3.heap.size:=yK (O uz) xV.size;clear xV HX xz uz;clear k0 k1 o0 o1 o2 o3 o4 o5 o6 o7;have k0:w3.cell? (Y w.heap.size 0)=some (H next):=(O vz).1 0 _ rfl;have k1:w3.cell? (Y w.heap.size 1)=some (.slice a l.length cap):=(O vz).1 1 _ rfl;obtain⟨o0,o1,o2,o3,o4,o5,o6,o7⟩:=yE (O vz).2
 by_cases Z:kk=1
 ·subst Z;have HK:Hid (res=nr):=(O qT).trans (by rw[<- O oE];simp[refS,bk,bf]);clear bk bf qT oE;go_wp2_with fail;refine(O HNW w3 (zq (O HR) (O xL) yb)).mono ?_;rintro e w4 ⟨rfl,xF⟩;have xQ:=U (mf (O xL) xF);clear xF;go_wp2_with fail;go_ret;exact⟨zt (O HK).symm,O xQ⟩
 by_cases h4:kk=4
 ·subst h4;have HK:Hid (res=0):=(O qT).trans (by simp[refS,bk,bf]);clear bk bf qT oE;go_wp2_with fail;go_ret;exact⟨zt (O HK).symm,O xL⟩
 have b1:(kk==1)=false:=by rw[xe];exact Z
 have b4:(kk==4)=false:=by rw[xe];exact h4
 by_cases I:kk=3
 ·subst I;cases bq:betB qt 1 1000000
  ·have HK:Hid (res=7):=(O qT).trans (by simp[refS,bk,bf,bq]);clear bk bf qT oE;go_wp2_with (first|(go_at_call 24;refine(eK _ _ _ _).mono ?_;rintro e w' ⟨rfl,uy⟩;rw[uy];clear uy w'));go_ret;exact⟨zt (O HK).symm,O xL⟩
  have pw:Hid (res=if plc l ii<0 then 9 else match l[(plc l ii).toNat]? with|some o=>if o.left<=qt then 10 else 0|none=>0):=(O qT).trans (by simp[refS,bk,bf,bq];cases l[(plc l ii).toNat]? <;> rfl)
  clear bk bf qT oE Z h4;go_wp2_with (first|(go_at_call 24;refine(eK _ _ _ _).mono ?_;rintro e w' ⟨rfl,uy⟩;rw[uy];clear uy w'));refine(iC _ l ii w3 (zq (O HR) (O xL) yb)).mono ?_;rintro e w4 ⟨rfl,xF⟩;have xQ:=U (mf (O xL) xF);have xH:Hid (w4.rangeAt w.heap.size 0 [H next,.slice a l.length cap]/\w4.rangeAt (w.heap.size+1) 0 (yy 3 s ty li qt ii pr tg)):=⟨zf (O vz).1 xF (by omega),zf (O vz).2 xF hl3⟩;clear xF;clear k0 k1 o0 o1 o2 o3 o4 o5 o6 o7;have k0:w4.cell? (Y w.heap.size 0)=some (H next):=(O xH).1 0 _ rfl;have k1:w4.cell? (Y w.heap.size 1)=some (.slice a l.length cap):=(O xH).1 1 _ rfl;obtain⟨o0,o1,o2,o3,o4,o5,o6,o7⟩:=yE (O xH).2;rcases iH l ii with e|⟨k,o,e,D⟩
  ·have HK:Hid (res=9):=(O pw).trans (by rw[e];rfl);rw[e];clear e;go_wp2_with fail;go_ret;exact⟨zt (O HK).symm,O xQ⟩
  ·have pw:Hid (res=if o.left<=qt then 10 else 0):=(O pw).trans (by rw[e,if_neg (by omega)];simp[D])
   obtain⟨b,off,rfl,K,xo⟩:=O HC k o D;have bX:=(yH.1 D).1;have c3:w4.cell? (Y b (off+k*6+3))=some (H o.left):=zf xo (O xQ) K 3 _ rfl;have hk':(k:Int)<l.length:=by omega
   have pP:(0:Int)<=k:=by omega
   have hkn:¬ (k:Int)<0:=by omega
   rw[e];clear e D xo K bX
   by_cases hq:o.left<=qt
   ·have HK:Hid (res=10):=(O pw).trans (if_pos hq);have hq':decide (o.left<=qt)=true:=by simpa using hq
    go_wp2_with fail;go_quiet (fail);go_wp2_with fail;go_ret;exact⟨zt (O HK).symm,zY (O xQ) _⟩
   ·have HK:Hid (res=0):=(O pw).trans (if_neg hq);have hq':decide (o.left<=qt)=false:=by simpa using hq
    go_wp2_with fail;go_quiet (fail);go_wp2_with fail;go_ret;exact⟨zt (O HK).symm,zY (O xQ) _⟩
 ·have b3:(kk==3)=false:=by rw[xe];exact I
  have pw:Hid (res=if plc l ii<0 then 9 else 0):=(O qT).trans (by
   have hx:¬ (kk=3/\betB qt 1 1000000=false):=fun h=>I h.1;have hy:∀o:Od,¬ (kk=3/\o.left<=qt):=fun o h=>I h.1;simp only[refS];rw[if_neg (by rw[bk];simp),if_neg (by rw[bf];simp),if_neg Z,if_neg h4,if_neg hx]
   by_cases hp:plc l ii<0
   ·rw[if_pos hp,if_pos hp]
   ·rw[if_neg hp,if_neg hp];cases l[(plc l ii).toNat]? with
    | none=>rfl
    | some o=>exact if_neg (hy o))
  clear bk bf qT oE Z h4 I;go_wp2_with fail;refine(iC _ l ii w3 (zq (O HR) (O xL) yb)).mono ?_;rintro e w4 ⟨rfl,xF⟩;have xQ:=U (mf (O xL) xF);have xH:Hid (w4.rangeAt w.heap.size 0 [H next,.slice a l.length cap]/\w4.rangeAt (w.heap.size+1) 0 (yy kk s ty li qt ii pr tg)):=⟨zf (O vz).1 xF (by omega),zf (O vz).2 xF hl3⟩;clear xF;clear k0 k1 o0 o1 o2 o3 o4 o5 o6 o7;have k0:w4.cell? (Y w.heap.size 0)=some (H next):=(O xH).1 0 _ rfl;have k1:w4.cell? (Y w.heap.size 1)=some (.slice a l.length cap):=(O xH).1 1 _ rfl;obtain⟨o0,o1,o2,o3,o4,o5,o6,o7⟩:=yE (O xH).2
  by_cases hp:plc l ii<0
  ·have HK:Hid (res=9):=(O pw).trans (if_pos hp);go_wp2_with fail;go_ret;exact⟨zt (O HK).symm,O xQ⟩
  ·have HK:Hid (res=0):=(O pw).trans (if_neg hp);have hp':decide (plc l ii<0)=false:=by simpa using hp
   go_wp2_with fail;go_quiet (fail);go_wp2_with fail;go_ret;exact⟨zt (O HK).symm,zY (O xQ) _⟩
end Go.Proofs.YtkofhemdefffpaaGreatDoor
