/-.-/
import Derived.Test.YtbghmldggahjiaaGreatDoorUj33
import Derived.Test.YtbghmldggahjiaaGreatDoorUj34
set_option linter.unusedVariables false
set_option maxHeartbeats 6400000
set_option maxRecDepth 100000
namespace Go.Proofs.YtbghmldggahjiaaGreatDoor
open Go.RowKit
def EN (S:Nat)(vb bv cv ta tw u5:Value):Nat->Value->Prop
 | 0,v=>v=xj S 1
 | 1,v=>v=vb
 | 2,v=>v=bv
 | 3,v=>v=cv
 | 4,v=>v=ta
 | 6,v=>v=u5
 | 7,v=>∃lv ev,u5 = .tuple #[lv,tw,ev]/\v=lv
 | 8,v=>v=tw
 | 9,v=>∃lv ev,u5 = .tuple #[lv,tw,ev]/\v=ev
 | 11,v=>∃lv ev,u5 = .tuple #[lv,tw,ev]/\v=lv
 | 13,v=>∃lv ev,u5 = .tuple #[lv,tw,ev]/\v=ev
 | _,_=>True
theorem en_any {S:Nat}{vb bv cv ta tw u u':Value}{j:Nat}{v:Value}(h:EN S vb bv cv ta tw u j v)(h6:j≠6)(h7:j≠7)(h9:j≠9)(jz:j≠11)(pU:j≠13):EN S vb bv cv ta tw u' j v:=by
 match j with
 | 0|1|2|3|4|8=>exact h
 | 5|10|12=>trivial
 | 6=>omega
 | 7=>omega
 | 9=>omega
 | 11=>omega
 | 13=>omega
 | j+14=>trivial
def LVok (W:World)(lv:Value)(L:List Od):Prop:=RdR Od.vs 6 W lv L/\SlOk lv
def Dst (L:List Od)(u v:Value):Prop:=∀lv tw ev c8,u = .tuple #[lv,tw,ev]->v=xj c8 0->L ≠ []->lv.ownBlock≠some c8
structure RN (S:Nat) (vb bv cv ta tw:Value) (twl:List Value) (L:List Od) (n2:Nat) (base:World) (x:List Bool) (f:Nat->Value) (W:World):Prop where
 bel:Below base.heap.size base W
 e:∀j,x[j]? = some true->EN S vb bv cv ta tw (f 5) j (f j)
 m5:x[5]? = some true->∃lv ev,f 5 = .tuple #[lv,tw,ev]/\LVok W lv L/\∃a c,ev = .slice a n2 c
 m10:x[10]? = some true->∃c8,f 10 = .pointer (some ⟨c8,0,none⟩)/\base.heap.size<=c8/\c8<W.heap.size/\W.there c8 0 6/\(x[12]? = some true->W.rangeAt c8 0 twl)
 ap:x[5]? = some true->x[10]? = some true->Dst L (f 5) (f 10)
def RNA (yl:(Nat->Value)->Act)(S:Nat)(vb bv cv ta tw:Value)(bG:List Value)(L:List Od)(n2:Nat)(base:World)(x:List Bool)(hb:Act)(W:World):Prop:=∃f,hb=yl f/\RN S vb bv cv ta tw bG L n2 base x f W
theorem tup3 {a b c a' b' c':Value}(h:Value.tuple #[a,b,c] = .tuple #[a',b',c']):a=a'/\b=b'/\c=c':=by
 have:=congrArg Array.toList (Value.tuple.inj h);simpa using this
theorem rd_block {W:World}{v:Value}{L:List Od}(h:RdR Od.vs 6 W v L)(xy:L ≠ []):∃b,v.ownBlock=some b/\b<W.heap.size:=by
 obtain⟨a,c,rfl,_,hc⟩:=h;obtain⟨b,off,rfl,A,_⟩:=hc xy;exact⟨b,rfl,A⟩
theorem rd_setC {W:World}{v:Value}{L:List Od}{c8 o:Nat}{vs:List Value}(h:RdR Od.vs 6 W v L)(xy:L ≠ []->v.ownBlock≠some c8):RdR Od.vs 6 (W.setCells c8 o vs) v L:=by
 obtain⟨a,c,rfl,D,hc⟩:=h;refine⟨a,c,rfl,D,fun hl=>?_⟩;obtain⟨b,off,rfl,A,hr⟩:=hc hl;have hbc:c8≠b:=fun e=>xy hl (by rw[e];rfl);exact⟨b,off,rfl,by rw[fH];exact A,fun i c hi=>ly (hr i c hi) hbc⟩
section
variable {S:Nat} {vb bv cv ta tw:Value} {bG:List Value} {L:List Od} {n2:Nat} {base W W':World} {x:List Bool} {f:Nat->Value}
theorem rn_grow (h:RN S vb bv cv ta tw bG L n2 base x f W)(A:yn W W'):RN S vb bv cv ta tw bG L n2 base x f W':=
 ⟨h.bel.trans (A.mono h.bel.size),h.e,fun h5=>by
  obtain⟨lv,ev,D,E,h3⟩:=h.m5 h5;exact⟨lv,ev,D,⟨zq E.1 A ya,E.2⟩,h3⟩,fun vv=>by
  obtain⟨c8,D,E,h3,h4,h5⟩:=h.m10 vv;exact⟨c8,D,E,yJ h3 A.size,zl h4 A h3,fun qv=>zd (h5 qv) A h3⟩,h.ap⟩
theorem fU (h:RN S vb bv cv ta tw bG L n2 base x f W)(i:Nat)(u:Value)(h5:i≠5)(vv:i≠10)(qv:i≠12)(hu:EN S vb bv cv ta tw (f 5) i u):RN S vb bv cv ta tw bG L n2 base (x.set i true) (upd f i u) W:=by
 refine⟨h.bel,fun j hj=>?_,?_,?_,?_⟩
 ·rw[zn f u (show 5≠i from fun e=>h5 e.symm)]
  by_cases hji:j=i
  ·subst hji;rw[zr];exact hu
  ·rw[zn _ _ hji];rw[gq (fun e=>hji e.symm)] at hj;exact h.e j hj
 ·rw[gq h5,zn f u (show 5≠i from fun e=>h5 e.symm)];exact h.m5
 ·rw[gq vv,gq qv,zn f u (show 10≠i from fun e=>vv e.symm)];exact h.m10
 ·rw[gq h5,gq vv,zn f u (show 5≠i from fun e=>h5 e.symm),zn f u (show 10≠i from fun e=>vv e.symm)];exact h.ap
theorem rn_5 (h:RN S vb bv cv ta tw bG L n2 base x f W)(A:yn W W'){lv ev:Value}(hl:LVok W' lv L)(he:∃a c,ev = .slice a n2 c)(vZ:∀j,(j=6\/j=7\/j=9\/j=11\/j=13)->x[j]? ≠ some true)
  (hap:∀c8,base.heap.size<=c8->c8<W.heap.size->L ≠ []->lv.ownBlock≠some c8):RN S vb bv cv ta tw bG L n2 base (x.set 5 true) (upd f 5 (.tuple #[lv,tw,ev])) W':=by
 have M:=rn_grow h A;refine⟨M.bel,fun j hj=>?_,fun _=>⟨lv,ev,zr _ _ _,hl,he⟩,?_,?_⟩
 ·by_cases hji:j=5
  ·subst hji;trivial
  ·rw[gq (fun e=>hji e.symm)] at hj;rw[zn _ _ hji];refine en_any (M.e j hj) ?_ ?_ ?_ ?_ ?_ <;> intro e <;> exact vZ j (by omega) hj
 ·rw[gq (by omega),gq (by omega),zn _ _ (by omega)];exact M.m10
 ·intro _ vv;rw[gq (by omega)] at vv;rw[zr,zn _ _ (by omega)];obtain⟨c8,D,E,h3,_⟩:=h.m10 vv;intro lv' tw' ev' c8' e1 e2 xy;rw[D] at e2;simp only[Value.pointer.injEq,Option.some.injEq,Addr.mk.injEq,and_true] at e2;obtain rfl:c8=c8':=e2;have e1:lv=lv':=(tup3 e1).1;rw[<- e1];exact hap c8 E h3 xy
theorem rn_10 (h:RN S vb bv cv ta tw bG L n2 base x f W)(qv:x[12]? ≠ some true){o:Obj}(ht:(W.alloc o).there W.heap.size 0 6):RN S vb bv cv ta tw bG L n2 base (x.set 10 true) (upd f 10 (xj W.heap.size 0)) (W.alloc o):=by
 have M:=rn_grow h ((Below.refl W.heap.size W).alloc ya o);refine⟨M.bel,fun j hj=>?_,?_,fun _=>⟨W.heap.size,zr _ _ _,h.bel.size,by rw[zh];omega,ht,fun e=>absurd (by rwa[gq (by omega)] at e) qv⟩,?_⟩
 ·rw[zn _ _ (by omega)]
  by_cases hji:j=10
  ·subst hji;trivial
  ·rw[gq (fun e=>hji e.symm)] at hj;rw[zn _ _ hji];exact M.e j hj
 ·rw[gq (by omega),zn _ _ (by omega)];exact M.m5
 ·intro h5 _;rw[gq (by omega)] at h5;rw[zr,zn _ _ (by omega)];obtain⟨lv,ev,D,E,_⟩:=h.m5 h5;intro lv' tw' ev' c8' e1 e2 xy e3;rw[D] at e1;simp only[Value.pointer.injEq,Option.some.injEq,Addr.mk.injEq,and_true] at e2;have e1:lv=lv':=(tup3 e1).1;obtain⟨b,xR,xE⟩:=rd_block E.1 xy;rw[<- e1,xR] at e3;simp only[Option.some.injEq] at e3;omega
theorem rn_12 (h:RN S vb bv cv ta tw bG L n2 base x f W)(h5:x[5]? = some true)(vv:x[10]? = some true){c8:Nat}(hc:f 10=xj c8 0)(hl:bG.length=6)(hx:x[12]? = some false):RN S vb bv cv ta tw bG L n2 base (x.set 12 true) f (W.setCells c8 0 bG):=by
 obtain⟨c',D,E,h3,h4,_⟩:=h.m10 vv;rw[hc] at D;simp only[Value.pointer.injEq,Option.some.injEq,Addr.mk.injEq,and_true] at D;subst D;obtain⟨lv,ev,e1,e2,e3⟩:=h.m5 h5;have hd:=h.ap h5 vv lv tw ev c8 e1 hc;refine⟨zg _ E _ _ _ h.bel,fun j hj=>?_,fun _=>⟨lv,ev,e1,⟨rd_setC e2.1 hd,e2.2⟩,e3⟩,fun _=>⟨c8,hc,E,by rw[fH];exact h3,xb h4 _ _ _,fun _=>yX W c8 0 _ (fun j hj=>h4 j (by omega))⟩,?_⟩
 ·by_cases hji:j=12
  ·subst hji;trivial
  ·rw[gq (fun e=>hji e.symm)] at hj;exact h.e j hj
 ·intro _ _;exact h.ap h5 vv
end
structure R9 (C:Nat->Value->Prop) (B0:World) (L:List Od) (t:Od) (x:List Bool) (f:Nat->Value) (W:World):Prop where
 bel:Below B0.heap.size B0 W
 c:∀j,x[j]? = some true->C j (f j)
 m13:x[13]? = some true->x[15]? = some false->ORow W B0.heap.size (f 13) []
 m15:x[15]? = some true->x[18]? = some false->ORow W B0.heap.size (f 15) L
 m17:x[17]? = some true->x[18]? = some false->∃b,f 17 = .slice (some ⟨b,0,none⟩) 1 1/\b<W.heap.size/\B0.heap.size<=b/\W.rangeAt b 0 t.vs/\(x[13]? = some true->x[15]? = some false->(f 13).ownBlock≠some b)
 m18:x[18]? = some true->ORow W B0.heap.size (f 18) (L ++ [t])
def R9A (yl:(Nat->Value)->Act)(C:Nat->Value->Prop)(B0:World)(L:List Od)(t:Od)(x:List Bool)(hb:Act)(W:World):Prop:=∃f,hb=yl f/\R9 C B0 L t x f W
section
variable {C:Nat->Value->Prop} {B0 W W':World} {L:List Od} {t:Od} {x:List Bool} {f:Nat->Value}
theorem r9_grow (h:R9 C B0 L t x f W)(A:yn W W'):R9 C B0 L t x f W':=
 ⟨h.bel.trans (A.mono h.bel.size),h.c,fun a b=>zK (h.m13 a b) A,fun a b=>zK (h.m15 a b) A,fun a b=>by
  obtain⟨b',D,E,h3,h4,h5⟩:=h.m17 a b;exact⟨b',D,yJ E A.size,h3,zd h4 A E,h5⟩,fun a=>zK (h.m18 a) A⟩
theorem eD (h:R9 C B0 L t x f W)(i:Nat)(v:Value)(hv:C i v)(pU:i≠13)(jJ:i≠15)(jV:i≠17)(br:i≠18):R9 C B0 L t (x.set i true) (upd f i v) W:=by
 refine⟨h.bel,zD h.c hv,?_,?_,?_,?_⟩ <;> simp only[gq pU,gq jJ,gq jV,gq br,zn f v pU.symm,zn f v jJ.symm,zn f v jV.symm,zn f v br.symm]
 ·exact h.m13
 ·exact h.m15
 ·exact h.m17
 ·exact h.m18
theorem r9_13 (h:R9 C B0 L t x f W)(pU:x[13]? = some false)(hc:∀v,C 13 v):R9 C B0 L t (x.set 13 true) (upd f 13 (.slice (some (U W.heap.size 0)) 0 0)) (W.alloc (J #[] 98)):=by
 have M:=r9_grow h ((Below.refl W.heap.size W).alloc ya (J #[] 98));refine⟨M.bel,zD M.c (hc _),?_,?_,?_,?_⟩
 ·intro _ _;rw[zr];exact World.ownsRow_made W #[] 0 h.bel.size (by decide) rfl
 ·rw[gq (by decide),gq (by decide),zn _ _ (by decide)];exact M.m15
 ·intro jV br;rw[gq (by decide)] at jV br;obtain⟨b,D,E,h3,h4,h5⟩:=M.m17 jV br;obtain⟨b',e1,e2,_⟩:=h.m17 jV br;rw[D] at e1;simp only[Value.slice.injEq,Option.some.injEq,Addr.mk.injEq,and_true] at e1;subst e1;refine⟨b,by rw[zn _ _ (by decide)];exact D,E,h3,h4,fun _ _ e=>?_⟩;rw[zr] at e;simp[Value.ownBlock] at e;omega
 ·rw[gq (by decide),zn _ _ (by decide)];exact M.m18
theorem r9_15 (h:R9 C B0 L t x f W)(pU:x[13]? = some true)(jJ:x[15]? = some false)(br:x[18]? = some false)(hc:∀v,C 15 v){v':Value}(K:ORow W' B0.heap.size v' L)(M:W.grownBy W' (f 13).ownBlock):R9 C B0 L t (x.set 15 true) (upd f 15 v') W':=by
 refine⟨h.bel.grown M h.bel.size (fun k X=>((h.m13 pU jJ).lt k X).1),zD h.c (hc _),?_,?_,?_,?_⟩
 ·intro _ e;rw[gqs jJ] at e;cases e
 ·intro _ _;rw[zr];exact K
 ·intro jV _;rw[gq (by decide)] at jV;obtain⟨b,D,E,h3,h4,h5⟩:=h.m17 jV br;refine⟨b,by rw[zn _ _ (by decide)];exact D,yJ E M.size,h3,zA h4 M E (fun e=>h5 pU jJ e.symm),fun _ e=>?_⟩;rw[gqs jJ] at e;cases e
 ·intro e;rw[gq (by decide),br] at e;cases e
theorem r9_17 (h:R9 C B0 L t x f W)(jV:x[17]? = some false)(br:x[18]? = some false)(hc:∀v,C 17 v):R9 C B0 L t (x.set 17 true) (upd f 17 (.slice (some (U W.heap.size 0)) 1 1)) (W.alloc (Obj.cells t.vs.toArray 98)):=by
 have M:=r9_grow h ((Below.refl W.heap.size W).alloc ya (Obj.cells t.vs.toArray 98));refine⟨M.bel,zD M.c (hc _),?_,?_,?_,?_⟩
 ·rw[gq (by decide),gq (by decide),zn _ _ (by decide)];exact M.m13
 ·rw[gq (by decide),gq (by decide),zn _ _ (by decide)];exact M.m15
 ·intro _ _;refine⟨W.heap.size,zr _ _ _,by rw[zh];omega,h.bel.size,zo W t.vs _,fun pU jJ e=>?_⟩;rw[gq (by decide)] at pU jJ;rw[zn _ _ (by decide)] at e;have:=((h.m13 pU jJ).lt _ e).2;omega
 ·rw[gq (by decide),zn _ _ (by decide)];exact M.m18
theorem r9_18 (h:R9 C B0 L t x f W)(jJ:x[15]? = some true)(br:x[18]? = some false)(hc:∀v,C 18 v){v':Value}(K:ORow W' B0.heap.size v' (L ++ [t]))(M:W.grownBy W' (f 15).ownBlock):R9 C B0 L t (x.set 18 true) (upd f 18 v') W':=by
 refine⟨h.bel.grown M h.bel.size (fun k X=>((h.m15 jJ br).lt k X).1),zD h.c (hc _),?_,?_,?_,?_⟩
 ·intro _ e;rw[gq (by decide)] at e;rw[e] at jJ;cases jJ
 ·intro _ e;rw[gqs br] at e;cases e
 ·intro _ e;rw[gqs br] at e;cases e
 ·intro _;rw[zr];exact K
end
def C9 (S c8:Nat)(ty left:Int)(lv:Value)(n1:Nat)(ta:Value)(N:Int):Nat->Value->Prop
 | 0,v=>v=xj (S+1) 2
 | 1,v=>v=H ty
 | 2,v=>v = .bool true
 | 3,v=>v = .bool true
 | 4,v=>v=xj c8 3
 | 5,v=>v=H left
 | 6,v=>v = .bool true
 | 7,v=>v = .bool true
 | 8,v=>v = .bool true
 | 9,v=>v=lv
 | 10,v=>v=H n1
 | 11,v=>v = .bool false
 | 12,v=>v = .bool false
 | 14,v=>v=lv
 | 16,v=>v=ta
 | 19,v=>v=H N
 | 20,v=>v = .bool (decide (8<N))
 | 21,v=>v = .bool (decide (8<N))
 | 22,v=>v = .bool (decide (8<N))
 | _,_=>True
theorem l04New_any (next:Int)(vb:Value)(l:List Od)(c:Cm)(w:World)(hr:RdR Od.vs 6 w vb l)(hs:SlOk vb)(M:GoodL l)(vh:∀x∈l,x.side=1\/x.side=2)(ht:c.g.size<=maxLen) :
  Calls Tryz.prog 204 #[.agg #[H next,vb],cmV c] w fun e w'=>e = .returned (H (newR next l c))/\yn w w':=by
 have HR:=Q hr;have HG:=Q M;have jS:=Q hs;have bT:=Q vh;have cT:=Q (fun W=>l03Tag_any c.g W ht);have HZR:=Q (fun W=>l04Zero_any c.p W);have uV:=Q (fun W=>l01Ticks_any c.p W);obtain⟨a,cap,rfl,xD,hc⟩:=hr;obtain⟨kk,s,ty,li,qt,ii,pr,tg⟩:=c;unfold cmV;simp only at cT HZR uV |-;clear hc M hs vh xD ht;have xI:=zh w (J #[H next,.slice a l.length cap] 41);have uc:((w.alloc (J #[H next,.slice a l.length cap] 41)).alloc (J (yx kk s ty li qt ii pr tg).toArray 57)).heap.size=w.heap.size+1+1:=by rw[zh,xI]
 have r1:=zo w [H next,.slice a l.length cap] 41;have r2:=zo (w.alloc (J #[H next,.slice a l.length cap] 41)) (yx kk s ty li qt ii pr tg) 57;rw[xI] at r2;have jp:Below (w.heap.size+1) (w.alloc (J #[H next,.slice a l.length cap] 41)) ((w.alloc (J #[H next,.slice a l.length cap] 41)).alloc (J (yx kk s ty li qt ii pr tg).toArray 57)):=(Below.refl _ _).alloc (by rw[xI];omega) _;have xq:Hid (yn w ((w.alloc (J #[H next,.slice a l.length cap] 41)).alloc (J (yx kk s ty li qt ii pr tg).toArray 57))):=(lT _ _).alloc (by rw[xI];omega) _;have HX:Hid (_/\_):=⟨zd r1 jp (by omega),r2⟩;have ug:Hid (w.heap.size+1<((w.alloc (J #[H next,.slice a l.length cap] 41)).alloc (J (yx kk s ty li qt ii pr tg).toArray 57)).heap.size):=by show _ < _;omega
 clear xI uc r1 r2 jp;go_enter Tryz.func204,Tryz.ntmps204;refine lX fun ho xV=>?_;go_wp2_with fail;refine Z xV _ _ ?_;clear xV;generalize ((w.alloc (J #[H next,.slice a l.length cap] 41)).alloc (J (yx kk s ty li qt ii pr tg).toArray 57))=X2 at xq HX ug |-;have HX:Hid (X2.rangeAt w.heap.size 0 [H next,.slice a l.length cap]/\X2.rangeAt (w.heap.size+1) 0 (yx kk s ty li qt ii pr tg)):=Z HX;have o1:X2.cell? (U (w.heap.size+1) 1)=some (H s):=(Z HX).2 1 _ rfl;have o2:X2.cell? (U (w.heap.size+1) 2)=some (H ty):=(Z HX).2 2 _ rfl;have o3:X2.cell? (U (w.heap.size+1) 3)=some (H li):=(Z HX).2 3 _ rfl;have o4:X2.cell? (U (w.heap.size+1) 4)=some (H qt):=(Z HX).2 4 _ rfl;have o6:X2.cell? (U (w.heap.size+1) 6)=some (yj pr):=(Z HX).2 6 _ rfl;have o7:X2.cell? (U (w.heap.size+1) 7)=some (yk tg):=(Z HX).2 7 _ rfl;refine lX fun ho xV=>?_;go_wp2_with (first|(go_at_call 169;refine(Z uV _).mono ?_;rintro e w' ⟨rfl,ur⟩;rw[ur];clear ur w')|(go_at_call 202;refine(ix _ _ _ _).mono ?_;rintro e w' ⟨rfl,ur⟩;rw[ur];clear ur w')|(go_at_call 126;refine(iu _ _).mono ?_;rintro e w' ⟨rfl,ur⟩;rw[ur];clear ur w')|(go_at_call 217;refine(Z HZR _).mono ?_;rintro e w' ⟨rfl,ur⟩;rw[ur];clear ur w')|(go_at_call 218;refine(Z cT _).mono ?_;rintro e w' ⟨rfl,ur⟩;rw[ur];clear ur w'));refine Z xV _ _ ?_;clear xV;refine lX fun ho xV=>?_;cases bs:betB s 1 2;have HK:Hid (newR next l ⟨kk,s,ty,li,qt,ii,pr,tg⟩=3):=by show _ = _;simp[newR,bs]
 rotate_left;cases bt:betB ty 1 5;have HK:Hid (newR next l ⟨kk,s,ty,li,qt,ii,pr,tg⟩=4):=by show _ = _;simp[newR,bs,bt]
 rotate_left
 have HT:Hid (lifW ⟨kk,s,ty,li,qt,ii,pr,tg⟩=false->prcB ⟨kk,s,ty,li,qt,ii,pr,tg⟩=true->betB qt 1 1000000=true->tagB tg=true->∀(u5 u6 u10 u11 u12 u13 u14 u15 u16 u17 u18 u19 u20 u21 u22 u23 u24 u25 u26 u27 u28 u29 u30 u31 u32 u33 u34 u35 u36 u37 u38 u39 u40 u41 u42 u43 u44 u45 u46 u47 u48 u49 u50 u51 u52 u53 u54 u55 u56 u57 u58 u59 u60 u61 u62 u63 u64 u65 u66 u67 u68 u69 u70:Value),ho { tmps:=#[.agg #[H next,.slice a l.length cap],.agg (yx kk s ty li qt ii pr tg).toArray,xj w.heap.size 0,xj (w.heap.size+1) 0,H 0,u5,u6,F,F,F,u10,u11,u12,u13,u14,u15,u16,u17,u18,u19,u20,u21,u22,u23,u24,u25,u26,u27,u28,u29,u30,u31,u32,u33,u34,u35,u36,u37,u38,u39,u40,u41,u42,u43,u44,u45,u46,u47,u48,u49,u50,u51,u52,u53,u54,u55,u56,u57,u58,u59,u60,u61,u62,u63,u64,u65,u66,u67,u68,u69,u70,F,F,F,F,F,F,F,F,F,F,F,F,F,F,F,F,F,F,F,F,F,F,F,F,F,F,F,F,F,F,F,F,F,F,F,F,F,F,F,F,F,F,F,F,F,F,F,F,F,F,F,F,F,F,F],defers:=[] } X2):=by
  intro hlif hprc hqty htag u5 u6 u10 u11 u12 u13 u14 u15 u16 u17 u18 u19 u20 u21 u22 u23 u24 u25 u26 u27 u28 u29 u30 u31 u32 u33 u34 u35 u36 u37 u38 u39 u40 u41 u42 u43 u44 u45 u46 u47 u48 u49 u50 u51 u52 u53 u54 u55 u56 u57 u58 u59 u60 u61 u62 u63 u64 u65 u66 u67 u68 u69 u70;refine Z xV _ _ ?_;clear xV o1 o2 o3 o4 o6 o7;have hside:=side_of bs;have hqq:1<=qt/\qt<=1000000:=by simpa[betB] using hqty
  have pn:Hid (newR next l ⟨kk,s,ty,li,qt,ii,pr,tg⟩=matS next ⟨kk,s,ty,li,qt,ii,pr,tg⟩ (matL ⟨kk,s,ty,li,qt,ii,pr,tg⟩ next 21 l qt [])):=by
   show _ = _;rw[matS_eq (Z HG) (Z bT) bs hprc hqty];simp[newR,bs,bt,hlif,hprc,hqty,htag]
  have HMT:=Q (fun W hW=>l04Match_any (.slice a l.length cap) l ⟨kk,s,ty,li,qt,ii,pr,tg⟩ next W hW (Z HG) hside hprc (by show 0<=qt;omega) hqq.2);have kC:=Q (iB (c:=⟨kk,s,ty,li,qt,ii,pr,tg⟩) (id:=next) 21 l qt [] (Z HG) (by omega) hqq.2);simp only at HMT kC;generalize matL ⟨kk,s,ty,li,qt,ii,pr,tg⟩ next 21 l qt []=yl at pn HMT kC;generalize newR next l ⟨kk,s,ty,li,qt,ii,pr,tg⟩=res at pn |-;have HTKR:=Q (fun W=>l04Taker_any next a l.length cap ⟨kk,s,ty,li,qt,ii,pr,tg⟩ W);unfold cmV at HTKR;simp only at HTKR
  have HMS:Hid (matS next ⟨kk,s,ty,li,qt,ii,pr,tg⟩ yl=if ty=5/\0<yl.2.2.length then 11 else if ty=4/\0<yl.2.1 then 12 else if next=1000000 then 13
   else if dP ty=true then(if 0<yl.2.1 then(if yl.1.length=20 then 13 else if 8<nlev (yl.1 ++ [⟨next,s,tkS pr,yl.2.1,li,tg⟩]) then 13 else 0) else 0) else 0):=rfl
  have pn:Hid (res = _):=(Z pn).trans (Z HMS);clear HMS hlif hprc hqty htag hqq;generalize tkS pr=tt at HMT HTKR pn;obtain⟨L,left,ts⟩:=yl;simp only at HMT pn kC;refine lX fun ho xV=>?_;refine zL (RNA (fun f=>{ tmps:=#[.agg #[H next,.slice a l.length cap],.agg (yx kk s ty li qt ii pr tg).toArray,xj w.heap.size 0,xj (w.heap.size+1) 0,H 0,u5,u6,f 11,f 10,f 13,u10,u11,u12,u13,u14,u15,u16,u17,u18,u19,u20,u21,u22,u23,u24,u25,u26,u27,u28,u29,u30,u31,u32,u33,u34,u35,u36,u37,u38,u39,u40,u41,u42,u43,u44,u45,u46,u47,u48,u49,u50,u51,u52,u53,u54,u55,u56,u57,u58,u59,u60,u61,u62,u63,u64,u65,u66,u67,u68,u69,u70,f 6,f 0,f 1,f 2,f 3,f 4,f 5,f 7,f 8,f 9,F,F,F,F,F,F,F,F,F,F,F,F,F,F,F,F,F,F,F,F,F,F,F,F,F,F,F,F,F,F,F,F,F,F,F,F,F,F,F,F,F,F,F,F,F],defers:=[] }) w.heap.size (.slice a l.length cap) (.agg #[H next,.slice a l.length cap]) (.agg (yx kk s ty li qt ii pr tg).toArray) (.agg (yw next s tt qt li tg).toArray) (.agg (yw next s tt left li tg).toArray) (yw next s tt left li tg) L ts.length X2) (by kernel_rfl) ?_ ?_ ?_
  ·exact⟨fun j=>F,rfl,⟨⟨rfl,rfl,rfl,Nat.le_refl _,fun _ _=>rfl⟩,fun j hj=>by rw[yI] at hj;split at hj <;> simp at hj,by simp,by simp,by simp⟩⟩
  ·rintro x hb V ⟨f,rfl,hR⟩ hx xU;have xv:=iw xU hx (by kernel_rfl);obtain⟨lv,ev,e5,hlv,ae,ce,hev⟩:=hR.m5 (xv 5 (by simp));obtain⟨c8,uL,jn,qV,-,bx⟩:=hR.m10 (xv 10 (by simp));obtain⟨lv',ev',uG,e11'⟩:=hR.e 11 (xv 11 (by simp));obtain⟨lv'',ev'',vu,e13'⟩:=hR.e 13 (xv 13 (by simp));have HC8:=Q (bx (xv 12 (by simp)));rw[e5] at uG vu;have q1:lv=lv':=(tup3 uG).1;have q2:ev=ev'':=(tup3 vu).2.2;rw[<- q1] at e11';rw[<- q2,hev] at e13';have bN:=Q hlv;have xM:=Q ((Z xq).trans (hR.bel.mono (Z xq).size));have HXV:Hid (V.rangeAt w.heap.size 0 [H next,.slice a l.length cap]/\V.rangeAt (w.heap.size+1) 0 (yx kk s ty li qt ii pr tg)):=⟨zd (Z HX).1 hR.bel (by have:=Z ug;omega),zd (Z HX).2 hR.bel (Z ug)⟩;have hVS:w.heap.size+1<V.heap.size:=yJ (Z ug) hR.bel.size;refine Z xV _ _ ?_;clear xV;simp only[uL,e11',e13'];generalize f 6=u71,f 0=u72,f 1=u73,f 2=u74,f 3=u75,f 4=u76,f 5=u77,f 7=u78,f 8=u79,f 9=u80;clear hR xv e5 uL uG vu e11' e13' q1 q2 bx xU hx hlv hev HMT HTKR HX xq ug;obtain⟨⟨al,cal,uB,om,jC⟩,hsl⟩:=Z bN;have HRL:Hid (RdR Od.vs 6 V (.slice al L.length cal) L):=by rw[<- uB];exact(Z bN).1
   have HSV:Hid (SlOk (.slice al L.length cal)):=by rw[<- uB];exact hsl
   subst uB;clear jC hsl om bN;have k0:V.cell? (U w.heap.size 0)=some (H next):=(Z HXV).1 0 _ rfl;have o2:V.cell? (U (w.heap.size+1) 2)=some (H ty):=(Z HXV).2 2 _ rfl;have c3:V.cell? (U c8 3)=some (H left):=Z HC8 3 _ rfl;have h20:L.length<=20:=(Z kC).1.len;refine lX fun ho xV=>?_
   have ue:Hid (¬ (ty=5/\0<ts.length)->¬ (ty=4/\0<left)->next≠1000000->∀(u5 u6 u10 u11 u12 u13 u14 u15 u16 u17 u18 u19 u20 u21 u22 u23 u24 u25 u26 u27 u28 u29 u30 u31 u32 u33 u34 u35 u36 u37 u38 u39 u40 u41 u42 u43 u44 u45 u46 u47 u48 u49 u50 u51 u52 u53 u54 u55 u56 u57 u58 u59 u60 u61 u62 u63 u64 u65 u66 u67 u68 u69 u70 u71 u72 u73 u74 u75 u76 u77 u78 u79 u80 u81 u82 u83 u84 u85 u86 u87 u88 u89 u90 u91 u92 u93 u94 u95 u96 u97 u98 u99 u100 u101 u102:Value),ho { tmps:=#[.agg #[H next,.slice a l.length cap],.agg (yx kk s ty li qt ii pr tg).toArray,xj w.heap.size 0,xj (w.heap.size+1) 0,H 0,u5,u6,.slice al L.length cal,xj c8 0,.slice ae ts.length ce,u10,u11,u12,u13,u14,u15,u16,u17,u18,u19,u20,u21,u22,u23,u24,u25,u26,u27,u28,u29,u30,u31,u32,u33,u34,u35,u36,u37,u38,u39,u40,u41,u42,u43,u44,u45,u46,u47,u48,u49,u50,u51,u52,u53,u54,u55,u56,u57,u58,u59,u60,u61,u62,u63,u64,u65,u66,u67,u68,u69,u70,u71,u72,u73,u74,u75,u76,u77,u78,u79,u80,u81,u82,u83,u84,u85,u86,u87,u88,u89,u90,u91,u92,u93,u94,u95,u96,u97,u98,u99,u100,u101,u102,F,F,F,F,F,F,F,F,F,F,F,F,F,F,F,F,F,F,F,F,F,F,F],defers:=[] } V):=by
    intro g5 g4 gn u5 u6 u10 u11 u12 u13 u14 u15 u16 u17 u18 u19 u20 u21 u22 u23 u24 u25 u26 u27 u28 u29 u30 u31 u32 u33 u34 u35 u36 u37 u38 u39 u40 u41 u42 u43 u44 u45 u46 u47 u48 u49 u50 u51 u52 u53 u54 u55 u56 u57 u58 u59 u60 u61 u62 u63 u64 u65 u66 u67 u68 u69 u70 u71 u72 u73 u74 u75 u76 u77 u78 u79 u80 u81 u82 u83 u84 u85 u86 u87 u88 u89 u90 u91 u92 u93 u94 u95 u96 u97 u98 u99 u100 u101 u102
    have HRS:Hid (res=if dP ty=true then(if 0<left then(if L.length=20 then 13 else if 8<nlev (L ++ [⟨next,s,tt,left,li,tg⟩]) then 13 else 0) else 0) else 0):=by
     have:=Z pn;rw[if_neg g5,if_neg g4,if_neg gn] at this;exact this
    refine Z xV _ _ ?_;clear xV g5 g4 gn pn k0;have HCEL:Hid (∀w':World,V.grownBy w' none->w'.cell? (U (w.heap.size+1) 2)=some (H ty)/\w'.cell? (U c8 3)=some (H left)):=fun w' h'=>⟨zA (Z HXV).2 h' hVS (by simp) 2 _ rfl,zA (Z HC8) h' qV (by simp) 3 _ rfl⟩;have HRB:=Q (fun W=>iu ty W);cases brs:dP ty
    ·have HQ0:Hid (res=0):=(Z HRS).trans (by rw[brs];rfl);rw[brs] at HRB;go_wp2_with fail;go_quiet ((go_at_call 126;refine Calls.quiet_of_same (Z HRB _)));go_wp2_with fail;go_ret;exact⟨zt (Z HQ0).symm,zp (Z xM) _⟩
    rw[brs] at HRB
    by_cases bC:0<left
    ·by_cases hl20:L.length=20
     ·have HQ0:Hid (res=13):=(Z HRS).trans (by rw[if_pos brs,if_pos bC,if_pos hl20]);have dG:(L.length:Int)=20:=by omega
      have hb20:((L.length:Int)==20)=true:=by simpa using dG
      have hlf':decide (0<left)=true:=by simpa using bC
      clear hl20 dG;go_wp2_with fail;go_quiet ((go_at_call 126;refine Calls.quiet_of_same (Z HRB _)));go_wp2_with fail;go_ret;exact⟨zt (Z HQ0).symm,zp (Z xM) _⟩
     ·have HQ0:Hid (res=if decide (8<((nlev (L ++ [⟨next,s,tt,left,li,tg⟩]):Nat):Int))=true then 13 else 0):=(Z HRS).trans (by
       rw[if_pos brs,if_pos bC,if_neg hl20]
       by_cases h8:8<nlev (L ++ [⟨next,s,tt,left,li,tg⟩])
       ·rw[if_pos h8,if_pos (by simp only[xf];omega)]
       ·rw[if_neg h8,if_neg (by simp only[xf];omega)])
      have HLV2:=Q (fun(W:World) (v:Value) (hW:RdR Od.vs 6 W v (L ++ [⟨next,s,tt,left,li,tg⟩]))=>l03Levels_any v (L ++ [⟨next,s,tt,left,li,tg⟩]) W hW (by simp;omega));generalize ((nlev (L ++ [⟨next,s,tt,left,li,tg⟩]):Nat):Int)=N at HQ0 HLV2;have dG:¬ (L.length:Int)=20:=by omega
      have hb20:((L.length:Int)==20)=false:=by rw[xd];exact dG
      have hlf':decide (0<left)=true:=by simpa using bC
      obtain⟨i0,vA,uE,uw,uC⟩:=info_parts Tryz.infoOrder;clear hl20;go_wp2_with fail;refine zL (R9A (fun f=>{ tmps:=#[.agg #[H next,.slice a l.length cap],.agg (yx kk s ty li qt ii pr tg).toArray,xj w.heap.size 0,xj (w.heap.size+1) 0,H 0,u5,u6,.slice al L.length cal,xj c8 0,.slice ae ts.length ce,u10,u11,u12,u13,u14,u15,u16,u17,u18,u19,u20,u21,u22,u23,u24,u25,u26,u27,u28,u29,u30,u31,u32,u33,u34,u35,u36,u37,u38,u39,u40,u41,u42,u43,u44,u45,u46,u47,u48,u49,u50,u51,u52,u53,u54,u55,u56,u57,u58,u59,u60,u61,u62,u63,u64,u65,u66,u67,u68,u69,u70,u71,u72,u73,u74,u75,u76,u77,u78,u79,u80,u81,u82,u83,u84,u85,u86,u87,u88,u89,u90,u91,u92,u93,u94,u95,u96,u97,u98,u99,u100,u101,u102,f 0,f 1,f 2,f 3,f 4,f 5,f 6,f 7,f 8,f 9,f 10,f 11,f 12,f 13,f 14,f 15,f 16,f 17,f 18,f 19,f 20,f 21,f 22],defers:=[] }) (C9 w.heap.size c8 ty left (.slice al L.length cal) L.length (.agg (yw next s tt left li tg).toArray) N) V L ⟨next,s,tt,left,li,tg⟩) (by kernel_rfl) ?_ ?_ ?_
      ·exact⟨fun j=>F,rfl,⟨⟨rfl,rfl,rfl,Nat.le_refl _,fun _ _=>rfl⟩,fun j hj=>by rw[yI] at hj;split at hj <;> simp at hj,by simp,by simp,by simp,by simp⟩⟩
      ·rintro x hb V' ⟨f,rfl,hR⟩ hx xU;have xv:=eJ xU hx (acyc _ (by kernel_rfl));have e22:f 22 = .bool (decide (8<N)):=hR.c 22 (xv 22 (by simp));have xZ:=Q ((Z xM).trans (hR.bel.mono (Z xM).size));simp only[e22];clear hR xv e22 xU hx;cases hd:decide (8<N)
       ·have bP:Hid (res=0):=(Z HQ0).trans (by rw[hd];rfl);go_wp2_with fail;go_ret;exact⟨zt (Z bP).symm,Z xZ⟩
       ·have bP:Hid (res=13):=(Z HQ0).trans (by rw[hd];rfl);go_wp2_with fail;go_ret;exact⟨zt (Z bP).symm,Z xZ⟩
      ·rintro x hb V' i' o' ⟨f,rfl,hR⟩ xm hx K xJ I;have xu:=Q hR;have o2:V'.cell? (U (w.heap.size+1) 2)=some (H ty):=zd (Z HXV).2 hR.bel hVS 2 _ rfl;have HC9:=Q (zd (Z HC8) hR.bel qV);have c3:V'.cell? (U c8 3)=some (H left):=Z HC9 3 _ rfl;have xk:=Q hR.bel;clear HRS HQ0
       match i',K with
       | 0,K =>
        obtain rfl:=yb K;clear I hR xm;rw[if_pos (by rfl)];unfold Oper.wp;go_simp;exact⟨upd f 0 (xj (w.heap.size+1) 2),by simp[upd],eD (Z xu) 0 _ rfl (by decide) (by decide) (by decide) (by decide)⟩
       | 1,K =>
        obtain rfl:=yb K;have g0:f 0=xj (w.heap.size+1) 2:=hR.c 0 (ye I 0 rfl);clear I hR xm;rw[if_pos (by rfl)];unfold Oper.wp;go_simp;exact⟨upd f 1 (H ty),by simp[upd,g0],eD (Z xu) 1 _ rfl (by decide) (by decide) (by decide) (by decide)⟩
       | 2,K =>
        obtain rfl:=yb K;have g1:f 1=H ty:=hR.c 1 (ye I 1 rfl);clear I hR xm;rw[if_pos (by rfl)];unfold Oper.wp;go_simp;refine(iu ty _).mono ?_;rintro e w3 ⟨rfl,hw3⟩;rw[hw3,brs];exact⟨upd f 2 (.bool true),by simp[upd,g1],eD (Z xu) 2 _ rfl (by decide) (by decide) (by decide) (by decide)⟩
       | 3,K =>
        obtain rfl:=yb K;have g2:f 2 = .bool true:=hR.c 2 (ye I 2 rfl);clear I hR xm;rw[if_pos (by rfl)];unfold Oper.wp;go_simp;exact⟨upd f 3 (.bool true),by simp[upd,g2],eD (Z xu) 3 _ rfl (by decide) (by decide) (by decide) (by decide)⟩
       | 4,K =>
        obtain rfl:=yb K;have g3:f 3 = .bool true:=hR.c 3 (ye I 3 rfl);clear I hR xm;rw[if_pos (by simp only[g3];rfl)];unfold Oper.wp;go_simp;exact⟨upd f 4 (xj c8 3),by simp[upd,g3],eD (Z xu) 4 _ rfl (by decide) (by decide) (by decide) (by decide)⟩
       | 5,K =>
        obtain rfl:=yb K;have g4:f 4=xj c8 3:=hR.c 4 (ye I 4 rfl);have g3:f 3 = .bool true:=hR.c 3 (ye I 3 rfl);clear I hR xm;rw[if_pos (by simp only[g3];rfl)];unfold Oper.wp;go_simp;exact⟨upd f 5 (H left),by simp[upd,g4,g3],eD (Z xu) 5 _ rfl (by decide) (by decide) (by decide) (by decide)⟩
       | 6,K =>
        obtain rfl:=yb K;have g5:f 5=H left:=hR.c 5 (ye I 5 rfl);have g3:f 3 = .bool true:=hR.c 3 (ye I 3 rfl);clear I hR xm;rw[if_pos (by simp only[g3];rfl)];unfold Oper.wp;go_simp;exact⟨upd f 6 (.bool true),by simp[upd,g5,g3],eD (Z xu) 6 _ rfl (by decide) (by decide) (by decide) (by decide)⟩
       | 7,K =>
        obtain rfl:=yb K;have g3:f 3 = .bool true:=hR.c 3 (ye I 3 rfl);have g6:f 6 = .bool true:=hR.c 6 (ye I 6 rfl);clear I hR xm;rw[if_pos (by rfl)];unfold Oper.wp;go_simp;exact⟨upd f 7 (.bool true),by simp[upd,g3,g6],eD (Z xu) 7 _ rfl (by decide) (by decide) (by decide) (by decide)⟩
       | 8,K =>
        obtain rfl:=yb K;have g7:f 7 = .bool true:=hR.c 7 (ye I 7 rfl);clear I hR xm;rw[if_pos (by rfl)];unfold Oper.wp;go_simp;exact⟨upd f 8 (.bool true),by simp[upd,g7],eD (Z xu) 8 _ rfl (by decide) (by decide) (by decide) (by decide)⟩
       | 9,K =>
        obtain rfl:=yb K;have g8:f 8 = .bool true:=hR.c 8 (ye I 8 rfl);clear I hR xm;rw[if_pos (by simp only[g8];rfl)];unfold Oper.wp;go_simp;exact⟨upd f 9 (.slice al L.length cal),by simp[upd,g8],eD (Z xu) 9 _ rfl (by decide) (by decide) (by decide) (by decide)⟩
       | 10,K =>
        obtain rfl:=yb K;have g9:f 9 = .slice al L.length cal:=hR.c 9 (ye I 9 rfl);have g8:f 8 = .bool true:=hR.c 8 (ye I 8 rfl);clear I hR xm;rw[if_pos (by simp only[g8];rfl)];unfold Oper.wp;go_simp;exact⟨upd f 10 (H L.length),by simp[upd,g9,g8],eD (Z xu) 10 _ rfl (by decide) (by decide) (by decide) (by decide)⟩
       | 11,K =>
        obtain rfl:=yb K;have oi:f 10=H L.length:=hR.c 10 (ye I 10 rfl);have g8:f 8 = .bool true:=hR.c 8 (ye I 8 rfl);clear I hR xm;rw[if_pos (by simp only[g8];rfl)];unfold Oper.wp;go_simp;exact⟨upd f 11 (.bool false),by simp[upd,oi,g8],eD (Z xu) 11 _ rfl (by decide) (by decide) (by decide) (by decide)⟩
       | 12,K =>
        obtain rfl:=yb K;have jU:f 11 = .bool false:=hR.c 11 (ye I 11 rfl);have g8:f 8 = .bool true:=hR.c 8 (ye I 8 rfl);clear I hR xm;rw[if_pos (by simp only[g8];rfl)];unfold Oper.wp;go_simp;exact⟨upd f 12 (.bool false),by simp[upd,jU,g8],eD (Z xu) 12 _ rfl (by decide) (by decide) (by decide) (by decide)⟩
       | 13,K =>
        obtain rfl:=yb K;have qh:f 12 = .bool false:=hR.c 12 (ye I 12 rfl);clear I hR xm;rw[if_pos (by simp only[qh];rfl)];unfold Oper.wp;go_simp;exact⟨upd f 13 (.slice (some (U V'.heap.size 0)) 0 0),by simp[upd,qh],r9_13 (Z xu) xJ (fun _=>trivial)⟩
       | 14,K =>
        obtain rfl:=yb K;have qh:f 12 = .bool false:=hR.c 12 (ye I 12 rfl);clear I hR xm;rw[if_pos (by simp only[qh];rfl)];unfold Oper.wp;go_simp;exact⟨upd f 14 (.slice al L.length cal),by simp[upd,qh],eD (Z xu) 14 _ rfl (by decide) (by decide) (by decide) (by decide)⟩
       | 15,K =>
        obtain rfl:=yb K;have qh:f 12 = .bool false:=hR.c 12 (ye I 12 rfl);have bp:f 14 = .slice al L.length cal:=hR.c 14 (ye I 14 rfl);have k13:x[13]? = some true:=I ⟨13,.data⟩ (by simp) rfl
        have n18:x[18]? = some false:=by
         rcases fj hx (show 18<23 by omega) with h|h
         ·exact h
         ·have:=yf xm 18 rfl h 15 rfl;rw[xJ] at this;cases this
        have HO13:=Q (hR.m13 k13 xJ)
        have uA:Hid (∀ad,al=some ad->∀j u,(L.flatMap Od.vs)[j]? = some u->V'.cell? (ad.add j)=some u):=fun ad had=>by
         have h:=zq (Z HRL) (Z xk) ya;rw[had] at h;exact rd_src h
        clear I hR xm;rw[if_pos (by simp only[qh];rfl)];rcases Z HSV with h|⟨ad,nn,cc,h⟩
        ·simp only[Value.slice.injEq] at h;have hL:L = []:=List.length_eq_zero_iff.1 h.2.1;refine lB (.tmp 116) (.tmp 117) 39 rfl V.heap.size 98 i0 6 Tryz.underlying39 vA (f 13) 0 [] rfl (Z HO13) (by show f 14 = _;rw[bp,h.1,h.2.1,h.2.2]) ?_;refine⟨upd f 15 (f 13),rfl,r9_15 (Z xu) k13 xJ n18 (fun _=>trivial) (by rw[hL];exact Z HO13) (yR _ _)⟩
        ·simp only[Value.slice.injEq] at h;refine wp_append_own V' (.tmp 116) (.tmp 117) 39 rfl V.heap.size 98 i0 _ 6 56 Tryz.underlying39 vA uE uw uC rfl (by decide) (f 13) 0 [] rfl (Z HO13) ad L.length cal (L.flatMap Od.vs) (by show f 14 = _;rw[bp,h.1]) (by rw[ef Od.len]) (Z uA ad h.1) (fQ L) (by unfold maxLen;omega) (by omega) (Z xk).size ?_;intro v' w' xL vY _;refine⟨upd f 15 v',rfl,r9_15 (Z xu) k13 xJ n18 (fun _=>trivial) ?_ vY⟩;show w'.ownsRow _ _ _ _ L.length _;simpa using xL
       | 16,K =>
        obtain rfl:=yb K;have qh:f 12 = .bool false:=hR.c 12 (ye I 12 rfl);obtain⟨q0,q1,q2,q3,q4,q5⟩:=yC (Z HC9);clear I hR xm;rw[if_pos (by simp only[qh];rfl)];unfold Oper.wp;go_simp;exact⟨upd f 16 (.agg (yw next s tt left li tg).toArray),by simp[upd,qh],eD (Z xu) 16 _ rfl (by decide) (by decide) (by decide) (by decide)⟩
       | 17,K =>
        obtain rfl:=yb K;have qh:f 12 = .bool false:=hR.c 12 (ye I 12 rfl);have g16:f 16 = .agg (yw next s tt left li tg).toArray:=hR.c 16 (ye I 16 rfl)
        have n18:x[18]? = some false:=by
         rcases fj hx (show 18<23 by omega) with h|h
         ·exact h
         ·have:=yf xm 18 rfl h 17 rfl;rw[xJ] at this;cases this
        clear I hR xm;rw[if_pos (by simp only[qh];rfl)];unfold Oper.wp;go_simp;exact⟨upd f 17 (.slice (some (U V'.heap.size 0)) 1 1),by simp[upd,qh,g16],r9_17 (Z xu) xJ n18 (fun _=>trivial)⟩
       | 18,K =>
        obtain rfl:=yb K;have qh:f 12 = .bool false:=hR.c 12 (ye I 12 rfl);have pM:x[15]? = some true:=I ⟨15,.data⟩ (by simp) rfl;obtain⟨b,g17,xR,xE,xN,-⟩:=hR.m17 (ye I 17 rfl) xJ;have HO15:=Q (hR.m15 pM xJ)
        have uA:Hid (∀j u,(Od.vs ⟨next,s,tt,left,li,tg⟩)[j]? = some u->V'.cell? (((U b 0):Addr).add j)=some u):=fun j u hu=>by
         have:=xN j u hu;rw[Addr.add_mid];exact this
        clear I hR xm xN;rw[if_pos (by simp only[qh];rfl)];refine wp_append_own V' (.tmp 118) (.tmp 120) 39 rfl V.heap.size 98 i0 _ 6 56 Tryz.underlying39 vA uE uw uC rfl (by decide) (f 15) L.length (L.flatMap Od.vs) rfl (Z HO15) (U b 0) 1 1 (Od.vs ⟨next,s,tt,left,li,tg⟩) (by show f 17 = _;exact g17) rfl (Z uA) (one_od _) (by unfold maxLen;omega) (by omega) (Z xk).size ?_;intro v' w' xL vY _;refine⟨upd f 18 v',rfl,r9_18 (Z xu) pM xJ (fun _=>trivial) ?_ vY⟩;show w'.ownsRow _ _ _ _ (L ++ [(⟨next,s,tt,left,li,tg⟩:Od)]).length _;rw[yP,List.flatMap_append];simpa using xL
       | 19,K =>
        obtain rfl:=yb K;have qh:f 12 = .bool false:=hR.c 12 (ye I 12 rfl);have HO18:=Q (hR.m18 (ye I 18 rfl));clear I hR xm;rw[if_pos (by simp only[qh];rfl)];unfold Oper.wp;go_simp;refine(Z HLV2 V' (f 18) (zP (Z HO18) (by simp;omega))).mono ?_;rintro e w4 ⟨rfl,dw⟩;exact⟨upd f 19 (H N),by simp[upd,qh],eD (r9_grow (Z xu) (fZ dw (fun g M=>by cases M) ya)) 19 _ rfl (by decide) (by decide) (by decide) (by decide)⟩
       | 20,K =>
        obtain rfl:=yb K;have g19:f 19=H N:=hR.c 19 (ye I 19 rfl);have qh:f 12 = .bool false:=hR.c 12 (ye I 12 rfl);clear I hR xm;rw[if_pos (by simp only[qh];rfl)];unfold Oper.wp;go_simp;exact⟨upd f 20 (.bool (decide (8<N))),by simp[upd,g19,qh],eD (Z xu) 20 _ rfl (by decide) (by decide) (by decide) (by decide)⟩
       | 21,K =>
        obtain rfl:=yb K;have qh:f 12 = .bool false:=hR.c 12 (ye I 12 rfl);have g20:f 20 = .bool (decide (8<N)):=hR.c 20 (ye I 20 rfl);have g8:f 8 = .bool true:=hR.c 8 (ye I 8 rfl);clear I hR xm;rw[if_pos (by simp only[g8];rfl)];unfold Oper.wp;go_simp;exact⟨upd f 21 (.bool (decide (8<N))),by simp[upd,qh,g20,g8],eD (Z xu) 21 _ rfl (by decide) (by decide) (by decide) (by decide)⟩
       | 22,K =>
        obtain rfl:=yb K;have g8:f 8 = .bool true:=hR.c 8 (ye I 8 rfl);have g21:f 21 = .bool (decide (8<N)):=hR.c 21 (ye I 21 rfl);clear I hR xm;rw[if_pos (by rfl)];unfold Oper.wp;go_simp;exact⟨upd f 22 (.bool (decide (8<N))),by simp[upd,g8,g21],eD (Z xu) 22 _ rfl (by decide) (by decide) (by decide) (by decide)⟩
       | n+23,K=>simp at K
    ·have HQ0:Hid (res=0):=(Z HRS).trans (by rw[if_pos brs,if_neg bC]);have hlf':decide (0<left)=false:=by simpa using bC
     go_wp2_with fail;go_quiet ((go_at_call 126;refine Calls.quiet_of_same (Z HRB _)));go_wp2_with fail;go_ret;exact⟨zt (Z HQ0).symm,zp (Z xM) _⟩
   clear xV
   have HTN:Hid (¬ (ty=5/\0<ts.length)->¬ (ty=4/\0<left)->next=1000000->res=13):=fun g5 g4 gn=>by
    have:=Z pn;rw[if_neg g5,if_neg g4,if_pos gn] at this;exact this
   by_cases h5:ty=5
   ·by_cases hts:0<ts.length
    ·have bP:Hid (res=11):=(Z pn).trans (if_pos ⟨h5,hts⟩);subst h5;have hts':(0:Int)<ts.length:=by omega
     clear hts ue HTN;go_wp2_with fail;go_ret;exact⟨zt (Z bP).symm,Z xM⟩
    ·subst h5;have g5:¬ ((5:Int)=5/\0<ts.length):=fun h=>hts h.2;have g4:¬ ((5:Int)=4/\0<left):=fun h=>by omega
     have hts':¬ (0:Int)<ts.length:=by omega
     have htz:(ts.length:Int)=0:=by omega
     by_cases qw:next=1000000
     ·have bP:=Q (Z HTN g5 g4 qw);subst qw;clear ue HTN g5 g4;go_wp2_with fail;go_ret;exact⟨zt (Z bP).symm,Z xM⟩
     have bn:(next==1000000)=false:=by rw[xd];exact qw
     have jT:=Q (Z ue g5 g4 qw);clear ue HTN g5 g4 qw;go_wp2_with fail;exact Z jT _ _ _ _ _ _ _ _ _ _ _ _ _ _ _ _ _ _ _ _ _ _ _ _ _ _ _ _ _ _ _ _ _ _ _ _ _ _ _ _ _ _ _ _ _ _ _ _ _ _ _ _ _ _ _ _ _ _ _ _ _ _ _ _ _ _ _ _ _ _ _ _ _ _ _ _ _ _ _ _ _ _ _ _ _ _ _ _ _ _ _ _ _ _ _
   ·have b5:(ty==5)=false:=by rw[xd];exact h5
    have g5:¬ (ty=5/\0<ts.length):=fun h=>h5 h.1
    by_cases h4:ty=4
    ·by_cases bC:0<left
     ·have bP:Hid (res=12):=(Z pn).trans (by rw[if_neg g5,if_pos ⟨h4,bC⟩]);subst h4;clear ue HTN h5 g5 b5;go_wp2_with fail;go_ret;exact⟨zt (Z bP).symm,Z xM⟩
     ·subst h4;have g4:¬ ((4:Int)=4/\0<left):=fun h=>bC h.2
      by_cases qw:next=1000000
      ·have bP:=Q (Z HTN g5 g4 qw);subst qw;clear ue HTN g5 g4;go_wp2_with fail;go_ret;exact⟨zt (Z bP).symm,Z xM⟩
      have bn:(next==1000000)=false:=by rw[xd];exact qw
      have jT:=Q (Z ue g5 g4 qw);clear ue HTN g5 g4 qw;go_wp2_with fail;exact Z jT _ _ _ _ _ _ _ _ _ _ _ _ _ _ _ _ _ _ _ _ _ _ _ _ _ _ _ _ _ _ _ _ _ _ _ _ _ _ _ _ _ _ _ _ _ _ _ _ _ _ _ _ _ _ _ _ _ _ _ _ _ _ _ _ _ _ _ _ _ _ _ _ _ _ _ _ _ _ _ _ _ _ _ _ _ _ _ _ _ _ _ _ _ _ _
    ·have b4:(ty==4)=false:=by rw[xd];exact h4
     have g4:¬ (ty=4/\0<left):=fun h=>h4 h.1
     by_cases qw:next=1000000
     ·have bP:=Q (Z HTN g5 g4 qw);subst qw;clear ue HTN g5 g4;go_wp2_with fail;go_ret;exact⟨zt (Z bP).symm,Z xM⟩
     have bn:(next==1000000)=false:=by rw[xd];exact qw
     have jT:=Q (Z ue g5 g4 qw);clear ue HTN g5 g4 qw;go_wp2_with fail;exact Z jT _ _ _ _ _ _ _ _ _ _ _ _ _ _ _ _ _ _ _ _ _ _ _ _ _ _ _ _ _ _ _ _ _ _ _ _ _ _ _ _ _ _ _ _ _ _ _ _ _ _ _ _ _ _ _ _ _ _ _ _ _ _ _ _ _ _ _ _ _ _ _ _ _ _ _ _ _ _ _ _ _ _ _ _ _ _ _ _ _ _ _ _ _ _ _
  ·rintro x hb V i' o' ⟨f,rfl,hR⟩ xm hx K xJ I;have xu:=Q hR;have xk:=hR.bel;have xH:=Z ug;clear xV
   match i',K with
   | 0,K =>
    obtain rfl:=yb K;clear I hR xm;rw[if_pos (by rfl)];unfold Oper.wp;go_simp;exact⟨upd f 0 (xj w.heap.size 1),by simp[upd],fU (Z xu) 0 _ (by decide) (by decide) (by decide) (rfl)⟩
   | 1,K =>
    obtain rfl:=yb K;have g0:f 0=xj w.heap.size 1:=hR.e 0 (ye I 0 rfl);have z1:V.cell? (U w.heap.size 1)=some (.slice a l.length cap):=zd (Z HX).1 xk (by omega) 1 _ rfl;clear I hR xm;rw[if_pos (by rfl)];unfold Oper.wp;go_simp;exact⟨upd f 1 (.slice a l.length cap),by simp[upd,g0],fU (Z xu) 1 _ (by decide) (by decide) (by decide) (rfl)⟩
   | 2,K =>
    obtain rfl:=yb K;have z0:V.cell? (U w.heap.size 0)=some (H next):=zd (Z HX).1 xk (by omega) 0 _ rfl;have z1:V.cell? (U w.heap.size 1)=some (.slice a l.length cap):=zd (Z HX).1 xk (by omega) 1 _ rfl;clear I hR xm;rw[if_pos (by rfl)];unfold Oper.wp;go_simp;exact⟨upd f 2 (.agg #[H next,.slice a l.length cap]),by simp[upd],fU (Z xu) 2 _ (by decide) (by decide) (by decide) (rfl)⟩
   | 3,K =>
    obtain rfl:=yb K;obtain⟨z0,z1,z2,z3,z4,z5,z6,z7⟩:=yD (zd (Z HX).2 xk (by omega));clear I hR xm;rw[if_pos (by rfl)];unfold Oper.wp;go_simp;exact⟨upd f 3 (.agg (yx kk s ty li qt ii pr tg).toArray),by simp[upd],fU (Z xu) 3 _ (by decide) (by decide) (by decide) (rfl)⟩
   | 4,K =>
    obtain rfl:=yb K;have g2:f 2 = .agg #[H next,.slice a l.length cap]:=hR.e 2 (ye I 2 rfl);have g3:f 3 = .agg (yx kk s ty li qt ii pr tg).toArray:=hR.e 3 (ye I 3 rfl);clear I hR xm;rw[if_pos (by rfl)];unfold Oper.wp;go_simp;refine(Z HTKR _).mono ?_;rintro e w4 ⟨rfl,xz⟩;exact⟨upd f 4 (.agg (yw next s tt qt li tg).toArray),by simp[upd,g2,g3],fU (rn_grow (Z xu) xz) 4 _ (by decide) (by decide) (by decide) rfl⟩
   | 5,K =>
    obtain rfl:=yb K;have g1:f 1 = .slice a l.length cap:=hR.e 1 (ye I 1 rfl);have g4:f 4 = .agg (yw next s tt qt li tg).toArray:=hR.e 4 (ye I 4 rfl)
    have vZ:∀j,(j=6\/j=7\/j=9\/j=11\/j=13)->x[j]? ≠ some true:=fun j hj e=>by
     have h6:x[6]? ≠ some true:=fun e6=>by have:=yf xm 6 rfl e6 5 rfl;rw[xJ] at this;cases this
     rcases hj with rfl|rfl|rfl|rfl|rfl
     ·exact h6 e
     ·exact h6 (yf xm 7 rfl e 6 rfl)
     ·exact h6 (yf xm 9 rfl e 6 rfl)
     ·exact h6 (yf xm 11 rfl e 6 rfl)
     ·exact h6 (yf xm 13 rfl e 6 rfl)
    have HNO:=Q vZ;have oF:=Q (zq (zq (Z HR) (Z xq) ya) xk ya);clear I hR xm vZ;rw[if_pos (by rfl)];unfold Oper.wp;go_simp;refine(Z HMT V (Z oF)).mono ?_;rintro e w4 ⟨lv,ve,rfl,hl4,he4,xz⟩;refine⟨upd f 5 (.tuple #[lv,.agg (yw next s tt left li tg).toArray,ve]),by simp[upd,g1,g4],rn_5 (Z xu) xz ?_ ?_ (Z HNO) ?_⟩
    ·rcases hl4 with⟨rfl,hL⟩|h
     ·simp only at hL;rw[hL];exact⟨zq (Z oF) xz ya,Z jS⟩
     ·exact⟨zP h (by have h20:L.length<=20:=(Z kC).1.len;show L.length <= _;omega),oRow_sl h⟩
    ·rcases he4.2 with⟨D,E⟩|⟨g,qP,xr,D,_⟩
     ·exact⟨none,0,by rw[D];simp only at E;rw[E]⟩
     ·exact⟨_,_,D⟩
    ·intro c8 jn qV xy e;rcases hl4 with⟨rfl,hL⟩|h
     ·simp only at hL;obtain⟨b,xR,xE⟩:=rd_block (Z HR) (by rw[<- hL];exact xy);rw[xR] at e;simp only[Option.some.injEq] at e;have:=(Z xq).size;omega
     ·have:=(h.lt c8 e).1;omega
   | 6,K =>
    obtain rfl:=yb K;clear I hR xm;rw[if_pos (by rfl)];unfold Oper.wp;go_simp;exact⟨upd f 6 (f 5),by simp[upd],fU (Z xu) 6 _ (by decide) (by decide) (by decide) (rfl)⟩
   | 7,K =>
    obtain rfl:=yb K;obtain⟨lv,ev,e5,-⟩:=hR.m5 (yf xm 6 rfl (ye I 6 rfl) 5 rfl);have g6:f 6=f 5:=hR.e 6 (ye I 6 rfl);rw[e5] at g6;clear I hR xm;rw[if_pos (by rfl)];unfold Oper.wp;go_simp;exact⟨upd f 7 lv,by simp[upd,g6,e5],fU (Z xu) 7 _ (by decide) (by decide) (by decide) ⟨lv,ev,e5,rfl⟩⟩
   | 8,K =>
    obtain rfl:=yb K;obtain⟨lv,ev,e5,-⟩:=hR.m5 (yf xm 6 rfl (ye I 6 rfl) 5 rfl);have g6:f 6=f 5:=hR.e 6 (ye I 6 rfl);rw[e5] at g6;clear I hR xm;rw[if_pos (by rfl)];unfold Oper.wp;go_simp;exact⟨upd f 8 (.agg (yw next s tt left li tg).toArray),by simp[upd,g6,e5],fU (Z xu) 8 _ (by decide) (by decide) (by decide) rfl⟩
   | 9,K =>
    obtain rfl:=yb K;obtain⟨lv,ev,e5,-⟩:=hR.m5 (yf xm 6 rfl (ye I 6 rfl) 5 rfl);have g6:f 6=f 5:=hR.e 6 (ye I 6 rfl);rw[e5] at g6;clear I hR xm;rw[if_pos (by rfl)];unfold Oper.wp;go_simp;exact⟨upd f 9 ev,by simp[upd,g6,e5],fU (Z xu) 9 _ (by decide) (by decide) (by decide) ⟨lv,ev,e5,rfl⟩⟩
   | 10,K =>
    obtain rfl:=yb K;have cK:x[12]? ≠ some true:=fun e=>by have:=yf xm 12 rfl e 10 rfl;rw[xJ] at this;cases this
    clear I hR xm;rw[if_pos (by rfl)];unfold Oper.wp;go_simp;exact⟨upd f 10 (xj V.heap.size 0),by simp[upd],rn_10 (Z xu) cK (zT V (yw 0 0 0 0 0 ⟨#[]⟩) _)⟩
   | 11,K =>
    obtain rfl:=yb K;obtain⟨lv,ev,e5,e7⟩:=hR.e 7 (ye I 7 rfl);clear I hR xm;rw[if_pos (by rfl)];unfold Oper.wp;go_simp;exact⟨upd f 11 lv,by simp[upd,e7,e5],fU (Z xu) 11 _ (by decide) (by decide) (by decide) ⟨lv,ev,e5,rfl⟩⟩
   | 12,K =>
    obtain rfl:=yb K;have k5:x[5]? = some true:=I ⟨5,.phase⟩ (by simp) rfl;have k10:x[10]? = some true:=I ⟨10,.data⟩ (by simp) rfl;have g8:f 8 = .agg (yw next s tt left li tg).toArray:=hR.e 8 (ye I 8 rfl);obtain⟨c8,oi,jn,qV,ub,-⟩:=hR.m10 k10;obtain⟨y0,z0,q0⟩:=zi ub (j:=0) (by omega);obtain⟨y1,z1,q1⟩:=zi ub (j:=1) (by omega);obtain⟨y2,z2,q2⟩:=zi ub (j:=2) (by omega);obtain⟨y3,z3,q3⟩:=zi ub (j:=3) (by omega);obtain⟨y4,z4,q4⟩:=zi ub (j:=4) (by omega);obtain⟨y5,z5,q5⟩:=zi ub (j:=5) (by omega);clear I hR xm ub;rw[if_pos (by rfl)];unfold Oper.wp;go_simp;exact⟨f,by simp[g8,oi],rn_12 (Z xu) k5 k10 oi rfl xJ⟩
   | 13,K =>
    obtain rfl:=yb K;obtain⟨lv,ev,e5,e9⟩:=hR.e 9 (ye I 9 rfl);clear I hR xm;rw[if_pos (by rfl)];unfold Oper.wp;go_simp;exact⟨upd f 13 ev,by simp[upd,e9,e5],fU (Z xu) 13 _ (by decide) (by decide) (by decide) ⟨lv,ev,e5,rfl⟩⟩
   | n+14,K=>simp at K
 clear xV;cases bl:betB li 0 1;have hl:lifW ⟨kk,s,ty,li,qt,ii,pr,tg⟩=true:=by simp[lifW,bl]
 have HK:Hid (newR next l ⟨kk,s,ty,li,qt,ii,pr,tg⟩=5):=by show _ = _;simp[newR,bs,bt,hl]
 clear hl;rotate_left
 by_cases D:li=1
 subst D;cases brs:dP ty;have hl:lifW ⟨kk,s,ty,1,qt,ii,pr,tg⟩=true:=by simp[lifW,brs]
 have HK:Hid (newR next l ⟨kk,s,ty,1,qt,ii,pr,tg⟩=5):=by show _ = _;simp[newR,bs,bt,hl]
 clear hl;rotate_left;have hl:lifW ⟨kk,s,ty,1,qt,ii,pr,tg⟩=false:=by simp[lifW,brs,bl]
 by_cases E:ty=2
 subst E
 by_cases hz:fbit pr=0
 have hp:prcB ⟨kk,s,2,1,qt,ii,pr,tg⟩=true:=by simp[prcB,hz]
 have dz:decide (fbit pr=0)=true:=by simpa using hz
 clear hz;cases bq:betB qt 1 1000000;have HK:Hid (newR next l ⟨kk,s,2,1,qt,ii,pr,tg⟩=7):=by show _ = _;simp[newR,bs,bt,hl,hp,bq]
 clear hl hp;rotate_left;cases bg:tagB tg;have HK:Hid (newR next l ⟨kk,s,2,1,qt,ii,pr,tg⟩=8):=by show _ = _;simp[newR,bs,bt,hl,hp,bq,bg]
 clear hl hp;rotate_left;have ue:=Q (Z HT hl hp bq bg);clear HT hl hp;rotate_left;have hp:prcB ⟨kk,s,2,1,qt,ii,pr,tg⟩=false:=by simp[prcB,hz]
 have dz:decide (fbit pr=0)=false:=by simpa using hz
 clear hz;have HK:Hid (newR next l ⟨kk,s,2,1,qt,ii,pr,tg⟩=6):=by show _ = _;simp[newR,bs,bt,hl,hp]
 clear hl hp;rotate_left;have b2:(ty==2)=false:=by rw[xd];exact E
 have b2n:(ty != 2)=true:=by simpa using E
 cases bk:tkOk pr;have hp:prcB ⟨kk,s,ty,1,qt,ii,pr,tg⟩=false:=by simp[prcB,E,bk]
 have HK:Hid (newR next l ⟨kk,s,ty,1,qt,ii,pr,tg⟩=6):=by show _ = _;simp[newR,bs,bt,hl,hp]
 clear hl hp E;rotate_left;have hp:prcB ⟨kk,s,ty,1,qt,ii,pr,tg⟩=true:=by simp[prcB,E,bk]
 clear E;cases bq:betB qt 1 1000000;have HK:Hid (newR next l ⟨kk,s,ty,1,qt,ii,pr,tg⟩=7):=by show _ = _;simp[newR,bs,bt,hl,hp,bq]
 clear hl hp;rotate_left;cases bg:tagB tg;have HK:Hid (newR next l ⟨kk,s,ty,1,qt,ii,pr,tg⟩=8):=by show _ = _;simp[newR,bs,bt,hl,hp,bq,bg]
 clear hl hp;rotate_left;have ue:=Q (Z HT hl hp bq bg);clear HT hl hp;rotate_left;have hl:lifW ⟨kk,s,ty,li,qt,ii,pr,tg⟩=false:=by simp[lifW,bl,D]
 have b1:(li==1)=false:=by rw[xd];exact D
 clear D
 by_cases E:ty=2
 subst E
 by_cases hz:fbit pr=0
 have hp:prcB ⟨kk,s,2,li,qt,ii,pr,tg⟩=true:=by simp[prcB,hz]
 have dz:decide (fbit pr=0)=true:=by simpa using hz
 clear hz;cases bq:betB qt 1 1000000;have HK:Hid (newR next l ⟨kk,s,2,li,qt,ii,pr,tg⟩=7):=by show _ = _;simp[newR,bs,bt,hl,hp,bq]
 clear hl hp;rotate_left;cases bg:tagB tg;have HK:Hid (newR next l ⟨kk,s,2,li,qt,ii,pr,tg⟩=8):=by show _ = _;simp[newR,bs,bt,hl,hp,bq,bg]
 clear hl hp;rotate_left;have ue:=Q (Z HT hl hp bq bg);clear HT hl hp;rotate_left;have hp:prcB ⟨kk,s,2,li,qt,ii,pr,tg⟩=false:=by simp[prcB,hz]
 have dz:decide (fbit pr=0)=false:=by simpa using hz
 clear hz;have HK:Hid (newR next l ⟨kk,s,2,li,qt,ii,pr,tg⟩=6):=by show _ = _;simp[newR,bs,bt,hl,hp]
 clear hl hp;rotate_left;have b2:(ty==2)=false:=by rw[xd];exact E
 have b2n:(ty != 2)=true:=by simpa using E
 cases bk:tkOk pr;have hp:prcB ⟨kk,s,ty,li,qt,ii,pr,tg⟩=false:=by simp[prcB,E,bk]
 have HK:Hid (newR next l ⟨kk,s,ty,li,qt,ii,pr,tg⟩=6):=by show _ = _;simp[newR,bs,bt,hl,hp]
 clear hl hp E;rotate_left;have hp:prcB ⟨kk,s,ty,li,qt,ii,pr,tg⟩=true:=by simp[prcB,E,bk]
 clear E;cases bq:betB qt 1 1000000;have HK:Hid (newR next l ⟨kk,s,ty,li,qt,ii,pr,tg⟩=7):=by show _ = _;simp[newR,bs,bt,hl,hp,bq]
 clear hl hp;rotate_left;cases bg:tagB tg;have HK:Hid (newR next l ⟨kk,s,ty,li,qt,ii,pr,tg⟩=8):=by show _ = _;simp[newR,bs,bt,hl,hp,bq,bg]
 clear hl hp;rotate_left;have ue:=Q (Z HT hl hp bq bg);clear HT hl hp
 all_goals
  go_wp2_with (first|(go_at_call 169;refine(Z uV _).mono ?_;rintro e w' ⟨rfl,ur⟩;rw[ur];clear ur w')|(go_at_call 202;refine(ix _ _ _ _).mono ?_;rintro e w' ⟨rfl,ur⟩;rw[ur];clear ur w')|(go_at_call 126;refine(iu _ _).mono ?_;rintro e w' ⟨rfl,ur⟩;rw[ur];clear ur w')|(go_at_call 217;refine(Z HZR _).mono ?_;rintro e w' ⟨rfl,ur⟩;rw[ur];clear ur w')|(go_at_call 218;refine(Z cT _).mono ?_;rintro e w' ⟨rfl,ur⟩;rw[ur];clear ur w'))
  first
  | exact Z ue _ _ _ _ _ _ _ _ _ _ _ _ _ _ _ _ _ _ _ _ _ _ _ _ _ _ _ _ _ _ _ _ _ _ _ _ _ _ _ _ _ _ _ _ _ _ _ _ _ _ _ _ _ _ _ _ _ _ _ _ _ _ _
  | (go_ret;exact⟨zt (Z HK).symm,Z xq⟩)
end Go.Proofs.YtbghmldggahjiaaGreatDoor
