/-
  Why a new order is refused, by the model: proved by walking the function.
-/
import Derived.Test.YtnphbkgfjanmgaaGreatDoorDj32
set_option linter.unusedVariables false
set_option maxHeartbeats 6400000
set_option maxRecDepth 100000
namespace Go.Proofs.YtnphbkgfjanmgaaGreatDoor
open Go.RowKit
def EN (S:Nat) (vb bv cv ta tw u5:Value):Nat→Value→Prop
 | 0,v=>v = J S 1
 | 1,v=>v = vb
 | 2,v=>v = bv
 | 3,v=>v = cv
 | 4,v=>v = ta
 | 6,v=>v = u5
 | 7,v=>∃ lv ev,u5 = .tuple #[lv,tw,ev]∧v = lv
 | 8,v=>v = tw
 | 9,v=>∃ lv ev,u5 = .tuple #[lv,tw,ev]∧v = ev
 | 11,v=>∃ lv ev,u5 = .tuple #[lv,tw,ev]∧v = lv
 | 13,v=>∃ lv ev,u5 = .tuple #[lv,tw,ev]∧v = ev
 | _,_=>True
theorem en_any {S:Nat} {vb bv cv ta tw u u':Value} {j:Nat} {v:Value} (h:EN S vb bv cv ta tw u j v) (h6:j ≠ 6) (h7:j ≠ 7) (h9:j ≠ 9) (uR:j ≠ 11) (jN:j ≠ 13):EN S vb bv cv ta tw u' j v:=by
 match j with
 | 0 | 1 | 2 | 3 | 4 | 8=>exact h
 | 5 | 10 | 12=>trivial
 | 6=>omega
 | 7=>omega
 | 9=>omega
 | 11=>omega
 | 13=>omega
 | j + 14=>trivial
def LVok (W:World) (lv:Value) (fy:List Od):Prop:=RdR Od.vs 6 W lv fy∧SlOk lv
def Dst (fy:List Od) (u v:Value):Prop:=∀ lv tw ev c8,u = .tuple #[lv,tw,ev]→v = J c8 0→fy ≠ []→lv.ownBlock ≠ some c8
structure RN (S:Nat) (vb bv cv ta tw:Value) (twl:List Value) (fy:List Od) (n2:Nat) (base:World) (x:List Bool) (f:Nat→Value) (W:World):Prop where
 bel:Below base.heap.size base W
 e:∀ j,x[j]? = some true→EN S vb bv cv ta tw (f 5) j (f j)
 m5:x[5]? = some true→∃ lv ev,f 5 = .tuple #[lv,tw,ev]∧LVok W lv fy∧∃ a c,ev = .slice a n2 c
 m10:x[10]? = some true→∃ c8,f 10 = .pointer (some ⟨c8,0,none⟩)∧base.heap.size ≤ c8∧c8 < W.heap.size∧W.there c8 0 6∧(x[12]? = some true→W.rangeAt c8 0 twl)
 ap:x[5]? = some true→x[10]? = some true→Dst fy (f 5) (f 10)
def RNA (cl:(Nat→Value)→Act) (S:Nat) (vb bv cv ta tw:Value) (pA:List Value) (fy:List Od) (n2:Nat) (base:World) (x:List Bool) (cs:Act) (W:World):Prop:=∃ f,cs = cl f∧RN S vb bv cv ta tw pA fy n2 base x f W
theorem tup3 {a b c a' b' c':Value} (h:Value.tuple #[a,b,c] = .tuple #[a',b',c']):a = a'∧b = b'∧c = c':=by
 have:=congrArg Array.toList (Value.tuple.inj h)
 simpa using this
theorem rd_block {W:World} {v:Value} {fy:List Od} (h:RdR Od.vs 6 W v fy) (xD:fy ≠ []):∃ b,v.ownBlock = some b∧b < W.heap.size:=by
 obtain ⟨a,c,rfl,_,hc⟩:=h
 obtain ⟨b,off,rfl,E,_⟩:=hc xD
 exact ⟨b,rfl,E⟩
theorem rd_setC {W:World} {v:Value} {fy:List Od} {c8 o:Nat} {vs:List Value} (h:RdR Od.vs 6 W v fy) (xD:fy ≠ []→v.ownBlock ≠ some c8):RdR Od.vs 6 (W.setCells c8 o vs) v fy:=by
 obtain ⟨a,c,rfl,N,hc⟩:=h
 refine ⟨a,c,rfl,N,fun hl=>?_⟩
 obtain ⟨b,off,rfl,E,hr⟩:=hc hl
 have hbc:c8 ≠ b:=fun e=>xD hl (by rw [e]; rfl)
 exact ⟨b,off,rfl,by rw [cW]; exact E,fun i c hi=>eL (hr i c hi) hbc⟩
section
variable {S:Nat} {vb bv cv ta tw:Value} {pA:List Value} {fy:List Od} {n2:Nat} {base W W':World} {x:List Bool} {f:Nat→Value}
theorem rn_grow (h:RN S vb bv cv ta tw pA fy n2 base x f W) (E:yp W W'):RN S vb bv cv ta tw pA fy n2 base x f W' :=
 ⟨h.bel.trans (E.mono h.bel.size),h.e,fun h5=>by
  obtain ⟨lv,ev,N,Y,h3⟩:=h.m5 h5
  exact ⟨lv,ev,N,⟨zh Y.1 E yb,Y.2⟩,h3⟩,fun uV=>by
  obtain ⟨c8,N,Y,h3,h4,h5⟩:=h.m10 uV
  exact ⟨c8,N,Y,yK h3 E.size,zo h4 E h3,fun uK=>zc (h5 uK) E h3⟩,h.ap⟩
theorem cx (h:RN S vb bv cv ta tw pA fy n2 base x f W) (i:Nat) (u:Value) (h5:i ≠ 5) (uV:i ≠ 10) (uK:i ≠ 12) (hu:EN S vb bv cv ta tw (f 5) i u):RN S vb bv cv ta tw pA fy n2 base (x.set i true) (upd f i u) W:=by
 refine ⟨h.bel,fun j V=>?_,?_,?_,?_⟩
 ·rw [zk f u (show 5 ≠ i from fun e=>h5 e.symm)]
  by_cases hji:j = i
  ·subst hji; rw [zr]; exact hu
  ·rw [zk _ _ hji]
   rw [gq (fun e=>hji e.symm)] at V
   exact h.e j V
 ·rw [gq h5,zk f u (show 5 ≠ i from fun e=>h5 e.symm)]; exact h.m5
 ·rw [gq uV,gq uK,zk f u (show 10 ≠ i from fun e=>uV e.symm)]; exact h.m10
 ·rw [gq h5,gq uV,zk f u (show 5 ≠ i from fun e=>h5 e.symm),zk f u (show 10 ≠ i from fun e=>uV e.symm)]; exact h.ap
theorem rn_5 (h:RN S vb bv cv ta tw pA fy n2 base x f W) (E:yp W W') {lv ev:Value} (hl:LVok W' lv fy) (he:∃ a c,ev = .slice a n2 c) (vL:∀ j,(j = 6 ∨ j = 7 ∨ j = 9 ∨ j = 11 ∨ j = 13)→x[j]? ≠ some true)
  (hap:∀ c8,base.heap.size ≤ c8→c8 < W.heap.size→fy ≠ []→lv.ownBlock ≠ some c8):RN S vb bv cv ta tw pA fy n2 base (x.set 5 true) (upd f 5 (.tuple #[lv,tw,ev])) W':=by
 have hg:=rn_grow h E
 refine ⟨hg.bel,fun j V=>?_,fun _=>⟨lv,ev,zr _ _ _,hl,he⟩,?_,?_⟩
 ·by_cases hji:j = 5
  ·subst hji; trivial
  ·rw [gq (fun e=>hji e.symm)] at V
   rw [zk _ _ hji]
   refine en_any (hg.e j V) ?_ ?_ ?_ ?_ ?_ <;> intro e <;> exact vL j (by omega) V
 ·rw [gq (by omega),gq (by omega),zk _ _ (by omega)]; exact hg.m10
 ·intro _ uV
  rw [gq (by omega)] at uV
  rw [zr,zk _ _ (by omega)]
  obtain ⟨c8,N,Y,h3,_⟩:=h.m10 uV
  intro lv' tw' ev' c8' e1 e2 xD
  rw [N] at e2
  simp only [Value.pointer.injEq,Option.some.injEq,Addr.mk.injEq,and_true] at e2
  obtain rfl:c8 = c8':=e2
  have e1:lv = lv':=(tup3 e1).1
  rw [← e1]
  exact hap c8 Y h3 xD
theorem rn_10 (h:RN S vb bv cv ta tw pA fy n2 base x f W) (uK:x[12]? ≠ some true) {o:Obj} (ht:(W.alloc o).there W.heap.size 0 6):RN S vb bv cv ta tw pA fy n2 base (x.set 10 true) (upd f 10 (J W.heap.size 0)) (W.alloc o):=by
 have hg:=rn_grow h ((Below.refl W.heap.size W).alloc yb o)
 refine ⟨hg.bel,fun j V=>?_,?_,fun _=>⟨W.heap.size,zr _ _ _,h.bel.size,by rw [zj]; omega,ht,fun e=>absurd (by rwa [gq (by omega)] at e) uK⟩,?_⟩
 ·rw [zk _ _ (by omega)]
  by_cases hji:j = 10
  ·subst hji; trivial
  ·rw [gq (fun e=>hji e.symm)] at V
   rw [zk _ _ hji]; exact hg.e j V
 ·rw [gq (by omega),zk _ _ (by omega)]; exact hg.m5
 ·intro h5 _
  rw [gq (by omega)] at h5
  rw [zr,zk _ _ (by omega)]
  obtain ⟨lv,ev,N,Y,_⟩:=h.m5 h5
  intro lv' tw' ev' c8' e1 e2 xD e3
  rw [N] at e1
  simp only [Value.pointer.injEq,Option.some.injEq,Addr.mk.injEq,and_true] at e2
  have e1:lv = lv':=(tup3 e1).1
  obtain ⟨b,uk,xL⟩:=rd_block Y.1 xD
  rw [← e1,uk] at e3
  simp only [Option.some.injEq] at e3
  omega
theorem rn_12 (h:RN S vb bv cv ta tw pA fy n2 base x f W) (h5:x[5]? = some true) (uV:x[10]? = some true) {c8:Nat} (hc:f 10 = J c8 0) (hl:pA.length = 6) (hx:x[12]? = some false):RN S vb bv cv ta tw pA fy n2 base (x.set 12 true) f (W.setCells c8 0 pA):=by
 obtain ⟨c',N,Y,h3,h4,_⟩:=h.m10 uV
 rw [hc] at N
 simp only [Value.pointer.injEq,Option.some.injEq,Addr.mk.injEq,and_true] at N
 subst N
 obtain ⟨lv,ev,e1,e2,e3⟩:=h.m5 h5
 have hd:=h.ap h5 uV lv tw ev c8 e1 hc
 refine ⟨zi _ Y _ _ _ h.bel,fun j V=>?_,fun _=>⟨lv,ev,e1,⟨rd_setC e2.1 hd,e2.2⟩,e3⟩,fun _=>⟨c8,hc,Y,by rw [cW]; exact h3,xc h4 _ _ _,fun _=>yY W c8 0 _ (fun j V=>h4 j (by omega))⟩,?_⟩
 ·by_cases hji:j = 12
  ·subst hji; trivial
  ·rw [gq (fun e=>hji e.symm)] at V; exact h.e j V
 ·intro _ _; exact h.ap h5 uV
end
def DV (vs:List Value) (p:Prop) (W:World) (j:Nat) (v:Value):Prop:=∀ u,vs[j]? = some u→v = u
structure R9 (C:Nat→Value→Prop) (B0:World) (fy:List Od) (t:Od) (x:List Bool) (f:Nat→Value) (W:World):Prop where
 bel:Below B0.heap.size B0 W
 c:∀ j,x[j]? = some true→C j (f j)
 m13:x[13]? = some true→x[15]? = some false→ORow W B0.heap.size (f 13) []
 m15:x[15]? = some true→x[18]? = some false→ORow W B0.heap.size (f 15) fy
 m17:x[17]? = some true→x[18]? = some false→∃ b,f 17 = .slice (some ⟨b,0,none⟩) 1 1∧b < W.heap.size∧B0.heap.size ≤ b∧W.rangeAt b 0 t.vs∧(x[13]? = some true→x[15]? = some false→(f 13).ownBlock ≠ some b)
 m18:x[18]? = some true→ORow W B0.heap.size (f 18) (fy ++ [t])
def R9A (cl:(Nat→Value)→Act) (C:Nat→Value→Prop) (B0:World) (fy:List Od) (t:Od) (x:List Bool) (cs:Act) (W:World):Prop:=∃ f,cs = cl f∧R9 C B0 fy t x f W
section
variable {C:Nat→Value→Prop} {B0 W W':World} {fy:List Od} {t:Od} {x:List Bool} {f:Nat→Value}
theorem r9_grow (h:R9 C B0 fy t x f W) (E:yp W W'):R9 C B0 fy t x f W' :=
 ⟨h.bel.trans (E.mono h.bel.size),h.c,fun a b=>zM (h.m13 a b) E,fun a b=>zM (h.m15 a b) E,fun a b=>by
  obtain ⟨b',N,Y,h3,h4,h5⟩:=h.m17 a b
  exact ⟨b',N,yK Y E.size,h3,zc h4 E Y,h5⟩,fun a=>zM (h.m18 a) E⟩
theorem bz (h:R9 C B0 fy t x f W) (i:Nat) (v:Value) (hv:C i v) (jN:i ≠ 13) (vR:i ≠ 15) (qY:i ≠ 17) (pq:i ≠ 18):R9 C B0 fy t (x.set i true) (upd f i v) W:=by
 refine ⟨h.bel,zC h.c hv,?_,?_,?_,?_⟩ <;> simp only [gq jN,gq vR,gq qY,gq pq,zk f v jN.symm,zk f v vR.symm,zk f v qY.symm,zk f v pq.symm]
 ·exact h.m13
 ·exact h.m15
 ·exact h.m17
 ·exact h.m18
theorem r9_13 (h:R9 C B0 fy t x f W) (jN:x[13]? = some false) (hc:∀ v,C 13 v):R9 C B0 fy t (x.set 13 true) (upd f 13 (.slice (some (Q W.heap.size 0)) 0 0)) (W.alloc (L #[] 78)):=by
 have hg:=r9_grow h ((Below.refl W.heap.size W).alloc yb (L #[] 78))
 refine ⟨hg.bel,zC hg.c (hc _),?_,?_,?_,?_⟩
 ·intro _ _; rw [zr]; exact World.ownsRow_made W #[] 0 h.bel.size (by decide) rfl
 ·rw [gq (by decide),gq (by decide),zk _ _ (by decide)]; exact hg.m15
 ·intro qY pq
  rw [gq (by decide)] at qY pq
  obtain ⟨b,N,Y,h3,h4,h5⟩:=hg.m17 qY pq
  obtain ⟨b',e1,e2,_⟩:=h.m17 qY pq
  rw [N] at e1
  simp only [Value.slice.injEq,Option.some.injEq,Addr.mk.injEq,and_true] at e1
  subst e1
  refine ⟨b,by rw [zk _ _ (by decide)]; exact N,Y,h3,h4,fun _ _ e=>?_⟩
  rw [zr] at e
  simp [Value.ownBlock] at e
  omega
 ·rw [gq (by decide),zk _ _ (by decide)]; exact hg.m18
theorem r9_15 (h:R9 C B0 fy t x f W) (jN:x[13]? = some true) (vR:x[15]? = some false) (pq:x[18]? = some false) (hc:∀ v,C 15 v) {v':Value} (Z:ORow W' B0.heap.size v' fy) (hg:W.grownBy W' (f 13).ownBlock):R9 C B0 fy t (x.set 15 true) (upd f 15 v') W':=by
 refine ⟨h.bel.grown hg h.bel.size (fun k hk=>((h.m13 jN vR).lt k hk).1),zC h.c (hc _),?_,?_,?_,?_⟩
 ·intro _ e; rw [gqs vR] at e; cases e
 ·intro _ _; rw [zr]; exact Z
 ·intro qY _
  rw [gq (by decide)] at qY
  obtain ⟨b,N,Y,h3,h4,h5⟩:=h.m17 qY pq
  refine ⟨b,by rw [zk _ _ (by decide)]; exact N,yK Y hg.size,h3,zx h4 hg Y (fun e=>h5 jN vR e.symm),fun _ e=>?_⟩
  rw [gqs vR] at e; cases e
 ·intro e; rw [gq (by decide),pq] at e; cases e
theorem r9_17 (h:R9 C B0 fy t x f W) (qY:x[17]? = some false) (pq:x[18]? = some false) (hc:∀ v,C 17 v):R9 C B0 fy t (x.set 17 true) (upd f 17 (.slice (some (Q W.heap.size 0)) 1 1)) (W.alloc (Obj.cells t.vs.toArray 78)):=by
 have hg:=r9_grow h ((Below.refl W.heap.size W).alloc yb (Obj.cells t.vs.toArray 78))
 refine ⟨hg.bel,zC hg.c (hc _),?_,?_,?_,?_⟩
 ·rw [gq (by decide),gq (by decide),zk _ _ (by decide)]; exact hg.m13
 ·rw [gq (by decide),gq (by decide),zk _ _ (by decide)]; exact hg.m15
 ·intro _ _
  refine ⟨W.heap.size,zr _ _ _,by rw [zj]; omega,h.bel.size,zn W t.vs _,fun jN vR e=>?_⟩
  rw [gq (by decide)] at jN vR
  rw [zk _ _ (by decide)] at e
  have:=((h.m13 jN vR).lt _ e).2
  omega
 ·rw [gq (by decide),zk _ _ (by decide)]; exact hg.m18
theorem r9_18 (h:R9 C B0 fy t x f W) (vR:x[15]? = some true) (pq:x[18]? = some false) (hc:∀ v,C 18 v) {v':Value} (Z:ORow W' B0.heap.size v' (fy ++ [t])) (hg:W.grownBy W' (f 15).ownBlock):R9 C B0 fy t (x.set 18 true) (upd f 18 v') W':=by
 refine ⟨h.bel.grown hg h.bel.size (fun k hk=>((h.m15 vR pq).lt k hk).1),zC h.c (hc _),?_,?_,?_,?_⟩
 ·intro _ e; rw [gq (by decide)] at e; rw [e] at vR; cases vR
 ·intro _ e; rw [gqs pq] at e; cases e
 ·intro _ e; rw [gqs pq] at e; cases e
 ·intro _; rw [zr]; exact Z
end
def C9 (S c8:Nat) (ty left:Int) (lv:Value) (n1:Nat) (ta:Value) (h1:Int):Nat→Value→Prop
 | 0,v=>v = J (S + 1) 2
 | 1,v=>v = I ty
 | 2,v=>v = .bool true
 | 3,v=>v = .bool true
 | 4,v=>v = J c8 3
 | 5,v=>v = I left
 | 6,v=>v = .bool true
 | 7,v=>v = .bool true
 | 8,v=>v = .bool true
 | 9,v=>v = lv
 | 10,v=>v = I n1
 | 11,v=>v = .bool false
 | 12,v=>v = .bool false
 | 14,v=>v = lv
 | 16,v=>v = ta
 | 19,v=>v = I h1
 | 20,v=>v = .bool (decide (8 < h1))
 | 21,v=>v = .bool (decide (8 < h1))
 | 22,v=>v = .bool (decide (8 < h1))
 | _,_=>True
theorem l04New_any (next:Int) (vb:Value) (l:List Od) (c:Cm) (w:World) (hr:RdR Od.vs 6 w vb l) (hs:SlOk vb) (hg:GoodL l) (uS:∀ x ∈ l,x.side = 1 ∨ x.side = 2) (ht:c.g.size ≤ maxLen) :
  Calls Tryz.prog 144 #[.agg #[I next,vb],cmV c] w fun e w'=>e = .returned (I (newR next l c))∧yp w w':=by
 have HR:=H hr
 have HG:=H hg
 have km:=H hs
 have HSD:=H uS
 have az:=H (fun W=>l03Tag_any c.g W ht)
 have HZR:=H (fun W=>l04Zero_any c.p W)
 have uT:=H (fun W=>l01Ticks_any c.p W)
 obtain ⟨a,cap,rfl,xA,hc⟩:=hr
 obtain ⟨kk,s,ty,li,qt,ii,pr,tg⟩:=c
 unfold cmV
 simp only at az HZR uT ⊢
 clear hc hg hs uS xA ht
 have xK:=zj w (L #[I next,.slice a l.length cap] 34)
 have uf:((w.alloc (L #[I next,.slice a l.length cap] 34)).alloc (L (yy kk s ty li qt ii pr tg).toArray 50)).heap.size = w.heap.size + 1 + 1:=by rw [zj,xK]
 have r1:=zn w [I next,.slice a l.length cap] 34
 have r2:=zn (w.alloc (L #[I next,.slice a l.length cap] 34)) (yy kk s ty li qt ii pr tg) 50
 rw [xK] at r2
 have qv:Below (w.heap.size + 1) (w.alloc (L #[I next,.slice a l.length cap] 34)) ((w.alloc (L #[I next,.slice a l.length cap] 34)).alloc (L (yy kk s ty li qt ii pr tg).toArray 50)):=(Below.refl _ _).alloc (by rw [xK]; omega) _
 have xw:Hid (yp w ((w.alloc (L #[I next,.slice a l.length cap] 34)).alloc (L (yy kk s ty li qt ii pr tg).toArray 50))):=(fw _ _).alloc (by rw [xK]; omega) _
 have HX:Hid (_∧_):=⟨zc r1 qv (by omega),r2⟩
 have uu:Hid (w.heap.size + 1 < ((w.alloc (L #[I next,.slice a l.length cap] 34)).alloc (L (yy kk s ty li qt ii pr tg).toArray 50)).heap.size):=by show _ < _; omega
 clear xK uf r1 r2 qv
 go_enter Tryz.func144,Tryz.ntmps144
 refine fD fun zb xU=>?_
 go_wp2_with fail
 refine U xU _ _ ?_
 clear xU
 generalize ((w.alloc (L #[I next,.slice a l.length cap] 34)).alloc (L (yy kk s ty li qt ii pr tg).toArray 50)) = X2 at xw HX uu ⊢
 have HX:Hid (X2.rangeAt w.heap.size 0 [I next,.slice a l.length cap]∧X2.rangeAt (w.heap.size + 1) 0 (yy kk s ty li qt ii pr tg)):=U HX
 have o1:X2.cell? (Q (w.heap.size + 1) 1) = some (I s):=(U HX).2 1 _ rfl
 have o2:X2.cell? (Q (w.heap.size + 1) 2) = some (I ty):=(U HX).2 2 _ rfl
 have o3:X2.cell? (Q (w.heap.size + 1) 3) = some (I li):=(U HX).2 3 _ rfl
 have o4:X2.cell? (Q (w.heap.size + 1) 4) = some (I qt):=(U HX).2 4 _ rfl
 have o6:X2.cell? (Q (w.heap.size + 1) 6) = some (yk pr):=(U HX).2 6 _ rfl
 have o7:X2.cell? (Q (w.heap.size + 1) 7) = some (yl tg):=(U HX).2 7 _ rfl
 refine fD fun zb xU=>?_
 go_wp2_with (first | (go_at_call 124; refine (U uT _).mono ?_; rintro e w' ⟨rfl,un⟩; rw [un]; clear un w') | (go_at_call 47; refine (bJ _ _ _ _).mono ?_; rintro e w' ⟨rfl,un⟩; rw [un]; clear un w') | (go_at_call 54; refine (cM _ _).mono ?_; rintro e w' ⟨rfl,un⟩; rw [un]; clear un w') | (go_at_call 182; refine (U HZR _).mono ?_; rintro e w' ⟨rfl,un⟩; rw [un]; clear un w') | (go_at_call 74; refine (U az _).mono ?_; rintro e w' ⟨rfl,un⟩; rw [un]; clear un w'))
 refine U xU _ _ ?_
 clear xU
 refine fD fun zb xU=>?_
 cases bs:betB s 1 2
 have HK:Hid (newR next l ⟨kk,s,ty,li,qt,ii,pr,tg⟩ = 3):=by show _ = _; simp [newR,bs]
 rotate_left
 cases bt:betB ty 1 5
 have HK:Hid (newR next l ⟨kk,s,ty,li,qt,ii,pr,tg⟩ = 4):=by show _ = _; simp [newR,bs,bt]
 rotate_left
 have HT:Hid (lifW ⟨kk,s,ty,li,qt,ii,pr,tg⟩ = false→prcB ⟨kk,s,ty,li,qt,ii,pr,tg⟩ = true→betB qt 1 1000000 = true→tagB tg = true→∀ (u5 u6 u10 u11 u12 u13 u14 u15 u16 u17 u18 u19 u20 u21 u22 u23 u24 u25 u26 u27 u28 u29 u30 u31 u32 u33 u34 u35 u36 u37 u38 u39 u40 u41 u42 u43 u44 u45 u46 u47 u48 u49 u50 u51 u52 u53 u54 u55 u56 u57 u58 u59 u60 u61 u62 u63 u64 u65 u66 u67 u68 u69 u70:Value),zb { tmps:=#[.agg #[I next,.slice a l.length cap],.agg (yy kk s ty li qt ii pr tg).toArray,J w.heap.size 0,J (w.heap.size + 1) 0,I 0,u5,u6,M,M,M,u10,u11,u12,u13,u14,u15,u16,u17,u18,u19,u20,u21,u22,u23,u24,u25,u26,u27,u28,u29,u30,u31,u32,u33,u34,u35,u36,u37,u38,u39,u40,u41,u42,u43,u44,u45,u46,u47,u48,u49,u50,u51,u52,u53,u54,u55,u56,u57,u58,u59,u60,u61,u62,u63,u64,u65,u66,u67,u68,u69,u70,M,M,M,M,M,M,M,M,M,M,M,M,M,M,M,M,M,M,M,M,M,M,M,M,M,M,M,M,M,M,M,M,M,M,M,M,M,M,M,M,M,M,M,M,M,M,M,M,M,M,M,M,M,M,M],defers:=[] } X2):=by
  intro hlif hprc hqty htag u5 u6 u10 u11 u12 u13 u14 u15 u16 u17 u18 u19 u20 u21 u22 u23 u24 u25 u26 u27 u28 u29 u30 u31 u32 u33 u34 u35 u36 u37 u38 u39 u40 u41 u42 u43 u44 u45 u46 u47 u48 u49 u50 u51 u52 u53 u54 u55 u56 u57 u58 u59 u60 u61 u62 u63 u64 u65 u66 u67 u68 u69 u70
  refine U xU _ _ ?_
  clear xU o1 o2 o3 o4 o6 o7
  have hside:=side_of bs
  have hqq:1 ≤ qt∧qt ≤ 1000000:=by simpa [betB] using hqty
  have kr:Hid (newR next l ⟨kk,s,ty,li,qt,ii,pr,tg⟩ = matS next ⟨kk,s,ty,li,qt,ii,pr,tg⟩ (matL ⟨kk,s,ty,li,qt,ii,pr,tg⟩ next 21 l qt [])):=by
   show _ = _
   rw [matS_eq (U HG) (U HSD) bs hprc hqty]
   simp [newR,bs,bt,hlif,hprc,hqty,htag]
  have HMT:=H (fun W hW=>l04Match_any (.slice a l.length cap) l ⟨kk,s,ty,li,qt,ii,pr,tg⟩ next W hW (U HG) hside hprc (by show 0 ≤ qt; omega) hqq.2)
  have kI:=H (matL_good (c:=⟨kk,s,ty,li,qt,ii,pr,tg⟩) (id:=next) 21 l qt [] (U HG) (by omega) hqq.2)
  simp only at HMT kI
  generalize matL ⟨kk,s,ty,li,qt,ii,pr,tg⟩ next 21 l qt [] = cl at kr HMT kI
  generalize newR next l ⟨kk,s,ty,li,qt,ii,pr,tg⟩ = res at kr ⊢
  have HTKR:=H (fun W=>l04Taker_any next a l.length cap ⟨kk,s,ty,li,qt,ii,pr,tg⟩ W)
  unfold cmV at HTKR
  simp only at HTKR
  have HMS:Hid (matS next ⟨kk,s,ty,li,qt,ii,pr,tg⟩ cl = if ty = 5∧0 < cl.2.2.length then 11 else if ty = 4∧0 < cl.2.1 then 12 else if next = 1000000 then 13
   else if aW ty = true then (if 0 < cl.2.1 then (if cl.1.length = 20 then 13 else if 8 < nlev (cl.1 ++ [⟨next,s,tkS pr,cl.2.1,li,tg⟩]) then 13 else 0) else 0) else 0):=rfl
  have kr:Hid (res = _):=(U kr).trans (U HMS)
  clear HMS hlif hprc hqty htag hqq
  generalize tkS pr = tt at HMT HTKR kr
  obtain ⟨fy,left,ts⟩:=cl
  simp only at HMT kr kI
  refine fD fun zb xU=>?_
  refine zm (RNA (fun f=>{ tmps:=#[.agg #[I next,.slice a l.length cap],.agg (yy kk s ty li qt ii pr tg).toArray,J w.heap.size 0,J (w.heap.size + 1) 0,I 0,u5,u6,f 11,f 10,f 13,u10,u11,u12,u13,u14,u15,u16,u17,u18,u19,u20,u21,u22,u23,u24,u25,u26,u27,u28,u29,u30,u31,u32,u33,u34,u35,u36,u37,u38,u39,u40,u41,u42,u43,u44,u45,u46,u47,u48,u49,u50,u51,u52,u53,u54,u55,u56,u57,u58,u59,u60,u61,u62,u63,u64,u65,u66,u67,u68,u69,u70,f 6,f 0,f 1,f 2,f 3,f 4,f 5,f 7,f 8,f 9,M,M,M,M,M,M,M,M,M,M,M,M,M,M,M,M,M,M,M,M,M,M,M,M,M,M,M,M,M,M,M,M,M,M,M,M,M,M,M,M,M,M,M,M,M],defers:=[] }) w.heap.size (.slice a l.length cap) (.agg #[I next,.slice a l.length cap]) (.agg (yy kk s ty li qt ii pr tg).toArray) (.agg (yx next s tt qt li tg).toArray) (.agg (yx next s tt left li tg).toArray) (yx next s tt left li tg) fy ts.length X2) (by kernel_rfl) ?_ ?_ ?_
  ·exact ⟨fun j=>M,rfl,⟨⟨rfl,rfl,rfl,Nat.le_refl _,fun _ _=>rfl⟩,fun j V=>by rw [yJ] at V; split at V <;> simp at V,by simp,by simp,by simp⟩⟩
  ·rintro x cs hj ⟨f,rfl,R⟩ hx xO
   have xq:=bT xO hx (by kernel_rfl)
   obtain ⟨lv,ev,e5,hlv,ae,ce,hev⟩:=R.m5 (xq 5 (by simp))
   obtain ⟨c8,uO,kB,jn,-,kC⟩:=R.m10 (xq 10 (by simp))
   obtain ⟨lv',ev',uy,e11'⟩:=R.e 11 (xq 11 (by simp))
   obtain ⟨lv'',ev'',uQ,e13'⟩:=R.e 13 (xq 13 (by simp))
   have HC8:=H (kC (xq 12 (by simp)))
   rw [e5] at uy uQ
   have q1:lv = lv':=(tup3 uy).1
   have q2:ev = ev'':=(tup3 uQ).2.2
   rw [← q1] at e11'
   rw [← q2,hev] at e13'
   have HLV:=H hlv
   have xE:=H ((U xw).trans (R.bel.mono (U xw).size))
   have HXV:Hid (hj.rangeAt w.heap.size 0 [I next,.slice a l.length cap]∧hj.rangeAt (w.heap.size + 1) 0 (yy kk s ty li qt ii pr tg)):=⟨zc (U HX).1 R.bel (by have:=U uu; omega),zc (U HX).2 R.bel (U uu)⟩
   have hVS:w.heap.size + 1 < hj.heap.size:=yK (U uu) R.bel.size
   refine U xU _ _ ?_
   clear xU
   simp only [uO,e11',e13']
   generalize f 6 = u71,f 0 = u72,f 1 = u73,f 2 = u74,f 3 = u75,f 4 = u76,f 5 = u77,f 7 = u78,f 8 = u79,f 9 = u80
   clear R xq e5 uO uy uQ e11' e13' q1 q2 kC xO hx hlv hev HMT HTKR HX xw uu
   obtain ⟨⟨al,cal,qj,hll,qb⟩,hsl⟩:=U HLV
   have HRL:Hid (RdR Od.vs 6 hj (.slice al fy.length cal) fy):=by rw [← qj]; exact (U HLV).1
   have HSV:Hid (SlOk (.slice al fy.length cal)):=by rw [← qj]; exact hsl
   subst qj
   clear qb hsl hll HLV
   have k0:hj.cell? (Q w.heap.size 0) = some (I next):=(U HXV).1 0 _ rfl
   have o2:hj.cell? (Q (w.heap.size + 1) 2) = some (I ty):=(U HXV).2 2 _ rfl
   have c3:hj.cell? (Q c8 3) = some (I left):=U HC8 3 _ rfl
   have h20:fy.length ≤ 20:=(U kI).1.len
   refine fD fun zb xU=>?_
   have ux:Hid (¬ (ty = 5∧0 < ts.length)→¬ (ty = 4∧0 < left)→next ≠ 1000000→∀ (u5 u6 u10 u11 u12 u13 u14 u15 u16 u17 u18 u19 u20 u21 u22 u23 u24 u25 u26 u27 u28 u29 u30 u31 u32 u33 u34 u35 u36 u37 u38 u39 u40 u41 u42 u43 u44 u45 u46 u47 u48 u49 u50 u51 u52 u53 u54 u55 u56 u57 u58 u59 u60 u61 u62 u63 u64 u65 u66 u67 u68 u69 u70 u71 u72 u73 u74 u75 u76 u77 u78 u79 u80 u81 u82 u83 u84 u85 u86 u87 u88 u89 u90 u91 u92 u93 u94 u95 u96 u97 u98 u99 u100 u101 u102:Value),zb { tmps:=#[.agg #[I next,.slice a l.length cap],.agg (yy kk s ty li qt ii pr tg).toArray,J w.heap.size 0,J (w.heap.size + 1) 0,I 0,u5,u6,.slice al fy.length cal,J c8 0,.slice ae ts.length ce,u10,u11,u12,u13,u14,u15,u16,u17,u18,u19,u20,u21,u22,u23,u24,u25,u26,u27,u28,u29,u30,u31,u32,u33,u34,u35,u36,u37,u38,u39,u40,u41,u42,u43,u44,u45,u46,u47,u48,u49,u50,u51,u52,u53,u54,u55,u56,u57,u58,u59,u60,u61,u62,u63,u64,u65,u66,u67,u68,u69,u70,u71,u72,u73,u74,u75,u76,u77,u78,u79,u80,u81,u82,u83,u84,u85,u86,u87,u88,u89,u90,u91,u92,u93,u94,u95,u96,u97,u98,u99,u100,u101,u102,M,M,M,M,M,M,M,M,M,M,M,M,M,M,M,M,M,M,M,M,M,M,M],defers:=[] } hj):=by
    intro g5 g4 gn u5 u6 u10 u11 u12 u13 u14 u15 u16 u17 u18 u19 u20 u21 u22 u23 u24 u25 u26 u27 u28 u29 u30 u31 u32 u33 u34 u35 u36 u37 u38 u39 u40 u41 u42 u43 u44 u45 u46 u47 u48 u49 u50 u51 u52 u53 u54 u55 u56 u57 u58 u59 u60 u61 u62 u63 u64 u65 u66 u67 u68 u69 u70 u71 u72 u73 u74 u75 u76 u77 u78 u79 u80 u81 u82 u83 u84 u85 u86 u87 u88 u89 u90 u91 u92 u93 u94 u95 u96 u97 u98 u99 u100 u101 u102
    have HRS:Hid (res = if aW ty = true then (if 0 < left then (if fy.length = 20 then 13 else if 8 < nlev (fy ++ [⟨next,s,tt,left,li,tg⟩]) then 13 else 0) else 0) else 0):=by
     have:=U kr
     rw [if_neg g5,if_neg g4,if_neg gn] at this
     exact this
    refine U xU _ _ ?_
    clear xU g5 g4 gn kr k0
    have qN:Hid (∀ w':World,hj.grownBy w' none→w'.cell? (Q (w.heap.size + 1) 2) = some (I ty)∧w'.cell? (Q c8 3) = some (I left)):=fun w' h'=>⟨zx (U HXV).2 h' hVS (by simp) 2 _ rfl,zx (U HC8) h' jn (by simp) 3 _ rfl⟩
    cases brs:aW ty
    ·have pH:Hid (res = 0):=(U HRS).trans (by rw [brs]; rfl)
     go_wp2_with fail
     refine zm (RG hj (fun f=>{ tmps:=#[.agg #[I next,.slice a l.length cap],.agg (yy kk s ty li qt ii pr tg).toArray,J w.heap.size 0,J (w.heap.size + 1) 0,I 0,u5,u6,.slice al fy.length cal,J c8 0,.slice ae ts.length ce,u10,u11,u12,u13,u14,u15,u16,u17,u18,u19,u20,u21,u22,u23,u24,u25,u26,u27,u28,u29,u30,u31,u32,u33,u34,u35,u36,u37,u38,u39,u40,u41,u42,u43,u44,u45,u46,u47,u48,u49,u50,u51,u52,u53,u54,u55,u56,u57,u58,u59,u60,u61,u62,u63,u64,u65,u66,u67,u68,u69,u70,u71,u72,u73,u74,u75,u76,u77,u78,u79,u80,u81,u82,u83,u84,u85,u86,u87,u88,u89,u90,u91,u92,u93,u94,u95,u96,u97,u98,u99,u100,u101,u102,f 0,f 1,f 2,f 3,f 4,f 5,f 6,f 7,f 8,f 9,f 10,f 11,f 12,f 13,f 14,f 15,f 16,f 17,f 18,f 19,f 20,f 21,f 22],defers:=[] }) 99 (DV [J (w.heap.size + 1) 2,I ty,.bool false,.bool false,M,M,M,.bool false,.bool false,M,M,M,M,M,M,M,M,M,M,M,M,M,.bool false])) (by kernel_rfl) ?_ ?_ ?_
     ·exact ⟨fun _=>M,rfl,⟨rfl,rfl,rfl,Nat.le_refl _,fun _ _=>rfl⟩,fun j V=>by rw [yJ] at V; split at V <;> simp at V⟩
     ·rintro x cs V' ⟨f,rfl,xl,hD⟩ hx xO
      have xq:=zN xO hx (acyc _ (by kernel_rfl))
      have e22:f 22 = .bool false:=hD 22 (xq 22 (by simp)) _ rfl
      have xN:=H (fC (U xE) xl)
      simp only [e22]
      clear hD xq e22 xO hx xl
      go_wp2_with fail
      go_ret
      exact ⟨zA (U pH).symm,U xN⟩
     ·rintro x cs V' i' o' ⟨f,rfl,xl,hD⟩ X hx Z xr D
      clear X
      have ub:=H xl
      have HD:=H hD
      have o2:V'.cell? (Q (w.heap.size + 1) 2) = some (I ty):=zc (U HXV).2 xl hVS 2 _ rfl
      have c3:V'.cell? (Q c8 3) = some (I left):=zc (U HC8) xl jn 3 _ rfl
      clear HRS pH
      match i',Z with
      | 0,Z =>
       obtain rfl:=yc Z
       clear D hD xl
       rw [if_pos (by rfl)];unfold Oper.wp;go_simp
       exact ⟨upd f 0 (J (w.heap.size + 1) 2),by simp [upd],zg (U ub) (U HD) (by decide) (yi rfl)⟩
      | 1,Z =>
       obtain rfl:=yc Z
       have g0:=hD 0 (yf D 0 rfl) _ rfl
       clear D hD xl
       rw [if_pos (by rfl)];unfold Oper.wp;go_simp
       exact ⟨upd f 1 (I ty),by simp [upd,g0],zg (U ub) (U HD) (by decide) (yi rfl)⟩
      | 2,Z =>
       obtain rfl:=yc Z
       have g1:=hD 1 (yf D 1 rfl) _ rfl
       clear D hD xl
       rw [if_pos (by rfl)];unfold Oper.wp;go_simp
       refine (cM ty _).mono ?_
       rintro e w3 ⟨rfl,oM⟩
       rw [oM,brs]
       exact ⟨upd f 2 (.bool false),by simp [upd,g1],zg (U ub) (U HD) (by decide) (yi rfl)⟩
      | 3,Z =>
       obtain rfl:=yc Z
       have g2:=hD 2 (yf D 2 rfl) _ rfl
       clear D hD xl
       rw [if_pos (by rfl)];unfold Oper.wp;go_simp
       exact ⟨upd f 3 (.bool false),by simp [upd,g2],zg (U ub) (U HD) (by decide) (yi rfl)⟩
      | 4,Z | 5,Z | 6,Z =>
       obtain rfl:=yc Z
       have g3:=hD 3 (yf D 3 rfl) _ rfl
       clear D hD xl
       rw [if_neg (by simp only [g3]; exact fun h=>Bool.noConfusion (show (false:Bool) = true from h))]
       exact ⟨upd f _ M,rfl,zg (U ub) (U HD) (by decide) (yi rfl)⟩
      | 7,Z =>
       obtain rfl:=yc Z
       have g3:=hD 3 (yf D 3 rfl) _ rfl
       have g6:=hD 6 (yf D 6 rfl) _ rfl
       clear D hD xl
       rw [if_pos (by rfl)];unfold Oper.wp;go_simp
       exact ⟨upd f 7 (.bool false),by simp [upd,g3,g6],zg (U ub) (U HD) (by decide) (yi rfl)⟩
      | 8,Z =>
       obtain rfl:=yc Z
       have g7:=hD 7 (yf D 7 rfl) _ rfl
       clear D hD xl
       rw [if_pos (by rfl)];unfold Oper.wp;go_simp
       exact ⟨upd f 8 (.bool false),by simp [upd,g7],zg (U ub) (U HD) (by decide) (yi rfl)⟩
      | 9,Z | 10,Z | 11,Z | 12,Z | 21,Z =>
       obtain rfl:=yc Z
       have g8:=hD 8 (yf D 8 rfl) _ rfl
       clear D hD xl
       rw [if_neg (by simp only [g8]; exact fun h=>Bool.noConfusion (show (false:Bool) = true from h))]
       exact ⟨upd f _ M,rfl,zg (U ub) (U HD) (by decide) (yi rfl)⟩
      | 13,Z | 14,Z | 15,Z | 16,Z | 17,Z | 18,Z | 19,Z | 20,Z =>
       obtain rfl:=yc Z
       have ua:=hD 12 (yf D 12 rfl) _ rfl
       clear D hD xl
       rw [if_neg (by simp only [ua]; exact fun h=>Bool.noConfusion (show (false:Bool) = true from h))]
       exact ⟨upd f _ M,rfl,zg (U ub) (U HD) (by decide) (yi rfl)⟩
      | 22,Z =>
       obtain rfl:=yc Z
       have g8:=hD 8 (yf D 8 rfl) _ rfl
       have g21:=hD 21 (yf D 21 rfl) _ rfl
       clear D hD xl
       rw [if_pos (by rfl)];unfold Oper.wp;go_simp
       exact ⟨upd f 22 (.bool false),by simp [upd,g8,g21],zg (U ub) (U HD) (by decide) (yi rfl)⟩
      | n + 23,Z=>simp at Z
    by_cases py:0 < left
    ·by_cases hl20:fy.length = 20
     ·have pH:Hid (res = 13):=(U HRS).trans (by rw [if_pos brs,if_pos py,if_pos hl20])
      have aH:(fy.length:Int) = 20:=by omega
      have hb20:((fy.length:Int) == 20) = true:=by simpa using aH
      have hlf':decide (0 < left) = true:=by simpa using py
      clear hl20 aH
      go_wp2_with fail
      refine zm (RG hj (fun f=>{ tmps:=#[.agg #[I next,.slice a l.length cap],.agg (yy kk s ty li qt ii pr tg).toArray,J w.heap.size 0,J (w.heap.size + 1) 0,I 0,u5,u6,.slice al fy.length cal,J c8 0,.slice ae ts.length ce,u10,u11,u12,u13,u14,u15,u16,u17,u18,u19,u20,u21,u22,u23,u24,u25,u26,u27,u28,u29,u30,u31,u32,u33,u34,u35,u36,u37,u38,u39,u40,u41,u42,u43,u44,u45,u46,u47,u48,u49,u50,u51,u52,u53,u54,u55,u56,u57,u58,u59,u60,u61,u62,u63,u64,u65,u66,u67,u68,u69,u70,u71,u72,u73,u74,u75,u76,u77,u78,u79,u80,u81,u82,u83,u84,u85,u86,u87,u88,u89,u90,u91,u92,u93,u94,u95,u96,u97,u98,u99,u100,u101,u102,f 0,f 1,f 2,f 3,f 4,f 5,f 6,f 7,f 8,f 9,f 10,f 11,f 12,f 13,f 14,f 15,f 16,f 17,f 18,f 19,f 20,f 21,f 22],defers:=[] }) 99 (DV [J (w.heap.size + 1) 2,I ty,.bool true,.bool true,J c8 3,I left,.bool true,.bool true,.bool true,.slice al fy.length cal,I fy.length,.bool true,.bool true,M,M,M,M,M,M,M,M,.bool true,.bool true])) (by kernel_rfl) ?_ ?_ ?_
      ·exact ⟨fun _=>M,rfl,⟨rfl,rfl,rfl,Nat.le_refl _,fun _ _=>rfl⟩,fun j V=>by rw [yJ] at V; split at V <;> simp at V⟩
      ·rintro x cs V' ⟨f,rfl,xl,hD⟩ hx xO
       have xq:=zN xO hx (acyc _ (by kernel_rfl))
       have e22:f 22 = .bool true:=hD 22 (xq 22 (by simp)) _ rfl
       have xN:=H (fC (U xE) xl)
       simp only [e22]
       clear hD xq e22 xO hx xl
       go_wp2_with fail
       go_ret
       exact ⟨zA (U pH).symm,U xN⟩
      ·rintro x cs V' i' o' ⟨f,rfl,xl,hD⟩ X hx Z xr D
       clear X
       have ub:=H xl
       have HD:=H hD
       have o2:V'.cell? (Q (w.heap.size + 1) 2) = some (I ty):=zc (U HXV).2 xl hVS 2 _ rfl
       have c3:V'.cell? (Q c8 3) = some (I left):=zc (U HC8) xl jn 3 _ rfl
       clear HRS pH
       match i',Z with
       | 0,Z =>
        obtain rfl:=yc Z
        clear D hD xl
        rw [if_pos (by rfl)];unfold Oper.wp;go_simp
        exact ⟨upd f 0 (J (w.heap.size + 1) 2),by simp [upd],zg (U ub) (U HD) (by decide) (yi rfl)⟩
       | 1,Z =>
        obtain rfl:=yc Z
        have g0:=hD 0 (yf D 0 rfl) _ rfl
        clear D hD xl
        rw [if_pos (by rfl)];unfold Oper.wp;go_simp
        exact ⟨upd f 1 (I ty),by simp [upd,g0],zg (U ub) (U HD) (by decide) (yi rfl)⟩
       | 2,Z =>
        obtain rfl:=yc Z
        have g1:=hD 1 (yf D 1 rfl) _ rfl
        clear D hD xl
        rw [if_pos (by rfl)];unfold Oper.wp;go_simp
        refine (cM ty _).mono ?_
        rintro e w3 ⟨rfl,oM⟩
        rw [oM,brs]
        exact ⟨upd f 2 (.bool true),by simp [upd,g1],zg (U ub) (U HD) (by decide) (yi rfl)⟩
       | 3,Z =>
        obtain rfl:=yc Z
        have g2:=hD 2 (yf D 2 rfl) _ rfl
        clear D hD xl
        rw [if_pos (by rfl)];unfold Oper.wp;go_simp
        exact ⟨upd f 3 (.bool true),by simp [upd,g2],zg (U ub) (U HD) (by decide) (yi rfl)⟩
       | 4,Z =>
        obtain rfl:=yc Z
        have g3:=hD 3 (yf D 3 rfl) _ rfl
        clear D hD xl
        rw [if_pos (by simp only [g3]; rfl)]
        unfold Oper.wp
        go_simp
        exact ⟨upd f 4 (J c8 3),by simp [upd,g3],zg (U ub) (U HD) (by decide) (yi rfl)⟩
       | 5,Z =>
        obtain rfl:=yc Z
        have g3:=hD 3 (yf D 3 rfl) _ rfl
        have g4:=hD 4 (yf D 4 rfl) _ rfl
        clear D hD xl
        rw [if_pos (by simp only [g3]; rfl)]
        unfold Oper.wp
        go_simp
        exact ⟨upd f 5 (I left),by simp [upd,g3,g4],zg (U ub) (U HD) (by decide) (yi rfl)⟩
       | 6,Z =>
        obtain rfl:=yc Z
        have g3:=hD 3 (yf D 3 rfl) _ rfl
        have g5:=hD 5 (yf D 5 rfl) _ rfl
        clear D hD xl
        rw [if_pos (by simp only [g3]; rfl)]
        unfold Oper.wp
        go_simp
        exact ⟨upd f 6 (.bool true),by simp [upd,g3,g5],zg (U ub) (U HD) (by decide) (yi rfl)⟩
       | 7,Z =>
        obtain rfl:=yc Z
        have g3:=hD 3 (yf D 3 rfl) _ rfl
        have g6:=hD 6 (yf D 6 rfl) _ rfl
        clear D hD xl
        rw [if_pos (by rfl)];unfold Oper.wp;go_simp
        exact ⟨upd f 7 (.bool true),by simp [upd,g3,g6],zg (U ub) (U HD) (by decide) (yi rfl)⟩
       | 8,Z =>
        obtain rfl:=yc Z
        have g7:=hD 7 (yf D 7 rfl) _ rfl
        clear D hD xl
        rw [if_pos (by rfl)];unfold Oper.wp;go_simp
        exact ⟨upd f 8 (.bool true),by simp [upd,g7],zg (U ub) (U HD) (by decide) (yi rfl)⟩
       | 9,Z =>
        obtain rfl:=yc Z
        have g8:=hD 8 (yf D 8 rfl) _ rfl
        clear D hD xl
        rw [if_pos (by simp only [g8]; rfl)]
        unfold Oper.wp
        go_simp
        exact ⟨upd f 9 (.slice al fy.length cal),by simp [upd,g8],zg (U ub) (U HD) (by decide) (yi rfl)⟩
       | 10,Z =>
        obtain rfl:=yc Z
        have g8:=hD 8 (yf D 8 rfl) _ rfl
        have g9:=hD 9 (yf D 9 rfl) _ rfl
        clear D hD xl
        rw [if_pos (by simp only [g8]; rfl)]
        unfold Oper.wp
        go_simp
        exact ⟨upd f 10 (I fy.length),by simp [upd,g8,g9],zg (U ub) (U HD) (by decide) (yi rfl)⟩
       | 11,Z =>
        obtain rfl:=yc Z
        have g8:=hD 8 (yf D 8 rfl) _ rfl
        have qn:=hD 10 (yf D 10 rfl) _ rfl
        clear D hD xl
        rw [if_pos (by simp only [g8]; rfl)]
        unfold Oper.wp
        go_simp
        exact ⟨upd f 11 (.bool true),by simp [upd,g8,qn],zg (U ub) (U HD) (by decide) (yi rfl)⟩
       | 12,Z =>
        obtain rfl:=yc Z
        have g8:=hD 8 (yf D 8 rfl) _ rfl
        have vE:=hD 11 (yf D 11 rfl) _ rfl
        clear D hD xl
        rw [if_pos (by simp only [g8]; rfl)]
        unfold Oper.wp
        go_simp
        exact ⟨upd f 12 (.bool true),by simp [upd,g8,vE],zg (U ub) (U HD) (by decide) (yi rfl)⟩
       | 13,Z | 14,Z | 15,Z | 16,Z | 17,Z | 18,Z | 19,Z | 20,Z =>
        obtain rfl:=yc Z
        have ua:=hD 12 (yf D 12 rfl) _ rfl
        clear D hD xl
        rw [if_neg (by simp only [ua]; exact fun h=>Bool.noConfusion (show (false:Bool) = true from h))]
        exact ⟨upd f _ M,rfl,zg (U ub) (U HD) (by decide) (yi rfl)⟩
       | 21,Z =>
        obtain rfl:=yc Z
        have g8:=hD 8 (yf D 8 rfl) _ rfl
        have ua:=hD 12 (yf D 12 rfl) _ rfl
        have g20:=hD 20 (yf D 20 rfl) _ rfl
        clear D hD xl
        rw [if_pos (by simp only [g8]; rfl)]
        unfold Oper.wp
        go_simp
        exact ⟨upd f 21 (.bool true),by simp [upd,g8,ua,g20],zg (U ub) (U HD) (by decide) (yi rfl)⟩
       | 22,Z =>
        obtain rfl:=yc Z
        have g8:=hD 8 (yf D 8 rfl) _ rfl
        have g21:=hD 21 (yf D 21 rfl) _ rfl
        clear D hD xl
        rw [if_pos (by rfl)];unfold Oper.wp;go_simp
        exact ⟨upd f 22 (.bool true),by simp [upd,g8,g21],zg (U ub) (U HD) (by decide) (yi rfl)⟩
       | n + 23,Z=>simp at Z
     ·have pH:Hid (res = if decide (8 < ((nlev (fy ++ [⟨next,s,tt,left,li,tg⟩]):Nat):Int)) = true then 13 else 0):=(U HRS).trans (by
       rw [if_pos brs,if_pos py,if_neg hl20]
       by_cases h8:8 < nlev (fy ++ [⟨next,s,tt,left,li,tg⟩])
       ·rw [if_pos h8,if_pos (by simp only [xg]; omega)]
       ·rw [if_neg h8,if_neg (by simp only [xg]; omega)])
      have HLV2:=H (fun (W:World) (v:Value) (hW:RdR Od.vs 6 W v (fy ++ [⟨next,s,tt,left,li,tg⟩]))=>l03Levels_any v (fy ++ [⟨next,s,tt,left,li,tg⟩]) W hW (by simp; omega))
      generalize ((nlev (fy ++ [⟨next,s,tt,left,li,tg⟩]):Nat):Int) = h1 at pH HLV2
      have aH:¬ (fy.length:Int) = 20:=by omega
      have hb20:((fy.length:Int) == 20) = false:=by rw [xe]; exact aH
      have hlf':decide (0 < left) = true:=by simpa using py
      obtain ⟨i0,vA,uH,uI,uW⟩:=info_parts Tryz.infoOrder
      clear hl20
      go_wp2_with fail
      refine zm (R9A (fun f=>{ tmps:=#[.agg #[I next,.slice a l.length cap],.agg (yy kk s ty li qt ii pr tg).toArray,J w.heap.size 0,J (w.heap.size + 1) 0,I 0,u5,u6,.slice al fy.length cal,J c8 0,.slice ae ts.length ce,u10,u11,u12,u13,u14,u15,u16,u17,u18,u19,u20,u21,u22,u23,u24,u25,u26,u27,u28,u29,u30,u31,u32,u33,u34,u35,u36,u37,u38,u39,u40,u41,u42,u43,u44,u45,u46,u47,u48,u49,u50,u51,u52,u53,u54,u55,u56,u57,u58,u59,u60,u61,u62,u63,u64,u65,u66,u67,u68,u69,u70,u71,u72,u73,u74,u75,u76,u77,u78,u79,u80,u81,u82,u83,u84,u85,u86,u87,u88,u89,u90,u91,u92,u93,u94,u95,u96,u97,u98,u99,u100,u101,u102,f 0,f 1,f 2,f 3,f 4,f 5,f 6,f 7,f 8,f 9,f 10,f 11,f 12,f 13,f 14,f 15,f 16,f 17,f 18,f 19,f 20,f 21,f 22],defers:=[] }) (C9 w.heap.size c8 ty left (.slice al fy.length cal) fy.length (.agg (yx next s tt left li tg).toArray) h1) hj fy ⟨next,s,tt,left,li,tg⟩) (by kernel_rfl) ?_ ?_ ?_
      ·exact ⟨fun j=>M,rfl,⟨⟨rfl,rfl,rfl,Nat.le_refl _,fun _ _=>rfl⟩,fun j V=>by rw [yJ] at V; split at V <;> simp at V,by simp,by simp,by simp,by simp⟩⟩
      ·rintro x cs V' ⟨f,rfl,R⟩ hx xO
       have xq:=zN xO hx (acyc _ (by kernel_rfl))
       have e22:f 22 = .bool (decide (8 < h1)):=R.c 22 (xq 22 (by simp))
       have xN:=H ((U xE).trans (R.bel.mono (U xE).size))
       simp only [e22]
       clear R xq e22 xO hx
       cases hd:decide (8 < h1)
       ·have pk:Hid (res = 0):=(U pH).trans (by rw [hd]; rfl)
        go_wp2_with fail
        go_ret
        exact ⟨zA (U pk).symm,U xN⟩
       ·have pk:Hid (res = 13):=(U pH).trans (by rw [hd]; rfl)
        go_wp2_with fail
        go_ret
        exact ⟨zA (U pk).symm,U xN⟩
      ·rintro x cs V' i' o' ⟨f,rfl,R⟩ X hx Z xr D
       have xu:=H R
       have o2:V'.cell? (Q (w.heap.size + 1) 2) = some (I ty):=zc (U HXV).2 R.bel hVS 2 _ rfl
       have HC9:=H (zc (U HC8) R.bel jn)
       have c3:V'.cell? (Q c8 3) = some (I left):=U HC9 3 _ rfl
       have xl:=H R.bel
       clear HRS pH
       match i',Z with
       | 0,Z =>
        obtain rfl:=yc Z
        clear D R X
        rw [if_pos (by rfl)];unfold Oper.wp;go_simp
        exact ⟨upd f 0 (J (w.heap.size + 1) 2),by simp [upd],bz (U xu) 0 _ rfl (by decide) (by decide) (by decide) (by decide)⟩
       | 1,Z =>
        obtain rfl:=yc Z
        have g0:f 0 = J (w.heap.size + 1) 2:=R.c 0 (yf D 0 rfl)
        clear D R X
        rw [if_pos (by rfl)];unfold Oper.wp;go_simp
        exact ⟨upd f 1 (I ty),by simp [upd,g0],bz (U xu) 1 _ rfl (by decide) (by decide) (by decide) (by decide)⟩
       | 2,Z =>
        obtain rfl:=yc Z
        have g1:f 1 = I ty:=R.c 1 (yf D 1 rfl)
        clear D R X
        rw [if_pos (by rfl)];unfold Oper.wp;go_simp
        refine (cM ty _).mono ?_
        rintro e w3 ⟨rfl,oM⟩
        rw [oM,brs]
        exact ⟨upd f 2 (.bool true),by simp [upd,g1],bz (U xu) 2 _ rfl (by decide) (by decide) (by decide) (by decide)⟩
       | 3,Z =>
        obtain rfl:=yc Z
        have g2:f 2 = .bool true:=R.c 2 (yf D 2 rfl)
        clear D R X
        rw [if_pos (by rfl)];unfold Oper.wp;go_simp
        exact ⟨upd f 3 (.bool true),by simp [upd,g2],bz (U xu) 3 _ rfl (by decide) (by decide) (by decide) (by decide)⟩
       | 4,Z =>
        obtain rfl:=yc Z
        have g3:f 3 = .bool true:=R.c 3 (yf D 3 rfl)
        clear D R X
        rw [if_pos (by simp only [g3]; rfl)]
        unfold Oper.wp
        go_simp
        exact ⟨upd f 4 (J c8 3),by simp [upd,g3],bz (U xu) 4 _ rfl (by decide) (by decide) (by decide) (by decide)⟩
       | 5,Z =>
        obtain rfl:=yc Z
        have g4:f 4 = J c8 3:=R.c 4 (yf D 4 rfl)
        have g3:f 3 = .bool true:=R.c 3 (yf D 3 rfl)
        clear D R X
        rw [if_pos (by simp only [g3]; rfl)]
        unfold Oper.wp
        go_simp
        exact ⟨upd f 5 (I left),by simp [upd,g4,g3],bz (U xu) 5 _ rfl (by decide) (by decide) (by decide) (by decide)⟩
       | 6,Z =>
        obtain rfl:=yc Z
        have g5:f 5 = I left:=R.c 5 (yf D 5 rfl)
        have g3:f 3 = .bool true:=R.c 3 (yf D 3 rfl)
        clear D R X
        rw [if_pos (by simp only [g3]; rfl)]
        unfold Oper.wp
        go_simp
        exact ⟨upd f 6 (.bool true),by simp [upd,g5,g3],bz (U xu) 6 _ rfl (by decide) (by decide) (by decide) (by decide)⟩
       | 7,Z =>
        obtain rfl:=yc Z
        have g3:f 3 = .bool true:=R.c 3 (yf D 3 rfl)
        have g6:f 6 = .bool true:=R.c 6 (yf D 6 rfl)
        clear D R X
        rw [if_pos (by rfl)];unfold Oper.wp;go_simp
        exact ⟨upd f 7 (.bool true),by simp [upd,g3,g6],bz (U xu) 7 _ rfl (by decide) (by decide) (by decide) (by decide)⟩
       | 8,Z =>
        obtain rfl:=yc Z
        have g7:f 7 = .bool true:=R.c 7 (yf D 7 rfl)
        clear D R X
        rw [if_pos (by rfl)];unfold Oper.wp;go_simp
        exact ⟨upd f 8 (.bool true),by simp [upd,g7],bz (U xu) 8 _ rfl (by decide) (by decide) (by decide) (by decide)⟩
       | 9,Z =>
        obtain rfl:=yc Z
        have g8:f 8 = .bool true:=R.c 8 (yf D 8 rfl)
        clear D R X
        rw [if_pos (by simp only [g8]; rfl)]
        unfold Oper.wp
        go_simp
        exact ⟨upd f 9 (.slice al fy.length cal),by simp [upd,g8],bz (U xu) 9 _ rfl (by decide) (by decide) (by decide) (by decide)⟩
       | 10,Z =>
        obtain rfl:=yc Z
        have g9:f 9 = .slice al fy.length cal:=R.c 9 (yf D 9 rfl)
        have g8:f 8 = .bool true:=R.c 8 (yf D 8 rfl)
        clear D R X
        rw [if_pos (by simp only [g8]; rfl)]
        unfold Oper.wp
        go_simp
        exact ⟨upd f 10 (I fy.length),by simp [upd,g9,g8],bz (U xu) 10 _ rfl (by decide) (by decide) (by decide) (by decide)⟩
       | 11,Z =>
        obtain rfl:=yc Z
        have qn:f 10 = I fy.length:=R.c 10 (yf D 10 rfl)
        have g8:f 8 = .bool true:=R.c 8 (yf D 8 rfl)
        clear D R X
        rw [if_pos (by simp only [g8]; rfl)]
        unfold Oper.wp
        go_simp
        exact ⟨upd f 11 (.bool false),by simp [upd,qn,g8],bz (U xu) 11 _ rfl (by decide) (by decide) (by decide) (by decide)⟩
       | 12,Z =>
        obtain rfl:=yc Z
        have vE:f 11 = .bool false:=R.c 11 (yf D 11 rfl)
        have g8:f 8 = .bool true:=R.c 8 (yf D 8 rfl)
        clear D R X
        rw [if_pos (by simp only [g8]; rfl)]
        unfold Oper.wp
        go_simp
        exact ⟨upd f 12 (.bool false),by simp [upd,vE,g8],bz (U xu) 12 _ rfl (by decide) (by decide) (by decide) (by decide)⟩
       | 13,Z =>
        obtain rfl:=yc Z
        have ua:f 12 = .bool false:=R.c 12 (yf D 12 rfl)
        clear D R X
        rw [if_pos (by simp only [ua]; rfl)]
        unfold Oper.wp
        go_simp
        exact ⟨upd f 13 (.slice (some (Q V'.heap.size 0)) 0 0),by simp [upd,ua],r9_13 (U xu) xr (fun _=>trivial)⟩
       | 14,Z =>
        obtain rfl:=yc Z
        have ua:f 12 = .bool false:=R.c 12 (yf D 12 rfl)
        clear D R X
        rw [if_pos (by simp only [ua]; rfl)]
        unfold Oper.wp
        go_simp
        exact ⟨upd f 14 (.slice al fy.length cal),by simp [upd,ua],bz (U xu) 14 _ rfl (by decide) (by decide) (by decide) (by decide)⟩
       | 15,Z =>
        obtain rfl:=yc Z
        have ua:f 12 = .bool false:=R.c 12 (yf D 12 rfl)
        have je:f 14 = .slice al fy.length cal:=R.c 14 (yf D 14 rfl)
        have aL:x[13]? = some true:=D ⟨13,.data⟩ (by simp) rfl
        have n18:x[18]? = some false:=by
         rcases br hx (show 18 < 23 by omega) with h | h
         ·exact h
         ·have:=yh X 18 rfl h 15 rfl
          rw [xr] at this; cases this
        have HO13:=H (R.m13 aL xr)
        have qO:Hid (∀ ad,al = some ad→∀ j u,(fy.flatMap Od.vs)[j]? = some u→V'.cell? (ad.add j) = some u):=fun ad had=>by
         have h:=zh (U HRL) (U xl) yb
         rw [had] at h
         exact rd_src h
        clear D R X
        rw [if_pos (by simp only [ua]; rfl)]
        rcases U HSV with h | ⟨ad,nn,cc,h⟩
        ·simp only [Value.slice.injEq] at h
         have hL:fy = []:=List.length_eq_zero_iff.1 h.2.1
         refine eQ (.tmp 116) (.tmp 117) 32 rfl hj.heap.size 78 i0 6 Tryz.underlying32 vA (f 13) 0 [] rfl (U HO13) (by show f 14 = _; rw [je,h.1,h.2.1,h.2.2]) ?_
         refine ⟨upd f 15 (f 13),rfl,r9_15 (U xu) aL xr n18 (fun _=>trivial) (by rw [hL]; exact U HO13) (yS _ _)⟩
        ·simp only [Value.slice.injEq] at h
         refine wp_append_own V' (.tmp 116) (.tmp 117) 32 rfl hj.heap.size 78 i0 _ 6 56 Tryz.underlying32 vA uH uI uW rfl (by decide) (f 13) 0 [] rfl (U HO13) ad fy.length cal (fy.flatMap Od.vs) (by show f 14 = _; rw [je,h.1]) (by rw [zZ Od.len]) (U qO ad h.1) (bZ fy) (by unfold maxLen; omega) (by omega) (U xl).size ?_
         intro v' w' xS vG _
         refine ⟨upd f 15 v',rfl,r9_15 (U xu) aL xr n18 (fun _=>trivial) ?_ vG⟩
         show w'.ownsRow _ _ _ _ fy.length _
         simpa using xS
       | 16,Z =>
        obtain rfl:=yc Z
        have ua:f 12 = .bool false:=R.c 12 (yf D 12 rfl)
        obtain ⟨q0,q1,q2,q3,q4,q5⟩:=yD (U HC9)
        clear D R X
        rw [if_pos (by simp only [ua]; rfl)]
        unfold Oper.wp
        go_simp
        exact ⟨upd f 16 (.agg (yx next s tt left li tg).toArray),by simp [upd,ua],bz (U xu) 16 _ rfl (by decide) (by decide) (by decide) (by decide)⟩
       | 17,Z =>
        obtain rfl:=yc Z
        have ua:f 12 = .bool false:=R.c 12 (yf D 12 rfl)
        have g16:f 16 = .agg (yx next s tt left li tg).toArray:=R.c 16 (yf D 16 rfl)
        have n18:x[18]? = some false:=by
         rcases br hx (show 18 < 23 by omega) with h | h
         ·exact h
         ·have:=yh X 18 rfl h 17 rfl
          rw [xr] at this; cases this
        clear D R X
        rw [if_pos (by simp only [ua]; rfl)]
        unfold Oper.wp
        go_simp
        exact ⟨upd f 17 (.slice (some (Q V'.heap.size 0)) 1 1),by simp [upd,ua,g16],r9_17 (U xu) xr n18 (fun _=>trivial)⟩
       | 18,Z =>
        obtain rfl:=yc Z
        have ua:f 12 = .bool false:=R.c 12 (yf D 12 rfl)
        have qz:x[15]? = some true:=D ⟨15,.data⟩ (by simp) rfl
        obtain ⟨b,g17,uk,xL,xQ,-⟩:=R.m17 (yf D 17 rfl) xr
        have HO15:=H (R.m15 qz xr)
        have qO:Hid (∀ j u,(Od.vs ⟨next,s,tt,left,li,tg⟩)[j]? = some u→V'.cell? (((Q b 0):Addr).add j) = some u):=fun j u hu=>by
         have:=xQ j u hu
         rw [Addr.add_mid]; exact this
        clear D R X xQ
        rw [if_pos (by simp only [ua]; rfl)]
        refine wp_append_own V' (.tmp 118) (.tmp 120) 32 rfl hj.heap.size 78 i0 _ 6 56 Tryz.underlying32 vA uH uI uW rfl (by decide) (f 15) fy.length (fy.flatMap Od.vs) rfl (U HO15) (Q b 0) 1 1 (Od.vs ⟨next,s,tt,left,li,tg⟩) (by show f 17 = _; exact g17) rfl (U qO) (one_od _) (by unfold maxLen; omega) (by omega) (U xl).size ?_
        intro v' w' xS vG _
        refine ⟨upd f 18 v',rfl,r9_18 (U xu) qz xr (fun _=>trivial) ?_ vG⟩
        show w'.ownsRow _ _ _ _ (fy ++ [(⟨next,s,tt,left,li,tg⟩:Od)]).length _
        rw [yQ,List.flatMap_append]
        simpa using xS
       | 19,Z =>
        obtain rfl:=yc Z
        have ua:f 12 = .bool false:=R.c 12 (yf D 12 rfl)
        have HO18:=H (R.m18 (yf D 18 rfl))
        clear D R X
        rw [if_pos (by simp only [ua]; rfl)]
        unfold Oper.wp
        go_simp
        refine (U HLV2 V' (f 18) (zK (U HO18) (by simp; omega))).mono ?_
        rintro e w4 ⟨rfl,kJ⟩
        exact ⟨upd f 19 (I h1),by simp [upd,ua],bz (r9_grow (U xu) (dM kJ (fun g hg=>by cases hg) yb)) 19 _ rfl (by decide) (by decide) (by decide) (by decide)⟩
       | 20,Z =>
        obtain rfl:=yc Z
        have g19:f 19 = I h1:=R.c 19 (yf D 19 rfl)
        have ua:f 12 = .bool false:=R.c 12 (yf D 12 rfl)
        clear D R X
        rw [if_pos (by simp only [ua]; rfl)]
        unfold Oper.wp
        go_simp
        exact ⟨upd f 20 (.bool (decide (8 < h1))),by simp [upd,g19,ua],bz (U xu) 20 _ rfl (by decide) (by decide) (by decide) (by decide)⟩
       | 21,Z =>
        obtain rfl:=yc Z
        have ua:f 12 = .bool false:=R.c 12 (yf D 12 rfl)
        have g20:f 20 = .bool (decide (8 < h1)):=R.c 20 (yf D 20 rfl)
        have g8:f 8 = .bool true:=R.c 8 (yf D 8 rfl)
        clear D R X
        rw [if_pos (by simp only [g8]; rfl)]
        unfold Oper.wp
        go_simp
        exact ⟨upd f 21 (.bool (decide (8 < h1))),by simp [upd,ua,g20,g8],bz (U xu) 21 _ rfl (by decide) (by decide) (by decide) (by decide)⟩
       | 22,Z =>
        obtain rfl:=yc Z
        have g8:f 8 = .bool true:=R.c 8 (yf D 8 rfl)
        have g21:f 21 = .bool (decide (8 < h1)):=R.c 21 (yf D 21 rfl)
        clear D R X
        rw [if_pos (by rfl)];unfold Oper.wp;go_simp
        exact ⟨upd f 22 (.bool (decide (8 < h1))),by simp [upd,g8,g21],bz (U xu) 22 _ rfl (by decide) (by decide) (by decide) (by decide)⟩
       | n + 23,Z=>simp at Z
    ·have pH:Hid (res = 0):=(U HRS).trans (by rw [if_pos brs,if_neg py])
     have hlf':decide (0 < left) = false:=by simpa using py
     go_wp2_with fail
     refine zm (RG hj (fun f=>{ tmps:=#[.agg #[I next,.slice a l.length cap],.agg (yy kk s ty li qt ii pr tg).toArray,J w.heap.size 0,J (w.heap.size + 1) 0,I 0,u5,u6,.slice al fy.length cal,J c8 0,.slice ae ts.length ce,u10,u11,u12,u13,u14,u15,u16,u17,u18,u19,u20,u21,u22,u23,u24,u25,u26,u27,u28,u29,u30,u31,u32,u33,u34,u35,u36,u37,u38,u39,u40,u41,u42,u43,u44,u45,u46,u47,u48,u49,u50,u51,u52,u53,u54,u55,u56,u57,u58,u59,u60,u61,u62,u63,u64,u65,u66,u67,u68,u69,u70,u71,u72,u73,u74,u75,u76,u77,u78,u79,u80,u81,u82,u83,u84,u85,u86,u87,u88,u89,u90,u91,u92,u93,u94,u95,u96,u97,u98,u99,u100,u101,u102,f 0,f 1,f 2,f 3,f 4,f 5,f 6,f 7,f 8,f 9,f 10,f 11,f 12,f 13,f 14,f 15,f 16,f 17,f 18,f 19,f 20,f 21,f 22],defers:=[] }) 99 (DV [J (w.heap.size + 1) 2,I ty,.bool true,.bool true,J c8 3,I left,.bool false,.bool false,.bool false,M,M,M,M,M,M,M,M,M,M,M,M,M,.bool false])) (by kernel_rfl) ?_ ?_ ?_
     ·exact ⟨fun _=>M,rfl,⟨rfl,rfl,rfl,Nat.le_refl _,fun _ _=>rfl⟩,fun j V=>by rw [yJ] at V; split at V <;> simp at V⟩
     ·rintro x cs V' ⟨f,rfl,xl,hD⟩ hx xO
      have xq:=zN xO hx (acyc _ (by kernel_rfl))
      have e22:f 22 = .bool false:=hD 22 (xq 22 (by simp)) _ rfl
      have xN:=H (fC (U xE) xl)
      simp only [e22]
      clear hD xq e22 xO hx xl
      go_wp2_with fail
      go_ret
      exact ⟨zA (U pH).symm,U xN⟩
     ·rintro x cs V' i' o' ⟨f,rfl,xl,hD⟩ X hx Z xr D
      clear X
      have ub:=H xl
      have HD:=H hD
      have o2:V'.cell? (Q (w.heap.size + 1) 2) = some (I ty):=zc (U HXV).2 xl hVS 2 _ rfl
      have c3:V'.cell? (Q c8 3) = some (I left):=zc (U HC8) xl jn 3 _ rfl
      clear HRS pH
      match i',Z with
      | 0,Z =>
       obtain rfl:=yc Z
       clear D hD xl
       rw [if_pos (by rfl)];unfold Oper.wp;go_simp
       exact ⟨upd f 0 (J (w.heap.size + 1) 2),by simp [upd],zg (U ub) (U HD) (by decide) (yi rfl)⟩
      | 1,Z =>
       obtain rfl:=yc Z
       have g0:=hD 0 (yf D 0 rfl) _ rfl
       clear D hD xl
       rw [if_pos (by rfl)];unfold Oper.wp;go_simp
       exact ⟨upd f 1 (I ty),by simp [upd,g0],zg (U ub) (U HD) (by decide) (yi rfl)⟩
      | 2,Z =>
       obtain rfl:=yc Z
       have g1:=hD 1 (yf D 1 rfl) _ rfl
       clear D hD xl
       rw [if_pos (by rfl)];unfold Oper.wp;go_simp
       refine (cM ty _).mono ?_
       rintro e w3 ⟨rfl,oM⟩
       rw [oM,brs]
       exact ⟨upd f 2 (.bool true),by simp [upd,g1],zg (U ub) (U HD) (by decide) (yi rfl)⟩
      | 3,Z =>
       obtain rfl:=yc Z
       have g2:=hD 2 (yf D 2 rfl) _ rfl
       clear D hD xl
       rw [if_pos (by rfl)];unfold Oper.wp;go_simp
       exact ⟨upd f 3 (.bool true),by simp [upd,g2],zg (U ub) (U HD) (by decide) (yi rfl)⟩
      | 4,Z =>
       obtain rfl:=yc Z
       have g3:=hD 3 (yf D 3 rfl) _ rfl
       clear D hD xl
       rw [if_pos (by simp only [g3]; rfl)]
       unfold Oper.wp
       go_simp
       exact ⟨upd f 4 (J c8 3),by simp [upd,g3],zg (U ub) (U HD) (by decide) (yi rfl)⟩
      | 5,Z =>
       obtain rfl:=yc Z
       have g3:=hD 3 (yf D 3 rfl) _ rfl
       have g4:=hD 4 (yf D 4 rfl) _ rfl
       clear D hD xl
       rw [if_pos (by simp only [g3]; rfl)]
       unfold Oper.wp
       go_simp
       exact ⟨upd f 5 (I left),by simp [upd,g3,g4],zg (U ub) (U HD) (by decide) (yi rfl)⟩
      | 6,Z =>
       obtain rfl:=yc Z
       have g3:=hD 3 (yf D 3 rfl) _ rfl
       have g5:=hD 5 (yf D 5 rfl) _ rfl
       clear D hD xl
       rw [if_pos (by simp only [g3]; rfl)]
       unfold Oper.wp
       go_simp
       exact ⟨upd f 6 (.bool false),by simp [upd,g3,g5],zg (U ub) (U HD) (by decide) (yi rfl)⟩
      | 7,Z =>
       obtain rfl:=yc Z
       have g3:=hD 3 (yf D 3 rfl) _ rfl
       have g6:=hD 6 (yf D 6 rfl) _ rfl
       clear D hD xl
       rw [if_pos (by rfl)];unfold Oper.wp;go_simp
       exact ⟨upd f 7 (.bool false),by simp [upd,g3,g6],zg (U ub) (U HD) (by decide) (yi rfl)⟩
      | 8,Z =>
       obtain rfl:=yc Z
       have g7:=hD 7 (yf D 7 rfl) _ rfl
       clear D hD xl
       rw [if_pos (by rfl)];unfold Oper.wp;go_simp
       exact ⟨upd f 8 (.bool false),by simp [upd,g7],zg (U ub) (U HD) (by decide) (yi rfl)⟩
      | 9,Z | 10,Z | 11,Z | 12,Z | 21,Z =>
       obtain rfl:=yc Z
       have g8:=hD 8 (yf D 8 rfl) _ rfl
       clear D hD xl
       rw [if_neg (by simp only [g8]; exact fun h=>Bool.noConfusion (show (false:Bool) = true from h))]
       exact ⟨upd f _ M,rfl,zg (U ub) (U HD) (by decide) (yi rfl)⟩
      | 13,Z | 14,Z | 15,Z | 16,Z | 17,Z | 18,Z | 19,Z | 20,Z =>
       obtain rfl:=yc Z
       have ua:=hD 12 (yf D 12 rfl) _ rfl
       clear D hD xl
       rw [if_neg (by simp only [ua]; exact fun h=>Bool.noConfusion (show (false:Bool) = true from h))]
       exact ⟨upd f _ M,rfl,zg (U ub) (U HD) (by decide) (yi rfl)⟩
      | 22,Z =>
       obtain rfl:=yc Z
       have g8:=hD 8 (yf D 8 rfl) _ rfl
       have g21:=hD 21 (yf D 21 rfl) _ rfl
       clear D hD xl
       rw [if_pos (by rfl)];unfold Oper.wp;go_simp
       exact ⟨upd f 22 (.bool false),by simp [upd,g8,g21],zg (U ub) (U HD) (by decide) (yi rfl)⟩
      | n + 23,Z=>simp at Z
   clear xU
   have HTN:Hid (¬ (ty = 5∧0 < ts.length)→¬ (ty = 4∧0 < left)→next = 1000000→res = 13):=fun g5 g4 gn=>by
    have:=U kr
    rw [if_neg g5,if_neg g4,if_pos gn] at this
    exact this
   by_cases h5:ty = 5
   ·by_cases hts:0 < ts.length
    ·have pk:Hid (res = 11):=(U kr).trans (if_pos ⟨h5,hts⟩)
     subst h5
     have hts':(0:Int) < ts.length:=by omega
     clear hts ux HTN
     go_wp2_with fail
     go_ret
     exact ⟨zA (U pk).symm,U xE⟩
    ·subst h5
     have g5:¬ ((5:Int) = 5∧0 < ts.length):=fun h=>hts h.2
     have g4:¬ ((5:Int) = 4∧0 < left):=fun h=>by omega
     have hts':¬ (0:Int) < ts.length:=by omega
     have htz:(ts.length:Int) = 0:=by omega
     by_cases qe:next = 1000000
     ·have pk:=H (U HTN g5 g4 qe)
      subst qe
      clear ux HTN g5 g4
      go_wp2_with fail
      go_ret
      exact ⟨zA (U pk).symm,U xE⟩
     have bn:(next == 1000000) = false:=by rw [xe]; exact qe
     have js:=H (U ux g5 g4 qe)
     clear ux HTN g5 g4 qe
     go_wp2_with fail
     exact U js _ _ _ _ _ _ _ _ _ _ _ _ _ _ _ _ _ _ _ _ _ _ _ _ _ _ _ _ _ _ _ _ _ _ _ _ _ _ _ _ _ _ _ _ _ _ _ _ _ _ _ _ _ _ _ _ _ _ _ _ _ _ _ _ _ _ _ _ _ _ _ _ _ _ _ _ _ _ _ _ _ _ _ _ _ _ _ _ _ _ _ _ _ _ _
   ·have b5:(ty == 5) = false:=by rw [xe]; exact h5
    have g5:¬ (ty = 5∧0 < ts.length):=fun h=>h5 h.1
    by_cases h4:ty = 4
    ·by_cases py:0 < left
     ·have pk:Hid (res = 12):=(U kr).trans (by rw [if_neg g5,if_pos ⟨h4,py⟩])
      subst h4
      clear ux HTN h5 g5 b5
      go_wp2_with fail
      go_ret
      exact ⟨zA (U pk).symm,U xE⟩
     ·subst h4
      have g4:¬ ((4:Int) = 4∧0 < left):=fun h=>py h.2
      by_cases qe:next = 1000000
      ·have pk:=H (U HTN g5 g4 qe)
       subst qe
       clear ux HTN g5 g4
       go_wp2_with fail
       go_ret
       exact ⟨zA (U pk).symm,U xE⟩
      have bn:(next == 1000000) = false:=by rw [xe]; exact qe
      have js:=H (U ux g5 g4 qe)
      clear ux HTN g5 g4 qe
      go_wp2_with fail
      exact U js _ _ _ _ _ _ _ _ _ _ _ _ _ _ _ _ _ _ _ _ _ _ _ _ _ _ _ _ _ _ _ _ _ _ _ _ _ _ _ _ _ _ _ _ _ _ _ _ _ _ _ _ _ _ _ _ _ _ _ _ _ _ _ _ _ _ _ _ _ _ _ _ _ _ _ _ _ _ _ _ _ _ _ _ _ _ _ _ _ _ _ _ _ _ _
    ·have b4:(ty == 4) = false:=by rw [xe]; exact h4
     have g4:¬ (ty = 4∧0 < left):=fun h=>h4 h.1
     by_cases qe:next = 1000000
     ·have pk:=H (U HTN g5 g4 qe)
      subst qe
      clear ux HTN g5 g4
      go_wp2_with fail
      go_ret
      exact ⟨zA (U pk).symm,U xE⟩
     have bn:(next == 1000000) = false:=by rw [xe]; exact qe
     have js:=H (U ux g5 g4 qe)
     clear ux HTN g5 g4 qe
     go_wp2_with fail
     exact U js _ _ _ _ _ _ _ _ _ _ _ _ _ _ _ _ _ _ _ _ _ _ _ _ _ _ _ _ _ _ _ _ _ _ _ _ _ _ _ _ _ _ _ _ _ _ _ _ _ _ _ _ _ _ _ _ _ _ _ _ _ _ _ _ _ _ _ _ _ _ _ _ _ _ _ _ _ _ _ _ _ _ _ _ _ _ _ _ _ _ _ _ _ _ _
  ·rintro x cs hj i' o' ⟨f,rfl,R⟩ X hx Z xr D
   have xu:=H R
   have xl:=R.bel
   have xJ:=U uu
   clear xU
   match i',Z with
   | 0,Z =>
    obtain rfl:=yc Z
    clear D R X
    rw [if_pos (by rfl)];unfold Oper.wp;go_simp
    exact ⟨upd f 0 (J w.heap.size 1),by simp [upd],cx (U xu) 0 _ (by decide) (by decide) (by decide) (rfl)⟩
   | 1,Z =>
    obtain rfl:=yc Z
    have g0:f 0 = J w.heap.size 1:=R.e 0 (yf D 0 rfl)
    have z1:hj.cell? (Q w.heap.size 1) = some (.slice a l.length cap):=zc (U HX).1 xl (by omega) 1 _ rfl
    clear D R X
    rw [if_pos (by rfl)];unfold Oper.wp;go_simp
    exact ⟨upd f 1 (.slice a l.length cap),by simp [upd,g0],cx (U xu) 1 _ (by decide) (by decide) (by decide) (rfl)⟩
   | 2,Z =>
    obtain rfl:=yc Z
    have z0:hj.cell? (Q w.heap.size 0) = some (I next):=zc (U HX).1 xl (by omega) 0 _ rfl
    have z1:hj.cell? (Q w.heap.size 1) = some (.slice a l.length cap):=zc (U HX).1 xl (by omega) 1 _ rfl
    clear D R X
    rw [if_pos (by rfl)];unfold Oper.wp;go_simp
    exact ⟨upd f 2 (.agg #[I next,.slice a l.length cap]),by simp [upd],cx (U xu) 2 _ (by decide) (by decide) (by decide) (rfl)⟩
   | 3,Z =>
    obtain rfl:=yc Z
    obtain ⟨z0,z1,z2,z3,z4,z5,z6,z7⟩:=yE (zc (U HX).2 xl (by omega))
    clear D R X
    rw [if_pos (by rfl)];unfold Oper.wp;go_simp
    exact ⟨upd f 3 (.agg (yy kk s ty li qt ii pr tg).toArray),by simp [upd],cx (U xu) 3 _ (by decide) (by decide) (by decide) (rfl)⟩
   | 4,Z =>
    obtain rfl:=yc Z
    have g2:f 2 = .agg #[I next,.slice a l.length cap]:=R.e 2 (yf D 2 rfl)
    have g3:f 3 = .agg (yy kk s ty li qt ii pr tg).toArray:=R.e 3 (yf D 3 rfl)
    clear D R X
    rw [if_pos (by rfl)];unfold Oper.wp;go_simp
    refine (U HTKR _).mono ?_
    rintro e w4 ⟨rfl,xy⟩
    exact ⟨upd f 4 (.agg (yx next s tt qt li tg).toArray),by simp [upd,g2,g3],cx (rn_grow (U xu) xy) 4 _ (by decide) (by decide) (by decide) rfl⟩
   | 5,Z =>
    obtain rfl:=yc Z
    have g1:f 1 = .slice a l.length cap:=R.e 1 (yf D 1 rfl)
    have g4:f 4 = .agg (yx next s tt qt li tg).toArray:=R.e 4 (yf D 4 rfl)
    have vL:∀ j,(j = 6 ∨ j = 7 ∨ j = 9 ∨ j = 11 ∨ j = 13)→x[j]? ≠ some true:=fun j V e=>by
     have h6:x[6]? ≠ some true:=fun e6=>by have:=yh X 6 rfl e6 5 rfl; rw [xr] at this; cases this
     rcases V with rfl | rfl | rfl | rfl | rfl
     ·exact h6 e
     ·exact h6 (yh X 7 rfl e 6 rfl)
     ·exact h6 (yh X 9 rfl e 6 rfl)
     ·exact h6 (yh X 11 rfl e 6 rfl)
     ·exact h6 (yh X 13 rfl e 6 rfl)
    have HNO:=H vL
    have qC:=H (zh (zh (U HR) (U xw) yb) xl yb)
    clear D R X vL
    rw [if_pos (by rfl)];unfold Oper.wp;go_simp
    refine (U HMT hj (U qC)).mono ?_
    rintro e w4 ⟨lv,ve,rfl,hl4,he4,xy⟩
    refine ⟨upd f 5 (.tuple #[lv,.agg (yx next s tt left li tg).toArray,ve]),by simp [upd,g1,g4],rn_5 (U xu) xy ?_ ?_ (U HNO) ?_⟩
    ·rcases hl4 with ⟨rfl,hL⟩ | h
     ·simp only at hL; rw [hL]; exact ⟨zh (U qC) xy yb,U km⟩
     ·exact ⟨zK h (by have h20:fy.length ≤ 20:=(U kI).1.len; show fy.length ≤ _; omega),oRow_sl h⟩
    ·rcases he4.2 with ⟨N,Y⟩ | ⟨g,uB,xF,N,_⟩
     ·exact ⟨none,0,by rw [N]; simp only at Y; rw [Y]⟩
     ·exact ⟨_,_,N⟩
    ·intro c8 kB jn xD e
     rcases hl4 with ⟨rfl,hL⟩ | h
     ·simp only at hL
      obtain ⟨b,uk,xL⟩:=rd_block (U HR) (by rw [← hL]; exact xD)
      rw [uk] at e
      simp only [Option.some.injEq] at e
      have:=(U xw).size
      omega
     ·have:=(h.lt c8 e).1
      omega
   | 6,Z =>
    obtain rfl:=yc Z
    clear D R X
    rw [if_pos (by rfl)];unfold Oper.wp;go_simp
    exact ⟨upd f 6 (f 5),by simp [upd],cx (U xu) 6 _ (by decide) (by decide) (by decide) (rfl)⟩
   | 7,Z =>
    obtain rfl:=yc Z
    obtain ⟨lv,ev,e5,-⟩:=R.m5 (yh X 6 rfl (yf D 6 rfl) 5 rfl)
    have g6:f 6 = f 5:=R.e 6 (yf D 6 rfl)
    rw [e5] at g6
    clear D R X
    rw [if_pos (by rfl)];unfold Oper.wp;go_simp
    exact ⟨upd f 7 lv,by simp [upd,g6,e5],cx (U xu) 7 _ (by decide) (by decide) (by decide) ⟨lv,ev,e5,rfl⟩⟩
   | 8,Z =>
    obtain rfl:=yc Z
    obtain ⟨lv,ev,e5,-⟩:=R.m5 (yh X 6 rfl (yf D 6 rfl) 5 rfl)
    have g6:f 6 = f 5:=R.e 6 (yf D 6 rfl)
    rw [e5] at g6
    clear D R X
    rw [if_pos (by rfl)];unfold Oper.wp;go_simp
    exact ⟨upd f 8 (.agg (yx next s tt left li tg).toArray),by simp [upd,g6,e5],cx (U xu) 8 _ (by decide) (by decide) (by decide) rfl⟩
   | 9,Z =>
    obtain rfl:=yc Z
    obtain ⟨lv,ev,e5,-⟩:=R.m5 (yh X 6 rfl (yf D 6 rfl) 5 rfl)
    have g6:f 6 = f 5:=R.e 6 (yf D 6 rfl)
    rw [e5] at g6
    clear D R X
    rw [if_pos (by rfl)];unfold Oper.wp;go_simp
    exact ⟨upd f 9 ev,by simp [upd,g6,e5],cx (U xu) 9 _ (by decide) (by decide) (by decide) ⟨lv,ev,e5,rfl⟩⟩
   | 10,Z =>
    obtain rfl:=yc Z
    have vo:x[12]? ≠ some true:=fun e=>by have:=yh X 12 rfl e 10 rfl; rw [xr] at this; cases this
    clear D R X
    rw [if_pos (by rfl)];unfold Oper.wp;go_simp
    exact ⟨upd f 10 (J hj.heap.size 0),by simp [upd],rn_10 (U xu) vo (zY hj (yx 0 0 0 0 0 ⟨#[]⟩) _)⟩
   | 11,Z =>
    obtain rfl:=yc Z
    obtain ⟨lv,ev,e5,e7⟩:=R.e 7 (yf D 7 rfl)
    clear D R X
    rw [if_pos (by rfl)];unfold Oper.wp;go_simp
    exact ⟨upd f 11 lv,by simp [upd,e7,e5],cx (U xu) 11 _ (by decide) (by decide) (by decide) ⟨lv,ev,e5,rfl⟩⟩
   | 12,Z =>
    obtain rfl:=yc Z
    have k5:x[5]? = some true:=D ⟨5,.phase⟩ (by simp) rfl
    have k10:x[10]? = some true:=D ⟨10,.data⟩ (by simp) rfl
    have g8:f 8 = .agg (yx next s tt left li tg).toArray:=R.e 8 (yf D 8 rfl)
    obtain ⟨c8,qn,kB,jn,xZ,-⟩:=R.m10 k10
    obtain ⟨y0,z0,q0⟩:=zl xZ (j:=0) (by omega)
    obtain ⟨y1,z1,q1⟩:=zl xZ (j:=1) (by omega)
    obtain ⟨y2,z2,q2⟩:=zl xZ (j:=2) (by omega)
    obtain ⟨y3,z3,q3⟩:=zl xZ (j:=3) (by omega)
    obtain ⟨y4,z4,q4⟩:=zl xZ (j:=4) (by omega)
    obtain ⟨y5,z5,q5⟩:=zl xZ (j:=5) (by omega)
    clear D R X xZ
    rw [if_pos (by rfl)];unfold Oper.wp;go_simp
    exact ⟨f,by simp [g8,qn],rn_12 (U xu) k5 k10 qn rfl xr⟩
   | 13,Z =>
    obtain rfl:=yc Z
    obtain ⟨lv,ev,e5,e9⟩:=R.e 9 (yf D 9 rfl)
    clear D R X
    rw [if_pos (by rfl)];unfold Oper.wp;go_simp
    exact ⟨upd f 13 ev,by simp [upd,e9,e5],cx (U xu) 13 _ (by decide) (by decide) (by decide) ⟨lv,ev,e5,rfl⟩⟩
   | n + 14,Z=>simp at Z
 clear xU
 cases bl:betB li 0 1
 have hl:lifW ⟨kk,s,ty,li,qt,ii,pr,tg⟩ = true:=by simp [lifW,bl]
 have HK:Hid (newR next l ⟨kk,s,ty,li,qt,ii,pr,tg⟩ = 5):=by show _ = _; simp [newR,bs,bt,hl]
 clear hl
 rotate_left
 by_cases N:li = 1
 subst N
 cases brs:aW ty
 have hl:lifW ⟨kk,s,ty,1,qt,ii,pr,tg⟩ = true:=by simp [lifW,brs]
 have HK:Hid (newR next l ⟨kk,s,ty,1,qt,ii,pr,tg⟩ = 5):=by show _ = _; simp [newR,bs,bt,hl]
 clear hl
 rotate_left
 have hl:lifW ⟨kk,s,ty,1,qt,ii,pr,tg⟩ = false:=by simp [lifW,brs,bl]
 by_cases Y:ty = 2
 subst Y
 by_cases hz:fbit pr = 0
 have hp:prcB ⟨kk,s,2,1,qt,ii,pr,tg⟩ = true:=by simp [prcB,hz]
 have dz:decide (fbit pr = 0) = true:=by simpa using hz
 clear hz
 cases bq:betB qt 1 1000000
 have HK:Hid (newR next l ⟨kk,s,2,1,qt,ii,pr,tg⟩ = 7):=by show _ = _; simp [newR,bs,bt,hl,hp,bq]
 clear hl hp
 rotate_left
 cases bg:tagB tg
 have HK:Hid (newR next l ⟨kk,s,2,1,qt,ii,pr,tg⟩ = 8):=by show _ = _; simp [newR,bs,bt,hl,hp,bq,bg]
 clear hl hp
 rotate_left
 have ux:=H (U HT hl hp bq bg)
 clear HT hl hp
 rotate_left
 have hp:prcB ⟨kk,s,2,1,qt,ii,pr,tg⟩ = false:=by simp [prcB,hz]
 have dz:decide (fbit pr = 0) = false:=by simpa using hz
 clear hz
 have HK:Hid (newR next l ⟨kk,s,2,1,qt,ii,pr,tg⟩ = 6):=by show _ = _; simp [newR,bs,bt,hl,hp]
 clear hl hp
 rotate_left
 have b2:(ty == 2) = false:=by rw [xe]; exact Y
 have b2n:(ty != 2) = true:=by simpa using Y
 cases bk:tkOk pr
 have hp:prcB ⟨kk,s,ty,1,qt,ii,pr,tg⟩ = false:=by simp [prcB,Y,bk]
 have HK:Hid (newR next l ⟨kk,s,ty,1,qt,ii,pr,tg⟩ = 6):=by show _ = _; simp [newR,bs,bt,hl,hp]
 clear hl hp Y
 rotate_left
 have hp:prcB ⟨kk,s,ty,1,qt,ii,pr,tg⟩ = true:=by simp [prcB,Y,bk]
 clear Y
 cases bq:betB qt 1 1000000
 have HK:Hid (newR next l ⟨kk,s,ty,1,qt,ii,pr,tg⟩ = 7):=by show _ = _; simp [newR,bs,bt,hl,hp,bq]
 clear hl hp
 rotate_left
 cases bg:tagB tg
 have HK:Hid (newR next l ⟨kk,s,ty,1,qt,ii,pr,tg⟩ = 8):=by show _ = _; simp [newR,bs,bt,hl,hp,bq,bg]
 clear hl hp
 rotate_left
 have ux:=H (U HT hl hp bq bg)
 clear HT hl hp
 rotate_left
 have hl:lifW ⟨kk,s,ty,li,qt,ii,pr,tg⟩ = false:=by simp [lifW,bl,N]
 have b1:(li == 1) = false:=by rw [xe]; exact N
 clear N
 by_cases Y:ty = 2
 subst Y
 by_cases hz:fbit pr = 0
 have hp:prcB ⟨kk,s,2,li,qt,ii,pr,tg⟩ = true:=by simp [prcB,hz]
 have dz:decide (fbit pr = 0) = true:=by simpa using hz
 clear hz
 cases bq:betB qt 1 1000000
 have HK:Hid (newR next l ⟨kk,s,2,li,qt,ii,pr,tg⟩ = 7):=by show _ = _; simp [newR,bs,bt,hl,hp,bq]
 clear hl hp
 rotate_left
 cases bg:tagB tg
 have HK:Hid (newR next l ⟨kk,s,2,li,qt,ii,pr,tg⟩ = 8):=by show _ = _; simp [newR,bs,bt,hl,hp,bq,bg]
 clear hl hp
 rotate_left
 have ux:=H (U HT hl hp bq bg)
 clear HT hl hp
 rotate_left
 have hp:prcB ⟨kk,s,2,li,qt,ii,pr,tg⟩ = false:=by simp [prcB,hz]
 have dz:decide (fbit pr = 0) = false:=by simpa using hz
 clear hz
 have HK:Hid (newR next l ⟨kk,s,2,li,qt,ii,pr,tg⟩ = 6):=by show _ = _; simp [newR,bs,bt,hl,hp]
 clear hl hp
 rotate_left
 have b2:(ty == 2) = false:=by rw [xe]; exact Y
 have b2n:(ty != 2) = true:=by simpa using Y
 cases bk:tkOk pr
 have hp:prcB ⟨kk,s,ty,li,qt,ii,pr,tg⟩ = false:=by simp [prcB,Y,bk]
 have HK:Hid (newR next l ⟨kk,s,ty,li,qt,ii,pr,tg⟩ = 6):=by show _ = _; simp [newR,bs,bt,hl,hp]
 clear hl hp Y
 rotate_left
 have hp:prcB ⟨kk,s,ty,li,qt,ii,pr,tg⟩ = true:=by simp [prcB,Y,bk]
 clear Y
 cases bq:betB qt 1 1000000
 have HK:Hid (newR next l ⟨kk,s,ty,li,qt,ii,pr,tg⟩ = 7):=by show _ = _; simp [newR,bs,bt,hl,hp,bq]
 clear hl hp
 rotate_left
 cases bg:tagB tg
 have HK:Hid (newR next l ⟨kk,s,ty,li,qt,ii,pr,tg⟩ = 8):=by show _ = _; simp [newR,bs,bt,hl,hp,bq,bg]
 clear hl hp
 rotate_left
 have ux:=H (U HT hl hp bq bg)
 clear HT hl hp
 all_goals
  go_wp2_with (first | (go_at_call 124; refine (U uT _).mono ?_; rintro e w' ⟨rfl,un⟩; rw [un]; clear un w') | (go_at_call 47; refine (bJ _ _ _ _).mono ?_; rintro e w' ⟨rfl,un⟩; rw [un]; clear un w') | (go_at_call 54; refine (cM _ _).mono ?_; rintro e w' ⟨rfl,un⟩; rw [un]; clear un w') | (go_at_call 182; refine (U HZR _).mono ?_; rintro e w' ⟨rfl,un⟩; rw [un]; clear un w') | (go_at_call 74; refine (U az _).mono ?_; rintro e w' ⟨rfl,un⟩; rw [un]; clear un w'))
  first
  | exact U ux _ _ _ _ _ _ _ _ _ _ _ _ _ _ _ _ _ _ _ _ _ _ _ _ _ _ _ _ _ _ _ _ _ _ _ _ _ _ _ _ _ _ _ _ _ _ _ _ _ _ _ _ _ _ _ _ _ _ _ _ _ _ _
  | (go_ret; exact ⟨zA (U HK).symm,U xw⟩)
end Go.Proofs.YtnphbkgfjanmgaaGreatDoor
