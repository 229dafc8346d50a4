/-
  Why a new order is refused, by the model: proved by walking the function.
-/
import Derived.Test.YtbakanofkghmiaaGreatQj37
set_option linter.unusedVariables false
set_option maxHeartbeats 6400000
set_option maxRecDepth 100000
namespace Go.Proofs.YtbakanofkghmiaaGreat
open Go.RowKit
def EN (S:Nat) (vb bv cv ta tw u5:Value):Nat→Value→Prop
 | 0,v=>v = I S 1
 | 1,v=>v = vb
 | 2,v=>v = bv
 | 3,v=>v = cv
 | 4,v=>v = ta
 | 6,v=>v = u5
 | 7,v=>∃ lv ev,u5 = .tuple #[lv,tw,ev]∧v = lv
 | 8,v=>v = tw
 | 9,v=>∃ lv ev,u5 = .tuple #[lv,tw,ev]∧v = ev
 | 11,v=>∃ lv ev,u5 = .tuple #[lv,tw,ev]∧v = lv
 | 13,v=>∃ lv ev,u5 = .tuple #[lv,tw,ev]∧v = ev
 | _,_=>True
theorem en_any {S:Nat} {vb bv cv ta tw u u':Value} {j:Nat} {v:Value} (h:EN S vb bv cv ta tw u j v) (h6:j ≠ 6) (h7:j ≠ 7) (h9:j ≠ 9) (uZ:j ≠ 11) (jt:j ≠ 13):EN S vb bv cv ta tw u' j v:=by
 match j with
 | 0 | 1 | 2 | 3 | 4 | 8=>exact h
 | 5 | 10 | 12=>trivial
 | 6=>omega
 | 7=>omega
 | 9=>omega
 | 11=>omega
 | 13=>omega
 | j + 14=>trivial
def LVok (W:World) (lv:Value) (qt:List Od):Prop:=RdR Od.vs 6 W lv qt∧SlOk lv
def Dst (qt:List Od) (u v:Value):Prop:=∀ lv tw ev c8,u = .tuple #[lv,tw,ev]→v = I c8 0→qt ≠ []→lv.ownBlock ≠ some c8
structure RN (S:Nat) (vb bv cv ta tw:Value) (twl:List Value) (qt:List Od) (n2:Nat) (base:World) (x:List Bool) (f:Nat→Value) (W:World):Prop where
 bel:Below base.heap.size base W
 e:∀ j,x[j]? = some true→EN S vb bv cv ta tw (f 5) j (f j)
 m5:x[5]? = some true→∃ lv ev,f 5 = .tuple #[lv,tw,ev]∧LVok W lv qt∧∃ a c,ev = .slice a n2 c
 m10:x[10]? = some true→∃ c8,f 10 = .pointer (some ⟨c8,0,none⟩)∧base.heap.size ≤ c8∧c8 < W.heap.size∧W.there c8 0 6∧(x[12]? = some true→W.rangeAt c8 0 twl)
 ap:x[5]? = some true→x[10]? = some true→Dst qt (f 5) (f 10)
def RNA (ty:(Nat→Value)→Act) (S:Nat) (vb bv cv ta tw:Value) (pn:List Value) (qt:List Od) (n2:Nat) (base:World) (x:List Bool) (xn:Act) (W:World):Prop:=∃ f,xn = ty f∧RN S vb bv cv ta tw pn qt n2 base x f W
theorem tup3 {a b c a' b' c':Value} (h:Value.tuple #[a,b,c] = .tuple #[a',b',c']):a = a'∧b = b'∧c = c':=by
 have:=congrArg Array.toList (Value.tuple.inj h)
 simpa using this
theorem rd_block {W:World} {v:Value} {qt:List Od} (h:RdR Od.vs 6 W v qt) (xB:qt ≠ []):∃ b,v.ownBlock = some b∧b < W.heap.size:=by
 obtain ⟨a,c,rfl,_,hc⟩:=h
 obtain ⟨b,off,rfl,X,_⟩:=hc xB
 exact ⟨b,rfl,X⟩
theorem rd_setC {W:World} {v:Value} {qt:List Od} {c8 o:Nat} {vs:List Value} (h:RdR Od.vs 6 W v qt) (xB:qt ≠ []→v.ownBlock ≠ some c8):RdR Od.vs 6 (W.setCells c8 o vs) v qt:=by
 obtain ⟨a,c,rfl,Q,hc⟩:=h
 refine ⟨a,c,rfl,Q,fun hl=>?_⟩
 obtain ⟨b,off,rfl,X,hr⟩:=hc hl
 have hbc:c8 ≠ b:=fun e=>xB hl (by rw [e]; rfl)
 exact ⟨b,off,rfl,by rw [bZ]; exact X,fun i c hi=>ec (hr i c hi) hbc⟩
section
variable {S:Nat} {vb bv cv ta tw:Value} {pn:List Value} {qt:List Od} {n2:Nat} {base W W':World} {x:List Bool} {f:Nat→Value}
theorem rn_grow (h:RN S vb bv cv ta tw pn qt n2 base x f W) (X:yn W W'):RN S vb bv cv ta tw pn qt n2 base x f W' :=
 ⟨h.bel.trans (X.mono h.bel.size),h.e,fun h5=>by
  obtain ⟨lv,ev,Q,N,h3⟩:=h.m5 h5
  exact ⟨lv,ev,Q,⟨zn N.1 X tg,N.2⟩,h3⟩,fun vQ=>by
  obtain ⟨c8,Q,N,h3,h4,h5⟩:=h.m10 vQ
  exact ⟨c8,Q,N,yK h3 X.size,zg h4 X h3,fun qD=>zb (h5 qD) X h3⟩,h.ap⟩
theorem bV (h:RN S vb bv cv ta tw pn qt n2 base x f W) (i:Nat) (u:Value) (h5:i ≠ 5) (vQ:i ≠ 10) (qD:i ≠ 12) (hu:EN S vb bv cv ta tw (f 5) i u):RN S vb bv cv ta tw pn qt n2 base (x.set i true) (upd f i u) W:=by
 refine ⟨h.bel,fun j R=>?_,?_,?_,?_⟩
 ·rw [zr f u (show 5 ≠ i from fun e=>h5 e.symm)]
  by_cases hji:j = i
  ·subst hji; rw [zp]; exact hu
  ·rw [zr _ _ hji]
   rw [gq (fun e=>hji e.symm)] at R
   exact h.e j R
 ·rw [gq h5,zr f u (show 5 ≠ i from fun e=>h5 e.symm)]; exact h.m5
 ·rw [gq vQ,gq qD,zr f u (show 10 ≠ i from fun e=>vQ e.symm)]; exact h.m10
 ·rw [gq h5,gq vQ,zr f u (show 5 ≠ i from fun e=>h5 e.symm),zr f u (show 10 ≠ i from fun e=>vQ e.symm)]; exact h.ap
theorem rn_5 (h:RN S vb bv cv ta tw pn qt n2 base x f W) (X:yn W W') {lv ev:Value} (hl:LVok W' lv qt) (he:∃ a c,ev = .slice a n2 c) (jc:∀ j,(j = 6 ∨ j = 7 ∨ j = 9 ∨ j = 11 ∨ j = 13)→x[j]? ≠ some true)
  (hap:∀ c8,base.heap.size ≤ c8→c8 < W.heap.size→qt ≠ []→lv.ownBlock ≠ some c8):RN S vb bv cv ta tw pn qt n2 base (x.set 5 true) (upd f 5 (.tuple #[lv,tw,ev])) W':=by
 have hg:=rn_grow h X
 refine ⟨hg.bel,fun j R=>?_,fun _=>⟨lv,ev,zp _ _ _,hl,he⟩,?_,?_⟩
 ·by_cases hji:j = 5
  ·subst hji; trivial
  ·rw [gq (fun e=>hji e.symm)] at R
   rw [zr _ _ hji]
   refine en_any (hg.e j R) ?_ ?_ ?_ ?_ ?_ <;> intro e <;> exact jc j (by omega) R
 ·rw [gq (by omega),gq (by omega),zr _ _ (by omega)]; exact hg.m10
 ·intro _ vQ
  rw [gq (by omega)] at vQ
  rw [zp,zr _ _ (by omega)]
  obtain ⟨c8,Q,N,h3,_⟩:=h.m10 vQ
  intro lv' tw' ev' c8' e1 e2 xB
  rw [Q] at e2
  simp only [Value.pointer.injEq,Option.some.injEq,Addr.mk.injEq,and_true] at e2
  obtain rfl:c8 = c8':=e2
  have e1:lv = lv':=(tup3 e1).1
  rw [← e1]
  exact hap c8 N h3 xB
theorem rn_10 (h:RN S vb bv cv ta tw pn qt n2 base x f W) (qD:x[12]? ≠ some true) {o:Obj} (ht:(W.alloc o).there W.heap.size 0 6):RN S vb bv cv ta tw pn qt n2 base (x.set 10 true) (upd f 10 (I W.heap.size 0)) (W.alloc o):=by
 have hg:=rn_grow h ((Below.refl W.heap.size W).alloc tg o)
 refine ⟨hg.bel,fun j R=>?_,?_,fun _=>⟨W.heap.size,zp _ _ _,h.bel.size,by rw [zh]; omega,ht,fun e=>absurd (by rwa [gq (by omega)] at e) qD⟩,?_⟩
 ·rw [zr _ _ (by omega)]
  by_cases hji:j = 10
  ·subst hji; trivial
  ·rw [gq (fun e=>hji e.symm)] at R
   rw [zr _ _ hji]; exact hg.e j R
 ·rw [gq (by omega),zr _ _ (by omega)]; exact hg.m5
 ·intro h5 _
  rw [gq (by omega)] at h5
  rw [zp,zr _ _ (by omega)]
  obtain ⟨lv,ev,Q,N,_⟩:=h.m5 h5
  intro lv' tw' ev' c8' e1 e2 xB e3
  rw [Q] at e1
  simp only [Value.pointer.injEq,Option.some.injEq,Addr.mk.injEq,and_true] at e2
  have e1:lv = lv':=(tup3 e1).1
  obtain ⟨b,xV,xX⟩:=rd_block N.1 xB
  rw [← e1,xV] at e3
  simp only [Option.some.injEq] at e3
  omega
theorem rn_12 (h:RN S vb bv cv ta tw pn qt n2 base x f W) (h5:x[5]? = some true) (vQ:x[10]? = some true) {c8:Nat} (hc:f 10 = I c8 0) (hl:pn.length = 6) (hx:x[12]? = some false):RN S vb bv cv ta tw pn qt n2 base (x.set 12 true) f (W.setCells c8 0 pn):=by
 obtain ⟨c',Q,N,h3,h4,_⟩:=h.m10 vQ
 rw [hc] at Q
 simp only [Value.pointer.injEq,Option.some.injEq,Addr.mk.injEq,and_true] at Q
 subst Q
 obtain ⟨lv,ev,e1,e2,e3⟩:=h.m5 h5
 have hd:=h.ap h5 vQ lv tw ev c8 e1 hc
 refine ⟨zo _ N _ _ _ h.bel,fun j R=>?_,fun _=>⟨lv,ev,e1,⟨rd_setC e2.1 hd,e2.2⟩,e3⟩,fun _=>⟨c8,hc,N,by rw [bZ]; exact h3,xc h4 _ _ _,fun _=>yY W c8 0 _ (fun j R=>h4 j (by omega))⟩,?_⟩
 ·by_cases hji:j = 12
  ·subst hji; trivial
  ·rw [gq (fun e=>hji e.symm)] at R; exact h.e j R
 ·intro _ _; exact h.ap h5 vQ
end
def DV (vs:List Value) (p:Prop) (W:World) (j:Nat) (v:Value):Prop:=∀ u,vs[j]? = some u→v = u
structure R9 (C:Nat→Value→Prop) (B0:World) (qt:List Od) (t:Od) (x:List Bool) (f:Nat→Value) (W:World):Prop where
 bel:Below B0.heap.size B0 W
 c:∀ j,x[j]? = some true→C j (f j)
 m13:x[13]? = some true→x[15]? = some false→ORow W B0.heap.size (f 13) []
 m15:x[15]? = some true→x[18]? = some false→ORow W B0.heap.size (f 15) qt
 m17:x[17]? = some true→x[18]? = some false→∃ b,f 17 = .slice (some ⟨b,0,none⟩) 1 1∧b < W.heap.size∧B0.heap.size ≤ b∧W.rangeAt b 0 t.vs∧(x[13]? = some true→x[15]? = some false→(f 13).ownBlock ≠ some b)
 m18:x[18]? = some true→ORow W B0.heap.size (f 18) (qt ++ [t])
def R9A (ty:(Nat→Value)→Act) (C:Nat→Value→Prop) (B0:World) (qt:List Od) (t:Od) (x:List Bool) (xn:Act) (W:World):Prop:=∃ f,xn = ty f∧R9 C B0 qt t x f W
section
variable {C:Nat→Value→Prop} {B0 W W':World} {qt:List Od} {t:Od} {x:List Bool} {f:Nat→Value}
theorem r9_grow (h:R9 C B0 qt t x f W) (X:yn W W'):R9 C B0 qt t x f W' :=
 ⟨h.bel.trans (X.mono h.bel.size),h.c,fun a b=>zm (h.m13 a b) X,fun a b=>zm (h.m15 a b) X,fun a b=>by
  obtain ⟨b',Q,N,h3,h4,h5⟩:=h.m17 a b
  exact ⟨b',Q,yK N X.size,h3,zb h4 X N,h5⟩,fun a=>zm (h.m18 a) X⟩
theorem ba (h:R9 C B0 qt t x f W) (i:Nat) (v:Value) (hv:C i v) (jt:i ≠ 13) (vx:i ≠ 15) (kG:i ≠ 17) (ki:i ≠ 18):R9 C B0 qt t (x.set i true) (upd f i v) W:=by
 refine ⟨h.bel,zy h.c hv,?_,?_,?_,?_⟩ <;> simp only [gq jt,gq vx,gq kG,gq ki,zr f v jt.symm,zr f v vx.symm,zr f v kG.symm,zr f v ki.symm]
 ·exact h.m13
 ·exact h.m15
 ·exact h.m17
 ·exact h.m18
theorem r9_13 (h:R9 C B0 qt t x f W) (jt:x[13]? = some false) (hc:∀ v,C 13 v):R9 C B0 qt t (x.set 13 true) (upd f 13 (.slice (some (J W.heap.size 0)) 0 0)) (W.alloc (E #[] 49)):=by
 have hg:=r9_grow h ((Below.refl W.heap.size W).alloc tg (E #[] 49))
 refine ⟨hg.bel,zy hg.c (hc _),?_,?_,?_,?_⟩
 ·intro _ _; rw [zp]; exact World.ownsRow_made W #[] 0 h.bel.size (by decide) rfl
 ·rw [gq (by decide),gq (by decide),zr _ _ (by decide)]; exact hg.m15
 ·intro kG ki
  rw [gq (by decide)] at kG ki
  obtain ⟨b,Q,N,h3,h4,h5⟩:=hg.m17 kG ki
  obtain ⟨b',e1,e2,_⟩:=h.m17 kG ki
  rw [Q] at e1
  simp only [Value.slice.injEq,Option.some.injEq,Addr.mk.injEq,and_true] at e1
  subst e1
  refine ⟨b,by rw [zr _ _ (by decide)]; exact Q,N,h3,h4,fun _ _ e=>?_⟩
  rw [zp] at e
  simp [Value.ownBlock] at e
  omega
 ·rw [gq (by decide),zr _ _ (by decide)]; exact hg.m18
theorem r9_15 (h:R9 C B0 qt t x f W) (jt:x[13]? = some true) (vx:x[15]? = some false) (ki:x[18]? = some false) (hc:∀ v,C 15 v) {v':Value} (Z:ORow W' B0.heap.size v' qt) (hg:W.grownBy W' (f 13).ownBlock):R9 C B0 qt t (x.set 15 true) (upd f 15 v') W':=by
 refine ⟨h.bel.grown hg h.bel.size (fun k hk=>((h.m13 jt vx).lt k hk).1),zy h.c (hc _),?_,?_,?_,?_⟩
 ·intro _ e; rw [gqs vx] at e; cases e
 ·intro _ _; rw [zp]; exact Z
 ·intro kG _
  rw [gq (by decide)] at kG
  obtain ⟨b,Q,N,h3,h4,h5⟩:=h.m17 kG ki
  refine ⟨b,by rw [zr _ _ (by decide)]; exact Q,yK N hg.size,h3,zu h4 hg N (fun e=>h5 jt vx e.symm),fun _ e=>?_⟩
  rw [gqs vx] at e; cases e
 ·intro e; rw [gq (by decide),ki] at e; cases e
theorem r9_17 (h:R9 C B0 qt t x f W) (kG:x[17]? = some false) (ki:x[18]? = some false) (hc:∀ v,C 17 v):R9 C B0 qt t (x.set 17 true) (upd f 17 (.slice (some (J W.heap.size 0)) 1 1)) (W.alloc (Obj.cells t.vs.toArray 49)):=by
 have hg:=r9_grow h ((Below.refl W.heap.size W).alloc tg (Obj.cells t.vs.toArray 49))
 refine ⟨hg.bel,zy hg.c (hc _),?_,?_,?_,?_⟩
 ·rw [gq (by decide),gq (by decide),zr _ _ (by decide)]; exact hg.m13
 ·rw [gq (by decide),gq (by decide),zr _ _ (by decide)]; exact hg.m15
 ·intro _ _
  refine ⟨W.heap.size,zp _ _ _,by rw [zh]; omega,h.bel.size,zi W t.vs _,fun jt vx e=>?_⟩
  rw [gq (by decide)] at jt vx
  rw [zr _ _ (by decide)] at e
  have:=((h.m13 jt vx).lt _ e).2
  omega
 ·rw [gq (by decide),zr _ _ (by decide)]; exact hg.m18
theorem r9_18 (h:R9 C B0 qt t x f W) (vx:x[15]? = some true) (ki:x[18]? = some false) (hc:∀ v,C 18 v) {v':Value} (Z:ORow W' B0.heap.size v' (qt ++ [t])) (hg:W.grownBy W' (f 15).ownBlock):R9 C B0 qt t (x.set 18 true) (upd f 18 v') W':=by
 refine ⟨h.bel.grown hg h.bel.size (fun k hk=>((h.m15 vx ki).lt k hk).1),zy h.c (hc _),?_,?_,?_,?_⟩
 ·intro _ e; rw [gq (by decide)] at e; rw [e] at vx; cases vx
 ·intro _ e; rw [gqs ki] at e; cases e
 ·intro _ e; rw [gqs ki] at e; cases e
 ·intro _; rw [zp]; exact Z
end
def C9 (S c8:Nat) (F left:Int) (lv:Value) (n1:Nat) (ta:Value) (h2:Int):Nat→Value→Prop
 | 0,v=>v = I (S + 1) 2
 | 1,v=>v = H F
 | 2,v=>v = .bool true
 | 3,v=>v = .bool true
 | 4,v=>v = I c8 3
 | 5,v=>v = H left
 | 6,v=>v = .bool true
 | 7,v=>v = .bool true
 | 8,v=>v = .bool true
 | 9,v=>v = lv
 | 10,v=>v = H n1
 | 11,v=>v = .bool false
 | 12,v=>v = .bool false
 | 14,v=>v = lv
 | 16,v=>v = ta
 | 19,v=>v = H h2
 | 20,v=>v = .bool (decide (8 < h2))
 | 21,v=>v = .bool (decide (8 < h2))
 | 22,v=>v = .bool (decide (8 < h2))
 | _,_=>True
theorem l04New_any (next:Int) (vb:Value) (l:List Od) (c:Cm) (w:World) (hr:RdR Od.vs 6 w vb l) (hs:SlOk vb) (hg:GoodL l) (uJ:∀ x ∈ l,x.side = 1 ∨ x.side = 2) (ht:c.g.size ≤ maxLen) :
  Calls Tryz.prog 133 #[.agg #[H next,vb],cmV c] w fun e w'=>e = .returned (H (newR next l c))∧yn w w':=by
 have HR:=Y hr
 have HG:=Y hg
 have vP:=Y hs
 have HSD:=Y uJ
 have qN:=Y (fun W=>l03Tag_any c.g W ht)
 have HZR:=Y (fun W=>l04Zero_any c.p W)
 have HTK:=Y (fun W=>l01Ticks_any c.p W)
 obtain ⟨a,A,rfl,xG,hc⟩:=hr
 obtain ⟨kk,s,F,li,L,ii,pr,O⟩:=c
 unfold cmV
 simp only at qN HZR HTK ⊢
 clear hc hg hs uJ xG ht
 have xC:=zh w (E #[H next,.slice a l.length A] 28)
 have ua:((w.alloc (E #[H next,.slice a l.length A] 28)).alloc (E (yx kk s F li L ii pr O).toArray 43)).heap.size = w.heap.size + 1 + 1:=by rw [zh,xC]
 have r1:=zi w [H next,.slice a l.length A] 28
 have r2:=zi (w.alloc (E #[H next,.slice a l.length A] 28)) (yx kk s F li L ii pr O) 43
 rw [xC] at r2
 have qe:Below (w.heap.size + 1) (w.alloc (E #[H next,.slice a l.length A] 28)) ((w.alloc (E #[H next,.slice a l.length A] 28)).alloc (E (yx kk s F li L ii pr O).toArray 43)):=(Below.refl _ _).alloc (by rw [xC]; omega) _
 have xE:Hid (yn w ((w.alloc (E #[H next,.slice a l.length A] 28)).alloc (E (yx kk s F li L ii pr O).toArray 43))):=(eE _ _).alloc (by rw [xC]; omega) _
 have HX:Hid (_∧_):=⟨zb r1 qe (by omega),r2⟩
 have uv:Hid (w.heap.size + 1 < ((w.alloc (E #[H next,.slice a l.length A] 28)).alloc (E (yx kk s F li L ii pr O).toArray 43)).heap.size):=by show _ < _; omega
 clear xC ua r1 r2 qe
 go_enter Tryz.func133,Tryz.ntmps133
 refine eI fun hR xv=>?_
 go_wp2_with fail
 refine U xv _ _ ?_
 clear xv
 generalize ((w.alloc (E #[H next,.slice a l.length A] 28)).alloc (E (yx kk s F li L ii pr O).toArray 43)) = X2 at xE HX uv ⊢
 have HX:Hid (X2.rangeAt w.heap.size 0 [H next,.slice a l.length A]∧X2.rangeAt (w.heap.size + 1) 0 (yx kk s F li L ii pr O)):=U HX
 have o1:X2.cell? (J (w.heap.size + 1) 1) = some (H s):=(U HX).2 1 _ rfl
 have o2:X2.cell? (J (w.heap.size + 1) 2) = some (H F):=(U HX).2 2 _ rfl
 have o3:X2.cell? (J (w.heap.size + 1) 3) = some (H li):=(U HX).2 3 _ rfl
 have o4:X2.cell? (J (w.heap.size + 1) 4) = some (H L):=(U HX).2 4 _ rfl
 have o6:X2.cell? (J (w.heap.size + 1) 6) = some (yj pr):=(U HX).2 6 _ rfl
 have o7:X2.cell? (J (w.heap.size + 1) 7) = some (yk O):=(U HX).2 7 _ rfl
 refine eI fun hR xv=>?_
 go_wp2_with (first | (go_at_call 137; refine (U HTK _).mono ?_; rintro e w' ⟨rfl,un⟩; rw [un]; clear un w') | (go_at_call 80; refine (dq _ _ _ _).mono ?_; rintro e w' ⟨rfl,un⟩; rw [un]; clear un w') | (go_at_call 91; refine (cI _ _).mono ?_; rintro e w' ⟨rfl,un⟩; rw [un]; clear un w') | (go_at_call 159; refine (U HZR _).mono ?_; rintro e w' ⟨rfl,un⟩; rw [un]; clear un w') | (go_at_call 130; refine (U qN _).mono ?_; rintro e w' ⟨rfl,un⟩; rw [un]; clear un w'))
 refine U xv _ _ ?_
 clear xv
 refine eI fun hR xv=>?_
 cases bs:betB s 1 2
 have HK:Hid (newR next l ⟨kk,s,F,li,L,ii,pr,O⟩ = 3):=by show _ = _; simp [newR,bs]
 rotate_left
 cases bt:betB F 1 5
 have HK:Hid (newR next l ⟨kk,s,F,li,L,ii,pr,O⟩ = 4):=by show _ = _; simp [newR,bs,bt]
 rotate_left
 have HT:Hid (lifW ⟨kk,s,F,li,L,ii,pr,O⟩ = false→prcB ⟨kk,s,F,li,L,ii,pr,O⟩ = true→betB L 1 1000000 = true→tagB O = true→∀ (u5 u6 u10 u11 u12 u13 u14 u15 u16 u17 u18 u19 u20 u21 u22 u23 u24 u25 u26 u27 u28 u29 u30 u31 u32 u33 u34 u35 u36 u37 u38 u39 u40 u41 u42 u43 u44 u45 u46 u47 u48 u49 u50 u51 u52 u53 u54 u55 u56 u57 u58 u59 u60 u61 u62 u63 u64 u65 u66 u67 u68 u69 u70:Value),hR { tmps:=#[.agg #[H next,.slice a l.length A],.agg (yx kk s F li L ii pr O).toArray,I w.heap.size 0,I (w.heap.size + 1) 0,H 0,u5,u6,M,M,M,u10,u11,u12,u13,u14,u15,u16,u17,u18,u19,u20,u21,u22,u23,u24,u25,u26,u27,u28,u29,u30,u31,u32,u33,u34,u35,u36,u37,u38,u39,u40,u41,u42,u43,u44,u45,u46,u47,u48,u49,u50,u51,u52,u53,u54,u55,u56,u57,u58,u59,u60,u61,u62,u63,u64,u65,u66,u67,u68,u69,u70,M,M,M,M,M,M,M,M,M,M,M,M,M,M,M,M,M,M,M,M,M,M,M,M,M,M,M,M,M,M,M,M,M,M,M,M,M,M,M,M,M,M,M,M,M,M,M,M,M,M,M,M,M,M,M],defers:=[] } X2):=by
  intro hlif hprc hqty htag u5 u6 u10 u11 u12 u13 u14 u15 u16 u17 u18 u19 u20 u21 u22 u23 u24 u25 u26 u27 u28 u29 u30 u31 u32 u33 u34 u35 u36 u37 u38 u39 u40 u41 u42 u43 u44 u45 u46 u47 u48 u49 u50 u51 u52 u53 u54 u55 u56 u57 u58 u59 u60 u61 u62 u63 u64 u65 u66 u67 u68 u69 u70
  refine U xv _ _ ?_
  clear xv o1 o2 o3 o4 o6 o7
  have hside:=side_of bs
  have hqq:1 ≤ L∧L ≤ 1000000:=by simpa [betB] using hqty
  have ja:Hid (newR next l ⟨kk,s,F,li,L,ii,pr,O⟩ = matS next ⟨kk,s,F,li,L,ii,pr,O⟩ (matL ⟨kk,s,F,li,L,ii,pr,O⟩ next 21 l L [])):=by
   show _ = _
   rw [matS_eq (U HG) (U HSD) bs hprc hqty]
   simp [newR,bs,bt,hlif,hprc,hqty,htag]
  have kh:=Y (fun W hW=>dl (.slice a l.length A) l ⟨kk,s,F,li,L,ii,pr,O⟩ next W hW (U HG) hside hprc (by show 0 ≤ L; omega) hqq.2)
  have HGF:=Y (cN (c:=⟨kk,s,F,li,L,ii,pr,O⟩) (id:=next) 21 l L [] (U HG) (by omega) hqq.2)
  simp only at kh HGF
  generalize matL ⟨kk,s,F,li,L,ii,pr,O⟩ next 21 l L [] = ty at ja kh HGF
  generalize newR next l ⟨kk,s,F,li,L,ii,pr,O⟩ = res at ja ⊢
  have HTKR:=Y (fun W=>dm next a l.length A ⟨kk,s,F,li,L,ii,pr,O⟩ W)
  unfold cmV at HTKR
  simp only at HTKR
  have oi:Hid (matS next ⟨kk,s,F,li,L,ii,pr,O⟩ ty = if F = 5∧0 < ty.2.2.length then 11 else if F = 4∧0 < ty.2.1 then 12 else if next = 1000000 then 13
   else if aO F = true then (if 0 < ty.2.1 then (if ty.1.length = 20 then 13 else if 8 < nlev (ty.1 ++ [⟨next,s,tkS pr,ty.2.1,li,O⟩]) then 13 else 0) else 0) else 0):=rfl
  have ja:Hid (res = _):=(U ja).trans (U oi)
  clear oi hlif hprc hqty htag hqq
  generalize tkS pr = tt at kh HTKR ja
  obtain ⟨qt,left,ts⟩:=ty
  simp only at kh ja HGF
  refine eI fun hR xv=>?_
  refine zj (RNA (fun f=>{ tmps:=#[.agg #[H next,.slice a l.length A],.agg (yx kk s F li L ii pr O).toArray,I w.heap.size 0,I (w.heap.size + 1) 0,H 0,u5,u6,f 11,f 10,f 13,u10,u11,u12,u13,u14,u15,u16,u17,u18,u19,u20,u21,u22,u23,u24,u25,u26,u27,u28,u29,u30,u31,u32,u33,u34,u35,u36,u37,u38,u39,u40,u41,u42,u43,u44,u45,u46,u47,u48,u49,u50,u51,u52,u53,u54,u55,u56,u57,u58,u59,u60,u61,u62,u63,u64,u65,u66,u67,u68,u69,u70,f 6,f 0,f 1,f 2,f 3,f 4,f 5,f 7,f 8,f 9,M,M,M,M,M,M,M,M,M,M,M,M,M,M,M,M,M,M,M,M,M,M,M,M,M,M,M,M,M,M,M,M,M,M,M,M,M,M,M,M,M,M,M,M,M],defers:=[] }) w.heap.size (.slice a l.length A) (.agg #[H next,.slice a l.length A]) (.agg (yx kk s F li L ii pr O).toArray) (.agg (yw next s tt L li O).toArray) (.agg (yw next s tt left li O).toArray) (yw next s tt left li O) qt ts.length X2) (by kernel_rfl) ?_ ?_ ?_
  ·exact ⟨fun j=>M,rfl,⟨⟨rfl,rfl,rfl,Nat.le_refl _,fun _ _=>rfl⟩,fun j R=>by rw [yJ] at R; split at R <;> simp at R,by simp,by simp,by simp⟩⟩
  ·rintro x xn V ⟨f,rfl,K⟩ hx xN
   have xq:=zR xN hx (by kernel_rfl)
   obtain ⟨lv,ev,e5,hlv,ae,ce,hev⟩:=K.m5 (xq 5 (by simp))
   obtain ⟨c8,oG,pH,kW,-,hcr⟩:=K.m10 (xq 10 (by simp))
   obtain ⟨lv',ev',e11,e11'⟩:=K.e 11 (xq 11 (by simp))
   obtain ⟨lv'',ev'',e13,e13'⟩:=K.e 13 (xq 13 (by simp))
   have HC8:=Y (hcr (xq 12 (by simp)))
   rw [e5] at e11 e13
   have q1:lv = lv':=(tup3 e11).1
   have q2:ev = ev'':=(tup3 e13).2.2
   rw [← q1] at e11'
   rw [← q2,hev] at e13'
   have jR:=Y hlv
   have xw:=Y ((U xE).trans (K.bel.mono (U xE).size))
   have HXV:Hid (V.rangeAt w.heap.size 0 [H next,.slice a l.length A]∧V.rangeAt (w.heap.size + 1) 0 (yx kk s F li L ii pr O)):=⟨zb (U HX).1 K.bel (by have:=U uv; omega),zb (U HX).2 K.bel (U uv)⟩
   have hVS:w.heap.size + 1 < V.heap.size:=yK (U uv) K.bel.size
   refine U xv _ _ ?_
   clear xv
   simp only [oG,e11',e13']
   generalize f 6 = u71,f 0 = u72,f 1 = u73,f 2 = u74,f 3 = u75,f 4 = u76,f 5 = u77,f 7 = u78,f 8 = u79,f 9 = u80
   clear K xq e5 oG e11 e13 e11' e13' q1 q2 hcr xN hx hlv hev kh HTKR HX xE uv
   obtain ⟨⟨al,cal,jI,hll,qI⟩,hsl⟩:=U jR
   have HRL:Hid (RdR Od.vs 6 V (.slice al qt.length cal) qt):=by rw [← jI]; exact (U jR).1
   have HSV:Hid (SlOk (.slice al qt.length cal)):=by rw [← jI]; exact hsl
   subst jI
   clear qI hsl hll jR
   have k0:V.cell? (J w.heap.size 0) = some (H next):=(U HXV).1 0 _ rfl
   have o2:V.cell? (J (w.heap.size + 1) 2) = some (H F):=(U HXV).2 2 _ rfl
   have c3:V.cell? (J c8 3) = some (H left):=U HC8 3 _ rfl
   have h20:qt.length ≤ 20:=(U HGF).1.len
   refine eI fun hR xv=>?_
   have uL:Hid (¬ (F = 5∧0 < ts.length)→¬ (F = 4∧0 < left)→next ≠ 1000000→∀ (u5 u6 u10 u11 u12 u13 u14 u15 u16 u17 u18 u19 u20 u21 u22 u23 u24 u25 u26 u27 u28 u29 u30 u31 u32 u33 u34 u35 u36 u37 u38 u39 u40 u41 u42 u43 u44 u45 u46 u47 u48 u49 u50 u51 u52 u53 u54 u55 u56 u57 u58 u59 u60 u61 u62 u63 u64 u65 u66 u67 u68 u69 u70 u71 u72 u73 u74 u75 u76 u77 u78 u79 u80 u81 u82 u83 u84 u85 u86 u87 u88 u89 u90 u91 u92 u93 u94 u95 u96 u97 u98 u99 u100 u101 u102:Value),hR { tmps:=#[.agg #[H next,.slice a l.length A],.agg (yx kk s F li L ii pr O).toArray,I w.heap.size 0,I (w.heap.size + 1) 0,H 0,u5,u6,.slice al qt.length cal,I c8 0,.slice ae ts.length ce,u10,u11,u12,u13,u14,u15,u16,u17,u18,u19,u20,u21,u22,u23,u24,u25,u26,u27,u28,u29,u30,u31,u32,u33,u34,u35,u36,u37,u38,u39,u40,u41,u42,u43,u44,u45,u46,u47,u48,u49,u50,u51,u52,u53,u54,u55,u56,u57,u58,u59,u60,u61,u62,u63,u64,u65,u66,u67,u68,u69,u70,u71,u72,u73,u74,u75,u76,u77,u78,u79,u80,u81,u82,u83,u84,u85,u86,u87,u88,u89,u90,u91,u92,u93,u94,u95,u96,u97,u98,u99,u100,u101,u102,M,M,M,M,M,M,M,M,M,M,M,M,M,M,M,M,M,M,M,M,M,M,M],defers:=[] } V):=by
    intro g5 g4 gn u5 u6 u10 u11 u12 u13 u14 u15 u16 u17 u18 u19 u20 u21 u22 u23 u24 u25 u26 u27 u28 u29 u30 u31 u32 u33 u34 u35 u36 u37 u38 u39 u40 u41 u42 u43 u44 u45 u46 u47 u48 u49 u50 u51 u52 u53 u54 u55 u56 u57 u58 u59 u60 u61 u62 u63 u64 u65 u66 u67 u68 u69 u70 u71 u72 u73 u74 u75 u76 u77 u78 u79 u80 u81 u82 u83 u84 u85 u86 u87 u88 u89 u90 u91 u92 u93 u94 u95 u96 u97 u98 u99 u100 u101 u102
    have HRS:Hid (res = if aO F = true then (if 0 < left then (if qt.length = 20 then 13 else if 8 < nlev (qt ++ [⟨next,s,tt,left,li,O⟩]) then 13 else 0) else 0) else 0):=by
     have:=U ja
     rw [if_neg g5,if_neg g4,if_neg gn] at this
     exact this
    refine U xv _ _ ?_
    clear xv g5 g4 gn ja k0
    have HCEL:Hid (∀ w':World,V.grownBy w' none→w'.cell? (J (w.heap.size + 1) 2) = some (H F)∧w'.cell? (J c8 3) = some (H left)):=fun w' h'=>⟨zu (U HXV).2 h' hVS (by simp) 2 _ rfl,zu (U HC8) h' kW (by simp) 3 _ rfl⟩
    cases brs:aO F
    ·have HQ0:Hid (res = 0):=(U HRS).trans (by rw [brs]; rfl)
     go_wp2_with fail
     refine zj (RG V (fun f=>{ tmps:=#[.agg #[H next,.slice a l.length A],.agg (yx kk s F li L ii pr O).toArray,I w.heap.size 0,I (w.heap.size + 1) 0,H 0,u5,u6,.slice al qt.length cal,I c8 0,.slice ae ts.length ce,u10,u11,u12,u13,u14,u15,u16,u17,u18,u19,u20,u21,u22,u23,u24,u25,u26,u27,u28,u29,u30,u31,u32,u33,u34,u35,u36,u37,u38,u39,u40,u41,u42,u43,u44,u45,u46,u47,u48,u49,u50,u51,u52,u53,u54,u55,u56,u57,u58,u59,u60,u61,u62,u63,u64,u65,u66,u67,u68,u69,u70,u71,u72,u73,u74,u75,u76,u77,u78,u79,u80,u81,u82,u83,u84,u85,u86,u87,u88,u89,u90,u91,u92,u93,u94,u95,u96,u97,u98,u99,u100,u101,u102,f 0,f 1,f 2,f 3,f 4,f 5,f 6,f 7,f 8,f 9,f 10,f 11,f 12,f 13,f 14,f 15,f 16,f 17,f 18,f 19,f 20,f 21,f 22],defers:=[] }) 99 (DV [I (w.heap.size + 1) 2,H F,.bool false,.bool false,M,M,M,.bool false,.bool false,M,M,M,M,M,M,M,M,M,M,M,M,M,.bool false])) (by kernel_rfl) ?_ ?_ ?_
     ·exact ⟨fun _=>M,rfl,⟨rfl,rfl,rfl,Nat.le_refl _,fun _ _=>rfl⟩,fun j R=>by rw [yJ] at R; split at R <;> simp at R⟩
     ·rintro x xn V' ⟨f,rfl,xm,hD⟩ hx xN
      have xq:=zS xN hx (acyc _ (by kernel_rfl))
      have e22:f 22 = .bool false:=hD 22 (xq 22 (by simp)) _ rfl
      have xQ:=Y (eH (U xw) xm)
      simp only [e22]
      clear hD xq e22 xN hx xm
      go_wp2_with fail
      go_ret
      exact ⟨zt (U HQ0).symm,U xQ⟩
     ·rintro x xn V' i' o' ⟨f,rfl,xm,hD⟩ xp hx Z xz D
      clear xp
      have xK:=Y xm
      have HD:=Y hD
      have o2:V'.cell? (J (w.heap.size + 1) 2) = some (H F):=zb (U HXV).2 xm hVS 2 _ rfl
      have c3:V'.cell? (J c8 3) = some (H left):=zb (U HC8) xm kW 3 _ rfl
      clear HRS HQ0
      match i',Z with
      | 0,Z =>
       obtain rfl:=ya Z
       clear D hD xm
       rw [if_pos (by rfl)];unfold Oper.wp;go_simp
       exact ⟨upd f 0 (I (w.heap.size + 1) 2),by simp [upd],zf (U xK) (U HD) (by decide) (yh rfl)⟩
      | 1,Z =>
       obtain rfl:=ya Z
       have g0:=hD 0 (ye D 0 rfl) _ rfl
       clear D hD xm
       rw [if_pos (by rfl)];unfold Oper.wp;go_simp
       exact ⟨upd f 1 (H F),by simp [upd,g0],zf (U xK) (U HD) (by decide) (yh rfl)⟩
      | 2,Z =>
       obtain rfl:=ya Z
       have g1:=hD 1 (ye D 1 rfl) _ rfl
       clear D hD xm
       rw [if_pos (by rfl)];unfold Oper.wp;go_simp
       refine (cI F _).mono ?_
       rintro e w3 ⟨rfl,hw3⟩
       rw [hw3,brs]
       exact ⟨upd f 2 (.bool false),by simp [upd,g1],zf (U xK) (U HD) (by decide) (yh rfl)⟩
      | 3,Z =>
       obtain rfl:=ya Z
       have g2:=hD 2 (ye D 2 rfl) _ rfl
       clear D hD xm
       rw [if_pos (by rfl)];unfold Oper.wp;go_simp
       exact ⟨upd f 3 (.bool false),by simp [upd,g2],zf (U xK) (U HD) (by decide) (yh rfl)⟩
      | 4,Z | 5,Z | 6,Z =>
       obtain rfl:=ya Z
       have g3:=hD 3 (ye D 3 rfl) _ rfl
       clear D hD xm
       rw [if_neg (by simp only [g3]; exact fun h=>Bool.noConfusion (show (false:Bool) = true from h))]
       exact ⟨upd f _ M,rfl,zf (U xK) (U HD) (by decide) (yh rfl)⟩
      | 7,Z =>
       obtain rfl:=ya Z
       have g3:=hD 3 (ye D 3 rfl) _ rfl
       have g6:=hD 6 (ye D 6 rfl) _ rfl
       clear D hD xm
       rw [if_pos (by rfl)];unfold Oper.wp;go_simp
       exact ⟨upd f 7 (.bool false),by simp [upd,g3,g6],zf (U xK) (U HD) (by decide) (yh rfl)⟩
      | 8,Z =>
       obtain rfl:=ya Z
       have g7:=hD 7 (ye D 7 rfl) _ rfl
       clear D hD xm
       rw [if_pos (by rfl)];unfold Oper.wp;go_simp
       exact ⟨upd f 8 (.bool false),by simp [upd,g7],zf (U xK) (U HD) (by decide) (yh rfl)⟩
      | 9,Z | 10,Z | 11,Z | 12,Z | 21,Z =>
       obtain rfl:=ya Z
       have g8:=hD 8 (ye D 8 rfl) _ rfl
       clear D hD xm
       rw [if_neg (by simp only [g8]; exact fun h=>Bool.noConfusion (show (false:Bool) = true from h))]
       exact ⟨upd f _ M,rfl,zf (U xK) (U HD) (by decide) (yh rfl)⟩
      | 13,Z | 14,Z | 15,Z | 16,Z | 17,Z | 18,Z | 19,Z | 20,Z =>
       obtain rfl:=ya Z
       have xZ:=hD 12 (ye D 12 rfl) _ rfl
       clear D hD xm
       rw [if_neg (by simp only [xZ]; exact fun h=>Bool.noConfusion (show (false:Bool) = true from h))]
       exact ⟨upd f _ M,rfl,zf (U xK) (U HD) (by decide) (yh rfl)⟩
      | 22,Z =>
       obtain rfl:=ya Z
       have g8:=hD 8 (ye D 8 rfl) _ rfl
       have g21:=hD 21 (ye D 21 rfl) _ rfl
       clear D hD xm
       rw [if_pos (by rfl)];unfold Oper.wp;go_simp
       exact ⟨upd f 22 (.bool false),by simp [upd,g8,g21],zf (U xK) (U HD) (by decide) (yh rfl)⟩
      | n + 23,Z=>simp at Z
    by_cases pj:0 < left
    ·by_cases kz:qt.length = 20
     ·have HQ0:Hid (res = 13):=(U HRS).trans (by rw [if_pos brs,if_pos pj,if_pos kz])
      have aG:(qt.length:Int) = 20:=by omega
      have hb20:((qt.length:Int) == 20) = true:=by simpa using aG
      have hlf':decide (0 < left) = true:=by simpa using pj
      clear kz aG
      go_wp2_with fail
      refine zj (RG V (fun f=>{ tmps:=#[.agg #[H next,.slice a l.length A],.agg (yx kk s F li L ii pr O).toArray,I w.heap.size 0,I (w.heap.size + 1) 0,H 0,u5,u6,.slice al qt.length cal,I c8 0,.slice ae ts.length ce,u10,u11,u12,u13,u14,u15,u16,u17,u18,u19,u20,u21,u22,u23,u24,u25,u26,u27,u28,u29,u30,u31,u32,u33,u34,u35,u36,u37,u38,u39,u40,u41,u42,u43,u44,u45,u46,u47,u48,u49,u50,u51,u52,u53,u54,u55,u56,u57,u58,u59,u60,u61,u62,u63,u64,u65,u66,u67,u68,u69,u70,u71,u72,u73,u74,u75,u76,u77,u78,u79,u80,u81,u82,u83,u84,u85,u86,u87,u88,u89,u90,u91,u92,u93,u94,u95,u96,u97,u98,u99,u100,u101,u102,f 0,f 1,f 2,f 3,f 4,f 5,f 6,f 7,f 8,f 9,f 10,f 11,f 12,f 13,f 14,f 15,f 16,f 17,f 18,f 19,f 20,f 21,f 22],defers:=[] }) 99 (DV [I (w.heap.size + 1) 2,H F,.bool true,.bool true,I c8 3,H left,.bool true,.bool true,.bool true,.slice al qt.length cal,H qt.length,.bool true,.bool true,M,M,M,M,M,M,M,M,.bool true,.bool true])) (by kernel_rfl) ?_ ?_ ?_
      ·exact ⟨fun _=>M,rfl,⟨rfl,rfl,rfl,Nat.le_refl _,fun _ _=>rfl⟩,fun j R=>by rw [yJ] at R; split at R <;> simp at R⟩
      ·rintro x xn V' ⟨f,rfl,xm,hD⟩ hx xN
       have xq:=zS xN hx (acyc _ (by kernel_rfl))
       have e22:f 22 = .bool true:=hD 22 (xq 22 (by simp)) _ rfl
       have xQ:=Y (eH (U xw) xm)
       simp only [e22]
       clear hD xq e22 xN hx xm
       go_wp2_with fail
       go_ret
       exact ⟨zt (U HQ0).symm,U xQ⟩
      ·rintro x xn V' i' o' ⟨f,rfl,xm,hD⟩ xp hx Z xz D
       clear xp
       have xK:=Y xm
       have HD:=Y hD
       have o2:V'.cell? (J (w.heap.size + 1) 2) = some (H F):=zb (U HXV).2 xm hVS 2 _ rfl
       have c3:V'.cell? (J c8 3) = some (H left):=zb (U HC8) xm kW 3 _ rfl
       clear HRS HQ0
       match i',Z with
       | 0,Z =>
        obtain rfl:=ya Z
        clear D hD xm
        rw [if_pos (by rfl)];unfold Oper.wp;go_simp
        exact ⟨upd f 0 (I (w.heap.size + 1) 2),by simp [upd],zf (U xK) (U HD) (by decide) (yh rfl)⟩
       | 1,Z =>
        obtain rfl:=ya Z
        have g0:=hD 0 (ye D 0 rfl) _ rfl
        clear D hD xm
        rw [if_pos (by rfl)];unfold Oper.wp;go_simp
        exact ⟨upd f 1 (H F),by simp [upd,g0],zf (U xK) (U HD) (by decide) (yh rfl)⟩
       | 2,Z =>
        obtain rfl:=ya Z
        have g1:=hD 1 (ye D 1 rfl) _ rfl
        clear D hD xm
        rw [if_pos (by rfl)];unfold Oper.wp;go_simp
        refine (cI F _).mono ?_
        rintro e w3 ⟨rfl,hw3⟩
        rw [hw3,brs]
        exact ⟨upd f 2 (.bool true),by simp [upd,g1],zf (U xK) (U HD) (by decide) (yh rfl)⟩
       | 3,Z =>
        obtain rfl:=ya Z
        have g2:=hD 2 (ye D 2 rfl) _ rfl
        clear D hD xm
        rw [if_pos (by rfl)];unfold Oper.wp;go_simp
        exact ⟨upd f 3 (.bool true),by simp [upd,g2],zf (U xK) (U HD) (by decide) (yh rfl)⟩
       | 4,Z =>
        obtain rfl:=ya Z
        have g3:=hD 3 (ye D 3 rfl) _ rfl
        clear D hD xm
        rw [if_pos (by simp only [g3]; rfl)]
        unfold Oper.wp
        go_simp
        exact ⟨upd f 4 (I c8 3),by simp [upd,g3],zf (U xK) (U HD) (by decide) (yh rfl)⟩
       | 5,Z =>
        obtain rfl:=ya Z
        have g3:=hD 3 (ye D 3 rfl) _ rfl
        have g4:=hD 4 (ye D 4 rfl) _ rfl
        clear D hD xm
        rw [if_pos (by simp only [g3]; rfl)]
        unfold Oper.wp
        go_simp
        exact ⟨upd f 5 (H left),by simp [upd,g3,g4],zf (U xK) (U HD) (by decide) (yh rfl)⟩
       | 6,Z =>
        obtain rfl:=ya Z
        have g3:=hD 3 (ye D 3 rfl) _ rfl
        have g5:=hD 5 (ye D 5 rfl) _ rfl
        clear D hD xm
        rw [if_pos (by simp only [g3]; rfl)]
        unfold Oper.wp
        go_simp
        exact ⟨upd f 6 (.bool true),by simp [upd,g3,g5],zf (U xK) (U HD) (by decide) (yh rfl)⟩
       | 7,Z =>
        obtain rfl:=ya Z
        have g3:=hD 3 (ye D 3 rfl) _ rfl
        have g6:=hD 6 (ye D 6 rfl) _ rfl
        clear D hD xm
        rw [if_pos (by rfl)];unfold Oper.wp;go_simp
        exact ⟨upd f 7 (.bool true),by simp [upd,g3,g6],zf (U xK) (U HD) (by decide) (yh rfl)⟩
       | 8,Z =>
        obtain rfl:=ya Z
        have g7:=hD 7 (ye D 7 rfl) _ rfl
        clear D hD xm
        rw [if_pos (by rfl)];unfold Oper.wp;go_simp
        exact ⟨upd f 8 (.bool true),by simp [upd,g7],zf (U xK) (U HD) (by decide) (yh rfl)⟩
       | 9,Z =>
        obtain rfl:=ya Z
        have g8:=hD 8 (ye D 8 rfl) _ rfl
        clear D hD xm
        rw [if_pos (by simp only [g8]; rfl)]
        unfold Oper.wp
        go_simp
        exact ⟨upd f 9 (.slice al qt.length cal),by simp [upd,g8],zf (U xK) (U HD) (by decide) (yh rfl)⟩
       | 10,Z =>
        obtain rfl:=ya Z
        have g8:=hD 8 (ye D 8 rfl) _ rfl
        have g9:=hD 9 (ye D 9 rfl) _ rfl
        clear D hD xm
        rw [if_pos (by simp only [g8]; rfl)]
        unfold Oper.wp
        go_simp
        exact ⟨upd f 10 (H qt.length),by simp [upd,g8,g9],zf (U xK) (U HD) (by decide) (yh rfl)⟩
       | 11,Z =>
        obtain rfl:=ya Z
        have g8:=hD 8 (ye D 8 rfl) _ rfl
        have qx:=hD 10 (ye D 10 rfl) _ rfl
        clear D hD xm
        rw [if_pos (by simp only [g8]; rfl)]
        unfold Oper.wp
        go_simp
        exact ⟨upd f 11 (.bool true),by simp [upd,g8,qx],zf (U xK) (U HD) (by decide) (yh rfl)⟩
       | 12,Z =>
        obtain rfl:=ya Z
        have g8:=hD 8 (ye D 8 rfl) _ rfl
        have vw:=hD 11 (ye D 11 rfl) _ rfl
        clear D hD xm
        rw [if_pos (by simp only [g8]; rfl)]
        unfold Oper.wp
        go_simp
        exact ⟨upd f 12 (.bool true),by simp [upd,g8,vw],zf (U xK) (U HD) (by decide) (yh rfl)⟩
       | 13,Z | 14,Z | 15,Z | 16,Z | 17,Z | 18,Z | 19,Z | 20,Z =>
        obtain rfl:=ya Z
        have xZ:=hD 12 (ye D 12 rfl) _ rfl
        clear D hD xm
        rw [if_neg (by simp only [xZ]; exact fun h=>Bool.noConfusion (show (false:Bool) = true from h))]
        exact ⟨upd f _ M,rfl,zf (U xK) (U HD) (by decide) (yh rfl)⟩
       | 21,Z =>
        obtain rfl:=ya Z
        have g8:=hD 8 (ye D 8 rfl) _ rfl
        have xZ:=hD 12 (ye D 12 rfl) _ rfl
        have g20:=hD 20 (ye D 20 rfl) _ rfl
        clear D hD xm
        rw [if_pos (by simp only [g8]; rfl)]
        unfold Oper.wp
        go_simp
        exact ⟨upd f 21 (.bool true),by simp [upd,g8,xZ,g20],zf (U xK) (U HD) (by decide) (yh rfl)⟩
       | 22,Z =>
        obtain rfl:=ya Z
        have g8:=hD 8 (ye D 8 rfl) _ rfl
        have g21:=hD 21 (ye D 21 rfl) _ rfl
        clear D hD xm
        rw [if_pos (by rfl)];unfold Oper.wp;go_simp
        exact ⟨upd f 22 (.bool true),by simp [upd,g8,g21],zf (U xK) (U HD) (by decide) (yh rfl)⟩
       | n + 23,Z=>simp at Z
     ·have HQ0:Hid (res = if decide (8 < ((nlev (qt ++ [⟨next,s,tt,left,li,O⟩]):Nat):Int)) = true then 13 else 0):=(U HRS).trans (by
       rw [if_pos brs,if_pos pj,if_neg kz]
       by_cases h8:8 < nlev (qt ++ [⟨next,s,tt,left,li,O⟩])
       ·rw [if_pos h8,if_pos (by simp only [xj]; omega)]
       ·rw [if_neg h8,if_neg (by simp only [xj]; omega)])
      have HLV2:=Y (fun (W:World) (v:Value) (hW:RdR Od.vs 6 W v (qt ++ [⟨next,s,tt,left,li,O⟩]))=>l03Levels_any v (qt ++ [⟨next,s,tt,left,li,O⟩]) W hW (by simp; omega))
      generalize ((nlev (qt ++ [⟨next,s,tt,left,li,O⟩]):Nat):Int) = h2 at HQ0 HLV2
      have aG:¬ (qt.length:Int) = 20:=by omega
      have hb20:((qt.length:Int) == 20) = false:=by rw [xe]; exact aG
      have hlf':decide (0 < left) = true:=by simpa using pj
      obtain ⟨i0,uG,uF,uI,uT⟩:=info_parts Tryz.infoOrder
      clear kz
      go_wp2_with fail
      refine zj (R9A (fun f=>{ tmps:=#[.agg #[H next,.slice a l.length A],.agg (yx kk s F li L ii pr O).toArray,I w.heap.size 0,I (w.heap.size + 1) 0,H 0,u5,u6,.slice al qt.length cal,I c8 0,.slice ae ts.length ce,u10,u11,u12,u13,u14,u15,u16,u17,u18,u19,u20,u21,u22,u23,u24,u25,u26,u27,u28,u29,u30,u31,u32,u33,u34,u35,u36,u37,u38,u39,u40,u41,u42,u43,u44,u45,u46,u47,u48,u49,u50,u51,u52,u53,u54,u55,u56,u57,u58,u59,u60,u61,u62,u63,u64,u65,u66,u67,u68,u69,u70,u71,u72,u73,u74,u75,u76,u77,u78,u79,u80,u81,u82,u83,u84,u85,u86,u87,u88,u89,u90,u91,u92,u93,u94,u95,u96,u97,u98,u99,u100,u101,u102,f 0,f 1,f 2,f 3,f 4,f 5,f 6,f 7,f 8,f 9,f 10,f 11,f 12,f 13,f 14,f 15,f 16,f 17,f 18,f 19,f 20,f 21,f 22],defers:=[] }) (C9 w.heap.size c8 F left (.slice al qt.length cal) qt.length (.agg (yw next s tt left li O).toArray) h2) V qt ⟨next,s,tt,left,li,O⟩) (by kernel_rfl) ?_ ?_ ?_
      ·exact ⟨fun j=>M,rfl,⟨⟨rfl,rfl,rfl,Nat.le_refl _,fun _ _=>rfl⟩,fun j R=>by rw [yJ] at R; split at R <;> simp at R,by simp,by simp,by simp,by simp⟩⟩
      ·rintro x xn V' ⟨f,rfl,K⟩ hx xN
       have xq:=zS xN hx (acyc _ (by kernel_rfl))
       have e22:f 22 = .bool (decide (8 < h2)):=K.c 22 (xq 22 (by simp))
       have xQ:=Y ((U xw).trans (K.bel.mono (U xw).size))
       simp only [e22]
       clear K xq e22 xN hx
       cases hd:decide (8 < h2)
       ·have oX:Hid (res = 0):=(U HQ0).trans (by rw [hd]; rfl)
        go_wp2_with fail
        go_ret
        exact ⟨zt (U oX).symm,U xQ⟩
       ·have oX:Hid (res = 13):=(U HQ0).trans (by rw [hd]; rfl)
        go_wp2_with fail
        go_ret
        exact ⟨zt (U oX).symm,U xQ⟩
      ·rintro x xn V' i' o' ⟨f,rfl,K⟩ xp hx Z xz D
       have xA:=Y K
       have o2:V'.cell? (J (w.heap.size + 1) 2) = some (H F):=zb (U HXV).2 K.bel hVS 2 _ rfl
       have HC9:=Y (zb (U HC8) K.bel kW)
       have c3:V'.cell? (J c8 3) = some (H left):=U HC9 3 _ rfl
       have xm:=Y K.bel
       clear HRS HQ0
       match i',Z with
       | 0,Z =>
        obtain rfl:=ya Z
        clear D K xp
        rw [if_pos (by rfl)];unfold Oper.wp;go_simp
        exact ⟨upd f 0 (I (w.heap.size + 1) 2),by simp [upd],ba (U xA) 0 _ rfl (by decide) (by decide) (by decide) (by decide)⟩
       | 1,Z =>
        obtain rfl:=ya Z
        have g0:f 0 = I (w.heap.size + 1) 2:=K.c 0 (ye D 0 rfl)
        clear D K xp
        rw [if_pos (by rfl)];unfold Oper.wp;go_simp
        exact ⟨upd f 1 (H F),by simp [upd,g0],ba (U xA) 1 _ rfl (by decide) (by decide) (by decide) (by decide)⟩
       | 2,Z =>
        obtain rfl:=ya Z
        have g1:f 1 = H F:=K.c 1 (ye D 1 rfl)
        clear D K xp
        rw [if_pos (by rfl)];unfold Oper.wp;go_simp
        refine (cI F _).mono ?_
        rintro e w3 ⟨rfl,hw3⟩
        rw [hw3,brs]
        exact ⟨upd f 2 (.bool true),by simp [upd,g1],ba (U xA) 2 _ rfl (by decide) (by decide) (by decide) (by decide)⟩
       | 3,Z =>
        obtain rfl:=ya Z
        have g2:f 2 = .bool true:=K.c 2 (ye D 2 rfl)
        clear D K xp
        rw [if_pos (by rfl)];unfold Oper.wp;go_simp
        exact ⟨upd f 3 (.bool true),by simp [upd,g2],ba (U xA) 3 _ rfl (by decide) (by decide) (by decide) (by decide)⟩
       | 4,Z =>
        obtain rfl:=ya Z
        have g3:f 3 = .bool true:=K.c 3 (ye D 3 rfl)
        clear D K xp
        rw [if_pos (by simp only [g3]; rfl)]
        unfold Oper.wp
        go_simp
        exact ⟨upd f 4 (I c8 3),by simp [upd,g3],ba (U xA) 4 _ rfl (by decide) (by decide) (by decide) (by decide)⟩
       | 5,Z =>
        obtain rfl:=ya Z
        have g4:f 4 = I c8 3:=K.c 4 (ye D 4 rfl)
        have g3:f 3 = .bool true:=K.c 3 (ye D 3 rfl)
        clear D K xp
        rw [if_pos (by simp only [g3]; rfl)]
        unfold Oper.wp
        go_simp
        exact ⟨upd f 5 (H left),by simp [upd,g4,g3],ba (U xA) 5 _ rfl (by decide) (by decide) (by decide) (by decide)⟩
       | 6,Z =>
        obtain rfl:=ya Z
        have g5:f 5 = H left:=K.c 5 (ye D 5 rfl)
        have g3:f 3 = .bool true:=K.c 3 (ye D 3 rfl)
        clear D K xp
        rw [if_pos (by simp only [g3]; rfl)]
        unfold Oper.wp
        go_simp
        exact ⟨upd f 6 (.bool true),by simp [upd,g5,g3],ba (U xA) 6 _ rfl (by decide) (by decide) (by decide) (by decide)⟩
       | 7,Z =>
        obtain rfl:=ya Z
        have g3:f 3 = .bool true:=K.c 3 (ye D 3 rfl)
        have g6:f 6 = .bool true:=K.c 6 (ye D 6 rfl)
        clear D K xp
        rw [if_pos (by rfl)];unfold Oper.wp;go_simp
        exact ⟨upd f 7 (.bool true),by simp [upd,g3,g6],ba (U xA) 7 _ rfl (by decide) (by decide) (by decide) (by decide)⟩
       | 8,Z =>
        obtain rfl:=ya Z
        have g7:f 7 = .bool true:=K.c 7 (ye D 7 rfl)
        clear D K xp
        rw [if_pos (by rfl)];unfold Oper.wp;go_simp
        exact ⟨upd f 8 (.bool true),by simp [upd,g7],ba (U xA) 8 _ rfl (by decide) (by decide) (by decide) (by decide)⟩
       | 9,Z =>
        obtain rfl:=ya Z
        have g8:f 8 = .bool true:=K.c 8 (ye D 8 rfl)
        clear D K xp
        rw [if_pos (by simp only [g8]; rfl)]
        unfold Oper.wp
        go_simp
        exact ⟨upd f 9 (.slice al qt.length cal),by simp [upd,g8],ba (U xA) 9 _ rfl (by decide) (by decide) (by decide) (by decide)⟩
       | 10,Z =>
        obtain rfl:=ya Z
        have g9:f 9 = .slice al qt.length cal:=K.c 9 (ye D 9 rfl)
        have g8:f 8 = .bool true:=K.c 8 (ye D 8 rfl)
        clear D K xp
        rw [if_pos (by simp only [g8]; rfl)]
        unfold Oper.wp
        go_simp
        exact ⟨upd f 10 (H qt.length),by simp [upd,g9,g8],ba (U xA) 10 _ rfl (by decide) (by decide) (by decide) (by decide)⟩
       | 11,Z =>
        obtain rfl:=ya Z
        have qx:f 10 = H qt.length:=K.c 10 (ye D 10 rfl)
        have g8:f 8 = .bool true:=K.c 8 (ye D 8 rfl)
        clear D K xp
        rw [if_pos (by simp only [g8]; rfl)]
        unfold Oper.wp
        go_simp
        exact ⟨upd f 11 (.bool false),by simp [upd,qx,g8],ba (U xA) 11 _ rfl (by decide) (by decide) (by decide) (by decide)⟩
       | 12,Z =>
        obtain rfl:=ya Z
        have vw:f 11 = .bool false:=K.c 11 (ye D 11 rfl)
        have g8:f 8 = .bool true:=K.c 8 (ye D 8 rfl)
        clear D K xp
        rw [if_pos (by simp only [g8]; rfl)]
        unfold Oper.wp
        go_simp
        exact ⟨upd f 12 (.bool false),by simp [upd,vw,g8],ba (U xA) 12 _ rfl (by decide) (by decide) (by decide) (by decide)⟩
       | 13,Z =>
        obtain rfl:=ya Z
        have xZ:f 12 = .bool false:=K.c 12 (ye D 12 rfl)
        clear D K xp
        rw [if_pos (by simp only [xZ]; rfl)]
        unfold Oper.wp
        go_simp
        exact ⟨upd f 13 (.slice (some (J V'.heap.size 0)) 0 0),by simp [upd,xZ],r9_13 (U xA) xz (fun _=>trivial)⟩
       | 14,Z =>
        obtain rfl:=ya Z
        have xZ:f 12 = .bool false:=K.c 12 (ye D 12 rfl)
        clear D K xp
        rw [if_pos (by simp only [xZ]; rfl)]
        unfold Oper.wp
        go_simp
        exact ⟨upd f 14 (.slice al qt.length cal),by simp [upd,xZ],ba (U xA) 14 _ rfl (by decide) (by decide) (by decide) (by decide)⟩
       | 15,Z =>
        obtain rfl:=ya Z
        have xZ:f 12 = .bool false:=K.c 12 (ye D 12 rfl)
        have ku:f 14 = .slice al qt.length cal:=K.c 14 (ye D 14 rfl)
        have k13:x[13]? = some true:=D ⟨13,.data⟩ (by simp) rfl
        have n18:x[18]? = some false:=by
         rcases bQ hx (show 18 < 23 by omega) with h | h
         ·exact h
         ·have:=yf xp 18 rfl h 15 rfl
          rw [xz] at this; cases this
        have HO13:=Y (K.m13 k13 xz)
        have vh:Hid (∀ ad,al = some ad→∀ j u,(qt.flatMap Od.vs)[j]? = some u→V'.cell? (ad.add j) = some u):=fun ad had=>by
         have h:=zn (U HRL) (U xm) tg
         rw [had] at h
         exact rd_src h
        clear D K xp
        rw [if_pos (by simp only [xZ]; rfl)]
        rcases U HSV with h | ⟨ad,nn,cc,h⟩
        ·simp only [Value.slice.injEq] at h
         have hL:qt = []:=List.length_eq_zero_iff.1 h.2.1
         refine eD (.tmp 116) (.tmp 117) 26 rfl V.heap.size 49 i0 6 Tryz.underlying26 uG (f 13) 0 [] rfl (U HO13) (by show f 14 = _; rw [ku,h.1,h.2.1,h.2.2]) ?_
         refine ⟨upd f 15 (f 13),rfl,r9_15 (U xA) k13 xz n18 (fun _=>trivial) (by rw [hL]; exact U HO13) (yS _ _)⟩
        ·simp only [Value.slice.injEq] at h
         refine wp_append_own V' (.tmp 116) (.tmp 117) 26 rfl V.heap.size 49 i0 _ 6 56 Tryz.underlying26 uG uF uI uT rfl (by decide) (f 13) 0 [] rfl (U HO13) ad qt.length cal (qt.flatMap Od.vs) (by show f 14 = _; rw [ku,h.1]) (by rw [zK Od.len]) (U vh ad h.1) (bB qt) (by unfold maxLen; omega) (by omega) (U xm).size ?_
         intro v' w' xI uc _
         refine ⟨upd f 15 v',rfl,r9_15 (U xA) k13 xz n18 (fun _=>trivial) ?_ uc⟩
         show w'.ownsRow _ _ _ _ qt.length _
         simpa using xI
       | 16,Z =>
        obtain rfl:=ya Z
        have xZ:f 12 = .bool false:=K.c 12 (ye D 12 rfl)
        obtain ⟨q0,q1,q2,q3,q4,q5⟩:=yD (U HC9)
        clear D K xp
        rw [if_pos (by simp only [xZ]; rfl)]
        unfold Oper.wp
        go_simp
        exact ⟨upd f 16 (.agg (yw next s tt left li O).toArray),by simp [upd,xZ],ba (U xA) 16 _ rfl (by decide) (by decide) (by decide) (by decide)⟩
       | 17,Z =>
        obtain rfl:=ya Z
        have xZ:f 12 = .bool false:=K.c 12 (ye D 12 rfl)
        have g16:f 16 = .agg (yw next s tt left li O).toArray:=K.c 16 (ye D 16 rfl)
        have n18:x[18]? = some false:=by
         rcases bQ hx (show 18 < 23 by omega) with h | h
         ·exact h
         ·have:=yf xp 18 rfl h 17 rfl
          rw [xz] at this; cases this
        clear D K xp
        rw [if_pos (by simp only [xZ]; rfl)]
        unfold Oper.wp
        go_simp
        exact ⟨upd f 17 (.slice (some (J V'.heap.size 0)) 1 1),by simp [upd,xZ,g16],r9_17 (U xA) xz n18 (fun _=>trivial)⟩
       | 18,Z =>
        obtain rfl:=ya Z
        have xZ:f 12 = .bool false:=K.c 12 (ye D 12 rfl)
        have k15:x[15]? = some true:=D ⟨15,.data⟩ (by simp) rfl
        obtain ⟨b,g17,xV,xX,um,-⟩:=K.m17 (ye D 17 rfl) xz
        have HO15:=Y (K.m15 k15 xz)
        have vh:Hid (∀ j u,(Od.vs ⟨next,s,tt,left,li,O⟩)[j]? = some u→V'.cell? (((J b 0):Addr).add j) = some u):=fun j u hu=>by
         have:=um j u hu
         rw [Addr.add_mid]; exact this
        clear D K xp um
        rw [if_pos (by simp only [xZ]; rfl)]
        refine wp_append_own V' (.tmp 118) (.tmp 120) 26 rfl V.heap.size 49 i0 _ 6 56 Tryz.underlying26 uG uF uI uT rfl (by decide) (f 15) qt.length (qt.flatMap Od.vs) rfl (U HO15) (J b 0) 1 1 (Od.vs ⟨next,s,tt,left,li,O⟩) (by show f 17 = _; exact g17) rfl (U vh) (one_od _) (by unfold maxLen; omega) (by omega) (U xm).size ?_
        intro v' w' xI uc _
        refine ⟨upd f 18 v',rfl,r9_18 (U xA) k15 xz (fun _=>trivial) ?_ uc⟩
        show w'.ownsRow _ _ _ _ (qt ++ [(⟨next,s,tt,left,li,O⟩:Od)]).length _
        rw [yQ,List.flatMap_append]
        simpa using xI
       | 19,Z =>
        obtain rfl:=ya Z
        have xZ:f 12 = .bool false:=K.c 12 (ye D 12 rfl)
        have HO18:=Y (K.m18 (ye D 18 rfl))
        clear D K xp
        rw [if_pos (by simp only [xZ]; rfl)]
        unfold Oper.wp
        go_simp
        refine (U HLV2 V' (f 18) (zN (U HO18) (by simp; omega))).mono ?_
        rintro e w4 ⟨rfl,hg4⟩
        exact ⟨upd f 19 (H h2),by simp [upd,xZ],ba (r9_grow (U xA) (gr_below' hg4 (fun g hg=>by cases hg) tg)) 19 _ rfl (by decide) (by decide) (by decide) (by decide)⟩
       | 20,Z =>
        obtain rfl:=ya Z
        have g19:f 19 = H h2:=K.c 19 (ye D 19 rfl)
        have xZ:f 12 = .bool false:=K.c 12 (ye D 12 rfl)
        clear D K xp
        rw [if_pos (by simp only [xZ]; rfl)]
        unfold Oper.wp
        go_simp
        exact ⟨upd f 20 (.bool (decide (8 < h2))),by simp [upd,g19,xZ],ba (U xA) 20 _ rfl (by decide) (by decide) (by decide) (by decide)⟩
       | 21,Z =>
        obtain rfl:=ya Z
        have xZ:f 12 = .bool false:=K.c 12 (ye D 12 rfl)
        have g20:f 20 = .bool (decide (8 < h2)):=K.c 20 (ye D 20 rfl)
        have g8:f 8 = .bool true:=K.c 8 (ye D 8 rfl)
        clear D K xp
        rw [if_pos (by simp only [g8]; rfl)]
        unfold Oper.wp
        go_simp
        exact ⟨upd f 21 (.bool (decide (8 < h2))),by simp [upd,xZ,g20,g8],ba (U xA) 21 _ rfl (by decide) (by decide) (by decide) (by decide)⟩
       | 22,Z =>
        obtain rfl:=ya Z
        have g8:f 8 = .bool true:=K.c 8 (ye D 8 rfl)
        have g21:f 21 = .bool (decide (8 < h2)):=K.c 21 (ye D 21 rfl)
        clear D K xp
        rw [if_pos (by rfl)];unfold Oper.wp;go_simp
        exact ⟨upd f 22 (.bool (decide (8 < h2))),by simp [upd,g8,g21],ba (U xA) 22 _ rfl (by decide) (by decide) (by decide) (by decide)⟩
       | n + 23,Z=>simp at Z
    ·have HQ0:Hid (res = 0):=(U HRS).trans (by rw [if_pos brs,if_neg pj])
     have hlf':decide (0 < left) = false:=by simpa using pj
     go_wp2_with fail
     refine zj (RG V (fun f=>{ tmps:=#[.agg #[H next,.slice a l.length A],.agg (yx kk s F li L ii pr O).toArray,I w.heap.size 0,I (w.heap.size + 1) 0,H 0,u5,u6,.slice al qt.length cal,I c8 0,.slice ae ts.length ce,u10,u11,u12,u13,u14,u15,u16,u17,u18,u19,u20,u21,u22,u23,u24,u25,u26,u27,u28,u29,u30,u31,u32,u33,u34,u35,u36,u37,u38,u39,u40,u41,u42,u43,u44,u45,u46,u47,u48,u49,u50,u51,u52,u53,u54,u55,u56,u57,u58,u59,u60,u61,u62,u63,u64,u65,u66,u67,u68,u69,u70,u71,u72,u73,u74,u75,u76,u77,u78,u79,u80,u81,u82,u83,u84,u85,u86,u87,u88,u89,u90,u91,u92,u93,u94,u95,u96,u97,u98,u99,u100,u101,u102,f 0,f 1,f 2,f 3,f 4,f 5,f 6,f 7,f 8,f 9,f 10,f 11,f 12,f 13,f 14,f 15,f 16,f 17,f 18,f 19,f 20,f 21,f 22],defers:=[] }) 99 (DV [I (w.heap.size + 1) 2,H F,.bool true,.bool true,I c8 3,H left,.bool false,.bool false,.bool false,M,M,M,M,M,M,M,M,M,M,M,M,M,.bool false])) (by kernel_rfl) ?_ ?_ ?_
     ·exact ⟨fun _=>M,rfl,⟨rfl,rfl,rfl,Nat.le_refl _,fun _ _=>rfl⟩,fun j R=>by rw [yJ] at R; split at R <;> simp at R⟩
     ·rintro x xn V' ⟨f,rfl,xm,hD⟩ hx xN
      have xq:=zS xN hx (acyc _ (by kernel_rfl))
      have e22:f 22 = .bool false:=hD 22 (xq 22 (by simp)) _ rfl
      have xQ:=Y (eH (U xw) xm)
      simp only [e22]
      clear hD xq e22 xN hx xm
      go_wp2_with fail
      go_ret
      exact ⟨zt (U HQ0).symm,U xQ⟩
     ·rintro x xn V' i' o' ⟨f,rfl,xm,hD⟩ xp hx Z xz D
      clear xp
      have xK:=Y xm
      have HD:=Y hD
      have o2:V'.cell? (J (w.heap.size + 1) 2) = some (H F):=zb (U HXV).2 xm hVS 2 _ rfl
      have c3:V'.cell? (J c8 3) = some (H left):=zb (U HC8) xm kW 3 _ rfl
      clear HRS HQ0
      match i',Z with
      | 0,Z =>
       obtain rfl:=ya Z
       clear D hD xm
       rw [if_pos (by rfl)];unfold Oper.wp;go_simp
       exact ⟨upd f 0 (I (w.heap.size + 1) 2),by simp [upd],zf (U xK) (U HD) (by decide) (yh rfl)⟩
      | 1,Z =>
       obtain rfl:=ya Z
       have g0:=hD 0 (ye D 0 rfl) _ rfl
       clear D hD xm
       rw [if_pos (by rfl)];unfold Oper.wp;go_simp
       exact ⟨upd f 1 (H F),by simp [upd,g0],zf (U xK) (U HD) (by decide) (yh rfl)⟩
      | 2,Z =>
       obtain rfl:=ya Z
       have g1:=hD 1 (ye D 1 rfl) _ rfl
       clear D hD xm
       rw [if_pos (by rfl)];unfold Oper.wp;go_simp
       refine (cI F _).mono ?_
       rintro e w3 ⟨rfl,hw3⟩
       rw [hw3,brs]
       exact ⟨upd f 2 (.bool true),by simp [upd,g1],zf (U xK) (U HD) (by decide) (yh rfl)⟩
      | 3,Z =>
       obtain rfl:=ya Z
       have g2:=hD 2 (ye D 2 rfl) _ rfl
       clear D hD xm
       rw [if_pos (by rfl)];unfold Oper.wp;go_simp
       exact ⟨upd f 3 (.bool true),by simp [upd,g2],zf (U xK) (U HD) (by decide) (yh rfl)⟩
      | 4,Z =>
       obtain rfl:=ya Z
       have g3:=hD 3 (ye D 3 rfl) _ rfl
       clear D hD xm
       rw [if_pos (by simp only [g3]; rfl)]
       unfold Oper.wp
       go_simp
       exact ⟨upd f 4 (I c8 3),by simp [upd,g3],zf (U xK) (U HD) (by decide) (yh rfl)⟩
      | 5,Z =>
       obtain rfl:=ya Z
       have g3:=hD 3 (ye D 3 rfl) _ rfl
       have g4:=hD 4 (ye D 4 rfl) _ rfl
       clear D hD xm
       rw [if_pos (by simp only [g3]; rfl)]
       unfold Oper.wp
       go_simp
       exact ⟨upd f 5 (H left),by simp [upd,g3,g4],zf (U xK) (U HD) (by decide) (yh rfl)⟩
      | 6,Z =>
       obtain rfl:=ya Z
       have g3:=hD 3 (ye D 3 rfl) _ rfl
       have g5:=hD 5 (ye D 5 rfl) _ rfl
       clear D hD xm
       rw [if_pos (by simp only [g3]; rfl)]
       unfold Oper.wp
       go_simp
       exact ⟨upd f 6 (.bool false),by simp [upd,g3,g5],zf (U xK) (U HD) (by decide) (yh rfl)⟩
      | 7,Z =>
       obtain rfl:=ya Z
       have g3:=hD 3 (ye D 3 rfl) _ rfl
       have g6:=hD 6 (ye D 6 rfl) _ rfl
       clear D hD xm
       rw [if_pos (by rfl)];unfold Oper.wp;go_simp
       exact ⟨upd f 7 (.bool false),by simp [upd,g3,g6],zf (U xK) (U HD) (by decide) (yh rfl)⟩
      | 8,Z =>
       obtain rfl:=ya Z
       have g7:=hD 7 (ye D 7 rfl) _ rfl
       clear D hD xm
       rw [if_pos (by rfl)];unfold Oper.wp;go_simp
       exact ⟨upd f 8 (.bool false),by simp [upd,g7],zf (U xK) (U HD) (by decide) (yh rfl)⟩
      | 9,Z | 10,Z | 11,Z | 12,Z | 21,Z =>
       obtain rfl:=ya Z
       have g8:=hD 8 (ye D 8 rfl) _ rfl
       clear D hD xm
       rw [if_neg (by simp only [g8]; exact fun h=>Bool.noConfusion (show (false:Bool) = true from h))]
       exact ⟨upd f _ M,rfl,zf (U xK) (U HD) (by decide) (yh rfl)⟩
      | 13,Z | 14,Z | 15,Z | 16,Z | 17,Z | 18,Z | 19,Z | 20,Z =>
       obtain rfl:=ya Z
       have xZ:=hD 12 (ye D 12 rfl) _ rfl
       clear D hD xm
       rw [if_neg (by simp only [xZ]; exact fun h=>Bool.noConfusion (show (false:Bool) = true from h))]
       exact ⟨upd f _ M,rfl,zf (U xK) (U HD) (by decide) (yh rfl)⟩
      | 22,Z =>
       obtain rfl:=ya Z
       have g8:=hD 8 (ye D 8 rfl) _ rfl
       have g21:=hD 21 (ye D 21 rfl) _ rfl
       clear D hD xm
       rw [if_pos (by rfl)];unfold Oper.wp;go_simp
       exact ⟨upd f 22 (.bool false),by simp [upd,g8,g21],zf (U xK) (U HD) (by decide) (yh rfl)⟩
      | n + 23,Z=>simp at Z
   clear xv
   have HTN:Hid (¬ (F = 5∧0 < ts.length)→¬ (F = 4∧0 < left)→next = 1000000→res = 13):=fun g5 g4 gn=>by
    have:=U ja
    rw [if_neg g5,if_neg g4,if_pos gn] at this
    exact this
   by_cases h5:F = 5
   ·by_cases hts:0 < ts.length
    ·have oX:Hid (res = 11):=(U ja).trans (if_pos ⟨h5,hts⟩)
     subst h5
     have hts':(0:Int) < ts.length:=by omega
     clear hts uL HTN
     go_wp2_with fail
     go_ret
     exact ⟨zt (U oX).symm,U xw⟩
    ·subst h5
     have g5:¬ ((5:Int) = 5∧0 < ts.length):=fun h=>hts h.2
     have g4:¬ ((5:Int) = 4∧0 < left):=fun h=>by omega
     have hts':¬ (0:Int) < ts.length:=by omega
     have htz:(ts.length:Int) = 0:=by omega
     by_cases vY:next = 1000000
     ·have oX:=Y (U HTN g5 g4 vY)
      subst vY
      clear uL HTN g5 g4
      go_wp2_with fail
      go_ret
      exact ⟨zt (U oX).symm,U xw⟩
     have bn:(next == 1000000) = false:=by rw [xe]; exact vY
     have jT:=Y (U uL g5 g4 vY)
     clear uL HTN g5 g4 vY
     go_wp2_with fail
     exact U jT _ _ _ _ _ _ _ _ _ _ _ _ _ _ _ _ _ _ _ _ _ _ _ _ _ _ _ _ _ _ _ _ _ _ _ _ _ _ _ _ _ _ _ _ _ _ _ _ _ _ _ _ _ _ _ _ _ _ _ _ _ _ _ _ _ _ _ _ _ _ _ _ _ _ _ _ _ _ _ _ _ _ _ _ _ _ _ _ _ _ _ _ _ _ _
   ·have b5:(F == 5) = false:=by rw [xe]; exact h5
    have g5:¬ (F = 5∧0 < ts.length):=fun h=>h5 h.1
    by_cases h4:F = 4
    ·by_cases pj:0 < left
     ·have oX:Hid (res = 12):=(U ja).trans (by rw [if_neg g5,if_pos ⟨h4,pj⟩])
      subst h4
      clear uL HTN h5 g5 b5
      go_wp2_with fail
      go_ret
      exact ⟨zt (U oX).symm,U xw⟩
     ·subst h4
      have g4:¬ ((4:Int) = 4∧0 < left):=fun h=>pj h.2
      by_cases vY:next = 1000000
      ·have oX:=Y (U HTN g5 g4 vY)
       subst vY
       clear uL HTN g5 g4
       go_wp2_with fail
       go_ret
       exact ⟨zt (U oX).symm,U xw⟩
      have bn:(next == 1000000) = false:=by rw [xe]; exact vY
      have jT:=Y (U uL g5 g4 vY)
      clear uL HTN g5 g4 vY
      go_wp2_with fail
      exact U jT _ _ _ _ _ _ _ _ _ _ _ _ _ _ _ _ _ _ _ _ _ _ _ _ _ _ _ _ _ _ _ _ _ _ _ _ _ _ _ _ _ _ _ _ _ _ _ _ _ _ _ _ _ _ _ _ _ _ _ _ _ _ _ _ _ _ _ _ _ _ _ _ _ _ _ _ _ _ _ _ _ _ _ _ _ _ _ _ _ _ _ _ _ _ _
    ·have b4:(F == 4) = false:=by rw [xe]; exact h4
     have g4:¬ (F = 4∧0 < left):=fun h=>h4 h.1
     by_cases vY:next = 1000000
     ·have oX:=Y (U HTN g5 g4 vY)
      subst vY
      clear uL HTN g5 g4
      go_wp2_with fail
      go_ret
      exact ⟨zt (U oX).symm,U xw⟩
     have bn:(next == 1000000) = false:=by rw [xe]; exact vY
     have jT:=Y (U uL g5 g4 vY)
     clear uL HTN g5 g4 vY
     go_wp2_with fail
     exact U jT _ _ _ _ _ _ _ _ _ _ _ _ _ _ _ _ _ _ _ _ _ _ _ _ _ _ _ _ _ _ _ _ _ _ _ _ _ _ _ _ _ _ _ _ _ _ _ _ _ _ _ _ _ _ _ _ _ _ _ _ _ _ _ _ _ _ _ _ _ _ _ _ _ _ _ _ _ _ _ _ _ _ _ _ _ _ _ _ _ _ _ _ _ _ _
  ·rintro x xn V i' o' ⟨f,rfl,K⟩ xp hx Z xz D
   have xA:=Y K
   have xm:=K.bel
   have xL:=U uv
   clear xv
   match i',Z with
   | 0,Z =>
    obtain rfl:=ya Z
    clear D K xp
    rw [if_pos (by rfl)];unfold Oper.wp;go_simp
    exact ⟨upd f 0 (I w.heap.size 1),by simp [upd],bV (U xA) 0 _ (by decide) (by decide) (by decide) (rfl)⟩
   | 1,Z =>
    obtain rfl:=ya Z
    have g0:f 0 = I w.heap.size 1:=K.e 0 (ye D 0 rfl)
    have z1:V.cell? (J w.heap.size 1) = some (.slice a l.length A):=zb (U HX).1 xm (by omega) 1 _ rfl
    clear D K xp
    rw [if_pos (by rfl)];unfold Oper.wp;go_simp
    exact ⟨upd f 1 (.slice a l.length A),by simp [upd,g0],bV (U xA) 1 _ (by decide) (by decide) (by decide) (rfl)⟩
   | 2,Z =>
    obtain rfl:=ya Z
    have z0:V.cell? (J w.heap.size 0) = some (H next):=zb (U HX).1 xm (by omega) 0 _ rfl
    have z1:V.cell? (J w.heap.size 1) = some (.slice a l.length A):=zb (U HX).1 xm (by omega) 1 _ rfl
    clear D K xp
    rw [if_pos (by rfl)];unfold Oper.wp;go_simp
    exact ⟨upd f 2 (.agg #[H next,.slice a l.length A]),by simp [upd],bV (U xA) 2 _ (by decide) (by decide) (by decide) (rfl)⟩
   | 3,Z =>
    obtain rfl:=ya Z
    obtain ⟨z0,z1,z2,z3,z4,z5,z6,z7⟩:=yE (zb (U HX).2 xm (by omega))
    clear D K xp
    rw [if_pos (by rfl)];unfold Oper.wp;go_simp
    exact ⟨upd f 3 (.agg (yx kk s F li L ii pr O).toArray),by simp [upd],bV (U xA) 3 _ (by decide) (by decide) (by decide) (rfl)⟩
   | 4,Z =>
    obtain rfl:=ya Z
    have g2:f 2 = .agg #[H next,.slice a l.length A]:=K.e 2 (ye D 2 rfl)
    have g3:f 3 = .agg (yx kk s F li L ii pr O).toArray:=K.e 3 (ye D 3 rfl)
    clear D K xp
    rw [if_pos (by rfl)];unfold Oper.wp;go_simp
    refine (U HTKR _).mono ?_
    rintro e w4 ⟨rfl,xD⟩
    exact ⟨upd f 4 (.agg (yw next s tt L li O).toArray),by simp [upd,g2,g3],bV (rn_grow (U xA) xD) 4 _ (by decide) (by decide) (by decide) rfl⟩
   | 5,Z =>
    obtain rfl:=ya Z
    have g1:f 1 = .slice a l.length A:=K.e 1 (ye D 1 rfl)
    have g4:f 4 = .agg (yw next s tt L li O).toArray:=K.e 4 (ye D 4 rfl)
    have jc:∀ j,(j = 6 ∨ j = 7 ∨ j = 9 ∨ j = 11 ∨ j = 13)→x[j]? ≠ some true:=fun j R e=>by
     have h6:x[6]? ≠ some true:=fun e6=>by have:=yf xp 6 rfl e6 5 rfl; rw [xz] at this; cases this
     rcases R with rfl | rfl | rfl | rfl | rfl
     ·exact h6 e
     ·exact h6 (yf xp 7 rfl e 6 rfl)
     ·exact h6 (yf xp 9 rfl e 6 rfl)
     ·exact h6 (yf xp 11 rfl e 6 rfl)
     ·exact h6 (yf xp 13 rfl e 6 rfl)
    have oD:=Y jc
    have HRV:=Y (zn (zn (U HR) (U xE) tg) xm tg)
    clear D K xp jc
    rw [if_pos (by rfl)];unfold Oper.wp;go_simp
    refine (U kh V (U HRV)).mono ?_
    rintro e w4 ⟨lv,ve,rfl,hl4,he4,xD⟩
    refine ⟨upd f 5 (.tuple #[lv,.agg (yw next s tt left li O).toArray,ve]),by simp [upd,g1,g4],rn_5 (U xA) xD ?_ ?_ (U oD) ?_⟩
    ·rcases hl4 with ⟨rfl,hL⟩ | h
     ·simp only at hL; rw [hL]; exact ⟨zn (U HRV) xD tg,U vP⟩
     ·exact ⟨zN h (by have h20:qt.length ≤ 20:=(U HGF).1.len; show qt.length ≤ _; omega),oRow_sl h⟩
    ·rcases he4.2 with ⟨Q,N⟩ | ⟨g,pB,xu,Q,_⟩
     ·exact ⟨none,0,by rw [Q]; simp only at N; rw [N]⟩
     ·exact ⟨_,_,Q⟩
    ·intro c8 pH kW xB e
     rcases hl4 with ⟨rfl,hL⟩ | h
     ·simp only at hL
      obtain ⟨b,xV,xX⟩:=rd_block (U HR) (by rw [← hL]; exact xB)
      rw [xV] at e
      simp only [Option.some.injEq] at e
      have:=(U xE).size
      omega
     ·have:=(h.lt c8 e).1
      omega
   | 6,Z =>
    obtain rfl:=ya Z
    clear D K xp
    rw [if_pos (by rfl)];unfold Oper.wp;go_simp
    exact ⟨upd f 6 (f 5),by simp [upd],bV (U xA) 6 _ (by decide) (by decide) (by decide) (rfl)⟩
   | 7,Z =>
    obtain rfl:=ya Z
    obtain ⟨lv,ev,e5,-⟩:=K.m5 (yf xp 6 rfl (ye D 6 rfl) 5 rfl)
    have g6:f 6 = f 5:=K.e 6 (ye D 6 rfl)
    rw [e5] at g6
    clear D K xp
    rw [if_pos (by rfl)];unfold Oper.wp;go_simp
    exact ⟨upd f 7 lv,by simp [upd,g6,e5],bV (U xA) 7 _ (by decide) (by decide) (by decide) ⟨lv,ev,e5,rfl⟩⟩
   | 8,Z =>
    obtain rfl:=ya Z
    obtain ⟨lv,ev,e5,-⟩:=K.m5 (yf xp 6 rfl (ye D 6 rfl) 5 rfl)
    have g6:f 6 = f 5:=K.e 6 (ye D 6 rfl)
    rw [e5] at g6
    clear D K xp
    rw [if_pos (by rfl)];unfold Oper.wp;go_simp
    exact ⟨upd f 8 (.agg (yw next s tt left li O).toArray),by simp [upd,g6,e5],bV (U xA) 8 _ (by decide) (by decide) (by decide) rfl⟩
   | 9,Z =>
    obtain rfl:=ya Z
    obtain ⟨lv,ev,e5,-⟩:=K.m5 (yf xp 6 rfl (ye D 6 rfl) 5 rfl)
    have g6:f 6 = f 5:=K.e 6 (ye D 6 rfl)
    rw [e5] at g6
    clear D K xp
    rw [if_pos (by rfl)];unfold Oper.wp;go_simp
    exact ⟨upd f 9 ev,by simp [upd,g6,e5],bV (U xA) 9 _ (by decide) (by decide) (by decide) ⟨lv,ev,e5,rfl⟩⟩
   | 10,Z =>
    obtain rfl:=ya Z
    have pW:x[12]? ≠ some true:=fun e=>by have:=yf xp 12 rfl e 10 rfl; rw [xz] at this; cases this
    clear D K xp
    rw [if_pos (by rfl)];unfold Oper.wp;go_simp
    exact ⟨upd f 10 (I V.heap.size 0),by simp [upd],rn_10 (U xA) pW (zw V (yw 0 0 0 0 0 ⟨#[]⟩) _)⟩
   | 11,Z =>
    obtain rfl:=ya Z
    obtain ⟨lv,ev,e5,e7⟩:=K.e 7 (ye D 7 rfl)
    clear D K xp
    rw [if_pos (by rfl)];unfold Oper.wp;go_simp
    exact ⟨upd f 11 lv,by simp [upd,e7,e5],bV (U xA) 11 _ (by decide) (by decide) (by decide) ⟨lv,ev,e5,rfl⟩⟩
   | 12,Z =>
    obtain rfl:=ya Z
    have k5:x[5]? = some true:=D ⟨5,.phase⟩ (by simp) rfl
    have k10:x[10]? = some true:=D ⟨10,.data⟩ (by simp) rfl
    have g8:f 8 = .agg (yw next s tt left li O).toArray:=K.e 8 (ye D 8 rfl)
    obtain ⟨c8,qx,pH,kW,xF,-⟩:=K.m10 k10
    obtain ⟨y0,z0,q0⟩:=ze xF (j:=0) (by omega)
    obtain ⟨y1,z1,q1⟩:=ze xF (j:=1) (by omega)
    obtain ⟨y2,z2,q2⟩:=ze xF (j:=2) (by omega)
    obtain ⟨y3,z3,q3⟩:=ze xF (j:=3) (by omega)
    obtain ⟨y4,z4,q4⟩:=ze xF (j:=4) (by omega)
    obtain ⟨y5,z5,q5⟩:=ze xF (j:=5) (by omega)
    clear D K xp xF
    rw [if_pos (by rfl)];unfold Oper.wp;go_simp
    exact ⟨f,by simp [g8,qx],rn_12 (U xA) k5 k10 qx rfl xz⟩
   | 13,Z =>
    obtain rfl:=ya Z
    obtain ⟨lv,ev,e5,e9⟩:=K.e 9 (ye D 9 rfl)
    clear D K xp
    rw [if_pos (by rfl)];unfold Oper.wp;go_simp
    exact ⟨upd f 13 ev,by simp [upd,e9,e5],bV (U xA) 13 _ (by decide) (by decide) (by decide) ⟨lv,ev,e5,rfl⟩⟩
   | n + 14,Z=>simp at Z
 clear xv
 cases bl:betB li 0 1
 have hl:lifW ⟨kk,s,F,li,L,ii,pr,O⟩ = true:=by simp [lifW,bl]
 have HK:Hid (newR next l ⟨kk,s,F,li,L,ii,pr,O⟩ = 5):=by show _ = _; simp [newR,bs,bt,hl]
 clear hl
 rotate_left
 by_cases Q:li = 1
 subst Q
 cases brs:aO F
 have hl:lifW ⟨kk,s,F,1,L,ii,pr,O⟩ = true:=by simp [lifW,brs]
 have HK:Hid (newR next l ⟨kk,s,F,1,L,ii,pr,O⟩ = 5):=by show _ = _; simp [newR,bs,bt,hl]
 clear hl
 rotate_left
 have hl:lifW ⟨kk,s,F,1,L,ii,pr,O⟩ = false:=by simp [lifW,brs,bl]
 by_cases N:F = 2
 subst N
 by_cases hz:fbit pr = 0
 have hp:prcB ⟨kk,s,2,1,L,ii,pr,O⟩ = true:=by simp [prcB,hz]
 have dz:decide (fbit pr = 0) = true:=by simpa using hz
 clear hz
 cases bq:betB L 1 1000000
 have HK:Hid (newR next l ⟨kk,s,2,1,L,ii,pr,O⟩ = 7):=by show _ = _; simp [newR,bs,bt,hl,hp,bq]
 clear hl hp
 rotate_left
 cases bg:tagB O
 have HK:Hid (newR next l ⟨kk,s,2,1,L,ii,pr,O⟩ = 8):=by show _ = _; simp [newR,bs,bt,hl,hp,bq,bg]
 clear hl hp
 rotate_left
 have uL:=Y (U HT hl hp bq bg)
 clear HT hl hp
 rotate_left
 have hp:prcB ⟨kk,s,2,1,L,ii,pr,O⟩ = false:=by simp [prcB,hz]
 have dz:decide (fbit pr = 0) = false:=by simpa using hz
 clear hz
 have HK:Hid (newR next l ⟨kk,s,2,1,L,ii,pr,O⟩ = 6):=by show _ = _; simp [newR,bs,bt,hl,hp]
 clear hl hp
 rotate_left
 have b2:(F == 2) = false:=by rw [xe]; exact N
 have b2n:(F != 2) = true:=by simpa using N
 cases bk:tkOk pr
 have hp:prcB ⟨kk,s,F,1,L,ii,pr,O⟩ = false:=by simp [prcB,N,bk]
 have HK:Hid (newR next l ⟨kk,s,F,1,L,ii,pr,O⟩ = 6):=by show _ = _; simp [newR,bs,bt,hl,hp]
 clear hl hp N
 rotate_left
 have hp:prcB ⟨kk,s,F,1,L,ii,pr,O⟩ = true:=by simp [prcB,N,bk]
 clear N
 cases bq:betB L 1 1000000
 have HK:Hid (newR next l ⟨kk,s,F,1,L,ii,pr,O⟩ = 7):=by show _ = _; simp [newR,bs,bt,hl,hp,bq]
 clear hl hp
 rotate_left
 cases bg:tagB O
 have HK:Hid (newR next l ⟨kk,s,F,1,L,ii,pr,O⟩ = 8):=by show _ = _; simp [newR,bs,bt,hl,hp,bq,bg]
 clear hl hp
 rotate_left
 have uL:=Y (U HT hl hp bq bg)
 clear HT hl hp
 rotate_left
 have hl:lifW ⟨kk,s,F,li,L,ii,pr,O⟩ = false:=by simp [lifW,bl,Q]
 have b1:(li == 1) = false:=by rw [xe]; exact Q
 clear Q
 by_cases N:F = 2
 subst N
 by_cases hz:fbit pr = 0
 have hp:prcB ⟨kk,s,2,li,L,ii,pr,O⟩ = true:=by simp [prcB,hz]
 have dz:decide (fbit pr = 0) = true:=by simpa using hz
 clear hz
 cases bq:betB L 1 1000000
 have HK:Hid (newR next l ⟨kk,s,2,li,L,ii,pr,O⟩ = 7):=by show _ = _; simp [newR,bs,bt,hl,hp,bq]
 clear hl hp
 rotate_left
 cases bg:tagB O
 have HK:Hid (newR next l ⟨kk,s,2,li,L,ii,pr,O⟩ = 8):=by show _ = _; simp [newR,bs,bt,hl,hp,bq,bg]
 clear hl hp
 rotate_left
 have uL:=Y (U HT hl hp bq bg)
 clear HT hl hp
 rotate_left
 have hp:prcB ⟨kk,s,2,li,L,ii,pr,O⟩ = false:=by simp [prcB,hz]
 have dz:decide (fbit pr = 0) = false:=by simpa using hz
 clear hz
 have HK:Hid (newR next l ⟨kk,s,2,li,L,ii,pr,O⟩ = 6):=by show _ = _; simp [newR,bs,bt,hl,hp]
 clear hl hp
 rotate_left
 have b2:(F == 2) = false:=by rw [xe]; exact N
 have b2n:(F != 2) = true:=by simpa using N
 cases bk:tkOk pr
 have hp:prcB ⟨kk,s,F,li,L,ii,pr,O⟩ = false:=by simp [prcB,N,bk]
 have HK:Hid (newR next l ⟨kk,s,F,li,L,ii,pr,O⟩ = 6):=by show _ = _; simp [newR,bs,bt,hl,hp]
 clear hl hp N
 rotate_left
 have hp:prcB ⟨kk,s,F,li,L,ii,pr,O⟩ = true:=by simp [prcB,N,bk]
 clear N
 cases bq:betB L 1 1000000
 have HK:Hid (newR next l ⟨kk,s,F,li,L,ii,pr,O⟩ = 7):=by show _ = _; simp [newR,bs,bt,hl,hp,bq]
 clear hl hp
 rotate_left
 cases bg:tagB O
 have HK:Hid (newR next l ⟨kk,s,F,li,L,ii,pr,O⟩ = 8):=by show _ = _; simp [newR,bs,bt,hl,hp,bq,bg]
 clear hl hp
 rotate_left
 have uL:=Y (U HT hl hp bq bg)
 clear HT hl hp
 all_goals
  go_wp2_with (first | (go_at_call 137; refine (U HTK _).mono ?_; rintro e w' ⟨rfl,un⟩; rw [un]; clear un w') | (go_at_call 80; refine (dq _ _ _ _).mono ?_; rintro e w' ⟨rfl,un⟩; rw [un]; clear un w') | (go_at_call 91; refine (cI _ _).mono ?_; rintro e w' ⟨rfl,un⟩; rw [un]; clear un w') | (go_at_call 159; refine (U HZR _).mono ?_; rintro e w' ⟨rfl,un⟩; rw [un]; clear un w') | (go_at_call 130; refine (U qN _).mono ?_; rintro e w' ⟨rfl,un⟩; rw [un]; clear un w'))
  first
  | exact U uL _ _ _ _ _ _ _ _ _ _ _ _ _ _ _ _ _ _ _ _ _ _ _ _ _ _ _ _ _ _ _ _ _ _ _ _ _ _ _ _ _ _ _ _ _ _ _ _ _ _ _ _ _ _ _ _ _ _ _ _ _ _ _
  | (go_ret; exact ⟨zt (U HK).symm,U xE⟩)
end Go.Proofs.YtbakanofkghmiaaGreat
