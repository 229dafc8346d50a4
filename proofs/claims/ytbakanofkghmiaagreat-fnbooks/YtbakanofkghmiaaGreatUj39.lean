/-
  Why a new order is refused, by the model: proved by walking the function.
-/
import Derived.Test.YtbakanofkghmiaaGreatUj38
set_option linter.unusedVariables false
set_option maxHeartbeats 6400000
set_option maxRecDepth 100000
namespace Go.Proofs.YtbakanofkghmiaaGreat
open Go.RowKit
def EN (S:Nat) (vb bv cv ta tw u5:Value):Nat→Value→Prop
 | 0,v=>v = I S 1
 | 1,v=>v = vb
 | 2,v=>v = bv
 | 3,v=>v = cv
 | 4,v=>v = ta
 | 6,v=>v = u5
 | 7,v=>∃ lv ev,u5 = .tuple #[lv,tw,ev]∧v = lv
 | 8,v=>v = tw
 | 9,v=>∃ lv ev,u5 = .tuple #[lv,tw,ev]∧v = ev
 | 11,v=>∃ lv ev,u5 = .tuple #[lv,tw,ev]∧v = lv
 | 13,v=>∃ lv ev,u5 = .tuple #[lv,tw,ev]∧v = ev
 | _,_=>True
theorem en_any {S:Nat} {vb bv cv ta tw u u':Value} {j:Nat} {v:Value} (h:EN S vb bv cv ta tw u j v) (h6:j ≠ 6) (h7:j ≠ 7) (h9:j ≠ 9) (uY:j ≠ 11) (jS:j ≠ 13):EN S vb bv cv ta tw u' j v:=by
 match j with
 | 0 | 1 | 2 | 3 | 4 | 8=>exact h
 | 5 | 10 | 12=>trivial
 | 6=>omega
 | 7=>omega
 | 9=>omega
 | 11=>omega
 | 13=>omega
 | j + 14=>trivial
def LVok (W:World) (lv:Value) (tg:List Od):Prop:=RdR Od.vs 6 W lv tg∧SlOk lv
def Dst (tg:List Od) (u v:Value):Prop:=∀ lv tw ev c8,u = .tuple #[lv,tw,ev]→v = I c8 0→tg ≠ []→lv.ownBlock ≠ some c8
structure RN (S:Nat) (vb bv cv ta tw:Value) (twl:List Value) (tg:List Od) (n2:Nat) (base:World) (x:List Bool) (f:Nat→Value) (W:World):Prop where
 bel:Below base.heap.size base W
 e:∀ j,x[j]? = some true→EN S vb bv cv ta tw (f 5) j (f j)
 m5:x[5]? = some true→∃ lv ev,f 5 = .tuple #[lv,tw,ev]∧LVok W lv tg∧∃ a c,ev = .slice a n2 c
 m10:x[10]? = some true→∃ c8,f 10 = .pointer (some ⟨c8,0,none⟩)∧base.heap.size ≤ c8∧c8 < W.heap.size∧W.there c8 0 6∧(x[12]? = some true→W.rangeAt c8 0 twl)
 ap:x[5]? = some true→x[10]? = some true→Dst tg (f 5) (f 10)
def RNA (qt:(Nat→Value)→Act) (S:Nat) (vb bv cv ta tw:Value) (oY:List Value) (tg:List Od) (n2:Nat) (base:World) (x:List Bool) (xj:Act) (W:World):Prop:=∃ f,xj = qt f∧RN S vb bv cv ta tw oY tg n2 base x f W
theorem tup3 {a b c a' b' c':Value} (h:Value.tuple #[a,b,c] = .tuple #[a',b',c']):a = a'∧b = b'∧c = c':=by
 have:=congrArg Array.toList (Value.tuple.inj h)
 simpa using this
theorem rd_block {W:World} {v:Value} {tg:List Od} (h:RdR Od.vs 6 W v tg) (xA:tg ≠ []):∃ b,v.ownBlock = some b∧b < W.heap.size:=by
 obtain ⟨a,c,rfl,_,hc⟩:=h
 obtain ⟨b,off,rfl,O,_⟩:=hc xA
 exact ⟨b,rfl,O⟩
theorem rd_setC {W:World} {v:Value} {tg:List Od} {c8 o:Nat} {vs:List Value} (h:RdR Od.vs 6 W v tg) (xA:tg ≠ []→v.ownBlock ≠ some c8):RdR Od.vs 6 (W.setCells c8 o vs) v tg:=by
 obtain ⟨a,c,rfl,G,hc⟩:=h
 refine ⟨a,c,rfl,G,fun hl=>?_⟩
 obtain ⟨b,off,rfl,O,hr⟩:=hc hl
 have hbc:c8 ≠ b:=fun e=>xA hl (by rw [e]; rfl)
 exact ⟨b,off,rfl,by rw [bK]; exact O,fun i c hi=>dX (hr i c hi) hbc⟩
section
variable {S:Nat} {vb bv cv ta tw:Value} {oY:List Value} {tg:List Od} {n2:Nat} {base W W':World} {x:List Bool} {f:Nat→Value}
theorem rn_grow (h:RN S vb bv cv ta tw oY tg n2 base x f W) (O:ym W W'):RN S vb bv cv ta tw oY tg n2 base x f W' :=
 ⟨h.bel.trans (O.mono h.bel.size),h.e,fun h5=>by
  obtain ⟨lv,ev,G,D,h3⟩:=h.m5 h5
  exact ⟨lv,ev,G,⟨zh D.1 O hb,D.2⟩,h3⟩,fun vT=>by
  obtain ⟨c8,G,D,h3,h4,h5⟩:=h.m10 vT
  exact ⟨c8,G,D,yH h3 O.size,ze h4 O h3,fun qA=>zb (h5 qA) O h3⟩,h.ap⟩
theorem bO (h:RN S vb bv cv ta tw oY tg n2 base x f W) (i:Nat) (u:Value) (h5:i ≠ 5) (vT:i ≠ 10) (qA:i ≠ 12) (hu:EN S vb bv cv ta tw (f 5) i u):RN S vb bv cv ta tw oY tg n2 base (x.set i true) (upd f i u) W:=by
 refine ⟨h.bel,fun j K=>?_,?_,?_,?_⟩
 ·rw [zp f u (show 5 ≠ i from fun e=>h5 e.symm)]
  by_cases hji:j = i
  ·subst hji; rw [zn]; exact hu
  ·rw [zp _ _ hji]
   rw [gq (fun e=>hji e.symm)] at K
   exact h.e j K
 ·rw [gq h5,zp f u (show 5 ≠ i from fun e=>h5 e.symm)]; exact h.m5
 ·rw [gq vT,gq qA,zp f u (show 10 ≠ i from fun e=>vT e.symm)]; exact h.m10
 ·rw [gq h5,gq vT,zp f u (show 5 ≠ i from fun e=>h5 e.symm),zp f u (show 10 ≠ i from fun e=>vT e.symm)]; exact h.ap
theorem rn_5 (h:RN S vb bv cv ta tw oY tg n2 base x f W) (O:ym W W') {lv ev:Value} (hl:LVok W' lv tg) (he:∃ a c,ev = .slice a n2 c) (jc:∀ j,(j = 6 ∨ j = 7 ∨ j = 9 ∨ j = 11 ∨ j = 13)→x[j]? ≠ some true)
  (hap:∀ c8,base.heap.size ≤ c8→c8 < W.heap.size→tg ≠ []→lv.ownBlock ≠ some c8):RN S vb bv cv ta tw oY tg n2 base (x.set 5 true) (upd f 5 (.tuple #[lv,tw,ev])) W':=by
 have hg:=rn_grow h O
 refine ⟨hg.bel,fun j K=>?_,fun _=>⟨lv,ev,zn _ _ _,hl,he⟩,?_,?_⟩
 ·by_cases hji:j = 5
  ·subst hji; trivial
  ·rw [gq (fun e=>hji e.symm)] at K
   rw [zp _ _ hji]
   refine en_any (hg.e j K) ?_ ?_ ?_ ?_ ?_ <;> intro e <;> exact jc j (by omega) K
 ·rw [gq (by omega),gq (by omega),zp _ _ (by omega)]; exact hg.m10
 ·intro _ vT
  rw [gq (by omega)] at vT
  rw [zn,zp _ _ (by omega)]
  obtain ⟨c8,G,D,h3,_⟩:=h.m10 vT
  intro lv' tw' ev' c8' e1 e2 xA
  rw [G] at e2
  simp only [Value.pointer.injEq,Option.some.injEq,Addr.mk.injEq,and_true] at e2
  obtain rfl:c8 = c8':=e2
  have e1:lv = lv':=(tup3 e1).1
  rw [← e1]
  exact hap c8 D h3 xA
theorem rn_10 (h:RN S vb bv cv ta tw oY tg n2 base x f W) (qA:x[12]? ≠ some true) {o:Obj} (ht:(W.alloc o).there W.heap.size 0 6):RN S vb bv cv ta tw oY tg n2 base (x.set 10 true) (upd f 10 (I W.heap.size 0)) (W.alloc o):=by
 have hg:=rn_grow h ((Below.refl W.heap.size W).alloc hb o)
 refine ⟨hg.bel,fun j K=>?_,?_,fun _=>⟨W.heap.size,zn _ _ _,h.bel.size,by rw [zf]; omega,ht,fun e=>absurd (by rwa [gq (by omega)] at e) qA⟩,?_⟩
 ·rw [zp _ _ (by omega)]
  by_cases hji:j = 10
  ·subst hji; trivial
  ·rw [gq (fun e=>hji e.symm)] at K
   rw [zp _ _ hji]; exact hg.e j K
 ·rw [gq (by omega),zp _ _ (by omega)]; exact hg.m5
 ·intro h5 _
  rw [gq (by omega)] at h5
  rw [zn,zp _ _ (by omega)]
  obtain ⟨lv,ev,G,D,_⟩:=h.m5 h5
  intro lv' tw' ev' c8' e1 e2 xA e3
  rw [G] at e1
  simp only [Value.pointer.injEq,Option.some.injEq,Addr.mk.injEq,and_true] at e2
  have e1:lv = lv':=(tup3 e1).1
  obtain ⟨b,xU,xS⟩:=rd_block D.1 xA
  rw [← e1,xU] at e3
  simp only [Option.some.injEq] at e3
  omega
theorem rn_12 (h:RN S vb bv cv ta tw oY tg n2 base x f W) (h5:x[5]? = some true) (vT:x[10]? = some true) {c8:Nat} (hc:f 10 = I c8 0) (hl:oY.length = 6) (hx:x[12]? = some false):RN S vb bv cv ta tw oY tg n2 base (x.set 12 true) f (W.setCells c8 0 oY):=by
 obtain ⟨c',G,D,h3,h4,_⟩:=h.m10 vT
 rw [hc] at G
 simp only [Value.pointer.injEq,Option.some.injEq,Addr.mk.injEq,and_true] at G
 subst G
 obtain ⟨lv,ev,e1,e2,e3⟩:=h.m5 h5
 have hd:=h.ap h5 vT lv tw ev c8 e1 hc
 refine ⟨zm _ D _ _ _ h.bel,fun j K=>?_,fun _=>⟨lv,ev,e1,⟨rd_setC e2.1 hd,e2.2⟩,e3⟩,fun _=>⟨c8,hc,D,by rw [bK]; exact h3,yZ h4 _ _ _,fun _=>yV W c8 0 _ (fun j K=>h4 j (by omega))⟩,?_⟩
 ·by_cases hji:j = 12
  ·subst hji; trivial
  ·rw [gq (fun e=>hji e.symm)] at K; exact h.e j K
 ·intro _ _; exact h.ap h5 vT
end
def DV (vs:List Value) (p:Prop) (W:World) (j:Nat) (v:Value):Prop:=∀ u,vs[j]? = some u→v = u
structure R9 (C:Nat→Value→Prop) (B0:World) (tg:List Od) (t:Od) (x:List Bool) (f:Nat→Value) (W:World):Prop where
 bel:Below B0.heap.size B0 W
 c:∀ j,x[j]? = some true→C j (f j)
 m13:x[13]? = some true→x[15]? = some false→ORow W B0.heap.size (f 13) []
 m15:x[15]? = some true→x[18]? = some false→ORow W B0.heap.size (f 15) tg
 m17:x[17]? = some true→x[18]? = some false→∃ b,f 17 = .slice (some ⟨b,0,none⟩) 1 1∧b < W.heap.size∧B0.heap.size ≤ b∧W.rangeAt b 0 t.vs∧(x[13]? = some true→x[15]? = some false→(f 13).ownBlock ≠ some b)
 m18:x[18]? = some true→ORow W B0.heap.size (f 18) (tg ++ [t])
def R9A (qt:(Nat→Value)→Act) (C:Nat→Value→Prop) (B0:World) (tg:List Od) (t:Od) (x:List Bool) (xj:Act) (W:World):Prop:=∃ f,xj = qt f∧R9 C B0 tg t x f W
section
variable {C:Nat→Value→Prop} {B0 W W':World} {tg:List Od} {t:Od} {x:List Bool} {f:Nat→Value}
theorem r9_grow (h:R9 C B0 tg t x f W) (O:ym W W'):R9 C B0 tg t x f W' :=
 ⟨h.bel.trans (O.mono h.bel.size),h.c,fun a b=>zj (h.m13 a b) O,fun a b=>zj (h.m15 a b) O,fun a b=>by
  obtain ⟨b',G,D,h3,h4,h5⟩:=h.m17 a b
  exact ⟨b',G,yH D O.size,h3,zb h4 O D,h5⟩,fun a=>zj (h.m18 a) O⟩
theorem aS (h:R9 C B0 tg t x f W) (i:Nat) (v:Value) (hv:C i v) (jS:i ≠ 13) (vy:i ≠ 15) (kA:i ≠ 17) (kc:i ≠ 18):R9 C B0 tg t (x.set i true) (upd f i v) W:=by
 refine ⟨h.bel,zA h.c hv,?_,?_,?_,?_⟩ <;> simp only [gq jS,gq vy,gq kA,gq kc,zp f v jS.symm,zp f v vy.symm,zp f v kA.symm,zp f v kc.symm]
 ·exact h.m13
 ·exact h.m15
 ·exact h.m17
 ·exact h.m18
theorem r9_13 (h:R9 C B0 tg t x f W) (jS:x[13]? = some false) (hc:∀ v,C 13 v):R9 C B0 tg t (x.set 13 true) (upd f 13 (.slice (some (J W.heap.size 0)) 0 0)) (W.alloc (N #[] 49)):=by
 have hg:=r9_grow h ((Below.refl W.heap.size W).alloc hb (N #[] 49))
 refine ⟨hg.bel,zA hg.c (hc _),?_,?_,?_,?_⟩
 ·intro _ _; rw [zn]; exact World.ownsRow_made W #[] 0 h.bel.size (by decide) rfl
 ·rw [gq (by decide),gq (by decide),zp _ _ (by decide)]; exact hg.m15
 ·intro kA kc
  rw [gq (by decide)] at kA kc
  obtain ⟨b,G,D,h3,h4,h5⟩:=hg.m17 kA kc
  obtain ⟨b',e1,e2,_⟩:=h.m17 kA kc
  rw [G] at e1
  simp only [Value.slice.injEq,Option.some.injEq,Addr.mk.injEq,and_true] at e1
  subst e1
  refine ⟨b,by rw [zp _ _ (by decide)]; exact G,D,h3,h4,fun _ _ e=>?_⟩
  rw [zn] at e
  simp [Value.ownBlock] at e
  omega
 ·rw [gq (by decide),zp _ _ (by decide)]; exact hg.m18
theorem r9_15 (h:R9 C B0 tg t x f W) (jS:x[13]? = some true) (vy:x[15]? = some false) (kc:x[18]? = some false) (hc:∀ v,C 15 v) {v':Value} (Z:ORow W' B0.heap.size v' tg) (hg:W.grownBy W' (f 13).ownBlock):R9 C B0 tg t (x.set 15 true) (upd f 15 v') W':=by
 refine ⟨h.bel.grown hg h.bel.size (fun k hk=>((h.m13 jS vy).lt k hk).1),zA h.c (hc _),?_,?_,?_,?_⟩
 ·intro _ e; rw [gqs vy] at e; cases e
 ·intro _ _; rw [zn]; exact Z
 ·intro kA _
  rw [gq (by decide)] at kA
  obtain ⟨b,G,D,h3,h4,h5⟩:=h.m17 kA kc
  refine ⟨b,by rw [zp _ _ (by decide)]; exact G,yH D hg.size,h3,zu h4 hg D (fun e=>h5 jS vy e.symm),fun _ e=>?_⟩
  rw [gqs vy] at e; cases e
 ·intro e; rw [gq (by decide),kc] at e; cases e
theorem r9_17 (h:R9 C B0 tg t x f W) (kA:x[17]? = some false) (kc:x[18]? = some false) (hc:∀ v,C 17 v):R9 C B0 tg t (x.set 17 true) (upd f 17 (.slice (some (J W.heap.size 0)) 1 1)) (W.alloc (Obj.cells t.vs.toArray 49)):=by
 have hg:=r9_grow h ((Below.refl W.heap.size W).alloc hb (Obj.cells t.vs.toArray 49))
 refine ⟨hg.bel,zA hg.c (hc _),?_,?_,?_,?_⟩
 ·rw [gq (by decide),gq (by decide),zp _ _ (by decide)]; exact hg.m13
 ·rw [gq (by decide),gq (by decide),zp _ _ (by decide)]; exact hg.m15
 ·intro _ _
  refine ⟨W.heap.size,zn _ _ _,by rw [zf]; omega,h.bel.size,zg W t.vs _,fun jS vy e=>?_⟩
  rw [gq (by decide)] at jS vy
  rw [zp _ _ (by decide)] at e
  have:=((h.m13 jS vy).lt _ e).2
  omega
 ·rw [gq (by decide),zp _ _ (by decide)]; exact hg.m18
theorem r9_18 (h:R9 C B0 tg t x f W) (vy:x[15]? = some true) (kc:x[18]? = some false) (hc:∀ v,C 18 v) {v':Value} (Z:ORow W' B0.heap.size v' (tg ++ [t])) (hg:W.grownBy W' (f 15).ownBlock):R9 C B0 tg t (x.set 18 true) (upd f 18 v') W':=by
 refine ⟨h.bel.grown hg h.bel.size (fun k hk=>((h.m15 vy kc).lt k hk).1),zA h.c (hc _),?_,?_,?_,?_⟩
 ·intro _ e; rw [gq (by decide)] at e; rw [e] at vy; cases vy
 ·intro _ e; rw [gqs kc] at e; cases e
 ·intro _ e; rw [gqs kc] at e; cases e
 ·intro _; rw [zn]; exact Z
end
def C9 (S c8:Nat) (ty left:Int) (lv:Value) (n1:Nat) (ta:Value) (eD:Int):Nat→Value→Prop
 | 0,v=>v = I (S + 1) 2
 | 1,v=>v = H ty
 | 2,v=>v = .bool true
 | 3,v=>v = .bool true
 | 4,v=>v = I c8 3
 | 5,v=>v = H left
 | 6,v=>v = .bool true
 | 7,v=>v = .bool true
 | 8,v=>v = .bool true
 | 9,v=>v = lv
 | 10,v=>v = H n1
 | 11,v=>v = .bool false
 | 12,v=>v = .bool false
 | 14,v=>v = lv
 | 16,v=>v = ta
 | 19,v=>v = H eD
 | 20,v=>v = .bool (decide (8 < eD))
 | 21,v=>v = .bool (decide (8 < eD))
 | 22,v=>v = .bool (decide (8 < eD))
 | _,_=>True
theorem l04New_any (next:Int) (vb:Value) (l:List Od) (c:Cm) (w:World) (hr:RdR Od.vs 6 w vb l) (hs:SlOk vb) (hg:GoodL l) (uC:∀ x ∈ l,x.side = 1 ∨ x.side = 2) (ht:c.g.size ≤ maxLen) :
  Calls Tryz.prog 133 #[.agg #[H next,vb],cmV c] w fun e w'=>e = .returned (H (newR next l c))∧ym w w':=by
 have HR:=Y hr
 have HG:=Y hg
 have vC:=Y hs
 have HSD:=Y uC
 have qO:=Y (fun W=>l03Tag_any c.g W ht)
 have HZR:=Y (fun W=>l04Zero_any c.p W)
 have oP:=Y (fun W=>l01Ticks_any c.p W)
 obtain ⟨a,A,rfl,xC,hc⟩:=hr
 obtain ⟨kk,s,ty,li,F,ii,pr,L⟩:=c
 unfold cmV
 simp only at qO HZR oP ⊢
 clear hc hg hs uC xC ht
 have xz:=zf w (N #[H next,.slice a l.length A] 28)
 have xZ:((w.alloc (N #[H next,.slice a l.length A] 28)).alloc (N (yv kk s ty li F ii pr L).toArray 43)).heap.size = w.heap.size + 1 + 1:=by rw [zf,xz]
 have r1:=zg w [H next,.slice a l.length A] 28
 have r2:=zg (w.alloc (N #[H next,.slice a l.length A] 28)) (yv kk s ty li F ii pr L) 43
 rw [xz] at r2
 have qp:Below (w.heap.size + 1) (w.alloc (N #[H next,.slice a l.length A] 28)) ((w.alloc (N #[H next,.slice a l.length A] 28)).alloc (N (yv kk s ty li F ii pr L).toArray 43)):=(Below.refl _ _).alloc (by rw [xz]; omega) _
 have xD:Hid (ym w ((w.alloc (N #[H next,.slice a l.length A] 28)).alloc (N (yv kk s ty li F ii pr L).toArray 43))):=(eB _ _).alloc (by rw [xz]; omega) _
 have HX:Hid (_∧_):=⟨zb r1 qp (by omega),r2⟩
 have ut:Hid (w.heap.size + 1 < ((w.alloc (N #[H next,.slice a l.length A] 28)).alloc (N (yv kk s ty li F ii pr L).toArray 43)).heap.size):=by show _ < _; omega
 clear xz xZ r1 r2 qp
 go_enter Tryz.func133,Tryz.ntmps133
 refine eF fun hj xq=>?_
 go_wp2_with fail
 refine U xq _ _ ?_
 clear xq
 generalize ((w.alloc (N #[H next,.slice a l.length A] 28)).alloc (N (yv kk s ty li F ii pr L).toArray 43)) = X2 at xD HX ut ⊢
 have HX:Hid (X2.rangeAt w.heap.size 0 [H next,.slice a l.length A]∧X2.rangeAt (w.heap.size + 1) 0 (yv kk s ty li F ii pr L)):=U HX
 have o1:X2.cell? (J (w.heap.size + 1) 1) = some (H s):=(U HX).2 1 _ rfl
 have o2:X2.cell? (J (w.heap.size + 1) 2) = some (H ty):=(U HX).2 2 _ rfl
 have o3:X2.cell? (J (w.heap.size + 1) 3) = some (H li):=(U HX).2 3 _ rfl
 have o4:X2.cell? (J (w.heap.size + 1) 4) = some (H F):=(U HX).2 4 _ rfl
 have o6:X2.cell? (J (w.heap.size + 1) 6) = some (yi pr):=(U HX).2 6 _ rfl
 have o7:X2.cell? (J (w.heap.size + 1) 7) = some (yj L):=(U HX).2 7 _ rfl
 refine eF fun hj xq=>?_
 go_wp2_with (first | (go_at_call 137; refine (U oP _).mono ?_; rintro e w' ⟨rfl,ul⟩; rw [ul]; clear ul w') | (go_at_call 80; refine (dm _ _ _ _).mono ?_; rintro e w' ⟨rfl,ul⟩; rw [ul]; clear ul w') | (go_at_call 91; refine (cB _ _).mono ?_; rintro e w' ⟨rfl,ul⟩; rw [ul]; clear ul w') | (go_at_call 159; refine (U HZR _).mono ?_; rintro e w' ⟨rfl,ul⟩; rw [ul]; clear ul w') | (go_at_call 130; refine (U qO _).mono ?_; rintro e w' ⟨rfl,ul⟩; rw [ul]; clear ul w'))
 refine U xq _ _ ?_
 clear xq
 refine eF fun hj xq=>?_
 cases bs:betB s 1 2
 have HK:Hid (newR next l ⟨kk,s,ty,li,F,ii,pr,L⟩ = 3):=by show _ = _; simp [newR,bs]
 rotate_left
 cases bt:betB ty 1 5
 have HK:Hid (newR next l ⟨kk,s,ty,li,F,ii,pr,L⟩ = 4):=by show _ = _; simp [newR,bs,bt]
 rotate_left
 have HT:Hid (lifW ⟨kk,s,ty,li,F,ii,pr,L⟩ = false→prcB ⟨kk,s,ty,li,F,ii,pr,L⟩ = true→betB F 1 1000000 = true→tagB L = true→∀ (u5 u6 u10 u11 u12 u13 u14 u15 u16 u17 u18 u19 u20 u21 u22 u23 u24 u25 u26 u27 u28 u29 u30 u31 u32 u33 u34 u35 u36 u37 u38 u39 u40 u41 u42 u43 u44 u45 u46 u47 u48 u49 u50 u51 u52 u53 u54 u55 u56 u57 u58 u59 u60 u61 u62 u63 u64 u65 u66 u67 u68 u69 u70:Value),hj { tmps:=#[.agg #[H next,.slice a l.length A],.agg (yv kk s ty li F ii pr L).toArray,I w.heap.size 0,I (w.heap.size + 1) 0,H 0,u5,u6,M,M,M,u10,u11,u12,u13,u14,u15,u16,u17,u18,u19,u20,u21,u22,u23,u24,u25,u26,u27,u28,u29,u30,u31,u32,u33,u34,u35,u36,u37,u38,u39,u40,u41,u42,u43,u44,u45,u46,u47,u48,u49,u50,u51,u52,u53,u54,u55,u56,u57,u58,u59,u60,u61,u62,u63,u64,u65,u66,u67,u68,u69,u70,M,M,M,M,M,M,M,M,M,M,M,M,M,M,M,M,M,M,M,M,M,M,M,M,M,M,M,M,M,M,M,M,M,M,M,M,M,M,M,M,M,M,M,M,M,M,M,M,M,M,M,M,M,M,M],defers:=[] } X2):=by
  intro hlif hprc hqty htag u5 u6 u10 u11 u12 u13 u14 u15 u16 u17 u18 u19 u20 u21 u22 u23 u24 u25 u26 u27 u28 u29 u30 u31 u32 u33 u34 u35 u36 u37 u38 u39 u40 u41 u42 u43 u44 u45 u46 u47 u48 u49 u50 u51 u52 u53 u54 u55 u56 u57 u58 u59 u60 u61 u62 u63 u64 u65 u66 u67 u68 u69 u70
  refine U xq _ _ ?_
  clear xq o1 o2 o3 o4 o6 o7
  have hside:=side_of bs
  have hqq:1 ≤ F∧F ≤ 1000000:=by simpa [betB] using hqty
  have ja:Hid (newR next l ⟨kk,s,ty,li,F,ii,pr,L⟩ = matS next ⟨kk,s,ty,li,F,ii,pr,L⟩ (matL ⟨kk,s,ty,li,F,ii,pr,L⟩ next 21 l F [])):=by
   show _ = _
   rw [matS_eq (U HG) (U HSD) bs hprc hqty]
   simp [newR,bs,bt,hlif,hprc,hqty,htag]
  have kb:=Y (fun W hW=>dh (.slice a l.length A) l ⟨kk,s,ty,li,F,ii,pr,L⟩ next W hW (U HG) hside hprc (by show 0 ≤ F; omega) hqq.2)
  have HGF:=Y (bR (c:=⟨kk,s,ty,li,F,ii,pr,L⟩) (id:=next) 21 l F [] (U HG) (by omega) hqq.2)
  simp only at kb HGF
  generalize matL ⟨kk,s,ty,li,F,ii,pr,L⟩ next 21 l F [] = qt at ja kb HGF
  generalize newR next l ⟨kk,s,ty,li,F,ii,pr,L⟩ = res at ja ⊢
  have HTKR:=Y (fun W=>di next a l.length A ⟨kk,s,ty,li,F,ii,pr,L⟩ W)
  unfold cmV at HTKR
  simp only at HTKR
  have ob:Hid (matS next ⟨kk,s,ty,li,F,ii,pr,L⟩ qt = if ty = 5∧0 < qt.2.2.length then 11 else if ty = 4∧0 < qt.2.1 then 12 else if next = 1000000 then 13
   else if aC ty = true then (if 0 < qt.2.1 then (if qt.1.length = 20 then 13 else if 8 < nlev (qt.1 ++ [⟨next,s,tkS pr,qt.2.1,li,L⟩]) then 13 else 0) else 0) else 0):=rfl
  have ja:Hid (res = _):=(U ja).trans (U ob)
  clear ob hlif hprc hqty htag hqq
  generalize tkS pr = tt at kb HTKR ja
  obtain ⟨tg,left,ts⟩:=qt
  simp only at kb ja HGF
  refine eF fun hj xq=>?_
  refine zi (RNA (fun f=>{ tmps:=#[.agg #[H next,.slice a l.length A],.agg (yv kk s ty li F ii pr L).toArray,I w.heap.size 0,I (w.heap.size + 1) 0,H 0,u5,u6,f 11,f 10,f 13,u10,u11,u12,u13,u14,u15,u16,u17,u18,u19,u20,u21,u22,u23,u24,u25,u26,u27,u28,u29,u30,u31,u32,u33,u34,u35,u36,u37,u38,u39,u40,u41,u42,u43,u44,u45,u46,u47,u48,u49,u50,u51,u52,u53,u54,u55,u56,u57,u58,u59,u60,u61,u62,u63,u64,u65,u66,u67,u68,u69,u70,f 6,f 0,f 1,f 2,f 3,f 4,f 5,f 7,f 8,f 9,M,M,M,M,M,M,M,M,M,M,M,M,M,M,M,M,M,M,M,M,M,M,M,M,M,M,M,M,M,M,M,M,M,M,M,M,M,M,M,M,M,M,M,M,M],defers:=[] }) w.heap.size (.slice a l.length A) (.agg #[H next,.slice a l.length A]) (.agg (yv kk s ty li F ii pr L).toArray) (.agg (yu next s tt F li L).toArray) (.agg (yu next s tt left li L).toArray) (yu next s tt left li L) tg ts.length X2) (by kernel_rfl) ?_ ?_ ?_
  ·exact ⟨fun j=>M,rfl,⟨⟨rfl,rfl,rfl,Nat.le_refl _,fun _ _=>rfl⟩,fun j K=>by rw [yG] at K; split at K <;> simp at K,by simp,by simp,by simp⟩⟩
  ·rintro x xj V ⟨f,rfl,E⟩ hx xL
   have xn:=zO xL hx (by kernel_rfl)
   obtain ⟨lv,ev,e5,hlv,ae,ce,hev⟩:=E.m5 (xn 5 (by simp))
   obtain ⟨c8,jR,pz,kQ,-,hcr⟩:=E.m10 (xn 10 (by simp))
   obtain ⟨lv',ev',e11,e11'⟩:=E.e 11 (xn 11 (by simp))
   obtain ⟨lv'',ev'',e13,e13'⟩:=E.e 13 (xn 13 (by simp))
   have HC8:=Y (hcr (xn 12 (by simp)))
   rw [e5] at e11 e13
   have q1:lv = lv':=(tup3 e11).1
   have q2:ev = ev'':=(tup3 e13).2.2
   rw [← q1] at e11'
   rw [← q2,hev] at e13'
   have jO:=Y hlv
   have xr:=Y ((U xD).trans (E.bel.mono (U xD).size))
   have HXV:Hid (V.rangeAt w.heap.size 0 [H next,.slice a l.length A]∧V.rangeAt (w.heap.size + 1) 0 (yv kk s ty li F ii pr L)):=⟨zb (U HX).1 E.bel (by have:=U ut; omega),zb (U HX).2 E.bel (U ut)⟩
   have hVS:w.heap.size + 1 < V.heap.size:=yH (U ut) E.bel.size
   refine U xq _ _ ?_
   clear xq
   simp only [jR,e11',e13']
   generalize f 6 = u71,f 0 = u72,f 1 = u73,f 2 = u74,f 3 = u75,f 4 = u76,f 5 = u77,f 7 = u78,f 8 = u79,f 9 = u80
   clear E xn e5 jR e11 e13 e11' e13' q1 q2 hcr xL hx hlv hev kb HTKR HX xD ut
   obtain ⟨⟨al,cal,jb,hll,qq⟩,hsl⟩:=U jO
   have HRL:Hid (RdR Od.vs 6 V (.slice al tg.length cal) tg):=by rw [← jb]; exact (U jO).1
   have HSV:Hid (SlOk (.slice al tg.length cal)):=by rw [← jb]; exact hsl
   subst jb
   clear qq hsl hll jO
   have k0:V.cell? (J w.heap.size 0) = some (H next):=(U HXV).1 0 _ rfl
   have o2:V.cell? (J (w.heap.size + 1) 2) = some (H ty):=(U HXV).2 2 _ rfl
   have c3:V.cell? (J c8 3) = some (H left):=U HC8 3 _ rfl
   have h20:tg.length ≤ 20:=(U HGF).1.len
   refine eF fun hj xq=>?_
   have vu:Hid (¬ (ty = 5∧0 < ts.length)→¬ (ty = 4∧0 < left)→next ≠ 1000000→∀ (u5 u6 u10 u11 u12 u13 u14 u15 u16 u17 u18 u19 u20 u21 u22 u23 u24 u25 u26 u27 u28 u29 u30 u31 u32 u33 u34 u35 u36 u37 u38 u39 u40 u41 u42 u43 u44 u45 u46 u47 u48 u49 u50 u51 u52 u53 u54 u55 u56 u57 u58 u59 u60 u61 u62 u63 u64 u65 u66 u67 u68 u69 u70 u71 u72 u73 u74 u75 u76 u77 u78 u79 u80 u81 u82 u83 u84 u85 u86 u87 u88 u89 u90 u91 u92 u93 u94 u95 u96 u97 u98 u99 u100 u101 u102:Value),hj { tmps:=#[.agg #[H next,.slice a l.length A],.agg (yv kk s ty li F ii pr L).toArray,I w.heap.size 0,I (w.heap.size + 1) 0,H 0,u5,u6,.slice al tg.length cal,I c8 0,.slice ae ts.length ce,u10,u11,u12,u13,u14,u15,u16,u17,u18,u19,u20,u21,u22,u23,u24,u25,u26,u27,u28,u29,u30,u31,u32,u33,u34,u35,u36,u37,u38,u39,u40,u41,u42,u43,u44,u45,u46,u47,u48,u49,u50,u51,u52,u53,u54,u55,u56,u57,u58,u59,u60,u61,u62,u63,u64,u65,u66,u67,u68,u69,u70,u71,u72,u73,u74,u75,u76,u77,u78,u79,u80,u81,u82,u83,u84,u85,u86,u87,u88,u89,u90,u91,u92,u93,u94,u95,u96,u97,u98,u99,u100,u101,u102,M,M,M,M,M,M,M,M,M,M,M,M,M,M,M,M,M,M,M,M,M,M,M],defers:=[] } V):=by
    intro g5 g4 gn u5 u6 u10 u11 u12 u13 u14 u15 u16 u17 u18 u19 u20 u21 u22 u23 u24 u25 u26 u27 u28 u29 u30 u31 u32 u33 u34 u35 u36 u37 u38 u39 u40 u41 u42 u43 u44 u45 u46 u47 u48 u49 u50 u51 u52 u53 u54 u55 u56 u57 u58 u59 u60 u61 u62 u63 u64 u65 u66 u67 u68 u69 u70 u71 u72 u73 u74 u75 u76 u77 u78 u79 u80 u81 u82 u83 u84 u85 u86 u87 u88 u89 u90 u91 u92 u93 u94 u95 u96 u97 u98 u99 u100 u101 u102
    have HRS:Hid (res = if aC ty = true then (if 0 < left then (if tg.length = 20 then 13 else if 8 < nlev (tg ++ [⟨next,s,tt,left,li,L⟩]) then 13 else 0) else 0) else 0):=by
     have:=U ja
     rw [if_neg g5,if_neg g4,if_neg gn] at this
     exact this
    refine U xq _ _ ?_
    clear xq g5 g4 gn ja k0
    have HCEL:Hid (∀ w':World,V.grownBy w' none→w'.cell? (J (w.heap.size + 1) 2) = some (H ty)∧w'.cell? (J c8 3) = some (H left)):=fun w' h'=>⟨zu (U HXV).2 h' hVS (by simp) 2 _ rfl,zu (U HC8) h' kQ (by simp) 3 _ rfl⟩
    cases brs:aC ty
    ·have HQ0:Hid (res = 0):=(U HRS).trans (by rw [brs]; rfl)
     go_wp2_with fail
     refine zi (RG V (fun f=>{ tmps:=#[.agg #[H next,.slice a l.length A],.agg (yv kk s ty li F ii pr L).toArray,I w.heap.size 0,I (w.heap.size + 1) 0,H 0,u5,u6,.slice al tg.length cal,I c8 0,.slice ae ts.length ce,u10,u11,u12,u13,u14,u15,u16,u17,u18,u19,u20,u21,u22,u23,u24,u25,u26,u27,u28,u29,u30,u31,u32,u33,u34,u35,u36,u37,u38,u39,u40,u41,u42,u43,u44,u45,u46,u47,u48,u49,u50,u51,u52,u53,u54,u55,u56,u57,u58,u59,u60,u61,u62,u63,u64,u65,u66,u67,u68,u69,u70,u71,u72,u73,u74,u75,u76,u77,u78,u79,u80,u81,u82,u83,u84,u85,u86,u87,u88,u89,u90,u91,u92,u93,u94,u95,u96,u97,u98,u99,u100,u101,u102,f 0,f 1,f 2,f 3,f 4,f 5,f 6,f 7,f 8,f 9,f 10,f 11,f 12,f 13,f 14,f 15,f 16,f 17,f 18,f 19,f 20,f 21,f 22],defers:=[] }) 99 (DV [I (w.heap.size + 1) 2,H ty,.bool false,.bool false,M,M,M,.bool false,.bool false,M,M,M,M,M,M,M,M,M,M,M,M,M,.bool false])) (by kernel_rfl) ?_ ?_ ?_
     ·exact ⟨fun _=>M,rfl,⟨rfl,rfl,rfl,Nat.le_refl _,fun _ _=>rfl⟩,fun j K=>by rw [yG] at K; split at K <;> simp at K⟩
     ·rintro x xj V' ⟨f,rfl,xh,hD⟩ hx xL
      have xn:=zW xL hx (acyc _ (by kernel_rfl))
      have e22:f 22 = .bool false:=hD 22 (xn 22 (by simp)) _ rfl
      have xP:=Y (eE (U xr) xh)
      simp only [e22]
      clear hD xn e22 xL hx xh
      go_wp2_with fail
      go_ret
      exact ⟨zv (U HQ0).symm,U xP⟩
     ·rintro x xj V' i' o' ⟨f,rfl,xh,hD⟩ X hx Z xu Q
      clear X
      have xJ:=Y xh
      have HD:=Y hD
      have o2:V'.cell? (J (w.heap.size + 1) 2) = some (H ty):=zb (U HXV).2 xh hVS 2 _ rfl
      have c3:V'.cell? (J c8 3) = some (H left):=zb (U HC8) xh kQ 3 _ rfl
      clear HRS HQ0
      match i',Z with
      | 0,Z =>
       obtain rfl:=ya Z
       clear Q hD xh
       rw [if_pos (by rfl)];unfold Oper.wp;go_simp
       exact ⟨upd f 0 (I (w.heap.size + 1) 2),by simp [upd],zd (U xJ) (U HD) (by decide) (yf rfl)⟩
      | 1,Z =>
       obtain rfl:=ya Z
       have g0:=hD 0 (yd Q 0 rfl) _ rfl
       clear Q hD xh
       rw [if_pos (by rfl)];unfold Oper.wp;go_simp
       exact ⟨upd f 1 (H ty),by simp [upd,g0],zd (U xJ) (U HD) (by decide) (yf rfl)⟩
      | 2,Z =>
       obtain rfl:=ya Z
       have g1:=hD 1 (yd Q 1 rfl) _ rfl
       clear Q hD xh
       rw [if_pos (by rfl)];unfold Oper.wp;go_simp
       refine (cB ty _).mono ?_
       rintro e w3 ⟨rfl,hw3⟩
       rw [hw3,brs]
       exact ⟨upd f 2 (.bool false),by simp [upd,g1],zd (U xJ) (U HD) (by decide) (yf rfl)⟩
      | 3,Z =>
       obtain rfl:=ya Z
       have g2:=hD 2 (yd Q 2 rfl) _ rfl
       clear Q hD xh
       rw [if_pos (by rfl)];unfold Oper.wp;go_simp
       exact ⟨upd f 3 (.bool false),by simp [upd,g2],zd (U xJ) (U HD) (by decide) (yf rfl)⟩
      | 4,Z | 5,Z | 6,Z =>
       obtain rfl:=ya Z
       have g3:=hD 3 (yd Q 3 rfl) _ rfl
       clear Q hD xh
       rw [if_neg (by simp only [g3]; exact fun h=>Bool.noConfusion (show (false:Bool) = true from h))]
       exact ⟨upd f _ M,rfl,zd (U xJ) (U HD) (by decide) (yf rfl)⟩
      | 7,Z =>
       obtain rfl:=ya Z
       have g3:=hD 3 (yd Q 3 rfl) _ rfl
       have g6:=hD 6 (yd Q 6 rfl) _ rfl
       clear Q hD xh
       rw [if_pos (by rfl)];unfold Oper.wp;go_simp
       exact ⟨upd f 7 (.bool false),by simp [upd,g3,g6],zd (U xJ) (U HD) (by decide) (yf rfl)⟩
      | 8,Z =>
       obtain rfl:=ya Z
       have g7:=hD 7 (yd Q 7 rfl) _ rfl
       clear Q hD xh
       rw [if_pos (by rfl)];unfold Oper.wp;go_simp
       exact ⟨upd f 8 (.bool false),by simp [upd,g7],zd (U xJ) (U HD) (by decide) (yf rfl)⟩
      | 9,Z | 10,Z | 11,Z | 12,Z | 21,Z =>
       obtain rfl:=ya Z
       have g8:=hD 8 (yd Q 8 rfl) _ rfl
       clear Q hD xh
       rw [if_neg (by simp only [g8]; exact fun h=>Bool.noConfusion (show (false:Bool) = true from h))]
       exact ⟨upd f _ M,rfl,zd (U xJ) (U HD) (by decide) (yf rfl)⟩
      | 13,Z | 14,Z | 15,Z | 16,Z | 17,Z | 18,Z | 19,Z | 20,Z =>
       obtain rfl:=ya Z
       have ub:=hD 12 (yd Q 12 rfl) _ rfl
       clear Q hD xh
       rw [if_neg (by simp only [ub]; exact fun h=>Bool.noConfusion (show (false:Bool) = true from h))]
       exact ⟨upd f _ M,rfl,zd (U xJ) (U HD) (by decide) (yf rfl)⟩
      | 22,Z =>
       obtain rfl:=ya Z
       have g8:=hD 8 (yd Q 8 rfl) _ rfl
       have g21:=hD 21 (yd Q 21 rfl) _ rfl
       clear Q hD xh
       rw [if_pos (by rfl)];unfold Oper.wp;go_simp
       exact ⟨upd f 22 (.bool false),by simp [upd,g8,g21],zd (U xJ) (U HD) (by decide) (yf rfl)⟩
      | n + 23,Z=>simp at Z
    by_cases oV:0 < left
    ·by_cases kS:tg.length = 20
     ·have HQ0:Hid (res = 13):=(U HRS).trans (by rw [if_pos brs,if_pos oV,if_pos kS])
      have ay:(tg.length:Int) = 20:=by omega
      have hb20:((tg.length:Int) == 20) = true:=by simpa using ay
      have hlf':decide (0 < left) = true:=by simpa using oV
      clear kS ay
      go_wp2_with fail
      refine zi (RG V (fun f=>{ tmps:=#[.agg #[H next,.slice a l.length A],.agg (yv kk s ty li F ii pr L).toArray,I w.heap.size 0,I (w.heap.size + 1) 0,H 0,u5,u6,.slice al tg.length cal,I c8 0,.slice ae ts.length ce,u10,u11,u12,u13,u14,u15,u16,u17,u18,u19,u20,u21,u22,u23,u24,u25,u26,u27,u28,u29,u30,u31,u32,u33,u34,u35,u36,u37,u38,u39,u40,u41,u42,u43,u44,u45,u46,u47,u48,u49,u50,u51,u52,u53,u54,u55,u56,u57,u58,u59,u60,u61,u62,u63,u64,u65,u66,u67,u68,u69,u70,u71,u72,u73,u74,u75,u76,u77,u78,u79,u80,u81,u82,u83,u84,u85,u86,u87,u88,u89,u90,u91,u92,u93,u94,u95,u96,u97,u98,u99,u100,u101,u102,f 0,f 1,f 2,f 3,f 4,f 5,f 6,f 7,f 8,f 9,f 10,f 11,f 12,f 13,f 14,f 15,f 16,f 17,f 18,f 19,f 20,f 21,f 22],defers:=[] }) 99 (DV [I (w.heap.size + 1) 2,H ty,.bool true,.bool true,I c8 3,H left,.bool true,.bool true,.bool true,.slice al tg.length cal,H tg.length,.bool true,.bool true,M,M,M,M,M,M,M,M,.bool true,.bool true])) (by kernel_rfl) ?_ ?_ ?_
      ·exact ⟨fun _=>M,rfl,⟨rfl,rfl,rfl,Nat.le_refl _,fun _ _=>rfl⟩,fun j K=>by rw [yG] at K; split at K <;> simp at K⟩
      ·rintro x xj V' ⟨f,rfl,xh,hD⟩ hx xL
       have xn:=zW xL hx (acyc _ (by kernel_rfl))
       have e22:f 22 = .bool true:=hD 22 (xn 22 (by simp)) _ rfl
       have xP:=Y (eE (U xr) xh)
       simp only [e22]
       clear hD xn e22 xL hx xh
       go_wp2_with fail
       go_ret
       exact ⟨zv (U HQ0).symm,U xP⟩
      ·rintro x xj V' i' o' ⟨f,rfl,xh,hD⟩ X hx Z xu Q
       clear X
       have xJ:=Y xh
       have HD:=Y hD
       have o2:V'.cell? (J (w.heap.size + 1) 2) = some (H ty):=zb (U HXV).2 xh hVS 2 _ rfl
       have c3:V'.cell? (J c8 3) = some (H left):=zb (U HC8) xh kQ 3 _ rfl
       clear HRS HQ0
       match i',Z with
       | 0,Z =>
        obtain rfl:=ya Z
        clear Q hD xh
        rw [if_pos (by rfl)];unfold Oper.wp;go_simp
        exact ⟨upd f 0 (I (w.heap.size + 1) 2),by simp [upd],zd (U xJ) (U HD) (by decide) (yf rfl)⟩
       | 1,Z =>
        obtain rfl:=ya Z
        have g0:=hD 0 (yd Q 0 rfl) _ rfl
        clear Q hD xh
        rw [if_pos (by rfl)];unfold Oper.wp;go_simp
        exact ⟨upd f 1 (H ty),by simp [upd,g0],zd (U xJ) (U HD) (by decide) (yf rfl)⟩
       | 2,Z =>
        obtain rfl:=ya Z
        have g1:=hD 1 (yd Q 1 rfl) _ rfl
        clear Q hD xh
        rw [if_pos (by rfl)];unfold Oper.wp;go_simp
        refine (cB ty _).mono ?_
        rintro e w3 ⟨rfl,hw3⟩
        rw [hw3,brs]
        exact ⟨upd f 2 (.bool true),by simp [upd,g1],zd (U xJ) (U HD) (by decide) (yf rfl)⟩
       | 3,Z =>
        obtain rfl:=ya Z
        have g2:=hD 2 (yd Q 2 rfl) _ rfl
        clear Q hD xh
        rw [if_pos (by rfl)];unfold Oper.wp;go_simp
        exact ⟨upd f 3 (.bool true),by simp [upd,g2],zd (U xJ) (U HD) (by decide) (yf rfl)⟩
       | 4,Z =>
        obtain rfl:=ya Z
        have g3:=hD 3 (yd Q 3 rfl) _ rfl
        clear Q hD xh
        rw [if_pos (by simp only [g3]; rfl)]
        unfold Oper.wp
        go_simp
        exact ⟨upd f 4 (I c8 3),by simp [upd,g3],zd (U xJ) (U HD) (by decide) (yf rfl)⟩
       | 5,Z =>
        obtain rfl:=ya Z
        have g3:=hD 3 (yd Q 3 rfl) _ rfl
        have g4:=hD 4 (yd Q 4 rfl) _ rfl
        clear Q hD xh
        rw [if_pos (by simp only [g3]; rfl)]
        unfold Oper.wp
        go_simp
        exact ⟨upd f 5 (H left),by simp [upd,g3,g4],zd (U xJ) (U HD) (by decide) (yf rfl)⟩
       | 6,Z =>
        obtain rfl:=ya Z
        have g3:=hD 3 (yd Q 3 rfl) _ rfl
        have g5:=hD 5 (yd Q 5 rfl) _ rfl
        clear Q hD xh
        rw [if_pos (by simp only [g3]; rfl)]
        unfold Oper.wp
        go_simp
        exact ⟨upd f 6 (.bool true),by simp [upd,g3,g5],zd (U xJ) (U HD) (by decide) (yf rfl)⟩
       | 7,Z =>
        obtain rfl:=ya Z
        have g3:=hD 3 (yd Q 3 rfl) _ rfl
        have g6:=hD 6 (yd Q 6 rfl) _ rfl
        clear Q hD xh
        rw [if_pos (by rfl)];unfold Oper.wp;go_simp
        exact ⟨upd f 7 (.bool true),by simp [upd,g3,g6],zd (U xJ) (U HD) (by decide) (yf rfl)⟩
       | 8,Z =>
        obtain rfl:=ya Z
        have g7:=hD 7 (yd Q 7 rfl) _ rfl
        clear Q hD xh
        rw [if_pos (by rfl)];unfold Oper.wp;go_simp
        exact ⟨upd f 8 (.bool true),by simp [upd,g7],zd (U xJ) (U HD) (by decide) (yf rfl)⟩
       | 9,Z =>
        obtain rfl:=ya Z
        have g8:=hD 8 (yd Q 8 rfl) _ rfl
        clear Q hD xh
        rw [if_pos (by simp only [g8]; rfl)]
        unfold Oper.wp
        go_simp
        exact ⟨upd f 9 (.slice al tg.length cal),by simp [upd,g8],zd (U xJ) (U HD) (by decide) (yf rfl)⟩
       | 10,Z =>
        obtain rfl:=ya Z
        have g8:=hD 8 (yd Q 8 rfl) _ rfl
        have g9:=hD 9 (yd Q 9 rfl) _ rfl
        clear Q hD xh
        rw [if_pos (by simp only [g8]; rfl)]
        unfold Oper.wp
        go_simp
        exact ⟨upd f 10 (H tg.length),by simp [upd,g8,g9],zd (U xJ) (U HD) (by decide) (yf rfl)⟩
       | 11,Z =>
        obtain rfl:=ya Z
        have g8:=hD 8 (yd Q 8 rfl) _ rfl
        have qy:=hD 10 (yd Q 10 rfl) _ rfl
        clear Q hD xh
        rw [if_pos (by simp only [g8]; rfl)]
        unfold Oper.wp
        go_simp
        exact ⟨upd f 11 (.bool true),by simp [upd,g8,qy],zd (U xJ) (U HD) (by decide) (yf rfl)⟩
       | 12,Z =>
        obtain rfl:=ya Z
        have g8:=hD 8 (yd Q 8 rfl) _ rfl
        have vI:=hD 11 (yd Q 11 rfl) _ rfl
        clear Q hD xh
        rw [if_pos (by simp only [g8]; rfl)]
        unfold Oper.wp
        go_simp
        exact ⟨upd f 12 (.bool true),by simp [upd,g8,vI],zd (U xJ) (U HD) (by decide) (yf rfl)⟩
       | 13,Z | 14,Z | 15,Z | 16,Z | 17,Z | 18,Z | 19,Z | 20,Z =>
        obtain rfl:=ya Z
        have ub:=hD 12 (yd Q 12 rfl) _ rfl
        clear Q hD xh
        rw [if_neg (by simp only [ub]; exact fun h=>Bool.noConfusion (show (false:Bool) = true from h))]
        exact ⟨upd f _ M,rfl,zd (U xJ) (U HD) (by decide) (yf rfl)⟩
       | 21,Z =>
        obtain rfl:=ya Z
        have g8:=hD 8 (yd Q 8 rfl) _ rfl
        have ub:=hD 12 (yd Q 12 rfl) _ rfl
        have g20:=hD 20 (yd Q 20 rfl) _ rfl
        clear Q hD xh
        rw [if_pos (by simp only [g8]; rfl)]
        unfold Oper.wp
        go_simp
        exact ⟨upd f 21 (.bool true),by simp [upd,g8,ub,g20],zd (U xJ) (U HD) (by decide) (yf rfl)⟩
       | 22,Z =>
        obtain rfl:=ya Z
        have g8:=hD 8 (yd Q 8 rfl) _ rfl
        have g21:=hD 21 (yd Q 21 rfl) _ rfl
        clear Q hD xh
        rw [if_pos (by rfl)];unfold Oper.wp;go_simp
        exact ⟨upd f 22 (.bool true),by simp [upd,g8,g21],zd (U xJ) (U HD) (by decide) (yf rfl)⟩
       | n + 23,Z=>simp at Z
     ·have HQ0:Hid (res = if decide (8 < ((nlev (tg ++ [⟨next,s,tt,left,li,L⟩]):Nat):Int)) = true then 13 else 0):=(U HRS).trans (by
       rw [if_pos brs,if_pos oV,if_neg kS]
       by_cases h8:8 < nlev (tg ++ [⟨next,s,tt,left,li,L⟩])
       ·rw [if_pos h8,if_pos (by simp only [xd]; omega)]
       ·rw [if_neg h8,if_neg (by simp only [xd]; omega)])
      have HLV2:=Y (fun (W:World) (v:Value) (hW:RdR Od.vs 6 W v (tg ++ [⟨next,s,tt,left,li,L⟩]))=>l03Levels_any v (tg ++ [⟨next,s,tt,left,li,L⟩]) W hW (by simp; omega))
      generalize ((nlev (tg ++ [⟨next,s,tt,left,li,L⟩]):Nat):Int) = eD at HQ0 HLV2
      have ay:¬ (tg.length:Int) = 20:=by omega
      have hb20:((tg.length:Int) == 20) = false:=by rw [xb]; exact ay
      have hlf':decide (0 < left) = true:=by simpa using oV
      obtain ⟨i0,uE,uF,uK,uV⟩:=info_parts Tryz.infoOrder
      clear kS
      go_wp2_with fail
      refine zi (R9A (fun f=>{ tmps:=#[.agg #[H next,.slice a l.length A],.agg (yv kk s ty li F ii pr L).toArray,I w.heap.size 0,I (w.heap.size + 1) 0,H 0,u5,u6,.slice al tg.length cal,I c8 0,.slice ae ts.length ce,u10,u11,u12,u13,u14,u15,u16,u17,u18,u19,u20,u21,u22,u23,u24,u25,u26,u27,u28,u29,u30,u31,u32,u33,u34,u35,u36,u37,u38,u39,u40,u41,u42,u43,u44,u45,u46,u47,u48,u49,u50,u51,u52,u53,u54,u55,u56,u57,u58,u59,u60,u61,u62,u63,u64,u65,u66,u67,u68,u69,u70,u71,u72,u73,u74,u75,u76,u77,u78,u79,u80,u81,u82,u83,u84,u85,u86,u87,u88,u89,u90,u91,u92,u93,u94,u95,u96,u97,u98,u99,u100,u101,u102,f 0,f 1,f 2,f 3,f 4,f 5,f 6,f 7,f 8,f 9,f 10,f 11,f 12,f 13,f 14,f 15,f 16,f 17,f 18,f 19,f 20,f 21,f 22],defers:=[] }) (C9 w.heap.size c8 ty left (.slice al tg.length cal) tg.length (.agg (yu next s tt left li L).toArray) eD) V tg ⟨next,s,tt,left,li,L⟩) (by kernel_rfl) ?_ ?_ ?_
      ·exact ⟨fun j=>M,rfl,⟨⟨rfl,rfl,rfl,Nat.le_refl _,fun _ _=>rfl⟩,fun j K=>by rw [yG] at K; split at K <;> simp at K,by simp,by simp,by simp,by simp⟩⟩
      ·rintro x xj V' ⟨f,rfl,E⟩ hx xL
       have xn:=zW xL hx (acyc _ (by kernel_rfl))
       have e22:f 22 = .bool (decide (8 < eD)):=E.c 22 (xn 22 (by simp))
       have xP:=Y ((U xr).trans (E.bel.mono (U xr).size))
       simp only [e22]
       clear E xn e22 xL hx
       cases hd:decide (8 < eD)
       ·have kM:Hid (res = 0):=(U HQ0).trans (by rw [hd]; rfl)
        go_wp2_with fail
        go_ret
        exact ⟨zv (U kM).symm,U xP⟩
       ·have kM:Hid (res = 13):=(U HQ0).trans (by rw [hd]; rfl)
        go_wp2_with fail
        go_ret
        exact ⟨zv (U kM).symm,U xP⟩
      ·rintro x xj V' i' o' ⟨f,rfl,E⟩ X hx Z xu Q
       have xw:=Y E
       have o2:V'.cell? (J (w.heap.size + 1) 2) = some (H ty):=zb (U HXV).2 E.bel hVS 2 _ rfl
       have HC9:=Y (zb (U HC8) E.bel kQ)
       have c3:V'.cell? (J c8 3) = some (H left):=U HC9 3 _ rfl
       have xh:=Y E.bel
       clear HRS HQ0
       match i',Z with
       | 0,Z =>
        obtain rfl:=ya Z
        clear Q E X
        rw [if_pos (by rfl)];unfold Oper.wp;go_simp
        exact ⟨upd f 0 (I (w.heap.size + 1) 2),by simp [upd],aS (U xw) 0 _ rfl (by decide) (by decide) (by decide) (by decide)⟩
       | 1,Z =>
        obtain rfl:=ya Z
        have g0:f 0 = I (w.heap.size + 1) 2:=E.c 0 (yd Q 0 rfl)
        clear Q E X
        rw [if_pos (by rfl)];unfold Oper.wp;go_simp
        exact ⟨upd f 1 (H ty),by simp [upd,g0],aS (U xw) 1 _ rfl (by decide) (by decide) (by decide) (by decide)⟩
       | 2,Z =>
        obtain rfl:=ya Z
        have g1:f 1 = H ty:=E.c 1 (yd Q 1 rfl)
        clear Q E X
        rw [if_pos (by rfl)];unfold Oper.wp;go_simp
        refine (cB ty _).mono ?_
        rintro e w3 ⟨rfl,hw3⟩
        rw [hw3,brs]
        exact ⟨upd f 2 (.bool true),by simp [upd,g1],aS (U xw) 2 _ rfl (by decide) (by decide) (by decide) (by decide)⟩
       | 3,Z =>
        obtain rfl:=ya Z
        have g2:f 2 = .bool true:=E.c 2 (yd Q 2 rfl)
        clear Q E X
        rw [if_pos (by rfl)];unfold Oper.wp;go_simp
        exact ⟨upd f 3 (.bool true),by simp [upd,g2],aS (U xw) 3 _ rfl (by decide) (by decide) (by decide) (by decide)⟩
       | 4,Z =>
        obtain rfl:=ya Z
        have g3:f 3 = .bool true:=E.c 3 (yd Q 3 rfl)
        clear Q E X
        rw [if_pos (by simp only [g3]; rfl)]
        unfold Oper.wp
        go_simp
        exact ⟨upd f 4 (I c8 3),by simp [upd,g3],aS (U xw) 4 _ rfl (by decide) (by decide) (by decide) (by decide)⟩
       | 5,Z =>
        obtain rfl:=ya Z
        have g4:f 4 = I c8 3:=E.c 4 (yd Q 4 rfl)
        have g3:f 3 = .bool true:=E.c 3 (yd Q 3 rfl)
        clear Q E X
        rw [if_pos (by simp only [g3]; rfl)]
        unfold Oper.wp
        go_simp
        exact ⟨upd f 5 (H left),by simp [upd,g4,g3],aS (U xw) 5 _ rfl (by decide) (by decide) (by decide) (by decide)⟩
       | 6,Z =>
        obtain rfl:=ya Z
        have g5:f 5 = H left:=E.c 5 (yd Q 5 rfl)
        have g3:f 3 = .bool true:=E.c 3 (yd Q 3 rfl)
        clear Q E X
        rw [if_pos (by simp only [g3]; rfl)]
        unfold Oper.wp
        go_simp
        exact ⟨upd f 6 (.bool true),by simp [upd,g5,g3],aS (U xw) 6 _ rfl (by decide) (by decide) (by decide) (by decide)⟩
       | 7,Z =>
        obtain rfl:=ya Z
        have g3:f 3 = .bool true:=E.c 3 (yd Q 3 rfl)
        have g6:f 6 = .bool true:=E.c 6 (yd Q 6 rfl)
        clear Q E X
        rw [if_pos (by rfl)];unfold Oper.wp;go_simp
        exact ⟨upd f 7 (.bool true),by simp [upd,g3,g6],aS (U xw) 7 _ rfl (by decide) (by decide) (by decide) (by decide)⟩
       | 8,Z =>
        obtain rfl:=ya Z
        have g7:f 7 = .bool true:=E.c 7 (yd Q 7 rfl)
        clear Q E X
        rw [if_pos (by rfl)];unfold Oper.wp;go_simp
        exact ⟨upd f 8 (.bool true),by simp [upd,g7],aS (U xw) 8 _ rfl (by decide) (by decide) (by decide) (by decide)⟩
       | 9,Z =>
        obtain rfl:=ya Z
        have g8:f 8 = .bool true:=E.c 8 (yd Q 8 rfl)
        clear Q E X
        rw [if_pos (by simp only [g8]; rfl)]
        unfold Oper.wp
        go_simp
        exact ⟨upd f 9 (.slice al tg.length cal),by simp [upd,g8],aS (U xw) 9 _ rfl (by decide) (by decide) (by decide) (by decide)⟩
       | 10,Z =>
        obtain rfl:=ya Z
        have g9:f 9 = .slice al tg.length cal:=E.c 9 (yd Q 9 rfl)
        have g8:f 8 = .bool true:=E.c 8 (yd Q 8 rfl)
        clear Q E X
        rw [if_pos (by simp only [g8]; rfl)]
        unfold Oper.wp
        go_simp
        exact ⟨upd f 10 (H tg.length),by simp [upd,g9,g8],aS (U xw) 10 _ rfl (by decide) (by decide) (by decide) (by decide)⟩
       | 11,Z =>
        obtain rfl:=ya Z
        have qy:f 10 = H tg.length:=E.c 10 (yd Q 10 rfl)
        have g8:f 8 = .bool true:=E.c 8 (yd Q 8 rfl)
        clear Q E X
        rw [if_pos (by simp only [g8]; rfl)]
        unfold Oper.wp
        go_simp
        exact ⟨upd f 11 (.bool false),by simp [upd,qy,g8],aS (U xw) 11 _ rfl (by decide) (by decide) (by decide) (by decide)⟩
       | 12,Z =>
        obtain rfl:=ya Z
        have vI:f 11 = .bool false:=E.c 11 (yd Q 11 rfl)
        have g8:f 8 = .bool true:=E.c 8 (yd Q 8 rfl)
        clear Q E X
        rw [if_pos (by simp only [g8]; rfl)]
        unfold Oper.wp
        go_simp
        exact ⟨upd f 12 (.bool false),by simp [upd,vI,g8],aS (U xw) 12 _ rfl (by decide) (by decide) (by decide) (by decide)⟩
       | 13,Z =>
        obtain rfl:=ya Z
        have ub:f 12 = .bool false:=E.c 12 (yd Q 12 rfl)
        clear Q E X
        rw [if_pos (by simp only [ub]; rfl)]
        unfold Oper.wp
        go_simp
        exact ⟨upd f 13 (.slice (some (J V'.heap.size 0)) 0 0),by simp [upd,ub],r9_13 (U xw) xu (fun _=>trivial)⟩
       | 14,Z =>
        obtain rfl:=ya Z
        have ub:f 12 = .bool false:=E.c 12 (yd Q 12 rfl)
        clear Q E X
        rw [if_pos (by simp only [ub]; rfl)]
        unfold Oper.wp
        go_simp
        exact ⟨upd f 14 (.slice al tg.length cal),by simp [upd,ub],aS (U xw) 14 _ rfl (by decide) (by decide) (by decide) (by decide)⟩
       | 15,Z =>
        obtain rfl:=ya Z
        have ub:f 12 = .bool false:=E.c 12 (yd Q 12 rfl)
        have km:f 14 = .slice al tg.length cal:=E.c 14 (yd Q 14 rfl)
        have k13:x[13]? = some true:=Q ⟨13,.data⟩ (by simp) rfl
        have n18:x[18]? = some false:=by
         rcases bH hx (show 18 < 23 by omega) with h | h
         ·exact h
         ·have:=ye X 18 rfl h 15 rfl
          rw [xu] at this; cases this
        have HO13:=Y (E.m13 k13 xu)
        have vf:Hid (∀ ad,al = some ad→∀ j u,(tg.flatMap Od.vs)[j]? = some u→V'.cell? (ad.add j) = some u):=fun ad had=>by
         have h:=zh (U HRL) (U xh) hb
         rw [had] at h
         exact rd_src h
        clear Q E X
        rw [if_pos (by simp only [ub]; rfl)]
        rcases U HSV with h | ⟨ad,nn,cc,h⟩
        ·simp only [Value.slice.injEq] at h
         have hL:tg = []:=List.length_eq_zero_iff.1 h.2.1
         refine eA (.tmp 116) (.tmp 117) 26 rfl V.heap.size 49 i0 6 Tryz.underlying26 uE (f 13) 0 [] rfl (U HO13) (by show f 14 = _; rw [km,h.1,h.2.1,h.2.2]) ?_
         refine ⟨upd f 15 (f 13),rfl,r9_15 (U xw) k13 xu n18 (fun _=>trivial) (by rw [hL]; exact U HO13) (yP _ _)⟩
        ·simp only [Value.slice.injEq] at h
         refine wp_append_own V' (.tmp 116) (.tmp 117) 26 rfl V.heap.size 49 i0 _ 6 56 Tryz.underlying26 uE uF uK uV rfl (by decide) (f 13) 0 [] rfl (U HO13) ad tg.length cal (tg.flatMap Od.vs) (by show f 14 = _; rw [km,h.1]) (by rw [zK Od.len]) (U vf ad h.1) (bi tg) (by unfold maxLen; omega) (by omega) (U xh).size ?_
         intro v' w' xN uc _
         refine ⟨upd f 15 v',rfl,r9_15 (U xw) k13 xu n18 (fun _=>trivial) ?_ uc⟩
         show w'.ownsRow _ _ _ _ tg.length _
         simpa using xN
       | 16,Z =>
        obtain rfl:=ya Z
        have ub:f 12 = .bool false:=E.c 12 (yd Q 12 rfl)
        obtain ⟨q0,q1,q2,q3,q4,q5⟩:=yA (U HC9)
        clear Q E X
        rw [if_pos (by simp only [ub]; rfl)]
        unfold Oper.wp
        go_simp
        exact ⟨upd f 16 (.agg (yu next s tt left li L).toArray),by simp [upd,ub],aS (U xw) 16 _ rfl (by decide) (by decide) (by decide) (by decide)⟩
       | 17,Z =>
        obtain rfl:=ya Z
        have ub:f 12 = .bool false:=E.c 12 (yd Q 12 rfl)
        have g16:f 16 = .agg (yu next s tt left li L).toArray:=E.c 16 (yd Q 16 rfl)
        have n18:x[18]? = some false:=by
         rcases bH hx (show 18 < 23 by omega) with h | h
         ·exact h
         ·have:=ye X 18 rfl h 17 rfl
          rw [xu] at this; cases this
        clear Q E X
        rw [if_pos (by simp only [ub]; rfl)]
        unfold Oper.wp
        go_simp
        exact ⟨upd f 17 (.slice (some (J V'.heap.size 0)) 1 1),by simp [upd,ub,g16],r9_17 (U xw) xu n18 (fun _=>trivial)⟩
       | 18,Z =>
        obtain rfl:=ya Z
        have ub:f 12 = .bool false:=E.c 12 (yd Q 12 rfl)
        have k15:x[15]? = some true:=Q ⟨15,.data⟩ (by simp) rfl
        obtain ⟨b,g17,xU,xS,uw,-⟩:=E.m17 (yd Q 17 rfl) xu
        have HO15:=Y (E.m15 k15 xu)
        have vf:Hid (∀ j u,(Od.vs ⟨next,s,tt,left,li,L⟩)[j]? = some u→V'.cell? (((J b 0):Addr).add j) = some u):=fun j u hu=>by
         have:=uw j u hu
         rw [Addr.add_mid]; exact this
        clear Q E X uw
        rw [if_pos (by simp only [ub]; rfl)]
        refine wp_append_own V' (.tmp 118) (.tmp 120) 26 rfl V.heap.size 49 i0 _ 6 56 Tryz.underlying26 uE uF uK uV rfl (by decide) (f 15) tg.length (tg.flatMap Od.vs) rfl (U HO15) (J b 0) 1 1 (Od.vs ⟨next,s,tt,left,li,L⟩) (by show f 17 = _; exact g17) rfl (U vf) (one_od _) (by unfold maxLen; omega) (by omega) (U xh).size ?_
        intro v' w' xN uc _
        refine ⟨upd f 18 v',rfl,r9_18 (U xw) k15 xu (fun _=>trivial) ?_ uc⟩
        show w'.ownsRow _ _ _ _ (tg ++ [(⟨next,s,tt,left,li,L⟩:Od)]).length _
        rw [yN,List.flatMap_append]
        simpa using xN
       | 19,Z =>
        obtain rfl:=ya Z
        have ub:f 12 = .bool false:=E.c 12 (yd Q 12 rfl)
        have HO18:=Y (E.m18 (yd Q 18 rfl))
        clear Q E X
        rw [if_pos (by simp only [ub]; rfl)]
        unfold Oper.wp
        go_simp
        refine (U HLV2 V' (f 18) (zR (U HO18) (by simp; omega))).mono ?_
        rintro e w4 ⟨rfl,hg4⟩
        exact ⟨upd f 19 (H eD),by simp [upd,ub],aS (r9_grow (U xw) (gr_below' hg4 (fun g hg=>by cases hg) hb)) 19 _ rfl (by decide) (by decide) (by decide) (by decide)⟩
       | 20,Z =>
        obtain rfl:=ya Z
        have g19:f 19 = H eD:=E.c 19 (yd Q 19 rfl)
        have ub:f 12 = .bool false:=E.c 12 (yd Q 12 rfl)
        clear Q E X
        rw [if_pos (by simp only [ub]; rfl)]
        unfold Oper.wp
        go_simp
        exact ⟨upd f 20 (.bool (decide (8 < eD))),by simp [upd,g19,ub],aS (U xw) 20 _ rfl (by decide) (by decide) (by decide) (by decide)⟩
       | 21,Z =>
        obtain rfl:=ya Z
        have ub:f 12 = .bool false:=E.c 12 (yd Q 12 rfl)
        have g20:f 20 = .bool (decide (8 < eD)):=E.c 20 (yd Q 20 rfl)
        have g8:f 8 = .bool true:=E.c 8 (yd Q 8 rfl)
        clear Q E X
        rw [if_pos (by simp only [g8]; rfl)]
        unfold Oper.wp
        go_simp
        exact ⟨upd f 21 (.bool (decide (8 < eD))),by simp [upd,ub,g20,g8],aS (U xw) 21 _ rfl (by decide) (by decide) (by decide) (by decide)⟩
       | 22,Z =>
        obtain rfl:=ya Z
        have g8:f 8 = .bool true:=E.c 8 (yd Q 8 rfl)
        have g21:f 21 = .bool (decide (8 < eD)):=E.c 21 (yd Q 21 rfl)
        clear Q E X
        rw [if_pos (by rfl)];unfold Oper.wp;go_simp
        exact ⟨upd f 22 (.bool (decide (8 < eD))),by simp [upd,g8,g21],aS (U xw) 22 _ rfl (by decide) (by decide) (by decide) (by decide)⟩
       | n + 23,Z=>simp at Z
    ·have HQ0:Hid (res = 0):=(U HRS).trans (by rw [if_pos brs,if_neg oV])
     have hlf':decide (0 < left) = false:=by simpa using oV
     go_wp2_with fail
     refine zi (RG V (fun f=>{ tmps:=#[.agg #[H next,.slice a l.length A],.agg (yv kk s ty li F ii pr L).toArray,I w.heap.size 0,I (w.heap.size + 1) 0,H 0,u5,u6,.slice al tg.length cal,I c8 0,.slice ae ts.length ce,u10,u11,u12,u13,u14,u15,u16,u17,u18,u19,u20,u21,u22,u23,u24,u25,u26,u27,u28,u29,u30,u31,u32,u33,u34,u35,u36,u37,u38,u39,u40,u41,u42,u43,u44,u45,u46,u47,u48,u49,u50,u51,u52,u53,u54,u55,u56,u57,u58,u59,u60,u61,u62,u63,u64,u65,u66,u67,u68,u69,u70,u71,u72,u73,u74,u75,u76,u77,u78,u79,u80,u81,u82,u83,u84,u85,u86,u87,u88,u89,u90,u91,u92,u93,u94,u95,u96,u97,u98,u99,u100,u101,u102,f 0,f 1,f 2,f 3,f 4,f 5,f 6,f 7,f 8,f 9,f 10,f 11,f 12,f 13,f 14,f 15,f 16,f 17,f 18,f 19,f 20,f 21,f 22],defers:=[] }) 99 (DV [I (w.heap.size + 1) 2,H ty,.bool true,.bool true,I c8 3,H left,.bool false,.bool false,.bool false,M,M,M,M,M,M,M,M,M,M,M,M,M,.bool false])) (by kernel_rfl) ?_ ?_ ?_
     ·exact ⟨fun _=>M,rfl,⟨rfl,rfl,rfl,Nat.le_refl _,fun _ _=>rfl⟩,fun j K=>by rw [yG] at K; split at K <;> simp at K⟩
     ·rintro x xj V' ⟨f,rfl,xh,hD⟩ hx xL
      have xn:=zW xL hx (acyc _ (by kernel_rfl))
      have e22:f 22 = .bool false:=hD 22 (xn 22 (by simp)) _ rfl
      have xP:=Y (eE (U xr) xh)
      simp only [e22]
      clear hD xn e22 xL hx xh
      go_wp2_with fail
      go_ret
      exact ⟨zv (U HQ0).symm,U xP⟩
     ·rintro x xj V' i' o' ⟨f,rfl,xh,hD⟩ X hx Z xu Q
      clear X
      have xJ:=Y xh
      have HD:=Y hD
      have o2:V'.cell? (J (w.heap.size + 1) 2) = some (H ty):=zb (U HXV).2 xh hVS 2 _ rfl
      have c3:V'.cell? (J c8 3) = some (H left):=zb (U HC8) xh kQ 3 _ rfl
      clear HRS HQ0
      match i',Z with
      | 0,Z =>
       obtain rfl:=ya Z
       clear Q hD xh
       rw [if_pos (by rfl)];unfold Oper.wp;go_simp
       exact ⟨upd f 0 (I (w.heap.size + 1) 2),by simp [upd],zd (U xJ) (U HD) (by decide) (yf rfl)⟩
      | 1,Z =>
       obtain rfl:=ya Z
       have g0:=hD 0 (yd Q 0 rfl) _ rfl
       clear Q hD xh
       rw [if_pos (by rfl)];unfold Oper.wp;go_simp
       exact ⟨upd f 1 (H ty),by simp [upd,g0],zd (U xJ) (U HD) (by decide) (yf rfl)⟩
      | 2,Z =>
       obtain rfl:=ya Z
       have g1:=hD 1 (yd Q 1 rfl) _ rfl
       clear Q hD xh
       rw [if_pos (by rfl)];unfold Oper.wp;go_simp
       refine (cB ty _).mono ?_
       rintro e w3 ⟨rfl,hw3⟩
       rw [hw3,brs]
       exact ⟨upd f 2 (.bool true),by simp [upd,g1],zd (U xJ) (U HD) (by decide) (yf rfl)⟩
      | 3,Z =>
       obtain rfl:=ya Z
       have g2:=hD 2 (yd Q 2 rfl) _ rfl
       clear Q hD xh
       rw [if_pos (by rfl)];unfold Oper.wp;go_simp
       exact ⟨upd f 3 (.bool true),by simp [upd,g2],zd (U xJ) (U HD) (by decide) (yf rfl)⟩
      | 4,Z =>
       obtain rfl:=ya Z
       have g3:=hD 3 (yd Q 3 rfl) _ rfl
       clear Q hD xh
       rw [if_pos (by simp only [g3]; rfl)]
       unfold Oper.wp
       go_simp
       exact ⟨upd f 4 (I c8 3),by simp [upd,g3],zd (U xJ) (U HD) (by decide) (yf rfl)⟩
      | 5,Z =>
       obtain rfl:=ya Z
       have g3:=hD 3 (yd Q 3 rfl) _ rfl
       have g4:=hD 4 (yd Q 4 rfl) _ rfl
       clear Q hD xh
       rw [if_pos (by simp only [g3]; rfl)]
       unfold Oper.wp
       go_simp
       exact ⟨upd f 5 (H left),by simp [upd,g3,g4],zd (U xJ) (U HD) (by decide) (yf rfl)⟩
      | 6,Z =>
       obtain rfl:=ya Z
       have g3:=hD 3 (yd Q 3 rfl) _ rfl
       have g5:=hD 5 (yd Q 5 rfl) _ rfl
       clear Q hD xh
       rw [if_pos (by simp only [g3]; rfl)]
       unfold Oper.wp
       go_simp
       exact ⟨upd f 6 (.bool false),by simp [upd,g3,g5],zd (U xJ) (U HD) (by decide) (yf rfl)⟩
      | 7,Z =>
       obtain rfl:=ya Z
       have g3:=hD 3 (yd Q 3 rfl) _ rfl
       have g6:=hD 6 (yd Q 6 rfl) _ rfl
       clear Q hD xh
       rw [if_pos (by rfl)];unfold Oper.wp;go_simp
       exact ⟨upd f 7 (.bool false),by simp [upd,g3,g6],zd (U xJ) (U HD) (by decide) (yf rfl)⟩
      | 8,Z =>
       obtain rfl:=ya Z
       have g7:=hD 7 (yd Q 7 rfl) _ rfl
       clear Q hD xh
       rw [if_pos (by rfl)];unfold Oper.wp;go_simp
       exact ⟨upd f 8 (.bool false),by simp [upd,g7],zd (U xJ) (U HD) (by decide) (yf rfl)⟩
      | 9,Z | 10,Z | 11,Z | 12,Z | 21,Z =>
       obtain rfl:=ya Z
       have g8:=hD 8 (yd Q 8 rfl) _ rfl
       clear Q hD xh
       rw [if_neg (by simp only [g8]; exact fun h=>Bool.noConfusion (show (false:Bool) = true from h))]
       exact ⟨upd f _ M,rfl,zd (U xJ) (U HD) (by decide) (yf rfl)⟩
      | 13,Z | 14,Z | 15,Z | 16,Z | 17,Z | 18,Z | 19,Z | 20,Z =>
       obtain rfl:=ya Z
       have ub:=hD 12 (yd Q 12 rfl) _ rfl
       clear Q hD xh
       rw [if_neg (by simp only [ub]; exact fun h=>Bool.noConfusion (show (false:Bool) = true from h))]
       exact ⟨upd f _ M,rfl,zd (U xJ) (U HD) (by decide) (yf rfl)⟩
      | 22,Z =>
       obtain rfl:=ya Z
       have g8:=hD 8 (yd Q 8 rfl) _ rfl
       have g21:=hD 21 (yd Q 21 rfl) _ rfl
       clear Q hD xh
       rw [if_pos (by rfl)];unfold Oper.wp;go_simp
       exact ⟨upd f 22 (.bool false),by simp [upd,g8,g21],zd (U xJ) (U HD) (by decide) (yf rfl)⟩
      | n + 23,Z=>simp at Z
   clear xq
   have HTN:Hid (¬ (ty = 5∧0 < ts.length)→¬ (ty = 4∧0 < left)→next = 1000000→res = 13):=fun g5 g4 gn=>by
    have:=U ja
    rw [if_neg g5,if_neg g4,if_pos gn] at this
    exact this
   by_cases h5:ty = 5
   ·by_cases hts:0 < ts.length
    ·have kM:Hid (res = 11):=(U ja).trans (if_pos ⟨h5,hts⟩)
     subst h5
     have hts':(0:Int) < ts.length:=by omega
     clear hts vu HTN
     go_wp2_with fail
     go_ret
     exact ⟨zv (U kM).symm,U xr⟩
    ·subst h5
     have g5:¬ ((5:Int) = 5∧0 < ts.length):=fun h=>hts h.2
     have g4:¬ ((5:Int) = 4∧0 < left):=fun h=>by omega
     have hts':¬ (0:Int) < ts.length:=by omega
     have htz:(ts.length:Int) = 0:=by omega
     by_cases vY:next = 1000000
     ·have kM:=Y (U HTN g5 g4 vY)
      subst vY
      clear vu HTN g5 g4
      go_wp2_with fail
      go_ret
      exact ⟨zv (U kM).symm,U xr⟩
     have bn:(next == 1000000) = false:=by rw [xb]; exact vY
     have jg:=Y (U vu g5 g4 vY)
     clear vu HTN g5 g4 vY
     go_wp2_with fail
     exact U jg _ _ _ _ _ _ _ _ _ _ _ _ _ _ _ _ _ _ _ _ _ _ _ _ _ _ _ _ _ _ _ _ _ _ _ _ _ _ _ _ _ _ _ _ _ _ _ _ _ _ _ _ _ _ _ _ _ _ _ _ _ _ _ _ _ _ _ _ _ _ _ _ _ _ _ _ _ _ _ _ _ _ _ _ _ _ _ _ _ _ _ _ _ _ _
   ·have b5:(ty == 5) = false:=by rw [xb]; exact h5
    have g5:¬ (ty = 5∧0 < ts.length):=fun h=>h5 h.1
    by_cases h4:ty = 4
    ·by_cases oV:0 < left
     ·have kM:Hid (res = 12):=(U ja).trans (by rw [if_neg g5,if_pos ⟨h4,oV⟩])
      subst h4
      clear vu HTN h5 g5 b5
      go_wp2_with fail
      go_ret
      exact ⟨zv (U kM).symm,U xr⟩
     ·subst h4
      have g4:¬ ((4:Int) = 4∧0 < left):=fun h=>oV h.2
      by_cases vY:next = 1000000
      ·have kM:=Y (U HTN g5 g4 vY)
       subst vY
       clear vu HTN g5 g4
       go_wp2_with fail
       go_ret
       exact ⟨zv (U kM).symm,U xr⟩
      have bn:(next == 1000000) = false:=by rw [xb]; exact vY
      have jg:=Y (U vu g5 g4 vY)
      clear vu HTN g5 g4 vY
      go_wp2_with fail
      exact U jg _ _ _ _ _ _ _ _ _ _ _ _ _ _ _ _ _ _ _ _ _ _ _ _ _ _ _ _ _ _ _ _ _ _ _ _ _ _ _ _ _ _ _ _ _ _ _ _ _ _ _ _ _ _ _ _ _ _ _ _ _ _ _ _ _ _ _ _ _ _ _ _ _ _ _ _ _ _ _ _ _ _ _ _ _ _ _ _ _ _ _ _ _ _ _
    ·have b4:(ty == 4) = false:=by rw [xb]; exact h4
     have g4:¬ (ty = 4∧0 < left):=fun h=>h4 h.1
     by_cases vY:next = 1000000
     ·have kM:=Y (U HTN g5 g4 vY)
      subst vY
      clear vu HTN g5 g4
      go_wp2_with fail
      go_ret
      exact ⟨zv (U kM).symm,U xr⟩
     have bn:(next == 1000000) = false:=by rw [xb]; exact vY
     have jg:=Y (U vu g5 g4 vY)
     clear vu HTN g5 g4 vY
     go_wp2_with fail
     exact U jg _ _ _ _ _ _ _ _ _ _ _ _ _ _ _ _ _ _ _ _ _ _ _ _ _ _ _ _ _ _ _ _ _ _ _ _ _ _ _ _ _ _ _ _ _ _ _ _ _ _ _ _ _ _ _ _ _ _ _ _ _ _ _ _ _ _ _ _ _ _ _ _ _ _ _ _ _ _ _ _ _ _ _ _ _ _ _ _ _ _ _ _ _ _ _
  ·rintro x xj V i' o' ⟨f,rfl,E⟩ X hx Z xu Q
   have xw:=Y E
   have xh:=E.bel
   have xI:=U ut
   clear xq
   match i',Z with
   | 0,Z =>
    obtain rfl:=ya Z
    clear Q E X
    rw [if_pos (by rfl)];unfold Oper.wp;go_simp
    exact ⟨upd f 0 (I w.heap.size 1),by simp [upd],bO (U xw) 0 _ (by decide) (by decide) (by decide) (rfl)⟩
   | 1,Z =>
    obtain rfl:=ya Z
    have g0:f 0 = I w.heap.size 1:=E.e 0 (yd Q 0 rfl)
    have z1:V.cell? (J w.heap.size 1) = some (.slice a l.length A):=zb (U HX).1 xh (by omega) 1 _ rfl
    clear Q E X
    rw [if_pos (by rfl)];unfold Oper.wp;go_simp
    exact ⟨upd f 1 (.slice a l.length A),by simp [upd,g0],bO (U xw) 1 _ (by decide) (by decide) (by decide) (rfl)⟩
   | 2,Z =>
    obtain rfl:=ya Z
    have z0:V.cell? (J w.heap.size 0) = some (H next):=zb (U HX).1 xh (by omega) 0 _ rfl
    have z1:V.cell? (J w.heap.size 1) = some (.slice a l.length A):=zb (U HX).1 xh (by omega) 1 _ rfl
    clear Q E X
    rw [if_pos (by rfl)];unfold Oper.wp;go_simp
    exact ⟨upd f 2 (.agg #[H next,.slice a l.length A]),by simp [upd],bO (U xw) 2 _ (by decide) (by decide) (by decide) (rfl)⟩
   | 3,Z =>
    obtain rfl:=ya Z
    obtain ⟨z0,z1,z2,z3,z4,z5,z6,z7⟩:=yB (zb (U HX).2 xh (by omega))
    clear Q E X
    rw [if_pos (by rfl)];unfold Oper.wp;go_simp
    exact ⟨upd f 3 (.agg (yv kk s ty li F ii pr L).toArray),by simp [upd],bO (U xw) 3 _ (by decide) (by decide) (by decide) (rfl)⟩
   | 4,Z =>
    obtain rfl:=ya Z
    have g2:f 2 = .agg #[H next,.slice a l.length A]:=E.e 2 (yd Q 2 rfl)
    have g3:f 3 = .agg (yv kk s ty li F ii pr L).toArray:=E.e 3 (yd Q 3 rfl)
    clear Q E X
    rw [if_pos (by rfl)];unfold Oper.wp;go_simp
    refine (U HTKR _).mono ?_
    rintro e w4 ⟨rfl,xy⟩
    exact ⟨upd f 4 (.agg (yu next s tt F li L).toArray),by simp [upd,g2,g3],bO (rn_grow (U xw) xy) 4 _ (by decide) (by decide) (by decide) rfl⟩
   | 5,Z =>
    obtain rfl:=ya Z
    have g1:f 1 = .slice a l.length A:=E.e 1 (yd Q 1 rfl)
    have g4:f 4 = .agg (yu next s tt F li L).toArray:=E.e 4 (yd Q 4 rfl)
    have jc:∀ j,(j = 6 ∨ j = 7 ∨ j = 9 ∨ j = 11 ∨ j = 13)→x[j]? ≠ some true:=fun j K e=>by
     have h6:x[6]? ≠ some true:=fun e6=>by have:=ye X 6 rfl e6 5 rfl; rw [xu] at this; cases this
     rcases K with rfl | rfl | rfl | rfl | rfl
     ·exact h6 e
     ·exact h6 (ye X 7 rfl e 6 rfl)
     ·exact h6 (ye X 9 rfl e 6 rfl)
     ·exact h6 (ye X 11 rfl e 6 rfl)
     ·exact h6 (ye X 13 rfl e 6 rfl)
    have ou:=Y jc
    have af:=Y (zh (zh (U HR) (U xD) hb) xh hb)
    clear Q E X jc
    rw [if_pos (by rfl)];unfold Oper.wp;go_simp
    refine (U kb V (U af)).mono ?_
    rintro e w4 ⟨lv,ve,rfl,hl4,he4,xy⟩
    refine ⟨upd f 5 (.tuple #[lv,.agg (yu next s tt left li L).toArray,ve]),by simp [upd,g1,g4],rn_5 (U xw) xy ?_ ?_ (U ou) ?_⟩
    ·rcases hl4 with ⟨rfl,hL⟩ | h
     ·simp only at hL; rw [hL]; exact ⟨zh (U af) xy hb,U vC⟩
     ·exact ⟨zR h (by have h20:tg.length ≤ 20:=(U HGF).1.len; show tg.length ≤ _; omega),oRow_sl h⟩
    ·rcases he4.2 with ⟨G,D⟩ | ⟨g,pq,xp,G,_⟩
     ·exact ⟨none,0,by rw [G]; simp only at D; rw [D]⟩
     ·exact ⟨_,_,G⟩
    ·intro c8 pz kQ xA e
     rcases hl4 with ⟨rfl,hL⟩ | h
     ·simp only at hL
      obtain ⟨b,xU,xS⟩:=rd_block (U HR) (by rw [← hL]; exact xA)
      rw [xU] at e
      simp only [Option.some.injEq] at e
      have:=(U xD).size
      omega
     ·have:=(h.lt c8 e).1
      omega
   | 6,Z =>
    obtain rfl:=ya Z
    clear Q E X
    rw [if_pos (by rfl)];unfold Oper.wp;go_simp
    exact ⟨upd f 6 (f 5),by simp [upd],bO (U xw) 6 _ (by decide) (by decide) (by decide) (rfl)⟩
   | 7,Z =>
    obtain rfl:=ya Z
    obtain ⟨lv,ev,e5,-⟩:=E.m5 (ye X 6 rfl (yd Q 6 rfl) 5 rfl)
    have g6:f 6 = f 5:=E.e 6 (yd Q 6 rfl)
    rw [e5] at g6
    clear Q E X
    rw [if_pos (by rfl)];unfold Oper.wp;go_simp
    exact ⟨upd f 7 lv,by simp [upd,g6,e5],bO (U xw) 7 _ (by decide) (by decide) (by decide) ⟨lv,ev,e5,rfl⟩⟩
   | 8,Z =>
    obtain rfl:=ya Z
    obtain ⟨lv,ev,e5,-⟩:=E.m5 (ye X 6 rfl (yd Q 6 rfl) 5 rfl)
    have g6:f 6 = f 5:=E.e 6 (yd Q 6 rfl)
    rw [e5] at g6
    clear Q E X
    rw [if_pos (by rfl)];unfold Oper.wp;go_simp
    exact ⟨upd f 8 (.agg (yu next s tt left li L).toArray),by simp [upd,g6,e5],bO (U xw) 8 _ (by decide) (by decide) (by decide) rfl⟩
   | 9,Z =>
    obtain rfl:=ya Z
    obtain ⟨lv,ev,e5,-⟩:=E.m5 (ye X 6 rfl (yd Q 6 rfl) 5 rfl)
    have g6:f 6 = f 5:=E.e 6 (yd Q 6 rfl)
    rw [e5] at g6
    clear Q E X
    rw [if_pos (by rfl)];unfold Oper.wp;go_simp
    exact ⟨upd f 9 ev,by simp [upd,g6,e5],bO (U xw) 9 _ (by decide) (by decide) (by decide) ⟨lv,ev,e5,rfl⟩⟩
   | 10,Z =>
    obtain rfl:=ya Z
    have pR:x[12]? ≠ some true:=fun e=>by have:=ye X 12 rfl e 10 rfl; rw [xu] at this; cases this
    clear Q E X
    rw [if_pos (by rfl)];unfold Oper.wp;go_simp
    exact ⟨upd f 10 (I V.heap.size 0),by simp [upd],rn_10 (U xw) pR (zt V (yu 0 0 0 0 0 ⟨#[]⟩) _)⟩
   | 11,Z =>
    obtain rfl:=ya Z
    obtain ⟨lv,ev,e5,e7⟩:=E.e 7 (yd Q 7 rfl)
    clear Q E X
    rw [if_pos (by rfl)];unfold Oper.wp;go_simp
    exact ⟨upd f 11 lv,by simp [upd,e7,e5],bO (U xw) 11 _ (by decide) (by decide) (by decide) ⟨lv,ev,e5,rfl⟩⟩
   | 12,Z =>
    obtain rfl:=ya Z
    have k5:x[5]? = some true:=Q ⟨5,.phase⟩ (by simp) rfl
    have k10:x[10]? = some true:=Q ⟨10,.data⟩ (by simp) rfl
    have g8:f 8 = .agg (yu next s tt left li L).toArray:=E.e 8 (yd Q 8 rfl)
    obtain ⟨c8,qy,pz,kQ,xE,-⟩:=E.m10 k10
    obtain ⟨y0,z0,q0⟩:=zc xE (j:=0) (by omega)
    obtain ⟨y1,z1,q1⟩:=zc xE (j:=1) (by omega)
    obtain ⟨y2,z2,q2⟩:=zc xE (j:=2) (by omega)
    obtain ⟨y3,z3,q3⟩:=zc xE (j:=3) (by omega)
    obtain ⟨y4,z4,q4⟩:=zc xE (j:=4) (by omega)
    obtain ⟨y5,z5,q5⟩:=zc xE (j:=5) (by omega)
    clear Q E X xE
    rw [if_pos (by rfl)];unfold Oper.wp;go_simp
    exact ⟨f,by simp [g8,qy],rn_12 (U xw) k5 k10 qy rfl xu⟩
   | 13,Z =>
    obtain rfl:=ya Z
    obtain ⟨lv,ev,e5,e9⟩:=E.e 9 (yd Q 9 rfl)
    clear Q E X
    rw [if_pos (by rfl)];unfold Oper.wp;go_simp
    exact ⟨upd f 13 ev,by simp [upd,e9,e5],bO (U xw) 13 _ (by decide) (by decide) (by decide) ⟨lv,ev,e5,rfl⟩⟩
   | n + 14,Z=>simp at Z
 clear xq
 cases bl:betB li 0 1
 have hl:lifW ⟨kk,s,ty,li,F,ii,pr,L⟩ = true:=by simp [lifW,bl]
 have HK:Hid (newR next l ⟨kk,s,ty,li,F,ii,pr,L⟩ = 5):=by show _ = _; simp [newR,bs,bt,hl]
 clear hl
 rotate_left
 by_cases G:li = 1
 subst G
 cases brs:aC ty
 have hl:lifW ⟨kk,s,ty,1,F,ii,pr,L⟩ = true:=by simp [lifW,brs]
 have HK:Hid (newR next l ⟨kk,s,ty,1,F,ii,pr,L⟩ = 5):=by show _ = _; simp [newR,bs,bt,hl]
 clear hl
 rotate_left
 have hl:lifW ⟨kk,s,ty,1,F,ii,pr,L⟩ = false:=by simp [lifW,brs,bl]
 by_cases D:ty = 2
 subst D
 by_cases hz:fbit pr = 0
 have hp:prcB ⟨kk,s,2,1,F,ii,pr,L⟩ = true:=by simp [prcB,hz]
 have dz:decide (fbit pr = 0) = true:=by simpa using hz
 clear hz
 cases bq:betB F 1 1000000
 have HK:Hid (newR next l ⟨kk,s,2,1,F,ii,pr,L⟩ = 7):=by show _ = _; simp [newR,bs,bt,hl,hp,bq]
 clear hl hp
 rotate_left
 cases bg:tagB L
 have HK:Hid (newR next l ⟨kk,s,2,1,F,ii,pr,L⟩ = 8):=by show _ = _; simp [newR,bs,bt,hl,hp,bq,bg]
 clear hl hp
 rotate_left
 have vu:=Y (U HT hl hp bq bg)
 clear HT hl hp
 rotate_left
 have hp:prcB ⟨kk,s,2,1,F,ii,pr,L⟩ = false:=by simp [prcB,hz]
 have dz:decide (fbit pr = 0) = false:=by simpa using hz
 clear hz
 have HK:Hid (newR next l ⟨kk,s,2,1,F,ii,pr,L⟩ = 6):=by show _ = _; simp [newR,bs,bt,hl,hp]
 clear hl hp
 rotate_left
 have b2:(ty == 2) = false:=by rw [xb]; exact D
 have b2n:(ty != 2) = true:=by simpa using D
 cases bk:tkOk pr
 have hp:prcB ⟨kk,s,ty,1,F,ii,pr,L⟩ = false:=by simp [prcB,D,bk]
 have HK:Hid (newR next l ⟨kk,s,ty,1,F,ii,pr,L⟩ = 6):=by show _ = _; simp [newR,bs,bt,hl,hp]
 clear hl hp D
 rotate_left
 have hp:prcB ⟨kk,s,ty,1,F,ii,pr,L⟩ = true:=by simp [prcB,D,bk]
 clear D
 cases bq:betB F 1 1000000
 have HK:Hid (newR next l ⟨kk,s,ty,1,F,ii,pr,L⟩ = 7):=by show _ = _; simp [newR,bs,bt,hl,hp,bq]
 clear hl hp
 rotate_left
 cases bg:tagB L
 have HK:Hid (newR next l ⟨kk,s,ty,1,F,ii,pr,L⟩ = 8):=by show _ = _; simp [newR,bs,bt,hl,hp,bq,bg]
 clear hl hp
 rotate_left
 have vu:=Y (U HT hl hp bq bg)
 clear HT hl hp
 rotate_left
 have hl:lifW ⟨kk,s,ty,li,F,ii,pr,L⟩ = false:=by simp [lifW,bl,G]
 have b1:(li == 1) = false:=by rw [xb]; exact G
 clear G
 by_cases D:ty = 2
 subst D
 by_cases hz:fbit pr = 0
 have hp:prcB ⟨kk,s,2,li,F,ii,pr,L⟩ = true:=by simp [prcB,hz]
 have dz:decide (fbit pr = 0) = true:=by simpa using hz
 clear hz
 cases bq:betB F 1 1000000
 have HK:Hid (newR next l ⟨kk,s,2,li,F,ii,pr,L⟩ = 7):=by show _ = _; simp [newR,bs,bt,hl,hp,bq]
 clear hl hp
 rotate_left
 cases bg:tagB L
 have HK:Hid (newR next l ⟨kk,s,2,li,F,ii,pr,L⟩ = 8):=by show _ = _; simp [newR,bs,bt,hl,hp,bq,bg]
 clear hl hp
 rotate_left
 have vu:=Y (U HT hl hp bq bg)
 clear HT hl hp
 rotate_left
 have hp:prcB ⟨kk,s,2,li,F,ii,pr,L⟩ = false:=by simp [prcB,hz]
 have dz:decide (fbit pr = 0) = false:=by simpa using hz
 clear hz
 have HK:Hid (newR next l ⟨kk,s,2,li,F,ii,pr,L⟩ = 6):=by show _ = _; simp [newR,bs,bt,hl,hp]
 clear hl hp
 rotate_left
 have b2:(ty == 2) = false:=by rw [xb]; exact D
 have b2n:(ty != 2) = true:=by simpa using D
 cases bk:tkOk pr
 have hp:prcB ⟨kk,s,ty,li,F,ii,pr,L⟩ = false:=by simp [prcB,D,bk]
 have HK:Hid (newR next l ⟨kk,s,ty,li,F,ii,pr,L⟩ = 6):=by show _ = _; simp [newR,bs,bt,hl,hp]
 clear hl hp D
 rotate_left
 have hp:prcB ⟨kk,s,ty,li,F,ii,pr,L⟩ = true:=by simp [prcB,D,bk]
 clear D
 cases bq:betB F 1 1000000
 have HK:Hid (newR next l ⟨kk,s,ty,li,F,ii,pr,L⟩ = 7):=by show _ = _; simp [newR,bs,bt,hl,hp,bq]
 clear hl hp
 rotate_left
 cases bg:tagB L
 have HK:Hid (newR next l ⟨kk,s,ty,li,F,ii,pr,L⟩ = 8):=by show _ = _; simp [newR,bs,bt,hl,hp,bq,bg]
 clear hl hp
 rotate_left
 have vu:=Y (U HT hl hp bq bg)
 clear HT hl hp
 all_goals
  go_wp2_with (first | (go_at_call 137; refine (U oP _).mono ?_; rintro e w' ⟨rfl,ul⟩; rw [ul]; clear ul w') | (go_at_call 80; refine (dm _ _ _ _).mono ?_; rintro e w' ⟨rfl,ul⟩; rw [ul]; clear ul w') | (go_at_call 91; refine (cB _ _).mono ?_; rintro e w' ⟨rfl,ul⟩; rw [ul]; clear ul w') | (go_at_call 159; refine (U HZR _).mono ?_; rintro e w' ⟨rfl,ul⟩; rw [ul]; clear ul w') | (go_at_call 130; refine (U qO _).mono ?_; rintro e w' ⟨rfl,ul⟩; rw [ul]; clear ul w'))
  first
  | exact U vu _ _ _ _ _ _ _ _ _ _ _ _ _ _ _ _ _ _ _ _ _ _ _ _ _ _ _ _ _ _ _ _ _ _ _ _ _ _ _ _ _ _ _ _ _ _ _ _ _ _ _ _ _ _ _ _ _ _ _ _ _ _ _
  | (go_ret; exact ⟨zv (U HK).symm,U xD⟩)
end Go.Proofs.YtbakanofkghmiaaGreat
