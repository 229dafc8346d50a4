/-
  Why a new order is refused, by the model: proved by walking the function.
-/
import Derived.Test.YtbakanofkghmiaaGreatWj38
set_option linter.unusedVariables false
set_option maxHeartbeats 6400000
set_option maxRecDepth 100000
namespace Go.Proofs.YtbakanofkghmiaaGreat
open Go.RowKit
def EN (S:Nat) (vb bv cv ta tw u5:Value):Nat→Value→Prop
 | 0,v=>v = I S 1
 | 1,v=>v = vb
 | 2,v=>v = bv
 | 3,v=>v = cv
 | 4,v=>v = ta
 | 6,v=>v = u5
 | 7,v=>∃ lv ev,u5 = .tuple #[lv,tw,ev]∧v = lv
 | 8,v=>v = tw
 | 9,v=>∃ lv ev,u5 = .tuple #[lv,tw,ev]∧v = ev
 | 11,v=>∃ lv ev,u5 = .tuple #[lv,tw,ev]∧v = lv
 | 13,v=>∃ lv ev,u5 = .tuple #[lv,tw,ev]∧v = ev
 | _,_=>True
theorem en_any {S:Nat} {vb bv cv ta tw u u':Value} {j:Nat} {v:Value} (h:EN S vb bv cv ta tw u j v) (h6:j ≠ 6) (h7:j ≠ 7) (h9:j ≠ 9) (uX:j ≠ 11) (jy:j ≠ 13):EN S vb bv cv ta tw u' j v:=by
 match j with
 | 0 | 1 | 2 | 3 | 4 | 8=>exact h
 | 5 | 10 | 12=>trivial
 | 6=>omega
 | 7=>omega
 | 9=>omega
 | 11=>omega
 | 13=>omega
 | j + 14=>trivial
def LVok (W:World) (lv:Value) (tg:List Od):Prop:=RdR Od.vs 6 W lv tg∧SlOk lv
def Dst (tg:List Od) (u v:Value):Prop:=∀ lv tw ev c8,u = .tuple #[lv,tw,ev]→v = I c8 0→tg ≠ []→lv.ownBlock ≠ some c8
structure RN (S:Nat) (vb bv cv ta tw:Value) (twl:List Value) (tg:List Od) (n2:Nat) (base:World) (x:List Bool) (f:Nat→Value) (W:World):Prop where
 bel:Below base.heap.size base W
 e:∀ j,x[j]? = some true→EN S vb bv cv ta tw (f 5) j (f j)
 m5:x[5]? = some true→∃ lv ev,f 5 = .tuple #[lv,tw,ev]∧LVok W lv tg∧∃ a c,ev = .slice a n2 c
 m10:x[10]? = some true→∃ c8,f 10 = .pointer (some ⟨c8,0,none⟩)∧base.heap.size ≤ c8∧c8 < W.heap.size∧W.there c8 0 6∧(x[12]? = some true→W.rangeAt c8 0 twl)
 ap:x[5]? = some true→x[10]? = some true→Dst tg (f 5) (f 10)
def RNA (hb:(Nat→Value)→Act) (S:Nat) (vb bv cv ta tw:Value) (py:List Value) (tg:List Od) (n2:Nat) (base:World) (x:List Bool) (xm:Act) (W:World):Prop:=∃ f,xm = hb f∧RN S vb bv cv ta tw py tg n2 base x f W
theorem tup3 {a b c a' b' c':Value} (h:Value.tuple #[a,b,c] = .tuple #[a',b',c']):a = a'∧b = b'∧c = c':=by
 have:=congrArg Array.toList (Value.tuple.inj h)
 simpa using this
theorem rd_block {W:World} {v:Value} {tg:List Od} (h:RdR Od.vs 6 W v tg) (xB:tg ≠ []):∃ b,v.ownBlock = some b∧b < W.heap.size:=by
 obtain ⟨a,c,rfl,_,hc⟩:=h
 obtain ⟨b,off,rfl,F,_⟩:=hc xB
 exact ⟨b,rfl,F⟩
theorem rd_setC {W:World} {v:Value} {tg:List Od} {c8 o:Nat} {vs:List Value} (h:RdR Od.vs 6 W v tg) (xB:tg ≠ []→v.ownBlock ≠ some c8):RdR Od.vs 6 (W.setCells c8 o vs) v tg:=by
 obtain ⟨a,c,rfl,G,hc⟩:=h
 refine ⟨a,c,rfl,G,fun hl=>?_⟩
 obtain ⟨b,off,rfl,F,hr⟩:=hc hl
 have hbc:c8 ≠ b:=fun e=>xB hl (by rw [e]; rfl)
 exact ⟨b,off,rfl,by rw [cx]; exact F,fun i c hi=>ed (hr i c hi) hbc⟩
section
variable {S:Nat} {vb bv cv ta tw:Value} {py:List Value} {tg:List Od} {n2:Nat} {base W W':World} {x:List Bool} {f:Nat→Value}
theorem rn_grow (h:RN S vb bv cv ta tw py tg n2 base x f W) (F:yn W W'):RN S vb bv cv ta tw py tg n2 base x f W' :=
 ⟨h.bel.trans (F.mono h.bel.size),h.e,fun h5=>by
  obtain ⟨lv,ev,G,E,h3⟩:=h.m5 h5
  exact ⟨lv,ev,G,⟨zn E.1 F qt,E.2⟩,h3⟩,fun vQ=>by
  obtain ⟨c8,G,E,h3,h4,h5⟩:=h.m10 vQ
  exact ⟨c8,G,E,yJ h3 F.size,zg h4 F h3,fun qF=>zb (h5 qF) F h3⟩,h.ap⟩
theorem bZ (h:RN S vb bv cv ta tw py tg n2 base x f W) (i:Nat) (u:Value) (h5:i ≠ 5) (vQ:i ≠ 10) (qF:i ≠ 12) (hu:EN S vb bv cv ta tw (f 5) i u):RN S vb bv cv ta tw py tg n2 base (x.set i true) (upd f i u) W:=by
 refine ⟨h.bel,fun j K=>?_,?_,?_,?_⟩
 ·rw [zq f u (show 5 ≠ i from fun e=>h5 e.symm)]
  by_cases hji:j = i
  ·subst hji; rw [zp]; exact hu
  ·rw [zq _ _ hji]
   rw [gq (fun e=>hji e.symm)] at K
   exact h.e j K
 ·rw [gq h5,zq f u (show 5 ≠ i from fun e=>h5 e.symm)]; exact h.m5
 ·rw [gq vQ,gq qF,zq f u (show 10 ≠ i from fun e=>vQ e.symm)]; exact h.m10
 ·rw [gq h5,gq vQ,zq f u (show 5 ≠ i from fun e=>h5 e.symm),zq f u (show 10 ≠ i from fun e=>vQ e.symm)]; exact h.ap
theorem rn_5 (h:RN S vb bv cv ta tw py tg n2 base x f W) (F:yn W W') {lv ev:Value} (hl:LVok W' lv tg) (he:∃ a c,ev = .slice a n2 c) (jh:∀ j,(j = 6 ∨ j = 7 ∨ j = 9 ∨ j = 11 ∨ j = 13)→x[j]? ≠ some true)
  (hap:∀ c8,base.heap.size ≤ c8→c8 < W.heap.size→tg ≠ []→lv.ownBlock ≠ some c8):RN S vb bv cv ta tw py tg n2 base (x.set 5 true) (upd f 5 (.tuple #[lv,tw,ev])) W':=by
 have hg:=rn_grow h F
 refine ⟨hg.bel,fun j K=>?_,fun _=>⟨lv,ev,zp _ _ _,hl,he⟩,?_,?_⟩
 ·by_cases hji:j = 5
  ·subst hji; trivial
  ·rw [gq (fun e=>hji e.symm)] at K
   rw [zq _ _ hji]
   refine en_any (hg.e j K) ?_ ?_ ?_ ?_ ?_ <;> intro e <;> exact jh j (by omega) K
 ·rw [gq (by omega),gq (by omega),zq _ _ (by omega)]; exact hg.m10
 ·intro _ vQ
  rw [gq (by omega)] at vQ
  rw [zp,zq _ _ (by omega)]
  obtain ⟨c8,G,E,h3,_⟩:=h.m10 vQ
  intro lv' tw' ev' c8' e1 e2 xB
  rw [G] at e2
  simp only [Value.pointer.injEq,Option.some.injEq,Addr.mk.injEq,and_true] at e2
  obtain rfl:c8 = c8':=e2
  have e1:lv = lv':=(tup3 e1).1
  rw [← e1]
  exact hap c8 E h3 xB
theorem rn_10 (h:RN S vb bv cv ta tw py tg n2 base x f W) (qF:x[12]? ≠ some true) {o:Obj} (ht:(W.alloc o).there W.heap.size 0 6):RN S vb bv cv ta tw py tg n2 base (x.set 10 true) (upd f 10 (I W.heap.size 0)) (W.alloc o):=by
 have hg:=rn_grow h ((Below.refl W.heap.size W).alloc qt o)
 refine ⟨hg.bel,fun j K=>?_,?_,fun _=>⟨W.heap.size,zp _ _ _,h.bel.size,by rw [zh]; omega,ht,fun e=>absurd (by rwa [gq (by omega)] at e) qF⟩,?_⟩
 ·rw [zq _ _ (by omega)]
  by_cases hji:j = 10
  ·subst hji; trivial
  ·rw [gq (fun e=>hji e.symm)] at K
   rw [zq _ _ hji]; exact hg.e j K
 ·rw [gq (by omega),zq _ _ (by omega)]; exact hg.m5
 ·intro h5 _
  rw [gq (by omega)] at h5
  rw [zp,zq _ _ (by omega)]
  obtain ⟨lv,ev,G,E,_⟩:=h.m5 h5
  intro lv' tw' ev' c8' e1 e2 xB e3
  rw [G] at e1
  simp only [Value.pointer.injEq,Option.some.injEq,Addr.mk.injEq,and_true] at e2
  have e1:lv = lv':=(tup3 e1).1
  obtain ⟨b,xW,xY⟩:=rd_block E.1 xB
  rw [← e1,xW] at e3
  simp only [Option.some.injEq] at e3
  omega
theorem rn_12 (h:RN S vb bv cv ta tw py tg n2 base x f W) (h5:x[5]? = some true) (vQ:x[10]? = some true) {c8:Nat} (hc:f 10 = I c8 0) (hl:py.length = 6) (hx:x[12]? = some false):RN S vb bv cv ta tw py tg n2 base (x.set 12 true) f (W.setCells c8 0 py):=by
 obtain ⟨c',G,E,h3,h4,_⟩:=h.m10 vQ
 rw [hc] at G
 simp only [Value.pointer.injEq,Option.some.injEq,Addr.mk.injEq,and_true] at G
 subst G
 obtain ⟨lv,ev,e1,e2,e3⟩:=h.m5 h5
 have hd:=h.ap h5 vQ lv tw ev c8 e1 hc
 refine ⟨zo _ E _ _ _ h.bel,fun j K=>?_,fun _=>⟨lv,ev,e1,⟨rd_setC e2.1 hd,e2.2⟩,e3⟩,fun _=>⟨c8,hc,E,by rw [cx]; exact h3,xb h4 _ _ _,fun _=>yX W c8 0 _ (fun j K=>h4 j (by omega))⟩,?_⟩
 ·by_cases hji:j = 12
  ·subst hji; trivial
  ·rw [gq (fun e=>hji e.symm)] at K; exact h.e j K
 ·intro _ _; exact h.ap h5 vQ
end
def DV (vs:List Value) (p:Prop) (W:World) (j:Nat) (v:Value):Prop:=∀ u,vs[j]? = some u→v = u
structure R9 (C:Nat→Value→Prop) (B0:World) (tg:List Od) (t:Od) (x:List Bool) (f:Nat→Value) (W:World):Prop where
 bel:Below B0.heap.size B0 W
 c:∀ j,x[j]? = some true→C j (f j)
 m13:x[13]? = some true→x[15]? = some false→ORow W B0.heap.size (f 13) []
 m15:x[15]? = some true→x[18]? = some false→ORow W B0.heap.size (f 15) tg
 m17:x[17]? = some true→x[18]? = some false→∃ b,f 17 = .slice (some ⟨b,0,none⟩) 1 1∧b < W.heap.size∧B0.heap.size ≤ b∧W.rangeAt b 0 t.vs∧(x[13]? = some true→x[15]? = some false→(f 13).ownBlock ≠ some b)
 m18:x[18]? = some true→ORow W B0.heap.size (f 18) (tg ++ [t])
def R9A (hb:(Nat→Value)→Act) (C:Nat→Value→Prop) (B0:World) (tg:List Od) (t:Od) (x:List Bool) (xm:Act) (W:World):Prop:=∃ f,xm = hb f∧R9 C B0 tg t x f W
section
variable {C:Nat→Value→Prop} {B0 W W':World} {tg:List Od} {t:Od} {x:List Bool} {f:Nat→Value}
theorem r9_grow (h:R9 C B0 tg t x f W) (F:yn W W'):R9 C B0 tg t x f W' :=
 ⟨h.bel.trans (F.mono h.bel.size),h.c,fun a b=>zm (h.m13 a b) F,fun a b=>zm (h.m15 a b) F,fun a b=>by
  obtain ⟨b',G,E,h3,h4,h5⟩:=h.m17 a b
  exact ⟨b',G,yJ E F.size,h3,zb h4 F E,h5⟩,fun a=>zm (h.m18 a) F⟩
theorem bd (h:R9 C B0 tg t x f W) (i:Nat) (v:Value) (hv:C i v) (jy:i ≠ 13) (vx:i ≠ 15) (kD:i ≠ 17) (kh:i ≠ 18):R9 C B0 tg t (x.set i true) (upd f i v) W:=by
 refine ⟨h.bel,zA h.c hv,?_,?_,?_,?_⟩ <;> simp only [gq jy,gq vx,gq kD,gq kh,zq f v jy.symm,zq f v vx.symm,zq f v kD.symm,zq f v kh.symm]
 ·exact h.m13
 ·exact h.m15
 ·exact h.m17
 ·exact h.m18
theorem r9_13 (h:R9 C B0 tg t x f W) (jy:x[13]? = some false) (hc:∀ v,C 13 v):R9 C B0 tg t (x.set 13 true) (upd f 13 (.slice (some (J W.heap.size 0)) 0 0)) (W.alloc (eF #[] 49)):=by
 have hg:=r9_grow h ((Below.refl W.heap.size W).alloc qt (eF #[] 49))
 refine ⟨hg.bel,zA hg.c (hc _),?_,?_,?_,?_⟩
 ·intro _ _; rw [zp]; exact World.ownsRow_made W #[] 0 h.bel.size (by decide) rfl
 ·rw [gq (by decide),gq (by decide),zq _ _ (by decide)]; exact hg.m15
 ·intro kD kh
  rw [gq (by decide)] at kD kh
  obtain ⟨b,G,E,h3,h4,h5⟩:=hg.m17 kD kh
  obtain ⟨b',e1,e2,_⟩:=h.m17 kD kh
  rw [G] at e1
  simp only [Value.slice.injEq,Option.some.injEq,Addr.mk.injEq,and_true] at e1
  subst e1
  refine ⟨b,by rw [zq _ _ (by decide)]; exact G,E,h3,h4,fun _ _ e=>?_⟩
  rw [zp] at e
  simp [Value.ownBlock] at e
  omega
 ·rw [gq (by decide),zq _ _ (by decide)]; exact hg.m18
theorem r9_15 (h:R9 C B0 tg t x f W) (jy:x[13]? = some true) (vx:x[15]? = some false) (kh:x[18]? = some false) (hc:∀ v,C 15 v) {v':Value} (Z:ORow W' B0.heap.size v' tg) (hg:W.grownBy W' (f 13).ownBlock):R9 C B0 tg t (x.set 15 true) (upd f 15 v') W':=by
 refine ⟨h.bel.grown hg h.bel.size (fun k hk=>((h.m13 jy vx).lt k hk).1),zA h.c (hc _),?_,?_,?_,?_⟩
 ·intro _ e; rw [gqs vx] at e; cases e
 ·intro _ _; rw [zp]; exact Z
 ·intro kD _
  rw [gq (by decide)] at kD
  obtain ⟨b,G,E,h3,h4,h5⟩:=h.m17 kD kh
  refine ⟨b,by rw [zq _ _ (by decide)]; exact G,yJ E hg.size,h3,zt h4 hg E (fun e=>h5 jy vx e.symm),fun _ e=>?_⟩
  rw [gqs vx] at e; cases e
 ·intro e; rw [gq (by decide),kh] at e; cases e
theorem r9_17 (h:R9 C B0 tg t x f W) (kD:x[17]? = some false) (kh:x[18]? = some false) (hc:∀ v,C 17 v):R9 C B0 tg t (x.set 17 true) (upd f 17 (.slice (some (J W.heap.size 0)) 1 1)) (W.alloc (Obj.cells t.vs.toArray 49)):=by
 have hg:=r9_grow h ((Below.refl W.heap.size W).alloc qt (Obj.cells t.vs.toArray 49))
 refine ⟨hg.bel,zA hg.c (hc _),?_,?_,?_,?_⟩
 ·rw [gq (by decide),gq (by decide),zq _ _ (by decide)]; exact hg.m13
 ·rw [gq (by decide),gq (by decide),zq _ _ (by decide)]; exact hg.m15
 ·intro _ _
  refine ⟨W.heap.size,zp _ _ _,by rw [zh]; omega,h.bel.size,zi W t.vs _,fun jy vx e=>?_⟩
  rw [gq (by decide)] at jy vx
  rw [zq _ _ (by decide)] at e
  have:=((h.m13 jy vx).lt _ e).2
  omega
 ·rw [gq (by decide),zq _ _ (by decide)]; exact hg.m18
theorem r9_18 (h:R9 C B0 tg t x f W) (vx:x[15]? = some true) (kh:x[18]? = some false) (hc:∀ v,C 18 v) {v':Value} (Z:ORow W' B0.heap.size v' (tg ++ [t])) (hg:W.grownBy W' (f 15).ownBlock):R9 C B0 tg t (x.set 18 true) (upd f 18 v') W':=by
 refine ⟨h.bel.grown hg h.bel.size (fun k hk=>((h.m15 vx kh).lt k hk).1),zA h.c (hc _),?_,?_,?_,?_⟩
 ·intro _ e; rw [gq (by decide)] at e; rw [e] at vx; cases vx
 ·intro _ e; rw [gqs kh] at e; cases e
 ·intro _ e; rw [gqs kh] at e; cases e
 ·intro _; rw [zp]; exact Z
end
def C9 (S c8:Nat) (ty left:Int) (lv:Value) (n1:Nat) (ta:Value) (N:Int):Nat→Value→Prop
 | 0,v=>v = I (S + 1) 2
 | 1,v=>v = H ty
 | 2,v=>v = .bool true
 | 3,v=>v = .bool true
 | 4,v=>v = I c8 3
 | 5,v=>v = H left
 | 6,v=>v = .bool true
 | 7,v=>v = .bool true
 | 8,v=>v = .bool true
 | 9,v=>v = lv
 | 10,v=>v = H n1
 | 11,v=>v = .bool false
 | 12,v=>v = .bool false
 | 14,v=>v = lv
 | 16,v=>v = ta
 | 19,v=>v = H N
 | 20,v=>v = .bool (decide (8 < N))
 | 21,v=>v = .bool (decide (8 < N))
 | 22,v=>v = .bool (decide (8 < N))
 | _,_=>True
theorem l04New_any (next:Int) (vb:Value) (l:List Od) (c:Cm) (w:World) (hr:RdR Od.vs 6 w vb l) (hs:SlOk vb) (hg:GoodL l) (uD:∀ x ∈ l,x.side = 1 ∨ x.side = 2) (ht:c.g.size ≤ maxLen) :
  Calls Tryz.prog 133 #[.agg #[H next,vb],cmV c] w fun e w'=>e = .returned (H (newR next l c))∧yn w w':=by
 have HR:=Y hr
 have HG:=Y hg
 have vP:=Y hs
 have HSD:=Y uD
 have uP:=Y (fun W=>l03Tag_any c.g W ht)
 have HZR:=Y (fun W=>l04Zero_any c.p W)
 have HTK:=Y (fun W=>l01Ticks_any c.p W)
 obtain ⟨a,A,rfl,xE,hc⟩:=hr
 obtain ⟨kk,s,ty,li,O,ii,pr,L⟩:=c
 unfold cmV
 simp only at uP HZR HTK ⊢
 clear hc hg hs uD xE ht
 have xA:=zh w (eF #[H next,.slice a l.length A] 28)
 have ua:((w.alloc (eF #[H next,.slice a l.length A] 28)).alloc (eF (yw kk s ty li O ii pr L).toArray 43)).heap.size = w.heap.size + 1 + 1:=by rw [zh,xA]
 have r1:=zi w [H next,.slice a l.length A] 28
 have r2:=zi (w.alloc (eF #[H next,.slice a l.length A] 28)) (yw kk s ty li O ii pr L) 43
 rw [xA] at r2
 have qw:Below (w.heap.size + 1) (w.alloc (eF #[H next,.slice a l.length A] 28)) ((w.alloc (eF #[H next,.slice a l.length A] 28)).alloc (eF (yw kk s ty li O ii pr L).toArray 43)):=(Below.refl _ _).alloc (by rw [xA]; omega) _
 have xD:Hid (yn w ((w.alloc (eF #[H next,.slice a l.length A] 28)).alloc (eF (yw kk s ty li O ii pr L).toArray 43))):=(eD _ _).alloc (by rw [xA]; omega) _
 have HX:Hid (_∧_):=⟨zb r1 qw (by omega),r2⟩
 have uw:Hid (w.heap.size + 1 < ((w.alloc (eF #[H next,.slice a l.length A] 28)).alloc (eF (yw kk s ty li O ii pr L).toArray 43)).heap.size):=by show _ < _; omega
 clear xA ua r1 r2 qw
 go_enter Tryz.func133,Tryz.ntmps133
 refine eH fun hj xu=>?_
 go_wp2_with fail
 refine U xu _ _ ?_
 clear xu
 generalize ((w.alloc (eF #[H next,.slice a l.length A] 28)).alloc (eF (yw kk s ty li O ii pr L).toArray 43)) = X2 at xD HX uw ⊢
 have HX:Hid (X2.rangeAt w.heap.size 0 [H next,.slice a l.length A]∧X2.rangeAt (w.heap.size + 1) 0 (yw kk s ty li O ii pr L)):=U HX
 have o1:X2.cell? (J (w.heap.size + 1) 1) = some (H s):=(U HX).2 1 _ rfl
 have o2:X2.cell? (J (w.heap.size + 1) 2) = some (H ty):=(U HX).2 2 _ rfl
 have o3:X2.cell? (J (w.heap.size + 1) 3) = some (H li):=(U HX).2 3 _ rfl
 have o4:X2.cell? (J (w.heap.size + 1) 4) = some (H O):=(U HX).2 4 _ rfl
 have o6:X2.cell? (J (w.heap.size + 1) 6) = some (yj pr):=(U HX).2 6 _ rfl
 have o7:X2.cell? (J (w.heap.size + 1) 7) = some (yk L):=(U HX).2 7 _ rfl
 refine eH fun hj xu=>?_
 go_wp2_with (first | (go_at_call 137; refine (U HTK _).mono ?_; rintro e w' ⟨rfl,ul⟩; rw [ul]; clear ul w') | (go_at_call 80; refine (dw _ _ _ _).mono ?_; rintro e w' ⟨rfl,ul⟩; rw [ul]; clear ul w') | (go_at_call 91; refine (cR _ _).mono ?_; rintro e w' ⟨rfl,ul⟩; rw [ul]; clear ul w') | (go_at_call 159; refine (U HZR _).mono ?_; rintro e w' ⟨rfl,ul⟩; rw [ul]; clear ul w') | (go_at_call 130; refine (U uP _).mono ?_; rintro e w' ⟨rfl,ul⟩; rw [ul]; clear ul w'))
 refine U xu _ _ ?_
 clear xu
 refine eH fun hj xu=>?_
 cases bs:betB s 1 2
 have HK:Hid (newR next l ⟨kk,s,ty,li,O,ii,pr,L⟩ = 3):=by show _ = _; simp [newR,bs]
 rotate_left
 cases bt:betB ty 1 5
 have HK:Hid (newR next l ⟨kk,s,ty,li,O,ii,pr,L⟩ = 4):=by show _ = _; simp [newR,bs,bt]
 rotate_left
 have HT:Hid (lifW ⟨kk,s,ty,li,O,ii,pr,L⟩ = false→prcB ⟨kk,s,ty,li,O,ii,pr,L⟩ = true→betB O 1 1000000 = true→tagB L = true→∀ (u5 u6 u10 u11 u12 u13 u14 u15 u16 u17 u18 u19 u20 u21 u22 u23 u24 u25 u26 u27 u28 u29 u30 u31 u32 u33 u34 u35 u36 u37 u38 u39 u40 u41 u42 u43 u44 u45 u46 u47 u48 u49 u50 u51 u52 u53 u54 u55 u56 u57 u58 u59 u60 u61 u62 u63 u64 u65 u66 u67 u68 u69 u70:Value),hj { tmps:=#[.agg #[H next,.slice a l.length A],.agg (yw kk s ty li O ii pr L).toArray,I w.heap.size 0,I (w.heap.size + 1) 0,H 0,u5,u6,M,M,M,u10,u11,u12,u13,u14,u15,u16,u17,u18,u19,u20,u21,u22,u23,u24,u25,u26,u27,u28,u29,u30,u31,u32,u33,u34,u35,u36,u37,u38,u39,u40,u41,u42,u43,u44,u45,u46,u47,u48,u49,u50,u51,u52,u53,u54,u55,u56,u57,u58,u59,u60,u61,u62,u63,u64,u65,u66,u67,u68,u69,u70,M,M,M,M,M,M,M,M,M,M,M,M,M,M,M,M,M,M,M,M,M,M,M,M,M,M,M,M,M,M,M,M,M,M,M,M,M,M,M,M,M,M,M,M,M,M,M,M,M,M,M,M,M,M,M],defers:=[] } X2):=by
  intro hlif hprc hqty htag u5 u6 u10 u11 u12 u13 u14 u15 u16 u17 u18 u19 u20 u21 u22 u23 u24 u25 u26 u27 u28 u29 u30 u31 u32 u33 u34 u35 u36 u37 u38 u39 u40 u41 u42 u43 u44 u45 u46 u47 u48 u49 u50 u51 u52 u53 u54 u55 u56 u57 u58 u59 u60 u61 u62 u63 u64 u65 u66 u67 u68 u69 u70
  refine U xu _ _ ?_
  clear xu o1 o2 o3 o4 o6 o7
  have hside:=side_of bs
  have hqq:1 ≤ O∧O ≤ 1000000:=by simpa [betB] using hqty
  have je:Hid (newR next l ⟨kk,s,ty,li,O,ii,pr,L⟩ = matS next ⟨kk,s,ty,li,O,ii,pr,L⟩ (matL ⟨kk,s,ty,li,O,ii,pr,L⟩ next 21 l O [])):=by
   show _ = _
   rw [matS_eq (U HG) (U HSD) bs hprc hqty]
   simp [newR,bs,bt,hlif,hprc,hqty,htag]
  have kg:=Y (fun W hW=>dr (.slice a l.length A) l ⟨kk,s,ty,li,O,ii,pr,L⟩ next W hW (U HG) hside hprc (by show 0 ≤ O; omega) hqq.2)
  have HGF:=Y (cz (c:=⟨kk,s,ty,li,O,ii,pr,L⟩) (id:=next) 21 l O [] (U HG) (by omega) hqq.2)
  simp only at kg HGF
  generalize matL ⟨kk,s,ty,li,O,ii,pr,L⟩ next 21 l O [] = hb at je kg HGF
  generalize newR next l ⟨kk,s,ty,li,O,ii,pr,L⟩ = res at je ⊢
  have HTKR:=Y (fun W=>dt next a l.length A ⟨kk,s,ty,li,O,ii,pr,L⟩ W)
  unfold cmV at HTKR
  simp only at HTKR
  have oe:Hid (matS next ⟨kk,s,ty,li,O,ii,pr,L⟩ hb = if ty = 5∧0 < hb.2.2.length then 11 else if ty = 4∧0 < hb.2.1 then 12 else if next = 1000000 then 13
   else if aO ty = true then (if 0 < hb.2.1 then (if hb.1.length = 20 then 13 else if 8 < nlev (hb.1 ++ [⟨next,s,tkS pr,hb.2.1,li,L⟩]) then 13 else 0) else 0) else 0):=rfl
  have je:Hid (res = _):=(U je).trans (U oe)
  clear oe hlif hprc hqty htag hqq
  generalize tkS pr = tt at kg HTKR je
  obtain ⟨tg,left,ts⟩:=hb
  simp only at kg je HGF
  refine eH fun hj xu=>?_
  refine zj (RNA (fun f=>{ tmps:=#[.agg #[H next,.slice a l.length A],.agg (yw kk s ty li O ii pr L).toArray,I w.heap.size 0,I (w.heap.size + 1) 0,H 0,u5,u6,f 11,f 10,f 13,u10,u11,u12,u13,u14,u15,u16,u17,u18,u19,u20,u21,u22,u23,u24,u25,u26,u27,u28,u29,u30,u31,u32,u33,u34,u35,u36,u37,u38,u39,u40,u41,u42,u43,u44,u45,u46,u47,u48,u49,u50,u51,u52,u53,u54,u55,u56,u57,u58,u59,u60,u61,u62,u63,u64,u65,u66,u67,u68,u69,u70,f 6,f 0,f 1,f 2,f 3,f 4,f 5,f 7,f 8,f 9,M,M,M,M,M,M,M,M,M,M,M,M,M,M,M,M,M,M,M,M,M,M,M,M,M,M,M,M,M,M,M,M,M,M,M,M,M,M,M,M,M,M,M,M,M],defers:=[] }) w.heap.size (.slice a l.length A) (.agg #[H next,.slice a l.length A]) (.agg (yw kk s ty li O ii pr L).toArray) (.agg (yv next s tt O li L).toArray) (.agg (yv next s tt left li L).toArray) (yv next s tt left li L) tg ts.length X2) (by kernel_rfl) ?_ ?_ ?_
  ·exact ⟨fun j=>M,rfl,⟨⟨rfl,rfl,rfl,Nat.le_refl _,fun _ _=>rfl⟩,fun j K=>by rw [yI] at K; split at K <;> simp at K,by simp,by simp,by simp⟩⟩
  ·rintro x xm V ⟨f,rfl,X⟩ hx xP
   have xp:=zR xP hx (by kernel_rfl)
   obtain ⟨lv,ev,e5,hlv,ae,ce,hev⟩:=X.m5 (xp 5 (by simp))
   obtain ⟨c8,oE,pP,kU,-,hcr⟩:=X.m10 (xp 10 (by simp))
   obtain ⟨lv',ev',e11,e11'⟩:=X.e 11 (xp 11 (by simp))
   obtain ⟨lv'',ev'',e13,e13'⟩:=X.e 13 (xp 13 (by simp))
   have HC8:=Y (hcr (xp 12 (by simp)))
   rw [e5] at e11 e13
   have q1:lv = lv':=(tup3 e11).1
   have q2:ev = ev'':=(tup3 e13).2.2
   rw [← q1] at e11'
   rw [← q2,hev] at e13'
   have jR:=Y hlv
   have xv:=Y ((U xD).trans (X.bel.mono (U xD).size))
   have HXV:Hid (V.rangeAt w.heap.size 0 [H next,.slice a l.length A]∧V.rangeAt (w.heap.size + 1) 0 (yw kk s ty li O ii pr L)):=⟨zb (U HX).1 X.bel (by have:=U uw; omega),zb (U HX).2 X.bel (U uw)⟩
   have hVS:w.heap.size + 1 < V.heap.size:=yJ (U uw) X.bel.size
   refine U xu _ _ ?_
   clear xu
   simp only [oE,e11',e13']
   generalize f 6 = u71,f 0 = u72,f 1 = u73,f 2 = u74,f 3 = u75,f 4 = u76,f 5 = u77,f 7 = u78,f 8 = u79,f 9 = u80
   clear X xp e5 oE e11 e13 e11' e13' q1 q2 hcr xP hx hlv hev kg HTKR HX xD uw
   obtain ⟨⟨al,cal,kl,hll,qK⟩,hsl⟩:=U jR
   have HRL:Hid (RdR Od.vs 6 V (.slice al tg.length cal) tg):=by rw [← kl]; exact (U jR).1
   have HSV:Hid (SlOk (.slice al tg.length cal)):=by rw [← kl]; exact hsl
   subst kl
   clear qK hsl hll jR
   have k0:V.cell? (J w.heap.size 0) = some (H next):=(U HXV).1 0 _ rfl
   have o2:V.cell? (J (w.heap.size + 1) 2) = some (H ty):=(U HXV).2 2 _ rfl
   have c3:V.cell? (J c8 3) = some (H left):=U HC8 3 _ rfl
   have h20:tg.length ≤ 20:=(U HGF).1.len
   refine eH fun hj xu=>?_
   have vD:Hid (¬ (ty = 5∧0 < ts.length)→¬ (ty = 4∧0 < left)→next ≠ 1000000→∀ (u5 u6 u10 u11 u12 u13 u14 u15 u16 u17 u18 u19 u20 u21 u22 u23 u24 u25 u26 u27 u28 u29 u30 u31 u32 u33 u34 u35 u36 u37 u38 u39 u40 u41 u42 u43 u44 u45 u46 u47 u48 u49 u50 u51 u52 u53 u54 u55 u56 u57 u58 u59 u60 u61 u62 u63 u64 u65 u66 u67 u68 u69 u70 u71 u72 u73 u74 u75 u76 u77 u78 u79 u80 u81 u82 u83 u84 u85 u86 u87 u88 u89 u90 u91 u92 u93 u94 u95 u96 u97 u98 u99 u100 u101 u102:Value),hj { tmps:=#[.agg #[H next,.slice a l.length A],.agg (yw kk s ty li O ii pr L).toArray,I w.heap.size 0,I (w.heap.size + 1) 0,H 0,u5,u6,.slice al tg.length cal,I c8 0,.slice ae ts.length ce,u10,u11,u12,u13,u14,u15,u16,u17,u18,u19,u20,u21,u22,u23,u24,u25,u26,u27,u28,u29,u30,u31,u32,u33,u34,u35,u36,u37,u38,u39,u40,u41,u42,u43,u44,u45,u46,u47,u48,u49,u50,u51,u52,u53,u54,u55,u56,u57,u58,u59,u60,u61,u62,u63,u64,u65,u66,u67,u68,u69,u70,u71,u72,u73,u74,u75,u76,u77,u78,u79,u80,u81,u82,u83,u84,u85,u86,u87,u88,u89,u90,u91,u92,u93,u94,u95,u96,u97,u98,u99,u100,u101,u102,M,M,M,M,M,M,M,M,M,M,M,M,M,M,M,M,M,M,M,M,M,M,M],defers:=[] } V):=by
    intro g5 g4 gn u5 u6 u10 u11 u12 u13 u14 u15 u16 u17 u18 u19 u20 u21 u22 u23 u24 u25 u26 u27 u28 u29 u30 u31 u32 u33 u34 u35 u36 u37 u38 u39 u40 u41 u42 u43 u44 u45 u46 u47 u48 u49 u50 u51 u52 u53 u54 u55 u56 u57 u58 u59 u60 u61 u62 u63 u64 u65 u66 u67 u68 u69 u70 u71 u72 u73 u74 u75 u76 u77 u78 u79 u80 u81 u82 u83 u84 u85 u86 u87 u88 u89 u90 u91 u92 u93 u94 u95 u96 u97 u98 u99 u100 u101 u102
    have HRS:Hid (res = if aO ty = true then (if 0 < left then (if tg.length = 20 then 13 else if 8 < nlev (tg ++ [⟨next,s,tt,left,li,L⟩]) then 13 else 0) else 0) else 0):=by
     have:=U je
     rw [if_neg g5,if_neg g4,if_neg gn] at this
     exact this
    refine U xu _ _ ?_
    clear xu g5 g4 gn je k0
    have HCEL:Hid (∀ w':World,V.grownBy w' none→w'.cell? (J (w.heap.size + 1) 2) = some (H ty)∧w'.cell? (J c8 3) = some (H left)):=fun w' h'=>⟨zt (U HXV).2 h' hVS (by simp) 2 _ rfl,zt (U HC8) h' kU (by simp) 3 _ rfl⟩
    cases brs:aO ty
    ·have HQ0:Hid (res = 0):=(U HRS).trans (by rw [brs]; rfl)
     go_wp2_with fail
     refine zj (RG V (fun f=>{ tmps:=#[.agg #[H next,.slice a l.length A],.agg (yw kk s ty li O ii pr L).toArray,I w.heap.size 0,I (w.heap.size + 1) 0,H 0,u5,u6,.slice al tg.length cal,I c8 0,.slice ae ts.length ce,u10,u11,u12,u13,u14,u15,u16,u17,u18,u19,u20,u21,u22,u23,u24,u25,u26,u27,u28,u29,u30,u31,u32,u33,u34,u35,u36,u37,u38,u39,u40,u41,u42,u43,u44,u45,u46,u47,u48,u49,u50,u51,u52,u53,u54,u55,u56,u57,u58,u59,u60,u61,u62,u63,u64,u65,u66,u67,u68,u69,u70,u71,u72,u73,u74,u75,u76,u77,u78,u79,u80,u81,u82,u83,u84,u85,u86,u87,u88,u89,u90,u91,u92,u93,u94,u95,u96,u97,u98,u99,u100,u101,u102,f 0,f 1,f 2,f 3,f 4,f 5,f 6,f 7,f 8,f 9,f 10,f 11,f 12,f 13,f 14,f 15,f 16,f 17,f 18,f 19,f 20,f 21,f 22],defers:=[] }) 99 (DV [I (w.heap.size + 1) 2,H ty,.bool false,.bool false,M,M,M,.bool false,.bool false,M,M,M,M,M,M,M,M,M,M,M,M,M,.bool false])) (by kernel_rfl) ?_ ?_ ?_
     ·exact ⟨fun _=>M,rfl,⟨rfl,rfl,rfl,Nat.le_refl _,fun _ _=>rfl⟩,fun j K=>by rw [yI] at K; split at K <;> simp at K⟩
     ·rintro x xm V' ⟨f,rfl,xk,hD⟩ hx xP
      have xp:=zV xP hx (acyc _ (by kernel_rfl))
      have e22:f 22 = .bool false:=hD 22 (xp 22 (by simp)) _ rfl
      have xV:=Y (D (U xv) xk)
      simp only [e22]
      clear hD xp e22 xP hx xk
      go_wp2_with fail
      go_ret
      exact ⟨zr (U HQ0).symm,U xV⟩
     ·rintro x xm V' i' o' ⟨f,rfl,xk,hD⟩ xo hx Z xy Q
      clear xo
      have xM:=Y xk
      have HD:=Y hD
      have o2:V'.cell? (J (w.heap.size + 1) 2) = some (H ty):=zb (U HXV).2 xk hVS 2 _ rfl
      have c3:V'.cell? (J c8 3) = some (H left):=zb (U HC8) xk kU 3 _ rfl
      clear HRS HQ0
      match i',Z with
      | 0,Z =>
       obtain rfl:=ya Z
       clear Q hD xk
       rw [if_pos (by rfl)];unfold Oper.wp;go_simp
       exact ⟨upd f 0 (I (w.heap.size + 1) 2),by simp [upd],zf (U xM) (U HD) (by decide) (yh rfl)⟩
      | 1,Z =>
       obtain rfl:=ya Z
       have g0:=hD 0 (ye Q 0 rfl) _ rfl
       clear Q hD xk
       rw [if_pos (by rfl)];unfold Oper.wp;go_simp
       exact ⟨upd f 1 (H ty),by simp [upd,g0],zf (U xM) (U HD) (by decide) (yh rfl)⟩
      | 2,Z =>
       obtain rfl:=ya Z
       have g1:=hD 1 (ye Q 1 rfl) _ rfl
       clear Q hD xk
       rw [if_pos (by rfl)];unfold Oper.wp;go_simp
       refine (cR ty _).mono ?_
       rintro e w3 ⟨rfl,hw3⟩
       rw [hw3,brs]
       exact ⟨upd f 2 (.bool false),by simp [upd,g1],zf (U xM) (U HD) (by decide) (yh rfl)⟩
      | 3,Z =>
       obtain rfl:=ya Z
       have g2:=hD 2 (ye Q 2 rfl) _ rfl
       clear Q hD xk
       rw [if_pos (by rfl)];unfold Oper.wp;go_simp
       exact ⟨upd f 3 (.bool false),by simp [upd,g2],zf (U xM) (U HD) (by decide) (yh rfl)⟩
      | 4,Z | 5,Z | 6,Z =>
       obtain rfl:=ya Z
       have g3:=hD 3 (ye Q 3 rfl) _ rfl
       clear Q hD xk
       rw [if_neg (by simp only [g3]; exact fun h=>Bool.noConfusion (show (false:Bool) = true from h))]
       exact ⟨upd f _ M,rfl,zf (U xM) (U HD) (by decide) (yh rfl)⟩
      | 7,Z =>
       obtain rfl:=ya Z
       have g3:=hD 3 (ye Q 3 rfl) _ rfl
       have g6:=hD 6 (ye Q 6 rfl) _ rfl
       clear Q hD xk
       rw [if_pos (by rfl)];unfold Oper.wp;go_simp
       exact ⟨upd f 7 (.bool false),by simp [upd,g3,g6],zf (U xM) (U HD) (by decide) (yh rfl)⟩
      | 8,Z =>
       obtain rfl:=ya Z
       have g7:=hD 7 (ye Q 7 rfl) _ rfl
       clear Q hD xk
       rw [if_pos (by rfl)];unfold Oper.wp;go_simp
       exact ⟨upd f 8 (.bool false),by simp [upd,g7],zf (U xM) (U HD) (by decide) (yh rfl)⟩
      | 9,Z | 10,Z | 11,Z | 12,Z | 21,Z =>
       obtain rfl:=ya Z
       have g8:=hD 8 (ye Q 8 rfl) _ rfl
       clear Q hD xk
       rw [if_neg (by simp only [g8]; exact fun h=>Bool.noConfusion (show (false:Bool) = true from h))]
       exact ⟨upd f _ M,rfl,zf (U xM) (U HD) (by decide) (yh rfl)⟩
      | 13,Z | 14,Z | 15,Z | 16,Z | 17,Z | 18,Z | 19,Z | 20,Z =>
       obtain rfl:=ya Z
       have xZ:=hD 12 (ye Q 12 rfl) _ rfl
       clear Q hD xk
       rw [if_neg (by simp only [xZ]; exact fun h=>Bool.noConfusion (show (false:Bool) = true from h))]
       exact ⟨upd f _ M,rfl,zf (U xM) (U HD) (by decide) (yh rfl)⟩
      | 22,Z =>
       obtain rfl:=ya Z
       have g8:=hD 8 (ye Q 8 rfl) _ rfl
       have g21:=hD 21 (ye Q 21 rfl) _ rfl
       clear Q hD xk
       rw [if_pos (by rfl)];unfold Oper.wp;go_simp
       exact ⟨upd f 22 (.bool false),by simp [upd,g8,g21],zf (U xM) (U HD) (by decide) (yh rfl)⟩
      | n + 23,Z=>simp at Z
    by_cases pu:0 < left
    ·by_cases kX:tg.length = 20
     ·have HQ0:Hid (res = 13):=(U HRS).trans (by rw [if_pos brs,if_pos pu,if_pos kX])
      have aJ:(tg.length:Int) = 20:=by omega
      have hb20:((tg.length:Int) == 20) = true:=by simpa using aJ
      have hlf':decide (0 < left) = true:=by simpa using pu
      clear kX aJ
      go_wp2_with fail
      refine zj (RG V (fun f=>{ tmps:=#[.agg #[H next,.slice a l.length A],.agg (yw kk s ty li O ii pr L).toArray,I w.heap.size 0,I (w.heap.size + 1) 0,H 0,u5,u6,.slice al tg.length cal,I c8 0,.slice ae ts.length ce,u10,u11,u12,u13,u14,u15,u16,u17,u18,u19,u20,u21,u22,u23,u24,u25,u26,u27,u28,u29,u30,u31,u32,u33,u34,u35,u36,u37,u38,u39,u40,u41,u42,u43,u44,u45,u46,u47,u48,u49,u50,u51,u52,u53,u54,u55,u56,u57,u58,u59,u60,u61,u62,u63,u64,u65,u66,u67,u68,u69,u70,u71,u72,u73,u74,u75,u76,u77,u78,u79,u80,u81,u82,u83,u84,u85,u86,u87,u88,u89,u90,u91,u92,u93,u94,u95,u96,u97,u98,u99,u100,u101,u102,f 0,f 1,f 2,f 3,f 4,f 5,f 6,f 7,f 8,f 9,f 10,f 11,f 12,f 13,f 14,f 15,f 16,f 17,f 18,f 19,f 20,f 21,f 22],defers:=[] }) 99 (DV [I (w.heap.size + 1) 2,H ty,.bool true,.bool true,I c8 3,H left,.bool true,.bool true,.bool true,.slice al tg.length cal,H tg.length,.bool true,.bool true,M,M,M,M,M,M,M,M,.bool true,.bool true])) (by kernel_rfl) ?_ ?_ ?_
      ·exact ⟨fun _=>M,rfl,⟨rfl,rfl,rfl,Nat.le_refl _,fun _ _=>rfl⟩,fun j K=>by rw [yI] at K; split at K <;> simp at K⟩
      ·rintro x xm V' ⟨f,rfl,xk,hD⟩ hx xP
       have xp:=zV xP hx (acyc _ (by kernel_rfl))
       have e22:f 22 = .bool true:=hD 22 (xp 22 (by simp)) _ rfl
       have xV:=Y (D (U xv) xk)
       simp only [e22]
       clear hD xp e22 xP hx xk
       go_wp2_with fail
       go_ret
       exact ⟨zr (U HQ0).symm,U xV⟩
      ·rintro x xm V' i' o' ⟨f,rfl,xk,hD⟩ xo hx Z xy Q
       clear xo
       have xM:=Y xk
       have HD:=Y hD
       have o2:V'.cell? (J (w.heap.size + 1) 2) = some (H ty):=zb (U HXV).2 xk hVS 2 _ rfl
       have c3:V'.cell? (J c8 3) = some (H left):=zb (U HC8) xk kU 3 _ rfl
       clear HRS HQ0
       match i',Z with
       | 0,Z =>
        obtain rfl:=ya Z
        clear Q hD xk
        rw [if_pos (by rfl)];unfold Oper.wp;go_simp
        exact ⟨upd f 0 (I (w.heap.size + 1) 2),by simp [upd],zf (U xM) (U HD) (by decide) (yh rfl)⟩
       | 1,Z =>
        obtain rfl:=ya Z
        have g0:=hD 0 (ye Q 0 rfl) _ rfl
        clear Q hD xk
        rw [if_pos (by rfl)];unfold Oper.wp;go_simp
        exact ⟨upd f 1 (H ty),by simp [upd,g0],zf (U xM) (U HD) (by decide) (yh rfl)⟩
       | 2,Z =>
        obtain rfl:=ya Z
        have g1:=hD 1 (ye Q 1 rfl) _ rfl
        clear Q hD xk
        rw [if_pos (by rfl)];unfold Oper.wp;go_simp
        refine (cR ty _).mono ?_
        rintro e w3 ⟨rfl,hw3⟩
        rw [hw3,brs]
        exact ⟨upd f 2 (.bool true),by simp [upd,g1],zf (U xM) (U HD) (by decide) (yh rfl)⟩
       | 3,Z =>
        obtain rfl:=ya Z
        have g2:=hD 2 (ye Q 2 rfl) _ rfl
        clear Q hD xk
        rw [if_pos (by rfl)];unfold Oper.wp;go_simp
        exact ⟨upd f 3 (.bool true),by simp [upd,g2],zf (U xM) (U HD) (by decide) (yh rfl)⟩
       | 4,Z =>
        obtain rfl:=ya Z
        have g3:=hD 3 (ye Q 3 rfl) _ rfl
        clear Q hD xk
        rw [if_pos (by simp only [g3]; rfl)]
        unfold Oper.wp
        go_simp
        exact ⟨upd f 4 (I c8 3),by simp [upd,g3],zf (U xM) (U HD) (by decide) (yh rfl)⟩
       | 5,Z =>
        obtain rfl:=ya Z
        have g3:=hD 3 (ye Q 3 rfl) _ rfl
        have g4:=hD 4 (ye Q 4 rfl) _ rfl
        clear Q hD xk
        rw [if_pos (by simp only [g3]; rfl)]
        unfold Oper.wp
        go_simp
        exact ⟨upd f 5 (H left),by simp [upd,g3,g4],zf (U xM) (U HD) (by decide) (yh rfl)⟩
       | 6,Z =>
        obtain rfl:=ya Z
        have g3:=hD 3 (ye Q 3 rfl) _ rfl
        have g5:=hD 5 (ye Q 5 rfl) _ rfl
        clear Q hD xk
        rw [if_pos (by simp only [g3]; rfl)]
        unfold Oper.wp
        go_simp
        exact ⟨upd f 6 (.bool true),by simp [upd,g3,g5],zf (U xM) (U HD) (by decide) (yh rfl)⟩
       | 7,Z =>
        obtain rfl:=ya Z
        have g3:=hD 3 (ye Q 3 rfl) _ rfl
        have g6:=hD 6 (ye Q 6 rfl) _ rfl
        clear Q hD xk
        rw [if_pos (by rfl)];unfold Oper.wp;go_simp
        exact ⟨upd f 7 (.bool true),by simp [upd,g3,g6],zf (U xM) (U HD) (by decide) (yh rfl)⟩
       | 8,Z =>
        obtain rfl:=ya Z
        have g7:=hD 7 (ye Q 7 rfl) _ rfl
        clear Q hD xk
        rw [if_pos (by rfl)];unfold Oper.wp;go_simp
        exact ⟨upd f 8 (.bool true),by simp [upd,g7],zf (U xM) (U HD) (by decide) (yh rfl)⟩
       | 9,Z =>
        obtain rfl:=ya Z
        have g8:=hD 8 (ye Q 8 rfl) _ rfl
        clear Q hD xk
        rw [if_pos (by simp only [g8]; rfl)]
        unfold Oper.wp
        go_simp
        exact ⟨upd f 9 (.slice al tg.length cal),by simp [upd,g8],zf (U xM) (U HD) (by decide) (yh rfl)⟩
       | 10,Z =>
        obtain rfl:=ya Z
        have g8:=hD 8 (ye Q 8 rfl) _ rfl
        have g9:=hD 9 (ye Q 9 rfl) _ rfl
        clear Q hD xk
        rw [if_pos (by simp only [g8]; rfl)]
        unfold Oper.wp
        go_simp
        exact ⟨upd f 10 (H tg.length),by simp [upd,g8,g9],zf (U xM) (U HD) (by decide) (yh rfl)⟩
       | 11,Z =>
        obtain rfl:=ya Z
        have g8:=hD 8 (ye Q 8 rfl) _ rfl
        have qR:=hD 10 (ye Q 10 rfl) _ rfl
        clear Q hD xk
        rw [if_pos (by simp only [g8]; rfl)]
        unfold Oper.wp
        go_simp
        exact ⟨upd f 11 (.bool true),by simp [upd,g8,qR],zf (U xM) (U HD) (by decide) (yh rfl)⟩
       | 12,Z =>
        obtain rfl:=ya Z
        have g8:=hD 8 (ye Q 8 rfl) _ rfl
        have vF:=hD 11 (ye Q 11 rfl) _ rfl
        clear Q hD xk
        rw [if_pos (by simp only [g8]; rfl)]
        unfold Oper.wp
        go_simp
        exact ⟨upd f 12 (.bool true),by simp [upd,g8,vF],zf (U xM) (U HD) (by decide) (yh rfl)⟩
       | 13,Z | 14,Z | 15,Z | 16,Z | 17,Z | 18,Z | 19,Z | 20,Z =>
        obtain rfl:=ya Z
        have xZ:=hD 12 (ye Q 12 rfl) _ rfl
        clear Q hD xk
        rw [if_neg (by simp only [xZ]; exact fun h=>Bool.noConfusion (show (false:Bool) = true from h))]
        exact ⟨upd f _ M,rfl,zf (U xM) (U HD) (by decide) (yh rfl)⟩
       | 21,Z =>
        obtain rfl:=ya Z
        have g8:=hD 8 (ye Q 8 rfl) _ rfl
        have xZ:=hD 12 (ye Q 12 rfl) _ rfl
        have g20:=hD 20 (ye Q 20 rfl) _ rfl
        clear Q hD xk
        rw [if_pos (by simp only [g8]; rfl)]
        unfold Oper.wp
        go_simp
        exact ⟨upd f 21 (.bool true),by simp [upd,g8,xZ,g20],zf (U xM) (U HD) (by decide) (yh rfl)⟩
       | 22,Z =>
        obtain rfl:=ya Z
        have g8:=hD 8 (ye Q 8 rfl) _ rfl
        have g21:=hD 21 (ye Q 21 rfl) _ rfl
        clear Q hD xk
        rw [if_pos (by rfl)];unfold Oper.wp;go_simp
        exact ⟨upd f 22 (.bool true),by simp [upd,g8,g21],zf (U xM) (U HD) (by decide) (yh rfl)⟩
       | n + 23,Z=>simp at Z
     ·have HQ0:Hid (res = if decide (8 < ((nlev (tg ++ [⟨next,s,tt,left,li,L⟩]):Nat):Int)) = true then 13 else 0):=(U HRS).trans (by
       rw [if_pos brs,if_pos pu,if_neg kX]
       by_cases h8:8 < nlev (tg ++ [⟨next,s,tt,left,li,L⟩])
       ·rw [if_pos h8,if_pos (by simp only [xh]; omega)]
       ·rw [if_neg h8,if_neg (by simp only [xh]; omega)])
      have HLV2:=Y (fun (W:World) (v:Value) (hW:RdR Od.vs 6 W v (tg ++ [⟨next,s,tt,left,li,L⟩]))=>l03Levels_any v (tg ++ [⟨next,s,tt,left,li,L⟩]) W hW (by simp; omega))
      generalize ((nlev (tg ++ [⟨next,s,tt,left,li,L⟩]):Nat):Int) = N at HQ0 HLV2
      have aJ:¬ (tg.length:Int) = 20:=by omega
      have hb20:((tg.length:Int) == 20) = false:=by rw [xd]; exact aJ
      have hlf':decide (0 < left) = true:=by simpa using pu
      obtain ⟨i0,uH,uF,uJ,uQ⟩:=info_parts Tryz.infoOrder
      clear kX
      go_wp2_with fail
      refine zj (R9A (fun f=>{ tmps:=#[.agg #[H next,.slice a l.length A],.agg (yw kk s ty li O ii pr L).toArray,I w.heap.size 0,I (w.heap.size + 1) 0,H 0,u5,u6,.slice al tg.length cal,I c8 0,.slice ae ts.length ce,u10,u11,u12,u13,u14,u15,u16,u17,u18,u19,u20,u21,u22,u23,u24,u25,u26,u27,u28,u29,u30,u31,u32,u33,u34,u35,u36,u37,u38,u39,u40,u41,u42,u43,u44,u45,u46,u47,u48,u49,u50,u51,u52,u53,u54,u55,u56,u57,u58,u59,u60,u61,u62,u63,u64,u65,u66,u67,u68,u69,u70,u71,u72,u73,u74,u75,u76,u77,u78,u79,u80,u81,u82,u83,u84,u85,u86,u87,u88,u89,u90,u91,u92,u93,u94,u95,u96,u97,u98,u99,u100,u101,u102,f 0,f 1,f 2,f 3,f 4,f 5,f 6,f 7,f 8,f 9,f 10,f 11,f 12,f 13,f 14,f 15,f 16,f 17,f 18,f 19,f 20,f 21,f 22],defers:=[] }) (C9 w.heap.size c8 ty left (.slice al tg.length cal) tg.length (.agg (yv next s tt left li L).toArray) N) V tg ⟨next,s,tt,left,li,L⟩) (by kernel_rfl) ?_ ?_ ?_
      ·exact ⟨fun j=>M,rfl,⟨⟨rfl,rfl,rfl,Nat.le_refl _,fun _ _=>rfl⟩,fun j K=>by rw [yI] at K; split at K <;> simp at K,by simp,by simp,by simp,by simp⟩⟩
      ·rintro x xm V' ⟨f,rfl,X⟩ hx xP
       have xp:=zV xP hx (acyc _ (by kernel_rfl))
       have e22:f 22 = .bool (decide (8 < N)):=X.c 22 (xp 22 (by simp))
       have xV:=Y ((U xv).trans (X.bel.mono (U xv).size))
       simp only [e22]
       clear X xp e22 xP hx
       cases hd:decide (8 < N)
       ·have pj:Hid (res = 0):=(U HQ0).trans (by rw [hd]; rfl)
        go_wp2_with fail
        go_ret
        exact ⟨zr (U pj).symm,U xV⟩
       ·have pj:Hid (res = 13):=(U HQ0).trans (by rw [hd]; rfl)
        go_wp2_with fail
        go_ret
        exact ⟨zr (U pj).symm,U xV⟩
      ·rintro x xm V' i' o' ⟨f,rfl,X⟩ xo hx Z xy Q
       have xz:=Y X
       have o2:V'.cell? (J (w.heap.size + 1) 2) = some (H ty):=zb (U HXV).2 X.bel hVS 2 _ rfl
       have HC9:=Y (zb (U HC8) X.bel kU)
       have c3:V'.cell? (J c8 3) = some (H left):=U HC9 3 _ rfl
       have xk:=Y X.bel
       clear HRS HQ0
       match i',Z with
       | 0,Z =>
        obtain rfl:=ya Z
        clear Q X xo
        rw [if_pos (by rfl)];unfold Oper.wp;go_simp
        exact ⟨upd f 0 (I (w.heap.size + 1) 2),by simp [upd],bd (U xz) 0 _ rfl (by decide) (by decide) (by decide) (by decide)⟩
       | 1,Z =>
        obtain rfl:=ya Z
        have g0:f 0 = I (w.heap.size + 1) 2:=X.c 0 (ye Q 0 rfl)
        clear Q X xo
        rw [if_pos (by rfl)];unfold Oper.wp;go_simp
        exact ⟨upd f 1 (H ty),by simp [upd,g0],bd (U xz) 1 _ rfl (by decide) (by decide) (by decide) (by decide)⟩
       | 2,Z =>
        obtain rfl:=ya Z
        have g1:f 1 = H ty:=X.c 1 (ye Q 1 rfl)
        clear Q X xo
        rw [if_pos (by rfl)];unfold Oper.wp;go_simp
        refine (cR ty _).mono ?_
        rintro e w3 ⟨rfl,hw3⟩
        rw [hw3,brs]
        exact ⟨upd f 2 (.bool true),by simp [upd,g1],bd (U xz) 2 _ rfl (by decide) (by decide) (by decide) (by decide)⟩
       | 3,Z =>
        obtain rfl:=ya Z
        have g2:f 2 = .bool true:=X.c 2 (ye Q 2 rfl)
        clear Q X xo
        rw [if_pos (by rfl)];unfold Oper.wp;go_simp
        exact ⟨upd f 3 (.bool true),by simp [upd,g2],bd (U xz) 3 _ rfl (by decide) (by decide) (by decide) (by decide)⟩
       | 4,Z =>
        obtain rfl:=ya Z
        have g3:f 3 = .bool true:=X.c 3 (ye Q 3 rfl)
        clear Q X xo
        rw [if_pos (by simp only [g3]; rfl)]
        unfold Oper.wp
        go_simp
        exact ⟨upd f 4 (I c8 3),by simp [upd,g3],bd (U xz) 4 _ rfl (by decide) (by decide) (by decide) (by decide)⟩
       | 5,Z =>
        obtain rfl:=ya Z
        have g4:f 4 = I c8 3:=X.c 4 (ye Q 4 rfl)
        have g3:f 3 = .bool true:=X.c 3 (ye Q 3 rfl)
        clear Q X xo
        rw [if_pos (by simp only [g3]; rfl)]
        unfold Oper.wp
        go_simp
        exact ⟨upd f 5 (H left),by simp [upd,g4,g3],bd (U xz) 5 _ rfl (by decide) (by decide) (by decide) (by decide)⟩
       | 6,Z =>
        obtain rfl:=ya Z
        have g5:f 5 = H left:=X.c 5 (ye Q 5 rfl)
        have g3:f 3 = .bool true:=X.c 3 (ye Q 3 rfl)
        clear Q X xo
        rw [if_pos (by simp only [g3]; rfl)]
        unfold Oper.wp
        go_simp
        exact ⟨upd f 6 (.bool true),by simp [upd,g5,g3],bd (U xz) 6 _ rfl (by decide) (by decide) (by decide) (by decide)⟩
       | 7,Z =>
        obtain rfl:=ya Z
        have g3:f 3 = .bool true:=X.c 3 (ye Q 3 rfl)
        have g6:f 6 = .bool true:=X.c 6 (ye Q 6 rfl)
        clear Q X xo
        rw [if_pos (by rfl)];unfold Oper.wp;go_simp
        exact ⟨upd f 7 (.bool true),by simp [upd,g3,g6],bd (U xz) 7 _ rfl (by decide) (by decide) (by decide) (by decide)⟩
       | 8,Z =>
        obtain rfl:=ya Z
        have g7:f 7 = .bool true:=X.c 7 (ye Q 7 rfl)
        clear Q X xo
        rw [if_pos (by rfl)];unfold Oper.wp;go_simp
        exact ⟨upd f 8 (.bool true),by simp [upd,g7],bd (U xz) 8 _ rfl (by decide) (by decide) (by decide) (by decide)⟩
       | 9,Z =>
        obtain rfl:=ya Z
        have g8:f 8 = .bool true:=X.c 8 (ye Q 8 rfl)
        clear Q X xo
        rw [if_pos (by simp only [g8]; rfl)]
        unfold Oper.wp
        go_simp
        exact ⟨upd f 9 (.slice al tg.length cal),by simp [upd,g8],bd (U xz) 9 _ rfl (by decide) (by decide) (by decide) (by decide)⟩
       | 10,Z =>
        obtain rfl:=ya Z
        have g9:f 9 = .slice al tg.length cal:=X.c 9 (ye Q 9 rfl)
        have g8:f 8 = .bool true:=X.c 8 (ye Q 8 rfl)
        clear Q X xo
        rw [if_pos (by simp only [g8]; rfl)]
        unfold Oper.wp
        go_simp
        exact ⟨upd f 10 (H tg.length),by simp [upd,g9,g8],bd (U xz) 10 _ rfl (by decide) (by decide) (by decide) (by decide)⟩
       | 11,Z =>
        obtain rfl:=ya Z
        have qR:f 10 = H tg.length:=X.c 10 (ye Q 10 rfl)
        have g8:f 8 = .bool true:=X.c 8 (ye Q 8 rfl)
        clear Q X xo
        rw [if_pos (by simp only [g8]; rfl)]
        unfold Oper.wp
        go_simp
        exact ⟨upd f 11 (.bool false),by simp [upd,qR,g8],bd (U xz) 11 _ rfl (by decide) (by decide) (by decide) (by decide)⟩
       | 12,Z =>
        obtain rfl:=ya Z
        have vF:f 11 = .bool false:=X.c 11 (ye Q 11 rfl)
        have g8:f 8 = .bool true:=X.c 8 (ye Q 8 rfl)
        clear Q X xo
        rw [if_pos (by simp only [g8]; rfl)]
        unfold Oper.wp
        go_simp
        exact ⟨upd f 12 (.bool false),by simp [upd,vF,g8],bd (U xz) 12 _ rfl (by decide) (by decide) (by decide) (by decide)⟩
       | 13,Z =>
        obtain rfl:=ya Z
        have xZ:f 12 = .bool false:=X.c 12 (ye Q 12 rfl)
        clear Q X xo
        rw [if_pos (by simp only [xZ]; rfl)]
        unfold Oper.wp
        go_simp
        exact ⟨upd f 13 (.slice (some (J V'.heap.size 0)) 0 0),by simp [upd,xZ],r9_13 (U xz) xy (fun _=>trivial)⟩
       | 14,Z =>
        obtain rfl:=ya Z
        have xZ:f 12 = .bool false:=X.c 12 (ye Q 12 rfl)
        clear Q X xo
        rw [if_pos (by simp only [xZ]; rfl)]
        unfold Oper.wp
        go_simp
        exact ⟨upd f 14 (.slice al tg.length cal),by simp [upd,xZ],bd (U xz) 14 _ rfl (by decide) (by decide) (by decide) (by decide)⟩
       | 15,Z =>
        obtain rfl:=ya Z
        have xZ:f 12 = .bool false:=X.c 12 (ye Q 12 rfl)
        have kw:f 14 = .slice al tg.length cal:=X.c 14 (ye Q 14 rfl)
        have k13:x[13]? = some true:=Q ⟨13,.data⟩ (by simp) rfl
        have n18:x[18]? = some false:=by
         rcases bU hx (show 18 < 23 by omega) with h | h
         ·exact h
         ·have:=yf xo 18 rfl h 15 rfl
          rw [xy] at this; cases this
        have HO13:=Y (X.m13 k13 xy)
        have uZ:Hid (∀ ad,al = some ad→∀ j u,(tg.flatMap Od.vs)[j]? = some u→V'.cell? (ad.add j) = some u):=fun ad had=>by
         have h:=zn (U HRL) (U xk) qt
         rw [had] at h
         exact rd_src h
        clear Q X xo
        rw [if_pos (by simp only [xZ]; rfl)]
        rcases U HSV with h | ⟨ad,nn,cc,h⟩
        ·simp only [Value.slice.injEq] at h
         have hL:tg = []:=List.length_eq_zero_iff.1 h.2.1
         refine eC (.tmp 116) (.tmp 117) 26 rfl V.heap.size 49 i0 6 Tryz.underlying26 uH (f 13) 0 [] rfl (U HO13) (by show f 14 = _; rw [kw,h.1,h.2.1,h.2.2]) ?_
         refine ⟨upd f 15 (f 13),rfl,r9_15 (U xz) k13 xy n18 (fun _=>trivial) (by rw [hL]; exact U HO13) (yR _ _)⟩
        ·simp only [Value.slice.injEq] at h
         refine wp_append_own V' (.tmp 116) (.tmp 117) 26 rfl V.heap.size 49 i0 _ 6 56 Tryz.underlying26 uH uF uJ uQ rfl (by decide) (f 13) 0 [] rfl (U HO13) ad tg.length cal (tg.flatMap Od.vs) (by show f 14 = _; rw [kw,h.1]) (by rw [zK Od.len]) (U uZ ad h.1) (bE tg) (by unfold maxLen; omega) (by omega) (U xk).size ?_
         intro v' w' xN uk _
         refine ⟨upd f 15 v',rfl,r9_15 (U xz) k13 xy n18 (fun _=>trivial) ?_ uk⟩
         show w'.ownsRow _ _ _ _ tg.length _
         simpa using xN
       | 16,Z =>
        obtain rfl:=ya Z
        have xZ:f 12 = .bool false:=X.c 12 (ye Q 12 rfl)
        obtain ⟨q0,q1,q2,q3,q4,q5⟩:=yC (U HC9)
        clear Q X xo
        rw [if_pos (by simp only [xZ]; rfl)]
        unfold Oper.wp
        go_simp
        exact ⟨upd f 16 (.agg (yv next s tt left li L).toArray),by simp [upd,xZ],bd (U xz) 16 _ rfl (by decide) (by decide) (by decide) (by decide)⟩
       | 17,Z =>
        obtain rfl:=ya Z
        have xZ:f 12 = .bool false:=X.c 12 (ye Q 12 rfl)
        have g16:f 16 = .agg (yv next s tt left li L).toArray:=X.c 16 (ye Q 16 rfl)
        have n18:x[18]? = some false:=by
         rcases bU hx (show 18 < 23 by omega) with h | h
         ·exact h
         ·have:=yf xo 18 rfl h 17 rfl
          rw [xy] at this; cases this
        clear Q X xo
        rw [if_pos (by simp only [xZ]; rfl)]
        unfold Oper.wp
        go_simp
        exact ⟨upd f 17 (.slice (some (J V'.heap.size 0)) 1 1),by simp [upd,xZ,g16],r9_17 (U xz) xy n18 (fun _=>trivial)⟩
       | 18,Z =>
        obtain rfl:=ya Z
        have xZ:f 12 = .bool false:=X.c 12 (ye Q 12 rfl)
        have k15:x[15]? = some true:=Q ⟨15,.data⟩ (by simp) rfl
        obtain ⟨b,g17,xW,xY,uC,-⟩:=X.m17 (ye Q 17 rfl) xy
        have HO15:=Y (X.m15 k15 xy)
        have uZ:Hid (∀ j u,(Od.vs ⟨next,s,tt,left,li,L⟩)[j]? = some u→V'.cell? (((J b 0):Addr).add j) = some u):=fun j u hu=>by
         have:=uC j u hu
         rw [Addr.add_mid]; exact this
        clear Q X xo uC
        rw [if_pos (by simp only [xZ]; rfl)]
        refine wp_append_own V' (.tmp 118) (.tmp 120) 26 rfl V.heap.size 49 i0 _ 6 56 Tryz.underlying26 uH uF uJ uQ rfl (by decide) (f 15) tg.length (tg.flatMap Od.vs) rfl (U HO15) (J b 0) 1 1 (Od.vs ⟨next,s,tt,left,li,L⟩) (by show f 17 = _; exact g17) rfl (U uZ) (one_od _) (by unfold maxLen; omega) (by omega) (U xk).size ?_
        intro v' w' xN uk _
        refine ⟨upd f 18 v',rfl,r9_18 (U xz) k15 xy (fun _=>trivial) ?_ uk⟩
        show w'.ownsRow _ _ _ _ (tg ++ [(⟨next,s,tt,left,li,L⟩:Od)]).length _
        rw [yP,List.flatMap_append]
        simpa using xN
       | 19,Z =>
        obtain rfl:=ya Z
        have xZ:f 12 = .bool false:=X.c 12 (ye Q 12 rfl)
        have HO18:=Y (X.m18 (ye Q 18 rfl))
        clear Q X xo
        rw [if_pos (by simp only [xZ]; rfl)]
        unfold Oper.wp
        go_simp
        refine (U HLV2 V' (f 18) (zN (U HO18) (by simp; omega))).mono ?_
        rintro e w4 ⟨rfl,hg4⟩
        exact ⟨upd f 19 (H N),by simp [upd,xZ],bd (r9_grow (U xz) (gr_below' hg4 (fun g hg=>by cases hg) qt)) 19 _ rfl (by decide) (by decide) (by decide) (by decide)⟩
       | 20,Z =>
        obtain rfl:=ya Z
        have g19:f 19 = H N:=X.c 19 (ye Q 19 rfl)
        have xZ:f 12 = .bool false:=X.c 12 (ye Q 12 rfl)
        clear Q X xo
        rw [if_pos (by simp only [xZ]; rfl)]
        unfold Oper.wp
        go_simp
        exact ⟨upd f 20 (.bool (decide (8 < N))),by simp [upd,g19,xZ],bd (U xz) 20 _ rfl (by decide) (by decide) (by decide) (by decide)⟩
       | 21,Z =>
        obtain rfl:=ya Z
        have xZ:f 12 = .bool false:=X.c 12 (ye Q 12 rfl)
        have g20:f 20 = .bool (decide (8 < N)):=X.c 20 (ye Q 20 rfl)
        have g8:f 8 = .bool true:=X.c 8 (ye Q 8 rfl)
        clear Q X xo
        rw [if_pos (by simp only [g8]; rfl)]
        unfold Oper.wp
        go_simp
        exact ⟨upd f 21 (.bool (decide (8 < N))),by simp [upd,xZ,g20,g8],bd (U xz) 21 _ rfl (by decide) (by decide) (by decide) (by decide)⟩
       | 22,Z =>
        obtain rfl:=ya Z
        have g8:f 8 = .bool true:=X.c 8 (ye Q 8 rfl)
        have g21:f 21 = .bool (decide (8 < N)):=X.c 21 (ye Q 21 rfl)
        clear Q X xo
        rw [if_pos (by rfl)];unfold Oper.wp;go_simp
        exact ⟨upd f 22 (.bool (decide (8 < N))),by simp [upd,g8,g21],bd (U xz) 22 _ rfl (by decide) (by decide) (by decide) (by decide)⟩
       | n + 23,Z=>simp at Z
    ·have HQ0:Hid (res = 0):=(U HRS).trans (by rw [if_pos brs,if_neg pu])
     have hlf':decide (0 < left) = false:=by simpa using pu
     go_wp2_with fail
     refine zj (RG V (fun f=>{ tmps:=#[.agg #[H next,.slice a l.length A],.agg (yw kk s ty li O ii pr L).toArray,I w.heap.size 0,I (w.heap.size + 1) 0,H 0,u5,u6,.slice al tg.length cal,I c8 0,.slice ae ts.length ce,u10,u11,u12,u13,u14,u15,u16,u17,u18,u19,u20,u21,u22,u23,u24,u25,u26,u27,u28,u29,u30,u31,u32,u33,u34,u35,u36,u37,u38,u39,u40,u41,u42,u43,u44,u45,u46,u47,u48,u49,u50,u51,u52,u53,u54,u55,u56,u57,u58,u59,u60,u61,u62,u63,u64,u65,u66,u67,u68,u69,u70,u71,u72,u73,u74,u75,u76,u77,u78,u79,u80,u81,u82,u83,u84,u85,u86,u87,u88,u89,u90,u91,u92,u93,u94,u95,u96,u97,u98,u99,u100,u101,u102,f 0,f 1,f 2,f 3,f 4,f 5,f 6,f 7,f 8,f 9,f 10,f 11,f 12,f 13,f 14,f 15,f 16,f 17,f 18,f 19,f 20,f 21,f 22],defers:=[] }) 99 (DV [I (w.heap.size + 1) 2,H ty,.bool true,.bool true,I c8 3,H left,.bool false,.bool false,.bool false,M,M,M,M,M,M,M,M,M,M,M,M,M,.bool false])) (by kernel_rfl) ?_ ?_ ?_
     ·exact ⟨fun _=>M,rfl,⟨rfl,rfl,rfl,Nat.le_refl _,fun _ _=>rfl⟩,fun j K=>by rw [yI] at K; split at K <;> simp at K⟩
     ·rintro x xm V' ⟨f,rfl,xk,hD⟩ hx xP
      have xp:=zV xP hx (acyc _ (by kernel_rfl))
      have e22:f 22 = .bool false:=hD 22 (xp 22 (by simp)) _ rfl
      have xV:=Y (D (U xv) xk)
      simp only [e22]
      clear hD xp e22 xP hx xk
      go_wp2_with fail
      go_ret
      exact ⟨zr (U HQ0).symm,U xV⟩
     ·rintro x xm V' i' o' ⟨f,rfl,xk,hD⟩ xo hx Z xy Q
      clear xo
      have xM:=Y xk
      have HD:=Y hD
      have o2:V'.cell? (J (w.heap.size + 1) 2) = some (H ty):=zb (U HXV).2 xk hVS 2 _ rfl
      have c3:V'.cell? (J c8 3) = some (H left):=zb (U HC8) xk kU 3 _ rfl
      clear HRS HQ0
      match i',Z with
      | 0,Z =>
       obtain rfl:=ya Z
       clear Q hD xk
       rw [if_pos (by rfl)];unfold Oper.wp;go_simp
       exact ⟨upd f 0 (I (w.heap.size + 1) 2),by simp [upd],zf (U xM) (U HD) (by decide) (yh rfl)⟩
      | 1,Z =>
       obtain rfl:=ya Z
       have g0:=hD 0 (ye Q 0 rfl) _ rfl
       clear Q hD xk
       rw [if_pos (by rfl)];unfold Oper.wp;go_simp
       exact ⟨upd f 1 (H ty),by simp [upd,g0],zf (U xM) (U HD) (by decide) (yh rfl)⟩
      | 2,Z =>
       obtain rfl:=ya Z
       have g1:=hD 1 (ye Q 1 rfl) _ rfl
       clear Q hD xk
       rw [if_pos (by rfl)];unfold Oper.wp;go_simp
       refine (cR ty _).mono ?_
       rintro e w3 ⟨rfl,hw3⟩
       rw [hw3,brs]
       exact ⟨upd f 2 (.bool true),by simp [upd,g1],zf (U xM) (U HD) (by decide) (yh rfl)⟩
      | 3,Z =>
       obtain rfl:=ya Z
       have g2:=hD 2 (ye Q 2 rfl) _ rfl
       clear Q hD xk
       rw [if_pos (by rfl)];unfold Oper.wp;go_simp
       exact ⟨upd f 3 (.bool true),by simp [upd,g2],zf (U xM) (U HD) (by decide) (yh rfl)⟩
      | 4,Z =>
       obtain rfl:=ya Z
       have g3:=hD 3 (ye Q 3 rfl) _ rfl
       clear Q hD xk
       rw [if_pos (by simp only [g3]; rfl)]
       unfold Oper.wp
       go_simp
       exact ⟨upd f 4 (I c8 3),by simp [upd,g3],zf (U xM) (U HD) (by decide) (yh rfl)⟩
      | 5,Z =>
       obtain rfl:=ya Z
       have g3:=hD 3 (ye Q 3 rfl) _ rfl
       have g4:=hD 4 (ye Q 4 rfl) _ rfl
       clear Q hD xk
       rw [if_pos (by simp only [g3]; rfl)]
       unfold Oper.wp
       go_simp
       exact ⟨upd f 5 (H left),by simp [upd,g3,g4],zf (U xM) (U HD) (by decide) (yh rfl)⟩
      | 6,Z =>
       obtain rfl:=ya Z
       have g3:=hD 3 (ye Q 3 rfl) _ rfl
       have g5:=hD 5 (ye Q 5 rfl) _ rfl
       clear Q hD xk
       rw [if_pos (by simp only [g3]; rfl)]
       unfold Oper.wp
       go_simp
       exact ⟨upd f 6 (.bool false),by simp [upd,g3,g5],zf (U xM) (U HD) (by decide) (yh rfl)⟩
      | 7,Z =>
       obtain rfl:=ya Z
       have g3:=hD 3 (ye Q 3 rfl) _ rfl
       have g6:=hD 6 (ye Q 6 rfl) _ rfl
       clear Q hD xk
       rw [if_pos (by rfl)];unfold Oper.wp;go_simp
       exact ⟨upd f 7 (.bool false),by simp [upd,g3,g6],zf (U xM) (U HD) (by decide) (yh rfl)⟩
      | 8,Z =>
       obtain rfl:=ya Z
       have g7:=hD 7 (ye Q 7 rfl) _ rfl
       clear Q hD xk
       rw [if_pos (by rfl)];unfold Oper.wp;go_simp
       exact ⟨upd f 8 (.bool false),by simp [upd,g7],zf (U xM) (U HD) (by decide) (yh rfl)⟩
      | 9,Z | 10,Z | 11,Z | 12,Z | 21,Z =>
       obtain rfl:=ya Z
       have g8:=hD 8 (ye Q 8 rfl) _ rfl
       clear Q hD xk
       rw [if_neg (by simp only [g8]; exact fun h=>Bool.noConfusion (show (false:Bool) = true from h))]
       exact ⟨upd f _ M,rfl,zf (U xM) (U HD) (by decide) (yh rfl)⟩
      | 13,Z | 14,Z | 15,Z | 16,Z | 17,Z | 18,Z | 19,Z | 20,Z =>
       obtain rfl:=ya Z
       have xZ:=hD 12 (ye Q 12 rfl) _ rfl
       clear Q hD xk
       rw [if_neg (by simp only [xZ]; exact fun h=>Bool.noConfusion (show (false:Bool) = true from h))]
       exact ⟨upd f _ M,rfl,zf (U xM) (U HD) (by decide) (yh rfl)⟩
      | 22,Z =>
       obtain rfl:=ya Z
       have g8:=hD 8 (ye Q 8 rfl) _ rfl
       have g21:=hD 21 (ye Q 21 rfl) _ rfl
       clear Q hD xk
       rw [if_pos (by rfl)];unfold Oper.wp;go_simp
       exact ⟨upd f 22 (.bool false),by simp [upd,g8,g21],zf (U xM) (U HD) (by decide) (yh rfl)⟩
      | n + 23,Z=>simp at Z
   clear xu
   have HTN:Hid (¬ (ty = 5∧0 < ts.length)→¬ (ty = 4∧0 < left)→next = 1000000→res = 13):=fun g5 g4 gn=>by
    have:=U je
    rw [if_neg g5,if_neg g4,if_pos gn] at this
    exact this
   by_cases h5:ty = 5
   ·by_cases hts:0 < ts.length
    ·have pj:Hid (res = 11):=(U je).trans (if_pos ⟨h5,hts⟩)
     subst h5
     have hts':(0:Int) < ts.length:=by omega
     clear hts vD HTN
     go_wp2_with fail
     go_ret
     exact ⟨zr (U pj).symm,U xv⟩
    ·subst h5
     have g5:¬ ((5:Int) = 5∧0 < ts.length):=fun h=>hts h.2
     have g4:¬ ((5:Int) = 4∧0 < left):=fun h=>by omega
     have hts':¬ (0:Int) < ts.length:=by omega
     have htz:(ts.length:Int) = 0:=by omega
     by_cases vX:next = 1000000
     ·have pj:=Y (U HTN g5 g4 vX)
      subst vX
      clear vD HTN g5 g4
      go_wp2_with fail
      go_ret
      exact ⟨zr (U pj).symm,U xv⟩
     have bn:(next == 1000000) = false:=by rw [xd]; exact vX
     have jT:=Y (U vD g5 g4 vX)
     clear vD HTN g5 g4 vX
     go_wp2_with fail
     exact U jT _ _ _ _ _ _ _ _ _ _ _ _ _ _ _ _ _ _ _ _ _ _ _ _ _ _ _ _ _ _ _ _ _ _ _ _ _ _ _ _ _ _ _ _ _ _ _ _ _ _ _ _ _ _ _ _ _ _ _ _ _ _ _ _ _ _ _ _ _ _ _ _ _ _ _ _ _ _ _ _ _ _ _ _ _ _ _ _ _ _ _ _ _ _ _
   ·have b5:(ty == 5) = false:=by rw [xd]; exact h5
    have g5:¬ (ty = 5∧0 < ts.length):=fun h=>h5 h.1
    by_cases h4:ty = 4
    ·by_cases pu:0 < left
     ·have pj:Hid (res = 12):=(U je).trans (by rw [if_neg g5,if_pos ⟨h4,pu⟩])
      subst h4
      clear vD HTN h5 g5 b5
      go_wp2_with fail
      go_ret
      exact ⟨zr (U pj).symm,U xv⟩
     ·subst h4
      have g4:¬ ((4:Int) = 4∧0 < left):=fun h=>pu h.2
      by_cases vX:next = 1000000
      ·have pj:=Y (U HTN g5 g4 vX)
       subst vX
       clear vD HTN g5 g4
       go_wp2_with fail
       go_ret
       exact ⟨zr (U pj).symm,U xv⟩
      have bn:(next == 1000000) = false:=by rw [xd]; exact vX
      have jT:=Y (U vD g5 g4 vX)
      clear vD HTN g5 g4 vX
      go_wp2_with fail
      exact U jT _ _ _ _ _ _ _ _ _ _ _ _ _ _ _ _ _ _ _ _ _ _ _ _ _ _ _ _ _ _ _ _ _ _ _ _ _ _ _ _ _ _ _ _ _ _ _ _ _ _ _ _ _ _ _ _ _ _ _ _ _ _ _ _ _ _ _ _ _ _ _ _ _ _ _ _ _ _ _ _ _ _ _ _ _ _ _ _ _ _ _ _ _ _ _
    ·have b4:(ty == 4) = false:=by rw [xd]; exact h4
     have g4:¬ (ty = 4∧0 < left):=fun h=>h4 h.1
     by_cases vX:next = 1000000
     ·have pj:=Y (U HTN g5 g4 vX)
      subst vX
      clear vD HTN g5 g4
      go_wp2_with fail
      go_ret
      exact ⟨zr (U pj).symm,U xv⟩
     have bn:(next == 1000000) = false:=by rw [xd]; exact vX
     have jT:=Y (U vD g5 g4 vX)
     clear vD HTN g5 g4 vX
     go_wp2_with fail
     exact U jT _ _ _ _ _ _ _ _ _ _ _ _ _ _ _ _ _ _ _ _ _ _ _ _ _ _ _ _ _ _ _ _ _ _ _ _ _ _ _ _ _ _ _ _ _ _ _ _ _ _ _ _ _ _ _ _ _ _ _ _ _ _ _ _ _ _ _ _ _ _ _ _ _ _ _ _ _ _ _ _ _ _ _ _ _ _ _ _ _ _ _ _ _ _ _
  ·rintro x xm V i' o' ⟨f,rfl,X⟩ xo hx Z xy Q
   have xz:=Y X
   have xk:=X.bel
   have xJ:=U uw
   clear xu
   match i',Z with
   | 0,Z =>
    obtain rfl:=ya Z
    clear Q X xo
    rw [if_pos (by rfl)];unfold Oper.wp;go_simp
    exact ⟨upd f 0 (I w.heap.size 1),by simp [upd],bZ (U xz) 0 _ (by decide) (by decide) (by decide) (rfl)⟩
   | 1,Z =>
    obtain rfl:=ya Z
    have g0:f 0 = I w.heap.size 1:=X.e 0 (ye Q 0 rfl)
    have z1:V.cell? (J w.heap.size 1) = some (.slice a l.length A):=zb (U HX).1 xk (by omega) 1 _ rfl
    clear Q X xo
    rw [if_pos (by rfl)];unfold Oper.wp;go_simp
    exact ⟨upd f 1 (.slice a l.length A),by simp [upd,g0],bZ (U xz) 1 _ (by decide) (by decide) (by decide) (rfl)⟩
   | 2,Z =>
    obtain rfl:=ya Z
    have z0:V.cell? (J w.heap.size 0) = some (H next):=zb (U HX).1 xk (by omega) 0 _ rfl
    have z1:V.cell? (J w.heap.size 1) = some (.slice a l.length A):=zb (U HX).1 xk (by omega) 1 _ rfl
    clear Q X xo
    rw [if_pos (by rfl)];unfold Oper.wp;go_simp
    exact ⟨upd f 2 (.agg #[H next,.slice a l.length A]),by simp [upd],bZ (U xz) 2 _ (by decide) (by decide) (by decide) (rfl)⟩
   | 3,Z =>
    obtain rfl:=ya Z
    obtain ⟨z0,z1,z2,z3,z4,z5,z6,z7⟩:=yD (zb (U HX).2 xk (by omega))
    clear Q X xo
    rw [if_pos (by rfl)];unfold Oper.wp;go_simp
    exact ⟨upd f 3 (.agg (yw kk s ty li O ii pr L).toArray),by simp [upd],bZ (U xz) 3 _ (by decide) (by decide) (by decide) (rfl)⟩
   | 4,Z =>
    obtain rfl:=ya Z
    have g2:f 2 = .agg #[H next,.slice a l.length A]:=X.e 2 (ye Q 2 rfl)
    have g3:f 3 = .agg (yw kk s ty li O ii pr L).toArray:=X.e 3 (ye Q 3 rfl)
    clear Q X xo
    rw [if_pos (by rfl)];unfold Oper.wp;go_simp
    refine (U HTKR _).mono ?_
    rintro e w4 ⟨rfl,xC⟩
    exact ⟨upd f 4 (.agg (yv next s tt O li L).toArray),by simp [upd,g2,g3],bZ (rn_grow (U xz) xC) 4 _ (by decide) (by decide) (by decide) rfl⟩
   | 5,Z =>
    obtain rfl:=ya Z
    have g1:f 1 = .slice a l.length A:=X.e 1 (ye Q 1 rfl)
    have g4:f 4 = .agg (yv next s tt O li L).toArray:=X.e 4 (ye Q 4 rfl)
    have jh:∀ j,(j = 6 ∨ j = 7 ∨ j = 9 ∨ j = 11 ∨ j = 13)→x[j]? ≠ some true:=fun j K e=>by
     have h6:x[6]? ≠ some true:=fun e6=>by have:=yf xo 6 rfl e6 5 rfl; rw [xy] at this; cases this
     rcases K with rfl | rfl | rfl | rfl | rfl
     ·exact h6 e
     ·exact h6 (yf xo 7 rfl e 6 rfl)
     ·exact h6 (yf xo 9 rfl e 6 rfl)
     ·exact h6 (yf xo 11 rfl e 6 rfl)
     ·exact h6 (yf xo 13 rfl e 6 rfl)
    have oA:=Y jh
    have HRV:=Y (zn (zn (U HR) (U xD) qt) xk qt)
    clear Q X xo jh
    rw [if_pos (by rfl)];unfold Oper.wp;go_simp
    refine (U kg V (U HRV)).mono ?_
    rintro e w4 ⟨lv,ve,rfl,hl4,he4,xC⟩
    refine ⟨upd f 5 (.tuple #[lv,.agg (yv next s tt left li L).toArray,ve]),by simp [upd,g1,g4],rn_5 (U xz) xC ?_ ?_ (U oA) ?_⟩
    ·rcases hl4 with ⟨rfl,hL⟩ | h
     ·simp only at hL; rw [hL]; exact ⟨zn (U HRV) xC qt,U vP⟩
     ·exact ⟨zN h (by have h20:tg.length ≤ 20:=(U HGF).1.len; show tg.length ≤ _; omega),oRow_sl h⟩
    ·rcases he4.2 with ⟨G,E⟩ | ⟨g,pI,xr,G,_⟩
     ·exact ⟨none,0,by rw [G]; simp only at E; rw [E]⟩
     ·exact ⟨_,_,G⟩
    ·intro c8 pP kU xB e
     rcases hl4 with ⟨rfl,hL⟩ | h
     ·simp only at hL
      obtain ⟨b,xW,xY⟩:=rd_block (U HR) (by rw [← hL]; exact xB)
      rw [xW] at e
      simp only [Option.some.injEq] at e
      have:=(U xD).size
      omega
     ·have:=(h.lt c8 e).1
      omega
   | 6,Z =>
    obtain rfl:=ya Z
    clear Q X xo
    rw [if_pos (by rfl)];unfold Oper.wp;go_simp
    exact ⟨upd f 6 (f 5),by simp [upd],bZ (U xz) 6 _ (by decide) (by decide) (by decide) (rfl)⟩
   | 7,Z =>
    obtain rfl:=ya Z
    obtain ⟨lv,ev,e5,-⟩:=X.m5 (yf xo 6 rfl (ye Q 6 rfl) 5 rfl)
    have g6:f 6 = f 5:=X.e 6 (ye Q 6 rfl)
    rw [e5] at g6
    clear Q X xo
    rw [if_pos (by rfl)];unfold Oper.wp;go_simp
    exact ⟨upd f 7 lv,by simp [upd,g6,e5],bZ (U xz) 7 _ (by decide) (by decide) (by decide) ⟨lv,ev,e5,rfl⟩⟩
   | 8,Z =>
    obtain rfl:=ya Z
    obtain ⟨lv,ev,e5,-⟩:=X.m5 (yf xo 6 rfl (ye Q 6 rfl) 5 rfl)
    have g6:f 6 = f 5:=X.e 6 (ye Q 6 rfl)
    rw [e5] at g6
    clear Q X xo
    rw [if_pos (by rfl)];unfold Oper.wp;go_simp
    exact ⟨upd f 8 (.agg (yv next s tt left li L).toArray),by simp [upd,g6,e5],bZ (U xz) 8 _ (by decide) (by decide) (by decide) rfl⟩
   | 9,Z =>
    obtain rfl:=ya Z
    obtain ⟨lv,ev,e5,-⟩:=X.m5 (yf xo 6 rfl (ye Q 6 rfl) 5 rfl)
    have g6:f 6 = f 5:=X.e 6 (ye Q 6 rfl)
    rw [e5] at g6
    clear Q X xo
    rw [if_pos (by rfl)];unfold Oper.wp;go_simp
    exact ⟨upd f 9 ev,by simp [upd,g6,e5],bZ (U xz) 9 _ (by decide) (by decide) (by decide) ⟨lv,ev,e5,rfl⟩⟩
   | 10,Z =>
    obtain rfl:=ya Z
    have ai:x[12]? ≠ some true:=fun e=>by have:=yf xo 12 rfl e 10 rfl; rw [xy] at this; cases this
    clear Q X xo
    rw [if_pos (by rfl)];unfold Oper.wp;go_simp
    exact ⟨upd f 10 (I V.heap.size 0),by simp [upd],rn_10 (U xz) ai (zv V (yv 0 0 0 0 0 ⟨#[]⟩) _)⟩
   | 11,Z =>
    obtain rfl:=ya Z
    obtain ⟨lv,ev,e5,e7⟩:=X.e 7 (ye Q 7 rfl)
    clear Q X xo
    rw [if_pos (by rfl)];unfold Oper.wp;go_simp
    exact ⟨upd f 11 lv,by simp [upd,e7,e5],bZ (U xz) 11 _ (by decide) (by decide) (by decide) ⟨lv,ev,e5,rfl⟩⟩
   | 12,Z =>
    obtain rfl:=ya Z
    have k5:x[5]? = some true:=Q ⟨5,.phase⟩ (by simp) rfl
    have k10:x[10]? = some true:=Q ⟨10,.data⟩ (by simp) rfl
    have g8:f 8 = .agg (yv next s tt left li L).toArray:=X.e 8 (ye Q 8 rfl)
    obtain ⟨c8,qR,pP,kU,xF,-⟩:=X.m10 k10
    obtain ⟨y0,z0,q0⟩:=ze xF (j:=0) (by omega)
    obtain ⟨y1,z1,q1⟩:=ze xF (j:=1) (by omega)
    obtain ⟨y2,z2,q2⟩:=ze xF (j:=2) (by omega)
    obtain ⟨y3,z3,q3⟩:=ze xF (j:=3) (by omega)
    obtain ⟨y4,z4,q4⟩:=ze xF (j:=4) (by omega)
    obtain ⟨y5,z5,q5⟩:=ze xF (j:=5) (by omega)
    clear Q X xo xF
    rw [if_pos (by rfl)];unfold Oper.wp;go_simp
    exact ⟨f,by simp [g8,qR],rn_12 (U xz) k5 k10 qR rfl xy⟩
   | 13,Z =>
    obtain rfl:=ya Z
    obtain ⟨lv,ev,e5,e9⟩:=X.e 9 (ye Q 9 rfl)
    clear Q X xo
    rw [if_pos (by rfl)];unfold Oper.wp;go_simp
    exact ⟨upd f 13 ev,by simp [upd,e9,e5],bZ (U xz) 13 _ (by decide) (by decide) (by decide) ⟨lv,ev,e5,rfl⟩⟩
   | n + 14,Z=>simp at Z
 clear xu
 cases bl:betB li 0 1
 have hl:lifW ⟨kk,s,ty,li,O,ii,pr,L⟩ = true:=by simp [lifW,bl]
 have HK:Hid (newR next l ⟨kk,s,ty,li,O,ii,pr,L⟩ = 5):=by show _ = _; simp [newR,bs,bt,hl]
 clear hl
 rotate_left
 by_cases G:li = 1
 subst G
 cases brs:aO ty
 have hl:lifW ⟨kk,s,ty,1,O,ii,pr,L⟩ = true:=by simp [lifW,brs]
 have HK:Hid (newR next l ⟨kk,s,ty,1,O,ii,pr,L⟩ = 5):=by show _ = _; simp [newR,bs,bt,hl]
 clear hl
 rotate_left
 have hl:lifW ⟨kk,s,ty,1,O,ii,pr,L⟩ = false:=by simp [lifW,brs,bl]
 by_cases E:ty = 2
 subst E
 by_cases hz:fbit pr = 0
 have hp:prcB ⟨kk,s,2,1,O,ii,pr,L⟩ = true:=by simp [prcB,hz]
 have dz:decide (fbit pr = 0) = true:=by simpa using hz
 clear hz
 cases bq:betB O 1 1000000
 have HK:Hid (newR next l ⟨kk,s,2,1,O,ii,pr,L⟩ = 7):=by show _ = _; simp [newR,bs,bt,hl,hp,bq]
 clear hl hp
 rotate_left
 cases bg:tagB L
 have HK:Hid (newR next l ⟨kk,s,2,1,O,ii,pr,L⟩ = 8):=by show _ = _; simp [newR,bs,bt,hl,hp,bq,bg]
 clear hl hp
 rotate_left
 have vD:=Y (U HT hl hp bq bg)
 clear HT hl hp
 rotate_left
 have hp:prcB ⟨kk,s,2,1,O,ii,pr,L⟩ = false:=by simp [prcB,hz]
 have dz:decide (fbit pr = 0) = false:=by simpa using hz
 clear hz
 have HK:Hid (newR next l ⟨kk,s,2,1,O,ii,pr,L⟩ = 6):=by show _ = _; simp [newR,bs,bt,hl,hp]
 clear hl hp
 rotate_left
 have b2:(ty == 2) = false:=by rw [xd]; exact E
 have b2n:(ty != 2) = true:=by simpa using E
 cases bk:tkOk pr
 have hp:prcB ⟨kk,s,ty,1,O,ii,pr,L⟩ = false:=by simp [prcB,E,bk]
 have HK:Hid (newR next l ⟨kk,s,ty,1,O,ii,pr,L⟩ = 6):=by show _ = _; simp [newR,bs,bt,hl,hp]
 clear hl hp E
 rotate_left
 have hp:prcB ⟨kk,s,ty,1,O,ii,pr,L⟩ = true:=by simp [prcB,E,bk]
 clear E
 cases bq:betB O 1 1000000
 have HK:Hid (newR next l ⟨kk,s,ty,1,O,ii,pr,L⟩ = 7):=by show _ = _; simp [newR,bs,bt,hl,hp,bq]
 clear hl hp
 rotate_left
 cases bg:tagB L
 have HK:Hid (newR next l ⟨kk,s,ty,1,O,ii,pr,L⟩ = 8):=by show _ = _; simp [newR,bs,bt,hl,hp,bq,bg]
 clear hl hp
 rotate_left
 have vD:=Y (U HT hl hp bq bg)
 clear HT hl hp
 rotate_left
 have hl:lifW ⟨kk,s,ty,li,O,ii,pr,L⟩ = false:=by simp [lifW,bl,G]
 have b1:(li == 1) = false:=by rw [xd]; exact G
 clear G
 by_cases E:ty = 2
 subst E
 by_cases hz:fbit pr = 0
 have hp:prcB ⟨kk,s,2,li,O,ii,pr,L⟩ = true:=by simp [prcB,hz]
 have dz:decide (fbit pr = 0) = true:=by simpa using hz
 clear hz
 cases bq:betB O 1 1000000
 have HK:Hid (newR next l ⟨kk,s,2,li,O,ii,pr,L⟩ = 7):=by show _ = _; simp [newR,bs,bt,hl,hp,bq]
 clear hl hp
 rotate_left
 cases bg:tagB L
 have HK:Hid (newR next l ⟨kk,s,2,li,O,ii,pr,L⟩ = 8):=by show _ = _; simp [newR,bs,bt,hl,hp,bq,bg]
 clear hl hp
 rotate_left
 have vD:=Y (U HT hl hp bq bg)
 clear HT hl hp
 rotate_left
 have hp:prcB ⟨kk,s,2,li,O,ii,pr,L⟩ = false:=by simp [prcB,hz]
 have dz:decide (fbit pr = 0) = false:=by simpa using hz
 clear hz
 have HK:Hid (newR next l ⟨kk,s,2,li,O,ii,pr,L⟩ = 6):=by show _ = _; simp [newR,bs,bt,hl,hp]
 clear hl hp
 rotate_left
 have b2:(ty == 2) = false:=by rw [xd]; exact E
 have b2n:(ty != 2) = true:=by simpa using E
 cases bk:tkOk pr
 have hp:prcB ⟨kk,s,ty,li,O,ii,pr,L⟩ = false:=by simp [prcB,E,bk]
 have HK:Hid (newR next l ⟨kk,s,ty,li,O,ii,pr,L⟩ = 6):=by show _ = _; simp [newR,bs,bt,hl,hp]
 clear hl hp E
 rotate_left
 have hp:prcB ⟨kk,s,ty,li,O,ii,pr,L⟩ = true:=by simp [prcB,E,bk]
 clear E
 cases bq:betB O 1 1000000
 have HK:Hid (newR next l ⟨kk,s,ty,li,O,ii,pr,L⟩ = 7):=by show _ = _; simp [newR,bs,bt,hl,hp,bq]
 clear hl hp
 rotate_left
 cases bg:tagB L
 have HK:Hid (newR next l ⟨kk,s,ty,li,O,ii,pr,L⟩ = 8):=by show _ = _; simp [newR,bs,bt,hl,hp,bq,bg]
 clear hl hp
 rotate_left
 have vD:=Y (U HT hl hp bq bg)
 clear HT hl hp
 all_goals
  go_wp2_with (first | (go_at_call 137; refine (U HTK _).mono ?_; rintro e w' ⟨rfl,ul⟩; rw [ul]; clear ul w') | (go_at_call 80; refine (dw _ _ _ _).mono ?_; rintro e w' ⟨rfl,ul⟩; rw [ul]; clear ul w') | (go_at_call 91; refine (cR _ _).mono ?_; rintro e w' ⟨rfl,ul⟩; rw [ul]; clear ul w') | (go_at_call 159; refine (U HZR _).mono ?_; rintro e w' ⟨rfl,ul⟩; rw [ul]; clear ul w') | (go_at_call 130; refine (U uP _).mono ?_; rintro e w' ⟨rfl,ul⟩; rw [ul]; clear ul w'))
  first
  | exact U vD _ _ _ _ _ _ _ _ _ _ _ _ _ _ _ _ _ _ _ _ _ _ _ _ _ _ _ _ _ _ _ _ _ _ _ _ _ _ _ _ _ _ _ _ _ _ _ _ _ _ _ _ _ _ _ _ _ _ _ _ _ _ _
  | (go_ret; exact ⟨zr (U HK).symm,U xD⟩)
end Go.Proofs.YtbakanofkghmiaaGreat
