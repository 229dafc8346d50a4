/-
  Why a new order is refused, by the model: proved by walking the function.
-/
import Derived.Test.YtbakanofkghmiaaGreatTj39
set_option linter.unusedVariables false
set_option maxHeartbeats 6400000
set_option maxRecDepth 100000
namespace Go.Proofs.YtbakanofkghmiaaGreat
open Go.RowKit
def EN (S:Nat) (vb bv cv ta tw u5:Value):Nat→Value→Prop
 | 0,v=>v = I S 1
 | 1,v=>v = vb
 | 2,v=>v = bv
 | 3,v=>v = cv
 | 4,v=>v = ta
 | 6,v=>v = u5
 | 7,v=>∃ lv ev,u5 = .tuple #[lv,tw,ev]∧v = lv
 | 8,v=>v = tw
 | 9,v=>∃ lv ev,u5 = .tuple #[lv,tw,ev]∧v = ev
 | 11,v=>∃ lv ev,u5 = .tuple #[lv,tw,ev]∧v = lv
 | 13,v=>∃ lv ev,u5 = .tuple #[lv,tw,ev]∧v = ev
 | _,_=>True
theorem en_any {S:Nat} {vb bv cv ta tw u u':Value} {j:Nat} {v:Value} (h:EN S vb bv cv ta tw u j v) (h6:j ≠ 6) (h7:j ≠ 7) (h9:j ≠ 9) (uS:j ≠ 11) (jJ:j ≠ 13):EN S vb bv cv ta tw u' j v:=by
 match j with
 | 0 | 1 | 2 | 3 | 4 | 8=>exact h
 | 5 | 10 | 12=>trivial
 | 6=>omega
 | 7=>omega
 | 9=>omega
 | 11=>omega
 | 13=>omega
 | j + 14=>trivial
def LVok (W:World) (lv:Value) (xm:List Od):Prop:=RdR Od.vs 6 W lv xm∧SlOk lv
def Dst (xm:List Od) (u v:Value):Prop:=∀ lv tw ev c8,u = .tuple #[lv,tw,ev]→v = I c8 0→xm ≠ []→lv.ownBlock ≠ some c8
structure RN (S:Nat) (vb bv cv ta tw:Value) (twl:List Value) (xm:List Od) (n2:Nat) (base:World) (x:List Bool) (f:Nat→Value) (W:World):Prop where
 bel:Below base.heap.size base W
 e:∀ j,x[j]? = some true→EN S vb bv cv ta tw (f 5) j (f j)
 m5:x[5]? = some true→∃ lv ev,f 5 = .tuple #[lv,tw,ev]∧LVok W lv xm∧∃ a c,ev = .slice a n2 c
 m10:x[10]? = some true→∃ c8,f 10 = .pointer (some ⟨c8,0,none⟩)∧base.heap.size ≤ c8∧c8 < W.heap.size∧W.there c8 0 6∧(x[12]? = some true→W.rangeAt c8 0 twl)
 ap:x[5]? = some true→x[10]? = some true→Dst xm (f 5) (f 10)
def RNA (hb:(Nat→Value)→Act) (S:Nat) (vb bv cv ta tw:Value) (oM:List Value) (xm:List Od) (n2:Nat) (base:World) (x:List Bool) (hR:Act) (W:World):Prop:=∃ f,hR = hb f∧RN S vb bv cv ta tw oM xm n2 base x f W
theorem tup3 {a b c a' b' c':Value} (h:Value.tuple #[a,b,c] = .tuple #[a',b',c']):a = a'∧b = b'∧c = c':=by
 have:=congrArg Array.toList (Value.tuple.inj h)
 simpa using this
theorem rd_block {W:World} {v:Value} {xm:List Od} (h:RdR Od.vs 6 W v xm) (xA:xm ≠ []):∃ b,v.ownBlock = some b∧b < W.heap.size:=by
 obtain ⟨a,c,rfl,_,hc⟩:=h
 obtain ⟨b,off,rfl,F,_⟩:=hc xA
 exact ⟨b,rfl,F⟩
theorem rd_setC {W:World} {v:Value} {xm:List Od} {c8 o:Nat} {vs:List Value} (h:RdR Od.vs 6 W v xm) (xA:xm ≠ []→v.ownBlock ≠ some c8):RdR Od.vs 6 (W.setCells c8 o vs) v xm:=by
 obtain ⟨a,c,rfl,Q,hc⟩:=h
 refine ⟨a,c,rfl,Q,fun hl=>?_⟩
 obtain ⟨b,off,rfl,F,hr⟩:=hc hl
 have hbc:c8 ≠ b:=fun e=>xA hl (by rw [e]; rfl)
 exact ⟨b,off,rfl,by rw [zZ]; exact F,fun i c hi=>cX (hr i c hi) hbc⟩
section
variable {S:Nat} {vb bv cv ta tw:Value} {oM:List Value} {xm:List Od} {n2:Nat} {base W W':World} {x:List Bool} {f:Nat→Value}
theorem rn_grow (h:RN S vb bv cv ta tw oM xm n2 base x f W) (F:ym W W'):RN S vb bv cv ta tw oM xm n2 base x f W' :=
 ⟨h.bel.trans (F.mono h.bel.size),h.e,fun h5=>by
  obtain ⟨lv,ev,Q,N,h3⟩:=h.m5 h5
  exact ⟨lv,ev,Q,⟨zl N.1 F qt,N.2⟩,h3⟩,fun vI=>by
  obtain ⟨c8,Q,N,h3,h4,h5⟩:=h.m10 vI
  exact ⟨c8,Q,N,yH h3 F.size,ze h4 F h3,fun qq=>zb (h5 qq) F h3⟩,h.ap⟩
theorem aR (h:RN S vb bv cv ta tw oM xm n2 base x f W) (i:Nat) (u:Value) (h5:i ≠ 5) (vI:i ≠ 10) (qq:i ≠ 12) (hu:EN S vb bv cv ta tw (f 5) i u):RN S vb bv cv ta tw oM xm n2 base (x.set i true) (upd f i u) W:=by
 refine ⟨h.bel,fun j R=>?_,?_,?_,?_⟩
 ·rw [zo f u (show 5 ≠ i from fun e=>h5 e.symm)]
  by_cases hji:j = i
  ·subst hji; rw [zn]; exact hu
  ·rw [zo _ _ hji]
   rw [gq (fun e=>hji e.symm)] at R
   exact h.e j R
 ·rw [gq h5,zo f u (show 5 ≠ i from fun e=>h5 e.symm)]; exact h.m5
 ·rw [gq vI,gq qq,zo f u (show 10 ≠ i from fun e=>vI e.symm)]; exact h.m10
 ·rw [gq h5,gq vI,zo f u (show 5 ≠ i from fun e=>h5 e.symm),zo f u (show 10 ≠ i from fun e=>vI e.symm)]; exact h.ap
theorem rn_5 (h:RN S vb bv cv ta tw oM xm n2 base x f W) (F:ym W W') {lv ev:Value} (hl:LVok W' lv xm) (he:∃ a c,ev = .slice a n2 c) (qU:∀ j,(j = 6 ∨ j = 7 ∨ j = 9 ∨ j = 11 ∨ j = 13)→x[j]? ≠ some true)
  (hap:∀ c8,base.heap.size ≤ c8→c8 < W.heap.size→xm ≠ []→lv.ownBlock ≠ some c8):RN S vb bv cv ta tw oM xm n2 base (x.set 5 true) (upd f 5 (.tuple #[lv,tw,ev])) W':=by
 have hg:=rn_grow h F
 refine ⟨hg.bel,fun j R=>?_,fun _=>⟨lv,ev,zn _ _ _,hl,he⟩,?_,?_⟩
 ·by_cases hji:j = 5
  ·subst hji; trivial
  ·rw [gq (fun e=>hji e.symm)] at R
   rw [zo _ _ hji]
   refine en_any (hg.e j R) ?_ ?_ ?_ ?_ ?_ <;> intro e <;> exact qU j (by omega) R
 ·rw [gq (by omega),gq (by omega),zo _ _ (by omega)]; exact hg.m10
 ·intro _ vI
  rw [gq (by omega)] at vI
  rw [zn,zo _ _ (by omega)]
  obtain ⟨c8,Q,N,h3,_⟩:=h.m10 vI
  intro lv' tw' ev' c8' e1 e2 xA
  rw [Q] at e2
  simp only [Value.pointer.injEq,Option.some.injEq,Addr.mk.injEq,and_true] at e2
  obtain rfl:c8 = c8':=e2
  have e1:lv = lv':=(tup3 e1).1
  rw [← e1]
  exact hap c8 N h3 xA
theorem rn_10 (h:RN S vb bv cv ta tw oM xm n2 base x f W) (qq:x[12]? ≠ some true) {o:Obj} (ht:(W.alloc o).there W.heap.size 0 6):RN S vb bv cv ta tw oM xm n2 base (x.set 10 true) (upd f 10 (I W.heap.size 0)) (W.alloc o):=by
 have hg:=rn_grow h ((Below.refl W.heap.size W).alloc qt o)
 refine ⟨hg.bel,fun j R=>?_,?_,fun _=>⟨W.heap.size,zn _ _ _,h.bel.size,by rw [zf]; omega,ht,fun e=>absurd (by rwa [gq (by omega)] at e) qq⟩,?_⟩
 ·rw [zo _ _ (by omega)]
  by_cases hji:j = 10
  ·subst hji; trivial
  ·rw [gq (fun e=>hji e.symm)] at R
   rw [zo _ _ hji]; exact hg.e j R
 ·rw [gq (by omega),zo _ _ (by omega)]; exact hg.m5
 ·intro h5 _
  rw [gq (by omega)] at h5
  rw [zn,zo _ _ (by omega)]
  obtain ⟨lv,ev,Q,N,_⟩:=h.m5 h5
  intro lv' tw' ev' c8' e1 e2 xA e3
  rw [Q] at e1
  simp only [Value.pointer.injEq,Option.some.injEq,Addr.mk.injEq,and_true] at e2
  have e1:lv = lv':=(tup3 e1).1
  obtain ⟨b,xS,xU⟩:=rd_block N.1 xA
  rw [← e1,xS] at e3
  simp only [Option.some.injEq] at e3
  omega
theorem rn_12 (h:RN S vb bv cv ta tw oM xm n2 base x f W) (h5:x[5]? = some true) (vI:x[10]? = some true) {c8:Nat} (hc:f 10 = I c8 0) (hl:oM.length = 6) (hx:x[12]? = some false):RN S vb bv cv ta tw oM xm n2 base (x.set 12 true) f (W.setCells c8 0 oM):=by
 obtain ⟨c',Q,N,h3,h4,_⟩:=h.m10 vI
 rw [hc] at Q
 simp only [Value.pointer.injEq,Option.some.injEq,Addr.mk.injEq,and_true] at Q
 subst Q
 obtain ⟨lv,ev,e1,e2,e3⟩:=h.m5 h5
 have hd:=h.ap h5 vI lv tw ev c8 e1 hc
 refine ⟨zm _ N _ _ _ h.bel,fun j R=>?_,fun _=>⟨lv,ev,e1,⟨rd_setC e2.1 hd,e2.2⟩,e3⟩,fun _=>⟨c8,hc,N,by rw [zZ]; exact h3,yZ h4 _ _ _,fun _=>yV W c8 0 _ (fun j R=>h4 j (by omega))⟩,?_⟩
 ·by_cases hji:j = 12
  ·subst hji; trivial
  ·rw [gq (fun e=>hji e.symm)] at R; exact h.e j R
 ·intro _ _; exact h.ap h5 vI
end
def DV (vs:List Value) (p:Prop) (W:World) (j:Nat) (v:Value):Prop:=∀ u,vs[j]? = some u→v = u
structure R9 (C:Nat→Value→Prop) (B0:World) (xm:List Od) (t:Od) (x:List Bool) (f:Nat→Value) (W:World):Prop where
 bel:Below B0.heap.size B0 W
 c:∀ j,x[j]? = some true→C j (f j)
 m13:x[13]? = some true→x[15]? = some false→ORow W B0.heap.size (f 13) []
 m15:x[15]? = some true→x[18]? = some false→ORow W B0.heap.size (f 15) xm
 m17:x[17]? = some true→x[18]? = some false→∃ b,f 17 = .slice (some ⟨b,0,none⟩) 1 1∧b < W.heap.size∧B0.heap.size ≤ b∧W.rangeAt b 0 t.vs∧(x[13]? = some true→x[15]? = some false→(f 13).ownBlock ≠ some b)
 m18:x[18]? = some true→ORow W B0.heap.size (f 18) (xm ++ [t])
def R9A (hb:(Nat→Value)→Act) (C:Nat→Value→Prop) (B0:World) (xm:List Od) (t:Od) (x:List Bool) (hR:Act) (W:World):Prop:=∃ f,hR = hb f∧R9 C B0 xm t x f W
section
variable {C:Nat→Value→Prop} {B0 W W':World} {xm:List Od} {t:Od} {x:List Bool} {f:Nat→Value}
theorem r9_grow (h:R9 C B0 xm t x f W) (F:ym W W'):R9 C B0 xm t x f W' :=
 ⟨h.bel.trans (F.mono h.bel.size),h.c,fun a b=>zk (h.m13 a b) F,fun a b=>zk (h.m15 a b) F,fun a b=>by
  obtain ⟨b',Q,N,h3,h4,h5⟩:=h.m17 a b
  exact ⟨b',Q,yH N F.size,h3,zb h4 F N,h5⟩,fun a=>zk (h.m18 a) F⟩
theorem ah (h:R9 C B0 xm t x f W) (i:Nat) (v:Value) (hv:C i v) (jJ:i ≠ 13) (uM:i ≠ 15) (kn:i ≠ 17) (jT:i ≠ 18):R9 C B0 xm t (x.set i true) (upd f i v) W:=by
 refine ⟨h.bel,zx h.c hv,?_,?_,?_,?_⟩ <;> simp only [gq jJ,gq uM,gq kn,gq jT,zo f v jJ.symm,zo f v uM.symm,zo f v kn.symm,zo f v jT.symm]
 ·exact h.m13
 ·exact h.m15
 ·exact h.m17
 ·exact h.m18
theorem r9_13 (h:R9 C B0 xm t x f W) (jJ:x[13]? = some false) (hc:∀ v,C 13 v):R9 C B0 xm t (x.set 13 true) (upd f 13 (.slice (some (J W.heap.size 0)) 0 0)) (W.alloc (D #[] 49)):=by
 have hg:=r9_grow h ((Below.refl W.heap.size W).alloc qt (D #[] 49))
 refine ⟨hg.bel,zx hg.c (hc _),?_,?_,?_,?_⟩
 ·intro _ _; rw [zn]; exact World.ownsRow_made W #[] 0 h.bel.size (by decide) rfl
 ·rw [gq (by decide),gq (by decide),zo _ _ (by decide)]; exact hg.m15
 ·intro kn jT
  rw [gq (by decide)] at kn jT
  obtain ⟨b,Q,N,h3,h4,h5⟩:=hg.m17 kn jT
  obtain ⟨b',e1,e2,_⟩:=h.m17 kn jT
  rw [Q] at e1
  simp only [Value.slice.injEq,Option.some.injEq,Addr.mk.injEq,and_true] at e1
  subst e1
  refine ⟨b,by rw [zo _ _ (by decide)]; exact Q,N,h3,h4,fun _ _ e=>?_⟩
  rw [zn] at e
  simp [Value.ownBlock] at e
  omega
 ·rw [gq (by decide),zo _ _ (by decide)]; exact hg.m18
theorem r9_15 (h:R9 C B0 xm t x f W) (jJ:x[13]? = some true) (uM:x[15]? = some false) (jT:x[18]? = some false) (hc:∀ v,C 15 v) {v':Value} (Z:ORow W' B0.heap.size v' xm) (hg:W.grownBy W' (f 13).ownBlock):R9 C B0 xm t (x.set 15 true) (upd f 15 v') W':=by
 refine ⟨h.bel.grown hg h.bel.size (fun k hk=>((h.m13 jJ uM).lt k hk).1),zx h.c (hc _),?_,?_,?_,?_⟩
 ·intro _ e; rw [gqs uM] at e; cases e
 ·intro _ _; rw [zn]; exact Z
 ·intro kn _
  rw [gq (by decide)] at kn
  obtain ⟨b,Q,N,h3,h4,h5⟩:=h.m17 kn jT
  refine ⟨b,by rw [zo _ _ (by decide)]; exact Q,yH N hg.size,h3,zp h4 hg N (fun e=>h5 jJ uM e.symm),fun _ e=>?_⟩
  rw [gqs uM] at e; cases e
 ·intro e; rw [gq (by decide),jT] at e; cases e
theorem r9_17 (h:R9 C B0 xm t x f W) (kn:x[17]? = some false) (jT:x[18]? = some false) (hc:∀ v,C 17 v):R9 C B0 xm t (x.set 17 true) (upd f 17 (.slice (some (J W.heap.size 0)) 1 1)) (W.alloc (Obj.cells t.vs.toArray 49)):=by
 have hg:=r9_grow h ((Below.refl W.heap.size W).alloc qt (Obj.cells t.vs.toArray 49))
 refine ⟨hg.bel,zx hg.c (hc _),?_,?_,?_,?_⟩
 ·rw [gq (by decide),gq (by decide),zo _ _ (by decide)]; exact hg.m13
 ·rw [gq (by decide),gq (by decide),zo _ _ (by decide)]; exact hg.m15
 ·intro _ _
  refine ⟨W.heap.size,zn _ _ _,by rw [zf]; omega,h.bel.size,zg W t.vs _,fun jJ uM e=>?_⟩
  rw [gq (by decide)] at jJ uM
  rw [zo _ _ (by decide)] at e
  have:=((h.m13 jJ uM).lt _ e).2
  omega
 ·rw [gq (by decide),zo _ _ (by decide)]; exact hg.m18
theorem r9_18 (h:R9 C B0 xm t x f W) (uM:x[15]? = some true) (jT:x[18]? = some false) (hc:∀ v,C 18 v) {v':Value} (Z:ORow W' B0.heap.size v' (xm ++ [t])) (hg:W.grownBy W' (f 15).ownBlock):R9 C B0 xm t (x.set 18 true) (upd f 18 v') W':=by
 refine ⟨h.bel.grown hg h.bel.size (fun k hk=>((h.m15 uM jT).lt k hk).1),zx h.c (hc _),?_,?_,?_,?_⟩
 ·intro _ e; rw [gq (by decide)] at e; rw [e] at uM; cases uM
 ·intro _ e; rw [gqs jT] at e; cases e
 ·intro _ e; rw [gqs jT] at e; cases e
 ·intro _; rw [zn]; exact Z
end
def C9 (S c8:Nat) (ty left:Int) (lv:Value) (n1:Nat) (ta:Value) (h2:Int):Nat→Value→Prop
 | 0,v=>v = I (S + 1) 2
 | 1,v=>v = H ty
 | 2,v=>v = .bool true
 | 3,v=>v = .bool true
 | 4,v=>v = I c8 3
 | 5,v=>v = H left
 | 6,v=>v = .bool true
 | 7,v=>v = .bool true
 | 8,v=>v = .bool true
 | 9,v=>v = lv
 | 10,v=>v = H n1
 | 11,v=>v = .bool false
 | 12,v=>v = .bool false
 | 14,v=>v = lv
 | 16,v=>v = ta
 | 19,v=>v = H h2
 | 20,v=>v = .bool (decide (8 < h2))
 | 21,v=>v = .bool (decide (8 < h2))
 | 22,v=>v = .bool (decide (8 < h2))
 | _,_=>True
theorem l04New_any (next:Int) (vb:Value) (l:List Od) (c:Cm) (w:World) (hr:RdR Od.vs 6 w vb l) (hs:SlOk vb) (hg:GoodL l) (uD:∀ x ∈ l,x.side = 1 ∨ x.side = 2) (ht:c.g.size ≤ maxLen) :
  Calls Tryz.prog 133 #[.agg #[H next,vb],cmV c] w fun e w'=>e = .returned (H (newR next l c))∧ym w w':=by
 have HR:=Y hr
 have HG:=Y hg
 have vH:=Y hs
 have HSD:=Y uD
 have qE:=Y (fun W=>l03Tag_any c.g W ht)
 have HZR:=Y (fun W=>l04Zero_any c.p W)
 have HTK:=Y (fun W=>l01Ticks_any c.p W)
 obtain ⟨a,E,rfl,xB,hc⟩:=hr
 obtain ⟨kk,s,ty,li,O,ii,pr,K⟩:=c
 unfold cmV
 simp only at qE HZR HTK ⊢
 clear hc hg hs uD xB ht
 have xy:=zf w (D #[H next,.slice a l.length E] 28)
 have xY:((w.alloc (D #[H next,.slice a l.length E] 28)).alloc (D (yv kk s ty li O ii pr K).toArray 43)).heap.size = w.heap.size + 1 + 1:=by rw [zf,xy]
 have r1:=zg w [H next,.slice a l.length E] 28
 have r2:=zg (w.alloc (D #[H next,.slice a l.length E] 28)) (yv kk s ty li O ii pr K) 43
 rw [xy] at r2
 have qg:Below (w.heap.size + 1) (w.alloc (D #[H next,.slice a l.length E] 28)) ((w.alloc (D #[H next,.slice a l.length E] 28)).alloc (D (yv kk s ty li O ii pr K).toArray 43)):=(Below.refl _ _).alloc (by rw [xy]; omega) _
 have xC:Hid (ym w ((w.alloc (D #[H next,.slice a l.length E] 28)).alloc (D (yv kk s ty li O ii pr K).toArray 43))):=(dm _ _).alloc (by rw [xy]; omega) _
 have HX:Hid (_∧_):=⟨zb r1 qg (by omega),r2⟩
 have ur:Hid (w.heap.size + 1 < ((w.alloc (D #[H next,.slice a l.length E] 28)).alloc (D (yv kk s ty li O ii pr K).toArray 43)).heap.size):=by show _ < _; omega
 clear xy xY r1 r2 qg
 go_enter Tryz.func133,Tryz.ntmps133
 refine ds fun tg xq=>?_
 go_wp2_with fail
 refine U xq _ _ ?_
 clear xq
 generalize ((w.alloc (D #[H next,.slice a l.length E] 28)).alloc (D (yv kk s ty li O ii pr K).toArray 43)) = X2 at xC HX ur ⊢
 have HX:Hid (X2.rangeAt w.heap.size 0 [H next,.slice a l.length E]∧X2.rangeAt (w.heap.size + 1) 0 (yv kk s ty li O ii pr K)):=U HX
 have o1:X2.cell? (J (w.heap.size + 1) 1) = some (H s):=(U HX).2 1 _ rfl
 have o2:X2.cell? (J (w.heap.size + 1) 2) = some (H ty):=(U HX).2 2 _ rfl
 have o3:X2.cell? (J (w.heap.size + 1) 3) = some (H li):=(U HX).2 3 _ rfl
 have o4:X2.cell? (J (w.heap.size + 1) 4) = some (H O):=(U HX).2 4 _ rfl
 have o6:X2.cell? (J (w.heap.size + 1) 6) = some (yi pr):=(U HX).2 6 _ rfl
 have o7:X2.cell? (J (w.heap.size + 1) 7) = some (yj K):=(U HX).2 7 _ rfl
 refine ds fun tg xq=>?_
 go_wp2_with (first | (go_at_call 137; refine (U HTK _).mono ?_; rintro e w' ⟨rfl,ui⟩; rw [ui]; clear ui w') | (go_at_call 80; refine (bZ _ _ _ _).mono ?_; rintro e w' ⟨rfl,ui⟩; rw [ui]; clear ui w') | (go_at_call 91; refine (br _ _).mono ?_; rintro e w' ⟨rfl,ui⟩; rw [ui]; clear ui w') | (go_at_call 159; refine (U HZR _).mono ?_; rintro e w' ⟨rfl,ui⟩; rw [ui]; clear ui w') | (go_at_call 130; refine (U qE _).mono ?_; rintro e w' ⟨rfl,ui⟩; rw [ui]; clear ui w'))
 refine U xq _ _ ?_
 clear xq
 refine ds fun tg xq=>?_
 cases bs:betB s 1 2
 have HK:Hid (newR next l ⟨kk,s,ty,li,O,ii,pr,K⟩ = 3):=by show _ = _; simp [newR,bs]
 rotate_left
 cases bt:betB ty 1 5
 have HK:Hid (newR next l ⟨kk,s,ty,li,O,ii,pr,K⟩ = 4):=by show _ = _; simp [newR,bs,bt]
 rotate_left
 have HT:Hid (lifW ⟨kk,s,ty,li,O,ii,pr,K⟩ = false→prcB ⟨kk,s,ty,li,O,ii,pr,K⟩ = true→betB O 1 1000000 = true→tagB K = true→∀ (u5 u6 u10 u11 u12 u13 u14 u15 u16 u17 u18 u19 u20 u21 u22 u23 u24 u25 u26 u27 u28 u29 u30 u31 u32 u33 u34 u35 u36 u37 u38 u39 u40 u41 u42 u43 u44 u45 u46 u47 u48 u49 u50 u51 u52 u53 u54 u55 u56 u57 u58 u59 u60 u61 u62 u63 u64 u65 u66 u67 u68 u69 u70:Value),tg { tmps:=#[.agg #[H next,.slice a l.length E],.agg (yv kk s ty li O ii pr K).toArray,I w.heap.size 0,I (w.heap.size + 1) 0,H 0,u5,u6,M,M,M,u10,u11,u12,u13,u14,u15,u16,u17,u18,u19,u20,u21,u22,u23,u24,u25,u26,u27,u28,u29,u30,u31,u32,u33,u34,u35,u36,u37,u38,u39,u40,u41,u42,u43,u44,u45,u46,u47,u48,u49,u50,u51,u52,u53,u54,u55,u56,u57,u58,u59,u60,u61,u62,u63,u64,u65,u66,u67,u68,u69,u70,M,M,M,M,M,M,M,M,M,M,M,M,M,M,M,M,M,M,M,M,M,M,M,M,M,M,M,M,M,M,M,M,M,M,M,M,M,M,M,M,M,M,M,M,M,M,M,M,M,M,M,M,M,M,M],defers:=[] } X2):=by
  intro hlif hprc hqty htag u5 u6 u10 u11 u12 u13 u14 u15 u16 u17 u18 u19 u20 u21 u22 u23 u24 u25 u26 u27 u28 u29 u30 u31 u32 u33 u34 u35 u36 u37 u38 u39 u40 u41 u42 u43 u44 u45 u46 u47 u48 u49 u50 u51 u52 u53 u54 u55 u56 u57 u58 u59 u60 u61 u62 u63 u64 u65 u66 u67 u68 u69 u70
  refine U xq _ _ ?_
  clear xq o1 o2 o3 o4 o6 o7
  have hside:=side_of bs
  have hqq:1 ≤ O∧O ≤ 1000000:=by simpa [betB] using hqty
  have qR:Hid (newR next l ⟨kk,s,ty,li,O,ii,pr,K⟩ = matS next ⟨kk,s,ty,li,O,ii,pr,K⟩ (matL ⟨kk,s,ty,li,O,ii,pr,K⟩ next 21 l O [])):=by
   show _ = _
   rw [matS_eq (U HG) (U HSD) bs hprc hqty]
   simp [newR,bs,bt,hlif,hprc,hqty,htag]
  have jR:=Y (fun W hW=>bV (.slice a l.length E) l ⟨kk,s,ty,li,O,ii,pr,K⟩ next W hW (U HG) hside hprc (by show 0 ≤ O; omega) hqq.2)
  have HGF:=Y (ba (c:=⟨kk,s,ty,li,O,ii,pr,K⟩) (id:=next) 21 l O [] (U HG) (by omega) hqq.2)
  simp only at jR HGF
  generalize matL ⟨kk,s,ty,li,O,ii,pr,K⟩ next 21 l O [] = hb at qR jR HGF
  generalize newR next l ⟨kk,s,ty,li,O,ii,pr,K⟩ = res at qR ⊢
  have HTKR:=Y (fun W=>bW next a l.length E ⟨kk,s,ty,li,O,ii,pr,K⟩ W)
  unfold cmV at HTKR
  simp only at HTKR
  have kL:Hid (matS next ⟨kk,s,ty,li,O,ii,pr,K⟩ hb = if ty = 5∧0 < hb.2.2.length then 11 else if ty = 4∧0 < hb.2.1 then 12 else if next = 1000000 then 13
   else if pP ty = true then (if 0 < hb.2.1 then (if hb.1.length = 20 then 13 else if 8 < nlev (hb.1 ++ [⟨next,s,tkS pr,hb.2.1,li,K⟩]) then 13 else 0) else 0) else 0):=rfl
  have qR:Hid (res = _):=(U qR).trans (U kL)
  clear kL hlif hprc hqty htag hqq
  generalize tkS pr = tt at jR HTKR qR
  obtain ⟨xm,left,ts⟩:=hb
  simp only at jR qR HGF
  refine ds fun tg xq=>?_
  refine zh (RNA (fun f=>{ tmps:=#[.agg #[H next,.slice a l.length E],.agg (yv kk s ty li O ii pr K).toArray,I w.heap.size 0,I (w.heap.size + 1) 0,H 0,u5,u6,f 11,f 10,f 13,u10,u11,u12,u13,u14,u15,u16,u17,u18,u19,u20,u21,u22,u23,u24,u25,u26,u27,u28,u29,u30,u31,u32,u33,u34,u35,u36,u37,u38,u39,u40,u41,u42,u43,u44,u45,u46,u47,u48,u49,u50,u51,u52,u53,u54,u55,u56,u57,u58,u59,u60,u61,u62,u63,u64,u65,u66,u67,u68,u69,u70,f 6,f 0,f 1,f 2,f 3,f 4,f 5,f 7,f 8,f 9,M,M,M,M,M,M,M,M,M,M,M,M,M,M,M,M,M,M,M,M,M,M,M,M,M,M,M,M,M,M,M,M,M,M,M,M,M,M,M,M,M,M,M,M,M],defers:=[] }) w.heap.size (.slice a l.length E) (.agg #[H next,.slice a l.length E]) (.agg (yv kk s ty li O ii pr K).toArray) (.agg (yu next s tt O li K).toArray) (.agg (yu next s tt left li K).toArray) (yu next s tt left li K) xm ts.length X2) (by kernel_rfl) ?_ ?_ ?_
  ·exact ⟨fun j=>M,rfl,⟨⟨rfl,rfl,rfl,Nat.le_refl _,fun _ _=>rfl⟩,fun j R=>by rw [yG] at R; split at R <;> simp at R,by simp,by simp,by simp⟩⟩
  ·rintro x hR V ⟨f,rfl,A⟩ hx xM
   have xn:=zO xM hx (by kernel_rfl)
   obtain ⟨lv,ev,e5,hlv,ae,ce,hev⟩:=A.m5 (xn 5 (by simp))
   obtain ⟨c8,kY,pg,kE,-,hcr⟩:=A.m10 (xn 10 (by simp))
   obtain ⟨lv',ev',e11,e11'⟩:=A.e 11 (xn 11 (by simp))
   obtain ⟨lv'',ev'',e13,e13'⟩:=A.e 13 (xn 13 (by simp))
   have HC8:=Y (hcr (xn 12 (by simp)))
   rw [e5] at e11 e13
   have q1:lv = lv':=(tup3 e11).1
   have q2:ev = ev'':=(tup3 e13).2.2
   rw [← q1] at e11'
   rw [← q2,hev] at e13'
   have jF:=Y hlv
   have xr:=Y ((U xC).trans (A.bel.mono (U xC).size))
   have HXV:Hid (V.rangeAt w.heap.size 0 [H next,.slice a l.length E]∧V.rangeAt (w.heap.size + 1) 0 (yv kk s ty li O ii pr K)):=⟨zb (U HX).1 A.bel (by have:=U ur; omega),zb (U HX).2 A.bel (U ur)⟩
   have hVS:w.heap.size + 1 < V.heap.size:=yH (U ur) A.bel.size
   refine U xq _ _ ?_
   clear xq
   simp only [kY,e11',e13']
   generalize f 6 = u71,f 0 = u72,f 1 = u73,f 2 = u74,f 3 = u75,f 4 = u76,f 5 = u77,f 7 = u78,f 8 = u79,f 9 = u80
   clear A xn e5 kY e11 e13 e11' e13' q1 q2 hcr xM hx hlv hev jR HTKR HX xC ur
   obtain ⟨⟨al,cal,jo,hll,qh⟩,hsl⟩:=U jF
   have HRL:Hid (RdR Od.vs 6 V (.slice al xm.length cal) xm):=by rw [← jo]; exact (U jF).1
   have HSV:Hid (SlOk (.slice al xm.length cal)):=by rw [← jo]; exact hsl
   subst jo
   clear qh hsl hll jF
   have k0:V.cell? (J w.heap.size 0) = some (H next):=(U HXV).1 0 _ rfl
   have o2:V.cell? (J (w.heap.size + 1) 2) = some (H ty):=(U HXV).2 2 _ rfl
   have c3:V.cell? (J c8 3) = some (H left):=U HC8 3 _ rfl
   have h20:xm.length ≤ 20:=(U HGF).1.len
   refine ds fun tg xq=>?_
   have vx:Hid (¬ (ty = 5∧0 < ts.length)→¬ (ty = 4∧0 < left)→next ≠ 1000000→∀ (u5 u6 u10 u11 u12 u13 u14 u15 u16 u17 u18 u19 u20 u21 u22 u23 u24 u25 u26 u27 u28 u29 u30 u31 u32 u33 u34 u35 u36 u37 u38 u39 u40 u41 u42 u43 u44 u45 u46 u47 u48 u49 u50 u51 u52 u53 u54 u55 u56 u57 u58 u59 u60 u61 u62 u63 u64 u65 u66 u67 u68 u69 u70 u71 u72 u73 u74 u75 u76 u77 u78 u79 u80 u81 u82 u83 u84 u85 u86 u87 u88 u89 u90 u91 u92 u93 u94 u95 u96 u97 u98 u99 u100 u101 u102:Value),tg { tmps:=#[.agg #[H next,.slice a l.length E],.agg (yv kk s ty li O ii pr K).toArray,I w.heap.size 0,I (w.heap.size + 1) 0,H 0,u5,u6,.slice al xm.length cal,I c8 0,.slice ae ts.length ce,u10,u11,u12,u13,u14,u15,u16,u17,u18,u19,u20,u21,u22,u23,u24,u25,u26,u27,u28,u29,u30,u31,u32,u33,u34,u35,u36,u37,u38,u39,u40,u41,u42,u43,u44,u45,u46,u47,u48,u49,u50,u51,u52,u53,u54,u55,u56,u57,u58,u59,u60,u61,u62,u63,u64,u65,u66,u67,u68,u69,u70,u71,u72,u73,u74,u75,u76,u77,u78,u79,u80,u81,u82,u83,u84,u85,u86,u87,u88,u89,u90,u91,u92,u93,u94,u95,u96,u97,u98,u99,u100,u101,u102,M,M,M,M,M,M,M,M,M,M,M,M,M,M,M,M,M,M,M,M,M,M,M],defers:=[] } V):=by
    intro g5 g4 gn u5 u6 u10 u11 u12 u13 u14 u15 u16 u17 u18 u19 u20 u21 u22 u23 u24 u25 u26 u27 u28 u29 u30 u31 u32 u33 u34 u35 u36 u37 u38 u39 u40 u41 u42 u43 u44 u45 u46 u47 u48 u49 u50 u51 u52 u53 u54 u55 u56 u57 u58 u59 u60 u61 u62 u63 u64 u65 u66 u67 u68 u69 u70 u71 u72 u73 u74 u75 u76 u77 u78 u79 u80 u81 u82 u83 u84 u85 u86 u87 u88 u89 u90 u91 u92 u93 u94 u95 u96 u97 u98 u99 u100 u101 u102
    have HRS:Hid (res = if pP ty = true then (if 0 < left then (if xm.length = 20 then 13 else if 8 < nlev (xm ++ [⟨next,s,tt,left,li,K⟩]) then 13 else 0) else 0) else 0):=by
     have:=U qR
     rw [if_neg g5,if_neg g4,if_neg gn] at this
     exact this
    refine U xq _ _ ?_
    clear xq g5 g4 gn qR k0
    have HCEL:Hid (∀ w':World,V.grownBy w' none→w'.cell? (J (w.heap.size + 1) 2) = some (H ty)∧w'.cell? (J c8 3) = some (H left)):=fun w' h'=>⟨zp (U HXV).2 h' hVS (by simp) 2 _ rfl,zp (U HC8) h' kE (by simp) 3 _ rfl⟩
    cases brs:pP ty
    ·have HQ0:Hid (res = 0):=(U HRS).trans (by rw [brs]; rfl)
     go_wp2_with fail
     refine zh (RG V (fun f=>{ tmps:=#[.agg #[H next,.slice a l.length E],.agg (yv kk s ty li O ii pr K).toArray,I w.heap.size 0,I (w.heap.size + 1) 0,H 0,u5,u6,.slice al xm.length cal,I c8 0,.slice ae ts.length ce,u10,u11,u12,u13,u14,u15,u16,u17,u18,u19,u20,u21,u22,u23,u24,u25,u26,u27,u28,u29,u30,u31,u32,u33,u34,u35,u36,u37,u38,u39,u40,u41,u42,u43,u44,u45,u46,u47,u48,u49,u50,u51,u52,u53,u54,u55,u56,u57,u58,u59,u60,u61,u62,u63,u64,u65,u66,u67,u68,u69,u70,u71,u72,u73,u74,u75,u76,u77,u78,u79,u80,u81,u82,u83,u84,u85,u86,u87,u88,u89,u90,u91,u92,u93,u94,u95,u96,u97,u98,u99,u100,u101,u102,f 0,f 1,f 2,f 3,f 4,f 5,f 6,f 7,f 8,f 9,f 10,f 11,f 12,f 13,f 14,f 15,f 16,f 17,f 18,f 19,f 20,f 21,f 22],defers:=[] }) 99 (DV [I (w.heap.size + 1) 2,H ty,.bool false,.bool false,M,M,M,.bool false,.bool false,M,M,M,M,M,M,M,M,M,M,M,M,M,.bool false])) (by kernel_rfl) ?_ ?_ ?_
     ·exact ⟨fun _=>M,rfl,⟨rfl,rfl,rfl,Nat.le_refl _,fun _ _=>rfl⟩,fun j R=>by rw [yG] at R; split at R <;> simp at R⟩
     ·rintro x hR V' ⟨f,rfl,xh,X⟩ hx xM
      have xn:=zS xM hx (acyc _ (by kernel_rfl))
      have e22:f 22 = .bool false:=X 22 (xn 22 (by simp)) _ rfl
      have xW:=Y (dq (U xr) xh)
      simp only [e22]
      clear X xn e22 xM hx xh
      go_wp2_with fail
      go_ret
      exact ⟨zq (U HQ0).symm,U xW⟩
     ·rintro x hR V' i' o' ⟨f,rfl,xh,X⟩ L hx Z xu G
      clear L
      have xJ:=Y xh
      have HD:=Y X
      have o2:V'.cell? (J (w.heap.size + 1) 2) = some (H ty):=zb (U HXV).2 xh hVS 2 _ rfl
      have c3:V'.cell? (J c8 3) = some (H left):=zb (U HC8) xh kE 3 _ rfl
      clear HRS HQ0
      match i',Z with
      | 0,Z =>
       obtain rfl:=ya Z
       clear G X xh
       rw [if_pos (by rfl)];unfold Oper.wp;go_simp
       exact ⟨upd f 0 (I (w.heap.size + 1) 2),by simp [upd],zd (U xJ) (U HD) (by decide) (yf rfl)⟩
      | 1,Z =>
       obtain rfl:=ya Z
       have g0:=X 0 (yd G 0 rfl) _ rfl
       clear G X xh
       rw [if_pos (by rfl)];unfold Oper.wp;go_simp
       exact ⟨upd f 1 (H ty),by simp [upd,g0],zd (U xJ) (U HD) (by decide) (yf rfl)⟩
      | 2,Z =>
       obtain rfl:=ya Z
       have g1:=X 1 (yd G 1 rfl) _ rfl
       clear G X xh
       rw [if_pos (by rfl)];unfold Oper.wp;go_simp
       refine (br ty _).mono ?_
       rintro e w3 ⟨rfl,hw3⟩
       rw [hw3,brs]
       exact ⟨upd f 2 (.bool false),by simp [upd,g1],zd (U xJ) (U HD) (by decide) (yf rfl)⟩
      | 3,Z =>
       obtain rfl:=ya Z
       have g2:=X 2 (yd G 2 rfl) _ rfl
       clear G X xh
       rw [if_pos (by rfl)];unfold Oper.wp;go_simp
       exact ⟨upd f 3 (.bool false),by simp [upd,g2],zd (U xJ) (U HD) (by decide) (yf rfl)⟩
      | 4,Z | 5,Z | 6,Z =>
       obtain rfl:=ya Z
       have g3:=X 3 (yd G 3 rfl) _ rfl
       clear G X xh
       rw [if_neg (by simp only [g3]; exact fun h=>Bool.noConfusion (show (false:Bool) = true from h))]
       exact ⟨upd f _ M,rfl,zd (U xJ) (U HD) (by decide) (yf rfl)⟩
      | 7,Z =>
       obtain rfl:=ya Z
       have g3:=X 3 (yd G 3 rfl) _ rfl
       have g6:=X 6 (yd G 6 rfl) _ rfl
       clear G X xh
       rw [if_pos (by rfl)];unfold Oper.wp;go_simp
       exact ⟨upd f 7 (.bool false),by simp [upd,g3,g6],zd (U xJ) (U HD) (by decide) (yf rfl)⟩
      | 8,Z =>
       obtain rfl:=ya Z
       have g7:=X 7 (yd G 7 rfl) _ rfl
       clear G X xh
       rw [if_pos (by rfl)];unfold Oper.wp;go_simp
       exact ⟨upd f 8 (.bool false),by simp [upd,g7],zd (U xJ) (U HD) (by decide) (yf rfl)⟩
      | 9,Z | 10,Z | 11,Z | 12,Z | 21,Z =>
       obtain rfl:=ya Z
       have g8:=X 8 (yd G 8 rfl) _ rfl
       clear G X xh
       rw [if_neg (by simp only [g8]; exact fun h=>Bool.noConfusion (show (false:Bool) = true from h))]
       exact ⟨upd f _ M,rfl,zd (U xJ) (U HD) (by decide) (yf rfl)⟩
      | 13,Z | 14,Z | 15,Z | 16,Z | 17,Z | 18,Z | 19,Z | 20,Z =>
       obtain rfl:=ya Z
       have xX:=X 12 (yd G 12 rfl) _ rfl
       clear G X xh
       rw [if_neg (by simp only [xX]; exact fun h=>Bool.noConfusion (show (false:Bool) = true from h))]
       exact ⟨upd f _ M,rfl,zd (U xJ) (U HD) (by decide) (yf rfl)⟩
      | 22,Z =>
       obtain rfl:=ya Z
       have g8:=X 8 (yd G 8 rfl) _ rfl
       have g21:=X 21 (yd G 21 rfl) _ rfl
       clear G X xh
       rw [if_pos (by rfl)];unfold Oper.wp;go_simp
       exact ⟨upd f 22 (.bool false),by simp [upd,g8,g21],zd (U xJ) (U HD) (by decide) (yf rfl)⟩
      | n + 23,Z=>simp at Z
    by_cases oJ:0 < left
    ·by_cases oq:xm.length = 20
     ·have HQ0:Hid (res = 13):=(U HRS).trans (by rw [if_pos brs,if_pos oJ,if_pos oq])
      have pM:(xm.length:Int) = 20:=by omega
      have hb20:((xm.length:Int) == 20) = true:=by simpa using pM
      have hlf':decide (0 < left) = true:=by simpa using oJ
      clear oq pM
      go_wp2_with fail
      refine zh (RG V (fun f=>{ tmps:=#[.agg #[H next,.slice a l.length E],.agg (yv kk s ty li O ii pr K).toArray,I w.heap.size 0,I (w.heap.size + 1) 0,H 0,u5,u6,.slice al xm.length cal,I c8 0,.slice ae ts.length ce,u10,u11,u12,u13,u14,u15,u16,u17,u18,u19,u20,u21,u22,u23,u24,u25,u26,u27,u28,u29,u30,u31,u32,u33,u34,u35,u36,u37,u38,u39,u40,u41,u42,u43,u44,u45,u46,u47,u48,u49,u50,u51,u52,u53,u54,u55,u56,u57,u58,u59,u60,u61,u62,u63,u64,u65,u66,u67,u68,u69,u70,u71,u72,u73,u74,u75,u76,u77,u78,u79,u80,u81,u82,u83,u84,u85,u86,u87,u88,u89,u90,u91,u92,u93,u94,u95,u96,u97,u98,u99,u100,u101,u102,f 0,f 1,f 2,f 3,f 4,f 5,f 6,f 7,f 8,f 9,f 10,f 11,f 12,f 13,f 14,f 15,f 16,f 17,f 18,f 19,f 20,f 21,f 22],defers:=[] }) 99 (DV [I (w.heap.size + 1) 2,H ty,.bool true,.bool true,I c8 3,H left,.bool true,.bool true,.bool true,.slice al xm.length cal,H xm.length,.bool true,.bool true,M,M,M,M,M,M,M,M,.bool true,.bool true])) (by kernel_rfl) ?_ ?_ ?_
      ·exact ⟨fun _=>M,rfl,⟨rfl,rfl,rfl,Nat.le_refl _,fun _ _=>rfl⟩,fun j R=>by rw [yG] at R; split at R <;> simp at R⟩
      ·rintro x hR V' ⟨f,rfl,xh,X⟩ hx xM
       have xn:=zS xM hx (acyc _ (by kernel_rfl))
       have e22:f 22 = .bool true:=X 22 (xn 22 (by simp)) _ rfl
       have xW:=Y (dq (U xr) xh)
       simp only [e22]
       clear X xn e22 xM hx xh
       go_wp2_with fail
       go_ret
       exact ⟨zq (U HQ0).symm,U xW⟩
      ·rintro x hR V' i' o' ⟨f,rfl,xh,X⟩ L hx Z xu G
       clear L
       have xJ:=Y xh
       have HD:=Y X
       have o2:V'.cell? (J (w.heap.size + 1) 2) = some (H ty):=zb (U HXV).2 xh hVS 2 _ rfl
       have c3:V'.cell? (J c8 3) = some (H left):=zb (U HC8) xh kE 3 _ rfl
       clear HRS HQ0
       match i',Z with
       | 0,Z =>
        obtain rfl:=ya Z
        clear G X xh
        rw [if_pos (by rfl)];unfold Oper.wp;go_simp
        exact ⟨upd f 0 (I (w.heap.size + 1) 2),by simp [upd],zd (U xJ) (U HD) (by decide) (yf rfl)⟩
       | 1,Z =>
        obtain rfl:=ya Z
        have g0:=X 0 (yd G 0 rfl) _ rfl
        clear G X xh
        rw [if_pos (by rfl)];unfold Oper.wp;go_simp
        exact ⟨upd f 1 (H ty),by simp [upd,g0],zd (U xJ) (U HD) (by decide) (yf rfl)⟩
       | 2,Z =>
        obtain rfl:=ya Z
        have g1:=X 1 (yd G 1 rfl) _ rfl
        clear G X xh
        rw [if_pos (by rfl)];unfold Oper.wp;go_simp
        refine (br ty _).mono ?_
        rintro e w3 ⟨rfl,hw3⟩
        rw [hw3,brs]
        exact ⟨upd f 2 (.bool true),by simp [upd,g1],zd (U xJ) (U HD) (by decide) (yf rfl)⟩
       | 3,Z =>
        obtain rfl:=ya Z
        have g2:=X 2 (yd G 2 rfl) _ rfl
        clear G X xh
        rw [if_pos (by rfl)];unfold Oper.wp;go_simp
        exact ⟨upd f 3 (.bool true),by simp [upd,g2],zd (U xJ) (U HD) (by decide) (yf rfl)⟩
       | 4,Z =>
        obtain rfl:=ya Z
        have g3:=X 3 (yd G 3 rfl) _ rfl
        clear G X xh
        rw [if_pos (by simp only [g3]; rfl)]
        unfold Oper.wp
        go_simp
        exact ⟨upd f 4 (I c8 3),by simp [upd,g3],zd (U xJ) (U HD) (by decide) (yf rfl)⟩
       | 5,Z =>
        obtain rfl:=ya Z
        have g3:=X 3 (yd G 3 rfl) _ rfl
        have g4:=X 4 (yd G 4 rfl) _ rfl
        clear G X xh
        rw [if_pos (by simp only [g3]; rfl)]
        unfold Oper.wp
        go_simp
        exact ⟨upd f 5 (H left),by simp [upd,g3,g4],zd (U xJ) (U HD) (by decide) (yf rfl)⟩
       | 6,Z =>
        obtain rfl:=ya Z
        have g3:=X 3 (yd G 3 rfl) _ rfl
        have g5:=X 5 (yd G 5 rfl) _ rfl
        clear G X xh
        rw [if_pos (by simp only [g3]; rfl)]
        unfold Oper.wp
        go_simp
        exact ⟨upd f 6 (.bool true),by simp [upd,g3,g5],zd (U xJ) (U HD) (by decide) (yf rfl)⟩
       | 7,Z =>
        obtain rfl:=ya Z
        have g3:=X 3 (yd G 3 rfl) _ rfl
        have g6:=X 6 (yd G 6 rfl) _ rfl
        clear G X xh
        rw [if_pos (by rfl)];unfold Oper.wp;go_simp
        exact ⟨upd f 7 (.bool true),by simp [upd,g3,g6],zd (U xJ) (U HD) (by decide) (yf rfl)⟩
       | 8,Z =>
        obtain rfl:=ya Z
        have g7:=X 7 (yd G 7 rfl) _ rfl
        clear G X xh
        rw [if_pos (by rfl)];unfold Oper.wp;go_simp
        exact ⟨upd f 8 (.bool true),by simp [upd,g7],zd (U xJ) (U HD) (by decide) (yf rfl)⟩
       | 9,Z =>
        obtain rfl:=ya Z
        have g8:=X 8 (yd G 8 rfl) _ rfl
        clear G X xh
        rw [if_pos (by simp only [g8]; rfl)]
        unfold Oper.wp
        go_simp
        exact ⟨upd f 9 (.slice al xm.length cal),by simp [upd,g8],zd (U xJ) (U HD) (by decide) (yf rfl)⟩
       | 10,Z =>
        obtain rfl:=ya Z
        have g8:=X 8 (yd G 8 rfl) _ rfl
        have g9:=X 9 (yd G 9 rfl) _ rfl
        clear G X xh
        rw [if_pos (by simp only [g8]; rfl)]
        unfold Oper.wp
        go_simp
        exact ⟨upd f 10 (H xm.length),by simp [upd,g8,g9],zd (U xJ) (U HD) (by decide) (yf rfl)⟩
       | 11,Z =>
        obtain rfl:=ya Z
        have g8:=X 8 (yd G 8 rfl) _ rfl
        have qG:=X 10 (yd G 10 rfl) _ rfl
        clear G X xh
        rw [if_pos (by simp only [g8]; rfl)]
        unfold Oper.wp
        go_simp
        exact ⟨upd f 11 (.bool true),by simp [upd,g8,qG],zd (U xJ) (U HD) (by decide) (yf rfl)⟩
       | 12,Z =>
        obtain rfl:=ya Z
        have g8:=X 8 (yd G 8 rfl) _ rfl
        have vB:=X 11 (yd G 11 rfl) _ rfl
        clear G X xh
        rw [if_pos (by simp only [g8]; rfl)]
        unfold Oper.wp
        go_simp
        exact ⟨upd f 12 (.bool true),by simp [upd,g8,vB],zd (U xJ) (U HD) (by decide) (yf rfl)⟩
       | 13,Z | 14,Z | 15,Z | 16,Z | 17,Z | 18,Z | 19,Z | 20,Z =>
        obtain rfl:=ya Z
        have xX:=X 12 (yd G 12 rfl) _ rfl
        clear G X xh
        rw [if_neg (by simp only [xX]; exact fun h=>Bool.noConfusion (show (false:Bool) = true from h))]
        exact ⟨upd f _ M,rfl,zd (U xJ) (U HD) (by decide) (yf rfl)⟩
       | 21,Z =>
        obtain rfl:=ya Z
        have g8:=X 8 (yd G 8 rfl) _ rfl
        have xX:=X 12 (yd G 12 rfl) _ rfl
        have g20:=X 20 (yd G 20 rfl) _ rfl
        clear G X xh
        rw [if_pos (by simp only [g8]; rfl)]
        unfold Oper.wp
        go_simp
        exact ⟨upd f 21 (.bool true),by simp [upd,g8,xX,g20],zd (U xJ) (U HD) (by decide) (yf rfl)⟩
       | 22,Z =>
        obtain rfl:=ya Z
        have g8:=X 8 (yd G 8 rfl) _ rfl
        have g21:=X 21 (yd G 21 rfl) _ rfl
        clear G X xh
        rw [if_pos (by rfl)];unfold Oper.wp;go_simp
        exact ⟨upd f 22 (.bool true),by simp [upd,g8,g21],zd (U xJ) (U HD) (by decide) (yf rfl)⟩
       | n + 23,Z=>simp at Z
     ·have HQ0:Hid (res = if decide (8 < ((nlev (xm ++ [⟨next,s,tt,left,li,K⟩]):Nat):Int)) = true then 13 else 0):=(U HRS).trans (by
       rw [if_pos brs,if_pos oJ,if_neg oq]
       by_cases h8:8 < nlev (xm ++ [⟨next,s,tt,left,li,K⟩])
       ·rw [if_pos h8,if_pos (by simp only [xd]; omega)]
       ·rw [if_neg h8,if_neg (by simp only [xd]; omega)])
      have HLV2:=Y (fun (W:World) (v:Value) (hW:RdR Od.vs 6 W v (xm ++ [⟨next,s,tt,left,li,K⟩]))=>l03Levels_any v (xm ++ [⟨next,s,tt,left,li,K⟩]) W hW (by simp; omega))
      generalize ((nlev (xm ++ [⟨next,s,tt,left,li,K⟩]):Nat):Int) = h2 at HQ0 HLV2
      have pM:¬ (xm.length:Int) = 20:=by omega
      have hb20:((xm.length:Int) == 20) = false:=by rw [xb]; exact pM
      have hlf':decide (0 < left) = true:=by simpa using oJ
      obtain ⟨i0,uz,uA,uF,uR⟩:=info_parts Tryz.infoOrder
      clear oq
      go_wp2_with fail
      refine zh (R9A (fun f=>{ tmps:=#[.agg #[H next,.slice a l.length E],.agg (yv kk s ty li O ii pr K).toArray,I w.heap.size 0,I (w.heap.size + 1) 0,H 0,u5,u6,.slice al xm.length cal,I c8 0,.slice ae ts.length ce,u10,u11,u12,u13,u14,u15,u16,u17,u18,u19,u20,u21,u22,u23,u24,u25,u26,u27,u28,u29,u30,u31,u32,u33,u34,u35,u36,u37,u38,u39,u40,u41,u42,u43,u44,u45,u46,u47,u48,u49,u50,u51,u52,u53,u54,u55,u56,u57,u58,u59,u60,u61,u62,u63,u64,u65,u66,u67,u68,u69,u70,u71,u72,u73,u74,u75,u76,u77,u78,u79,u80,u81,u82,u83,u84,u85,u86,u87,u88,u89,u90,u91,u92,u93,u94,u95,u96,u97,u98,u99,u100,u101,u102,f 0,f 1,f 2,f 3,f 4,f 5,f 6,f 7,f 8,f 9,f 10,f 11,f 12,f 13,f 14,f 15,f 16,f 17,f 18,f 19,f 20,f 21,f 22],defers:=[] }) (C9 w.heap.size c8 ty left (.slice al xm.length cal) xm.length (.agg (yu next s tt left li K).toArray) h2) V xm ⟨next,s,tt,left,li,K⟩) (by kernel_rfl) ?_ ?_ ?_
      ·exact ⟨fun j=>M,rfl,⟨⟨rfl,rfl,rfl,Nat.le_refl _,fun _ _=>rfl⟩,fun j R=>by rw [yG] at R; split at R <;> simp at R,by simp,by simp,by simp,by simp⟩⟩
      ·rintro x hR V' ⟨f,rfl,A⟩ hx xM
       have xn:=zS xM hx (acyc _ (by kernel_rfl))
       have e22:f 22 = .bool (decide (8 < h2)):=A.c 22 (xn 22 (by simp))
       have xW:=Y ((U xr).trans (A.bel.mono (U xr).size))
       simp only [e22]
       clear A xn e22 xM hx
       cases hd:decide (8 < h2)
       ·have oE:Hid (res = 0):=(U HQ0).trans (by rw [hd]; rfl)
        go_wp2_with fail
        go_ret
        exact ⟨zq (U oE).symm,U xW⟩
       ·have oE:Hid (res = 13):=(U HQ0).trans (by rw [hd]; rfl)
        go_wp2_with fail
        go_ret
        exact ⟨zq (U oE).symm,U xW⟩
      ·rintro x hR V' i' o' ⟨f,rfl,A⟩ L hx Z xu G
       have xw:=Y A
       have o2:V'.cell? (J (w.heap.size + 1) 2) = some (H ty):=zb (U HXV).2 A.bel hVS 2 _ rfl
       have HC9:=Y (zb (U HC8) A.bel kE)
       have c3:V'.cell? (J c8 3) = some (H left):=U HC9 3 _ rfl
       have xh:=Y A.bel
       clear HRS HQ0
       match i',Z with
       | 0,Z =>
        obtain rfl:=ya Z
        clear G A L
        rw [if_pos (by rfl)];unfold Oper.wp;go_simp
        exact ⟨upd f 0 (I (w.heap.size + 1) 2),by simp [upd],ah (U xw) 0 _ rfl (by decide) (by decide) (by decide) (by decide)⟩
       | 1,Z =>
        obtain rfl:=ya Z
        have g0:f 0 = I (w.heap.size + 1) 2:=A.c 0 (yd G 0 rfl)
        clear G A L
        rw [if_pos (by rfl)];unfold Oper.wp;go_simp
        exact ⟨upd f 1 (H ty),by simp [upd,g0],ah (U xw) 1 _ rfl (by decide) (by decide) (by decide) (by decide)⟩
       | 2,Z =>
        obtain rfl:=ya Z
        have g1:f 1 = H ty:=A.c 1 (yd G 1 rfl)
        clear G A L
        rw [if_pos (by rfl)];unfold Oper.wp;go_simp
        refine (br ty _).mono ?_
        rintro e w3 ⟨rfl,hw3⟩
        rw [hw3,brs]
        exact ⟨upd f 2 (.bool true),by simp [upd,g1],ah (U xw) 2 _ rfl (by decide) (by decide) (by decide) (by decide)⟩
       | 3,Z =>
        obtain rfl:=ya Z
        have g2:f 2 = .bool true:=A.c 2 (yd G 2 rfl)
        clear G A L
        rw [if_pos (by rfl)];unfold Oper.wp;go_simp
        exact ⟨upd f 3 (.bool true),by simp [upd,g2],ah (U xw) 3 _ rfl (by decide) (by decide) (by decide) (by decide)⟩
       | 4,Z =>
        obtain rfl:=ya Z
        have g3:f 3 = .bool true:=A.c 3 (yd G 3 rfl)
        clear G A L
        rw [if_pos (by simp only [g3]; rfl)]
        unfold Oper.wp
        go_simp
        exact ⟨upd f 4 (I c8 3),by simp [upd,g3],ah (U xw) 4 _ rfl (by decide) (by decide) (by decide) (by decide)⟩
       | 5,Z =>
        obtain rfl:=ya Z
        have g4:f 4 = I c8 3:=A.c 4 (yd G 4 rfl)
        have g3:f 3 = .bool true:=A.c 3 (yd G 3 rfl)
        clear G A L
        rw [if_pos (by simp only [g3]; rfl)]
        unfold Oper.wp
        go_simp
        exact ⟨upd f 5 (H left),by simp [upd,g4,g3],ah (U xw) 5 _ rfl (by decide) (by decide) (by decide) (by decide)⟩
       | 6,Z =>
        obtain rfl:=ya Z
        have g5:f 5 = H left:=A.c 5 (yd G 5 rfl)
        have g3:f 3 = .bool true:=A.c 3 (yd G 3 rfl)
        clear G A L
        rw [if_pos (by simp only [g3]; rfl)]
        unfold Oper.wp
        go_simp
        exact ⟨upd f 6 (.bool true),by simp [upd,g5,g3],ah (U xw) 6 _ rfl (by decide) (by decide) (by decide) (by decide)⟩
       | 7,Z =>
        obtain rfl:=ya Z
        have g3:f 3 = .bool true:=A.c 3 (yd G 3 rfl)
        have g6:f 6 = .bool true:=A.c 6 (yd G 6 rfl)
        clear G A L
        rw [if_pos (by rfl)];unfold Oper.wp;go_simp
        exact ⟨upd f 7 (.bool true),by simp [upd,g3,g6],ah (U xw) 7 _ rfl (by decide) (by decide) (by decide) (by decide)⟩
       | 8,Z =>
        obtain rfl:=ya Z
        have g7:f 7 = .bool true:=A.c 7 (yd G 7 rfl)
        clear G A L
        rw [if_pos (by rfl)];unfold Oper.wp;go_simp
        exact ⟨upd f 8 (.bool true),by simp [upd,g7],ah (U xw) 8 _ rfl (by decide) (by decide) (by decide) (by decide)⟩
       | 9,Z =>
        obtain rfl:=ya Z
        have g8:f 8 = .bool true:=A.c 8 (yd G 8 rfl)
        clear G A L
        rw [if_pos (by simp only [g8]; rfl)]
        unfold Oper.wp
        go_simp
        exact ⟨upd f 9 (.slice al xm.length cal),by simp [upd,g8],ah (U xw) 9 _ rfl (by decide) (by decide) (by decide) (by decide)⟩
       | 10,Z =>
        obtain rfl:=ya Z
        have g9:f 9 = .slice al xm.length cal:=A.c 9 (yd G 9 rfl)
        have g8:f 8 = .bool true:=A.c 8 (yd G 8 rfl)
        clear G A L
        rw [if_pos (by simp only [g8]; rfl)]
        unfold Oper.wp
        go_simp
        exact ⟨upd f 10 (H xm.length),by simp [upd,g9,g8],ah (U xw) 10 _ rfl (by decide) (by decide) (by decide) (by decide)⟩
       | 11,Z =>
        obtain rfl:=ya Z
        have qG:f 10 = H xm.length:=A.c 10 (yd G 10 rfl)
        have g8:f 8 = .bool true:=A.c 8 (yd G 8 rfl)
        clear G A L
        rw [if_pos (by simp only [g8]; rfl)]
        unfold Oper.wp
        go_simp
        exact ⟨upd f 11 (.bool false),by simp [upd,qG,g8],ah (U xw) 11 _ rfl (by decide) (by decide) (by decide) (by decide)⟩
       | 12,Z =>
        obtain rfl:=ya Z
        have vB:f 11 = .bool false:=A.c 11 (yd G 11 rfl)
        have g8:f 8 = .bool true:=A.c 8 (yd G 8 rfl)
        clear G A L
        rw [if_pos (by simp only [g8]; rfl)]
        unfold Oper.wp
        go_simp
        exact ⟨upd f 12 (.bool false),by simp [upd,vB,g8],ah (U xw) 12 _ rfl (by decide) (by decide) (by decide) (by decide)⟩
       | 13,Z =>
        obtain rfl:=ya Z
        have xX:f 12 = .bool false:=A.c 12 (yd G 12 rfl)
        clear G A L
        rw [if_pos (by simp only [xX]; rfl)]
        unfold Oper.wp
        go_simp
        exact ⟨upd f 13 (.slice (some (J V'.heap.size 0)) 0 0),by simp [upd,xX],r9_13 (U xw) xu (fun _=>trivial)⟩
       | 14,Z =>
        obtain rfl:=ya Z
        have xX:f 12 = .bool false:=A.c 12 (yd G 12 rfl)
        clear G A L
        rw [if_pos (by simp only [xX]; rfl)]
        unfold Oper.wp
        go_simp
        exact ⟨upd f 14 (.slice al xm.length cal),by simp [upd,xX],ah (U xw) 14 _ rfl (by decide) (by decide) (by decide) (by decide)⟩
       | 15,Z =>
        obtain rfl:=ya Z
        have xX:f 12 = .bool false:=A.c 12 (yd G 12 rfl)
        have jY:f 14 = .slice al xm.length cal:=A.c 14 (yd G 14 rfl)
        have k13:x[13]? = some true:=G ⟨13,.data⟩ (by simp) rfl
        have n18:x[18]? = some false:=by
         rcases aN hx (show 18 < 23 by omega) with h | h
         ·exact h
         ·have:=ye L 18 rfl h 15 rfl
          rw [xu] at this; cases this
        have HO13:=Y (A.m13 k13 xu)
        have uU:Hid (∀ ad,al = some ad→∀ j u,(xm.flatMap Od.vs)[j]? = some u→V'.cell? (ad.add j) = some u):=fun ad had=>by
         have h:=zl (U HRL) (U xh) qt
         rw [had] at h
         exact rd_src h
        clear G A L
        rw [if_pos (by simp only [xX]; rfl)]
        rcases U HSV with h | ⟨ad,nn,cc,h⟩
        ·simp only [Value.slice.injEq] at h
         have hL:xm = []:=List.length_eq_zero_iff.1 h.2.1
         refine dl (.tmp 116) (.tmp 117) 26 rfl V.heap.size 49 i0 6 Tryz.underlying26 uz (f 13) 0 [] rfl (U HO13) (by show f 14 = _; rw [jY,h.1,h.2.1,h.2.2]) ?_
         refine ⟨upd f 15 (f 13),rfl,r9_15 (U xw) k13 xu n18 (fun _=>trivial) (by rw [hL]; exact U HO13) (yP _ _)⟩
        ·simp only [Value.slice.injEq] at h
         refine wp_append_own V' (.tmp 116) (.tmp 117) 26 rfl V.heap.size 49 i0 _ 6 56 Tryz.underlying26 uz uA uF uR rfl (by decide) (f 13) 0 [] rfl (U HO13) ad xm.length cal (xm.flatMap Od.vs) (by show f 14 = _; rw [jY,h.1]) (by rw [zH Od.len]) (U uU ad h.1) (aA xm) (by unfold maxLen; omega) (by omega) (U xh).size ?_
         intro v' w' xK uh _
         refine ⟨upd f 15 v',rfl,r9_15 (U xw) k13 xu n18 (fun _=>trivial) ?_ uh⟩
         show w'.ownsRow _ _ _ _ xm.length _
         simpa using xK
       | 16,Z =>
        obtain rfl:=ya Z
        have xX:f 12 = .bool false:=A.c 12 (yd G 12 rfl)
        obtain ⟨q0,q1,q2,q3,q4,q5⟩:=yA (U HC9)
        clear G A L
        rw [if_pos (by simp only [xX]; rfl)]
        unfold Oper.wp
        go_simp
        exact ⟨upd f 16 (.agg (yu next s tt left li K).toArray),by simp [upd,xX],ah (U xw) 16 _ rfl (by decide) (by decide) (by decide) (by decide)⟩
       | 17,Z =>
        obtain rfl:=ya Z
        have xX:f 12 = .bool false:=A.c 12 (yd G 12 rfl)
        have g16:f 16 = .agg (yu next s tt left li K).toArray:=A.c 16 (yd G 16 rfl)
        have n18:x[18]? = some false:=by
         rcases aN hx (show 18 < 23 by omega) with h | h
         ·exact h
         ·have:=ye L 18 rfl h 17 rfl
          rw [xu] at this; cases this
        clear G A L
        rw [if_pos (by simp only [xX]; rfl)]
        unfold Oper.wp
        go_simp
        exact ⟨upd f 17 (.slice (some (J V'.heap.size 0)) 1 1),by simp [upd,xX,g16],r9_17 (U xw) xu n18 (fun _=>trivial)⟩
       | 18,Z =>
        obtain rfl:=ya Z
        have xX:f 12 = .bool false:=A.c 12 (yd G 12 rfl)
        have k15:x[15]? = some true:=G ⟨15,.data⟩ (by simp) rfl
        obtain ⟨b,g17,xS,xU,uC,-⟩:=A.m17 (yd G 17 rfl) xu
        have HO15:=Y (A.m15 k15 xu)
        have uU:Hid (∀ j u,(Od.vs ⟨next,s,tt,left,li,K⟩)[j]? = some u→V'.cell? (((J b 0):Addr).add j) = some u):=fun j u hu=>by
         have:=uC j u hu
         rw [Addr.add_mid]; exact this
        clear G A L uC
        rw [if_pos (by simp only [xX]; rfl)]
        refine wp_append_own V' (.tmp 118) (.tmp 120) 26 rfl V.heap.size 49 i0 _ 6 56 Tryz.underlying26 uz uA uF uR rfl (by decide) (f 15) xm.length (xm.flatMap Od.vs) rfl (U HO15) (J b 0) 1 1 (Od.vs ⟨next,s,tt,left,li,K⟩) (by show f 17 = _; exact g17) rfl (U uU) (one_od _) (by unfold maxLen; omega) (by omega) (U xh).size ?_
        intro v' w' xK uh _
        refine ⟨upd f 18 v',rfl,r9_18 (U xw) k15 xu (fun _=>trivial) ?_ uh⟩
        show w'.ownsRow _ _ _ _ (xm ++ [(⟨next,s,tt,left,li,K⟩:Od)]).length _
        rw [yN,List.flatMap_append]
        simpa using xK
       | 19,Z =>
        obtain rfl:=ya Z
        have xX:f 12 = .bool false:=A.c 12 (yd G 12 rfl)
        have HO18:=Y (A.m18 (yd G 18 rfl))
        clear G A L
        rw [if_pos (by simp only [xX]; rfl)]
        unfold Oper.wp
        go_simp
        refine (U HLV2 V' (f 18) (zK (U HO18) (by simp; omega))).mono ?_
        rintro e w4 ⟨rfl,hg4⟩
        exact ⟨upd f 19 (H h2),by simp [upd,xX],ah (r9_grow (U xw) (gr_below' hg4 (fun g hg=>by cases hg) qt)) 19 _ rfl (by decide) (by decide) (by decide) (by decide)⟩
       | 20,Z =>
        obtain rfl:=ya Z
        have g19:f 19 = H h2:=A.c 19 (yd G 19 rfl)
        have xX:f 12 = .bool false:=A.c 12 (yd G 12 rfl)
        clear G A L
        rw [if_pos (by simp only [xX]; rfl)]
        unfold Oper.wp
        go_simp
        exact ⟨upd f 20 (.bool (decide (8 < h2))),by simp [upd,g19,xX],ah (U xw) 20 _ rfl (by decide) (by decide) (by decide) (by decide)⟩
       | 21,Z =>
        obtain rfl:=ya Z
        have xX:f 12 = .bool false:=A.c 12 (yd G 12 rfl)
        have g20:f 20 = .bool (decide (8 < h2)):=A.c 20 (yd G 20 rfl)
        have g8:f 8 = .bool true:=A.c 8 (yd G 8 rfl)
        clear G A L
        rw [if_pos (by simp only [g8]; rfl)]
        unfold Oper.wp
        go_simp
        exact ⟨upd f 21 (.bool (decide (8 < h2))),by simp [upd,xX,g20,g8],ah (U xw) 21 _ rfl (by decide) (by decide) (by decide) (by decide)⟩
       | 22,Z =>
        obtain rfl:=ya Z
        have g8:f 8 = .bool true:=A.c 8 (yd G 8 rfl)
        have g21:f 21 = .bool (decide (8 < h2)):=A.c 21 (yd G 21 rfl)
        clear G A L
        rw [if_pos (by rfl)];unfold Oper.wp;go_simp
        exact ⟨upd f 22 (.bool (decide (8 < h2))),by simp [upd,g8,g21],ah (U xw) 22 _ rfl (by decide) (by decide) (by decide) (by decide)⟩
       | n + 23,Z=>simp at Z
    ·have HQ0:Hid (res = 0):=(U HRS).trans (by rw [if_pos brs,if_neg oJ])
     have hlf':decide (0 < left) = false:=by simpa using oJ
     go_wp2_with fail
     refine zh (RG V (fun f=>{ tmps:=#[.agg #[H next,.slice a l.length E],.agg (yv kk s ty li O ii pr K).toArray,I w.heap.size 0,I (w.heap.size + 1) 0,H 0,u5,u6,.slice al xm.length cal,I c8 0,.slice ae ts.length ce,u10,u11,u12,u13,u14,u15,u16,u17,u18,u19,u20,u21,u22,u23,u24,u25,u26,u27,u28,u29,u30,u31,u32,u33,u34,u35,u36,u37,u38,u39,u40,u41,u42,u43,u44,u45,u46,u47,u48,u49,u50,u51,u52,u53,u54,u55,u56,u57,u58,u59,u60,u61,u62,u63,u64,u65,u66,u67,u68,u69,u70,u71,u72,u73,u74,u75,u76,u77,u78,u79,u80,u81,u82,u83,u84,u85,u86,u87,u88,u89,u90,u91,u92,u93,u94,u95,u96,u97,u98,u99,u100,u101,u102,f 0,f 1,f 2,f 3,f 4,f 5,f 6,f 7,f 8,f 9,f 10,f 11,f 12,f 13,f 14,f 15,f 16,f 17,f 18,f 19,f 20,f 21,f 22],defers:=[] }) 99 (DV [I (w.heap.size + 1) 2,H ty,.bool true,.bool true,I c8 3,H left,.bool false,.bool false,.bool false,M,M,M,M,M,M,M,M,M,M,M,M,M,.bool false])) (by kernel_rfl) ?_ ?_ ?_
     ·exact ⟨fun _=>M,rfl,⟨rfl,rfl,rfl,Nat.le_refl _,fun _ _=>rfl⟩,fun j R=>by rw [yG] at R; split at R <;> simp at R⟩
     ·rintro x hR V' ⟨f,rfl,xh,X⟩ hx xM
      have xn:=zS xM hx (acyc _ (by kernel_rfl))
      have e22:f 22 = .bool false:=X 22 (xn 22 (by simp)) _ rfl
      have xW:=Y (dq (U xr) xh)
      simp only [e22]
      clear X xn e22 xM hx xh
      go_wp2_with fail
      go_ret
      exact ⟨zq (U HQ0).symm,U xW⟩
     ·rintro x hR V' i' o' ⟨f,rfl,xh,X⟩ L hx Z xu G
      clear L
      have xJ:=Y xh
      have HD:=Y X
      have o2:V'.cell? (J (w.heap.size + 1) 2) = some (H ty):=zb (U HXV).2 xh hVS 2 _ rfl
      have c3:V'.cell? (J c8 3) = some (H left):=zb (U HC8) xh kE 3 _ rfl
      clear HRS HQ0
      match i',Z with
      | 0,Z =>
       obtain rfl:=ya Z
       clear G X xh
       rw [if_pos (by rfl)];unfold Oper.wp;go_simp
       exact ⟨upd f 0 (I (w.heap.size + 1) 2),by simp [upd],zd (U xJ) (U HD) (by decide) (yf rfl)⟩
      | 1,Z =>
       obtain rfl:=ya Z
       have g0:=X 0 (yd G 0 rfl) _ rfl
       clear G X xh
       rw [if_pos (by rfl)];unfold Oper.wp;go_simp
       exact ⟨upd f 1 (H ty),by simp [upd,g0],zd (U xJ) (U HD) (by decide) (yf rfl)⟩
      | 2,Z =>
       obtain rfl:=ya Z
       have g1:=X 1 (yd G 1 rfl) _ rfl
       clear G X xh
       rw [if_pos (by rfl)];unfold Oper.wp;go_simp
       refine (br ty _).mono ?_
       rintro e w3 ⟨rfl,hw3⟩
       rw [hw3,brs]
       exact ⟨upd f 2 (.bool true),by simp [upd,g1],zd (U xJ) (U HD) (by decide) (yf rfl)⟩
      | 3,Z =>
       obtain rfl:=ya Z
       have g2:=X 2 (yd G 2 rfl) _ rfl
       clear G X xh
       rw [if_pos (by rfl)];unfold Oper.wp;go_simp
       exact ⟨upd f 3 (.bool true),by simp [upd,g2],zd (U xJ) (U HD) (by decide) (yf rfl)⟩
      | 4,Z =>
       obtain rfl:=ya Z
       have g3:=X 3 (yd G 3 rfl) _ rfl
       clear G X xh
       rw [if_pos (by simp only [g3]; rfl)]
       unfold Oper.wp
       go_simp
       exact ⟨upd f 4 (I c8 3),by simp [upd,g3],zd (U xJ) (U HD) (by decide) (yf rfl)⟩
      | 5,Z =>
       obtain rfl:=ya Z
       have g3:=X 3 (yd G 3 rfl) _ rfl
       have g4:=X 4 (yd G 4 rfl) _ rfl
       clear G X xh
       rw [if_pos (by simp only [g3]; rfl)]
       unfold Oper.wp
       go_simp
       exact ⟨upd f 5 (H left),by simp [upd,g3,g4],zd (U xJ) (U HD) (by decide) (yf rfl)⟩
      | 6,Z =>
       obtain rfl:=ya Z
       have g3:=X 3 (yd G 3 rfl) _ rfl
       have g5:=X 5 (yd G 5 rfl) _ rfl
       clear G X xh
       rw [if_pos (by simp only [g3]; rfl)]
       unfold Oper.wp
       go_simp
       exact ⟨upd f 6 (.bool false),by simp [upd,g3,g5],zd (U xJ) (U HD) (by decide) (yf rfl)⟩
      | 7,Z =>
       obtain rfl:=ya Z
       have g3:=X 3 (yd G 3 rfl) _ rfl
       have g6:=X 6 (yd G 6 rfl) _ rfl
       clear G X xh
       rw [if_pos (by rfl)];unfold Oper.wp;go_simp
       exact ⟨upd f 7 (.bool false),by simp [upd,g3,g6],zd (U xJ) (U HD) (by decide) (yf rfl)⟩
      | 8,Z =>
       obtain rfl:=ya Z
       have g7:=X 7 (yd G 7 rfl) _ rfl
       clear G X xh
       rw [if_pos (by rfl)];unfold Oper.wp;go_simp
       exact ⟨upd f 8 (.bool false),by simp [upd,g7],zd (U xJ) (U HD) (by decide) (yf rfl)⟩
      | 9,Z | 10,Z | 11,Z | 12,Z | 21,Z =>
       obtain rfl:=ya Z
       have g8:=X 8 (yd G 8 rfl) _ rfl
       clear G X xh
       rw [if_neg (by simp only [g8]; exact fun h=>Bool.noConfusion (show (false:Bool) = true from h))]
       exact ⟨upd f _ M,rfl,zd (U xJ) (U HD) (by decide) (yf rfl)⟩
      | 13,Z | 14,Z | 15,Z | 16,Z | 17,Z | 18,Z | 19,Z | 20,Z =>
       obtain rfl:=ya Z
       have xX:=X 12 (yd G 12 rfl) _ rfl
       clear G X xh
       rw [if_neg (by simp only [xX]; exact fun h=>Bool.noConfusion (show (false:Bool) = true from h))]
       exact ⟨upd f _ M,rfl,zd (U xJ) (U HD) (by decide) (yf rfl)⟩
      | 22,Z =>
       obtain rfl:=ya Z
       have g8:=X 8 (yd G 8 rfl) _ rfl
       have g21:=X 21 (yd G 21 rfl) _ rfl
       clear G X xh
       rw [if_pos (by rfl)];unfold Oper.wp;go_simp
       exact ⟨upd f 22 (.bool false),by simp [upd,g8,g21],zd (U xJ) (U HD) (by decide) (yf rfl)⟩
      | n + 23,Z=>simp at Z
   clear xq
   have HTN:Hid (¬ (ty = 5∧0 < ts.length)→¬ (ty = 4∧0 < left)→next = 1000000→res = 13):=fun g5 g4 gn=>by
    have:=U qR
    rw [if_neg g5,if_neg g4,if_pos gn] at this
    exact this
   by_cases h5:ty = 5
   ·by_cases hts:0 < ts.length
    ·have oE:Hid (res = 11):=(U qR).trans (if_pos ⟨h5,hts⟩)
     subst h5
     have hts':(0:Int) < ts.length:=by omega
     clear hts vx HTN
     go_wp2_with fail
     go_ret
     exact ⟨zq (U oE).symm,U xr⟩
    ·subst h5
     have g5:¬ ((5:Int) = 5∧0 < ts.length):=fun h=>hts h.2
     have g4:¬ ((5:Int) = 4∧0 < left):=fun h=>by omega
     have hts':¬ (0:Int) < ts.length:=by omega
     have htz:(ts.length:Int) = 0:=by omega
     by_cases vQ:next = 1000000
     ·have oE:=Y (U HTN g5 g4 vQ)
      subst vQ
      clear vx HTN g5 g4
      go_wp2_with fail
      go_ret
      exact ⟨zq (U oE).symm,U xr⟩
     have bn:(next == 1000000) = false:=by rw [xb]; exact vQ
     have jH:=Y (U vx g5 g4 vQ)
     clear vx HTN g5 g4 vQ
     go_wp2_with fail
     exact U jH _ _ _ _ _ _ _ _ _ _ _ _ _ _ _ _ _ _ _ _ _ _ _ _ _ _ _ _ _ _ _ _ _ _ _ _ _ _ _ _ _ _ _ _ _ _ _ _ _ _ _ _ _ _ _ _ _ _ _ _ _ _ _ _ _ _ _ _ _ _ _ _ _ _ _ _ _ _ _ _ _ _ _ _ _ _ _ _ _ _ _ _ _ _ _
   ·have b5:(ty == 5) = false:=by rw [xb]; exact h5
    have g5:¬ (ty = 5∧0 < ts.length):=fun h=>h5 h.1
    by_cases h4:ty = 4
    ·by_cases oJ:0 < left
     ·have oE:Hid (res = 12):=(U qR).trans (by rw [if_neg g5,if_pos ⟨h4,oJ⟩])
      subst h4
      clear vx HTN h5 g5 b5
      go_wp2_with fail
      go_ret
      exact ⟨zq (U oE).symm,U xr⟩
     ·subst h4
      have g4:¬ ((4:Int) = 4∧0 < left):=fun h=>oJ h.2
      by_cases vQ:next = 1000000
      ·have oE:=Y (U HTN g5 g4 vQ)
       subst vQ
       clear vx HTN g5 g4
       go_wp2_with fail
       go_ret
       exact ⟨zq (U oE).symm,U xr⟩
      have bn:(next == 1000000) = false:=by rw [xb]; exact vQ
      have jH:=Y (U vx g5 g4 vQ)
      clear vx HTN g5 g4 vQ
      go_wp2_with fail
      exact U jH _ _ _ _ _ _ _ _ _ _ _ _ _ _ _ _ _ _ _ _ _ _ _ _ _ _ _ _ _ _ _ _ _ _ _ _ _ _ _ _ _ _ _ _ _ _ _ _ _ _ _ _ _ _ _ _ _ _ _ _ _ _ _ _ _ _ _ _ _ _ _ _ _ _ _ _ _ _ _ _ _ _ _ _ _ _ _ _ _ _ _ _ _ _ _
    ·have b4:(ty == 4) = false:=by rw [xb]; exact h4
     have g4:¬ (ty = 4∧0 < left):=fun h=>h4 h.1
     by_cases vQ:next = 1000000
     ·have oE:=Y (U HTN g5 g4 vQ)
      subst vQ
      clear vx HTN g5 g4
      go_wp2_with fail
      go_ret
      exact ⟨zq (U oE).symm,U xr⟩
     have bn:(next == 1000000) = false:=by rw [xb]; exact vQ
     have jH:=Y (U vx g5 g4 vQ)
     clear vx HTN g5 g4 vQ
     go_wp2_with fail
     exact U jH _ _ _ _ _ _ _ _ _ _ _ _ _ _ _ _ _ _ _ _ _ _ _ _ _ _ _ _ _ _ _ _ _ _ _ _ _ _ _ _ _ _ _ _ _ _ _ _ _ _ _ _ _ _ _ _ _ _ _ _ _ _ _ _ _ _ _ _ _ _ _ _ _ _ _ _ _ _ _ _ _ _ _ _ _ _ _ _ _ _ _ _ _ _ _
  ·rintro x hR V i' o' ⟨f,rfl,A⟩ L hx Z xu G
   have xw:=Y A
   have xh:=A.bel
   have xH:=U ur
   clear xq
   match i',Z with
   | 0,Z =>
    obtain rfl:=ya Z
    clear G A L
    rw [if_pos (by rfl)];unfold Oper.wp;go_simp
    exact ⟨upd f 0 (I w.heap.size 1),by simp [upd],aR (U xw) 0 _ (by decide) (by decide) (by decide) (rfl)⟩
   | 1,Z =>
    obtain rfl:=ya Z
    have g0:f 0 = I w.heap.size 1:=A.e 0 (yd G 0 rfl)
    have z1:V.cell? (J w.heap.size 1) = some (.slice a l.length E):=zb (U HX).1 xh (by omega) 1 _ rfl
    clear G A L
    rw [if_pos (by rfl)];unfold Oper.wp;go_simp
    exact ⟨upd f 1 (.slice a l.length E),by simp [upd,g0],aR (U xw) 1 _ (by decide) (by decide) (by decide) (rfl)⟩
   | 2,Z =>
    obtain rfl:=ya Z
    have z0:V.cell? (J w.heap.size 0) = some (H next):=zb (U HX).1 xh (by omega) 0 _ rfl
    have z1:V.cell? (J w.heap.size 1) = some (.slice a l.length E):=zb (U HX).1 xh (by omega) 1 _ rfl
    clear G A L
    rw [if_pos (by rfl)];unfold Oper.wp;go_simp
    exact ⟨upd f 2 (.agg #[H next,.slice a l.length E]),by simp [upd],aR (U xw) 2 _ (by decide) (by decide) (by decide) (rfl)⟩
   | 3,Z =>
    obtain rfl:=ya Z
    obtain ⟨z0,z1,z2,z3,z4,z5,z6,z7⟩:=yB (zb (U HX).2 xh (by omega))
    clear G A L
    rw [if_pos (by rfl)];unfold Oper.wp;go_simp
    exact ⟨upd f 3 (.agg (yv kk s ty li O ii pr K).toArray),by simp [upd],aR (U xw) 3 _ (by decide) (by decide) (by decide) (rfl)⟩
   | 4,Z =>
    obtain rfl:=ya Z
    have g2:f 2 = .agg #[H next,.slice a l.length E]:=A.e 2 (yd G 2 rfl)
    have g3:f 3 = .agg (yv kk s ty li O ii pr K).toArray:=A.e 3 (yd G 3 rfl)
    clear G A L
    rw [if_pos (by rfl)];unfold Oper.wp;go_simp
    refine (U HTKR _).mono ?_
    rintro e w4 ⟨rfl,xz⟩
    exact ⟨upd f 4 (.agg (yu next s tt O li K).toArray),by simp [upd,g2,g3],aR (rn_grow (U xw) xz) 4 _ (by decide) (by decide) (by decide) rfl⟩
   | 5,Z =>
    obtain rfl:=ya Z
    have g1:f 1 = .slice a l.length E:=A.e 1 (yd G 1 rfl)
    have g4:f 4 = .agg (yu next s tt O li K).toArray:=A.e 4 (yd G 4 rfl)
    have qU:∀ j,(j = 6 ∨ j = 7 ∨ j = 9 ∨ j = 11 ∨ j = 13)→x[j]? ≠ some true:=fun j R e=>by
     have h6:x[6]? ≠ some true:=fun e6=>by have:=ye L 6 rfl e6 5 rfl; rw [xu] at this; cases this
     rcases R with rfl | rfl | rfl | rfl | rfl
     ·exact h6 e
     ·exact h6 (ye L 7 rfl e 6 rfl)
     ·exact h6 (ye L 9 rfl e 6 rfl)
     ·exact h6 (ye L 11 rfl e 6 rfl)
     ·exact h6 (ye L 13 rfl e 6 rfl)
    have kW:=Y qU
    have HRV:=Y (zl (zl (U HR) (U xC) qt) xh qt)
    clear G A L qU
    rw [if_pos (by rfl)];unfold Oper.wp;go_simp
    refine (U jR V (U HRV)).mono ?_
    rintro e w4 ⟨lv,ve,rfl,hl4,he4,xz⟩
    refine ⟨upd f 5 (.tuple #[lv,.agg (yu next s tt left li K).toArray,ve]),by simp [upd,g1,g4],rn_5 (U xw) xz ?_ ?_ (U kW) ?_⟩
    ·rcases hl4 with ⟨rfl,hL⟩ | h
     ·simp only at hL; rw [hL]; exact ⟨zl (U HRV) xz qt,U vH⟩
     ·exact ⟨zK h (by have h20:xm.length ≤ 20:=(U HGF).1.len; show xm.length ≤ _; omega),oRow_sl h⟩
    ·rcases he4.2 with ⟨Q,N⟩ | ⟨g,oX,xp,Q,_⟩
     ·exact ⟨none,0,by rw [Q]; simp only at N; rw [N]⟩
     ·exact ⟨_,_,Q⟩
    ·intro c8 pg kE xA e
     rcases hl4 with ⟨rfl,hL⟩ | h
     ·simp only at hL
      obtain ⟨b,xS,xU⟩:=rd_block (U HR) (by rw [← hL]; exact xA)
      rw [xS] at e
      simp only [Option.some.injEq] at e
      have:=(U xC).size
      omega
     ·have:=(h.lt c8 e).1
      omega
   | 6,Z =>
    obtain rfl:=ya Z
    clear G A L
    rw [if_pos (by rfl)];unfold Oper.wp;go_simp
    exact ⟨upd f 6 (f 5),by simp [upd],aR (U xw) 6 _ (by decide) (by decide) (by decide) (rfl)⟩
   | 7,Z =>
    obtain rfl:=ya Z
    obtain ⟨lv,ev,e5,-⟩:=A.m5 (ye L 6 rfl (yd G 6 rfl) 5 rfl)
    have g6:f 6 = f 5:=A.e 6 (yd G 6 rfl)
    rw [e5] at g6
    clear G A L
    rw [if_pos (by rfl)];unfold Oper.wp;go_simp
    exact ⟨upd f 7 lv,by simp [upd,g6,e5],aR (U xw) 7 _ (by decide) (by decide) (by decide) ⟨lv,ev,e5,rfl⟩⟩
   | 8,Z =>
    obtain rfl:=ya Z
    obtain ⟨lv,ev,e5,-⟩:=A.m5 (ye L 6 rfl (yd G 6 rfl) 5 rfl)
    have g6:f 6 = f 5:=A.e 6 (yd G 6 rfl)
    rw [e5] at g6
    clear G A L
    rw [if_pos (by rfl)];unfold Oper.wp;go_simp
    exact ⟨upd f 8 (.agg (yu next s tt left li K).toArray),by simp [upd,g6,e5],aR (U xw) 8 _ (by decide) (by decide) (by decide) rfl⟩
   | 9,Z =>
    obtain rfl:=ya Z
    obtain ⟨lv,ev,e5,-⟩:=A.m5 (ye L 6 rfl (yd G 6 rfl) 5 rfl)
    have g6:f 6 = f 5:=A.e 6 (yd G 6 rfl)
    rw [e5] at g6
    clear G A L
    rw [if_pos (by rfl)];unfold Oper.wp;go_simp
    exact ⟨upd f 9 ev,by simp [upd,g6,e5],aR (U xw) 9 _ (by decide) (by decide) (by decide) ⟨lv,ev,e5,rfl⟩⟩
   | 10,Z =>
    obtain rfl:=ya Z
    have pw:x[12]? ≠ some true:=fun e=>by have:=ye L 12 rfl e 10 rfl; rw [xu] at this; cases this
    clear G A L
    rw [if_pos (by rfl)];unfold Oper.wp;go_simp
    exact ⟨upd f 10 (I V.heap.size 0),by simp [upd],rn_10 (U xw) pw (zt V (yu 0 0 0 0 0 ⟨#[]⟩) _)⟩
   | 11,Z =>
    obtain rfl:=ya Z
    obtain ⟨lv,ev,e5,e7⟩:=A.e 7 (yd G 7 rfl)
    clear G A L
    rw [if_pos (by rfl)];unfold Oper.wp;go_simp
    exact ⟨upd f 11 lv,by simp [upd,e7,e5],aR (U xw) 11 _ (by decide) (by decide) (by decide) ⟨lv,ev,e5,rfl⟩⟩
   | 12,Z =>
    obtain rfl:=ya Z
    have k5:x[5]? = some true:=G ⟨5,.phase⟩ (by simp) rfl
    have k10:x[10]? = some true:=G ⟨10,.data⟩ (by simp) rfl
    have g8:f 8 = .agg (yu next s tt left li K).toArray:=A.e 8 (yd G 8 rfl)
    obtain ⟨c8,qG,pg,kE,xD,-⟩:=A.m10 k10
    obtain ⟨y0,z0,q0⟩:=zc xD (j:=0) (by omega)
    obtain ⟨y1,z1,q1⟩:=zc xD (j:=1) (by omega)
    obtain ⟨y2,z2,q2⟩:=zc xD (j:=2) (by omega)
    obtain ⟨y3,z3,q3⟩:=zc xD (j:=3) (by omega)
    obtain ⟨y4,z4,q4⟩:=zc xD (j:=4) (by omega)
    obtain ⟨y5,z5,q5⟩:=zc xD (j:=5) (by omega)
    clear G A L xD
    rw [if_pos (by rfl)];unfold Oper.wp;go_simp
    exact ⟨f,by simp [g8,qG],rn_12 (U xw) k5 k10 qG rfl xu⟩
   | 13,Z =>
    obtain rfl:=ya Z
    obtain ⟨lv,ev,e5,e9⟩:=A.e 9 (yd G 9 rfl)
    clear G A L
    rw [if_pos (by rfl)];unfold Oper.wp;go_simp
    exact ⟨upd f 13 ev,by simp [upd,e9,e5],aR (U xw) 13 _ (by decide) (by decide) (by decide) ⟨lv,ev,e5,rfl⟩⟩
   | n + 14,Z=>simp at Z
 clear xq
 cases bl:betB li 0 1
 have hl:lifW ⟨kk,s,ty,li,O,ii,pr,K⟩ = true:=by simp [lifW,bl]
 have HK:Hid (newR next l ⟨kk,s,ty,li,O,ii,pr,K⟩ = 5):=by show _ = _; simp [newR,bs,bt,hl]
 clear hl
 rotate_left
 by_cases Q:li = 1
 subst Q
 cases brs:pP ty
 have hl:lifW ⟨kk,s,ty,1,O,ii,pr,K⟩ = true:=by simp [lifW,brs]
 have HK:Hid (newR next l ⟨kk,s,ty,1,O,ii,pr,K⟩ = 5):=by show _ = _; simp [newR,bs,bt,hl]
 clear hl
 rotate_left
 have hl:lifW ⟨kk,s,ty,1,O,ii,pr,K⟩ = false:=by simp [lifW,brs,bl]
 by_cases N:ty = 2
 subst N
 by_cases hz:fbit pr = 0
 have hp:prcB ⟨kk,s,2,1,O,ii,pr,K⟩ = true:=by simp [prcB,hz]
 have dz:decide (fbit pr = 0) = true:=by simpa using hz
 clear hz
 cases bq:betB O 1 1000000
 have HK:Hid (newR next l ⟨kk,s,2,1,O,ii,pr,K⟩ = 7):=by show _ = _; simp [newR,bs,bt,hl,hp,bq]
 clear hl hp
 rotate_left
 cases bg:tagB K
 have HK:Hid (newR next l ⟨kk,s,2,1,O,ii,pr,K⟩ = 8):=by show _ = _; simp [newR,bs,bt,hl,hp,bq,bg]
 clear hl hp
 rotate_left
 have vx:=Y (U HT hl hp bq bg)
 clear HT hl hp
 rotate_left
 have hp:prcB ⟨kk,s,2,1,O,ii,pr,K⟩ = false:=by simp [prcB,hz]
 have dz:decide (fbit pr = 0) = false:=by simpa using hz
 clear hz
 have HK:Hid (newR next l ⟨kk,s,2,1,O,ii,pr,K⟩ = 6):=by show _ = _; simp [newR,bs,bt,hl,hp]
 clear hl hp
 rotate_left
 have b2:(ty == 2) = false:=by rw [xb]; exact N
 have b2n:(ty != 2) = true:=by simpa using N
 cases bk:tkOk pr
 have hp:prcB ⟨kk,s,ty,1,O,ii,pr,K⟩ = false:=by simp [prcB,N,bk]
 have HK:Hid (newR next l ⟨kk,s,ty,1,O,ii,pr,K⟩ = 6):=by show _ = _; simp [newR,bs,bt,hl,hp]
 clear hl hp N
 rotate_left
 have hp:prcB ⟨kk,s,ty,1,O,ii,pr,K⟩ = true:=by simp [prcB,N,bk]
 clear N
 cases bq:betB O 1 1000000
 have HK:Hid (newR next l ⟨kk,s,ty,1,O,ii,pr,K⟩ = 7):=by show _ = _; simp [newR,bs,bt,hl,hp,bq]
 clear hl hp
 rotate_left
 cases bg:tagB K
 have HK:Hid (newR next l ⟨kk,s,ty,1,O,ii,pr,K⟩ = 8):=by show _ = _; simp [newR,bs,bt,hl,hp,bq,bg]
 clear hl hp
 rotate_left
 have vx:=Y (U HT hl hp bq bg)
 clear HT hl hp
 rotate_left
 have hl:lifW ⟨kk,s,ty,li,O,ii,pr,K⟩ = false:=by simp [lifW,bl,Q]
 have b1:(li == 1) = false:=by rw [xb]; exact Q
 clear Q
 by_cases N:ty = 2
 subst N
 by_cases hz:fbit pr = 0
 have hp:prcB ⟨kk,s,2,li,O,ii,pr,K⟩ = true:=by simp [prcB,hz]
 have dz:decide (fbit pr = 0) = true:=by simpa using hz
 clear hz
 cases bq:betB O 1 1000000
 have HK:Hid (newR next l ⟨kk,s,2,li,O,ii,pr,K⟩ = 7):=by show _ = _; simp [newR,bs,bt,hl,hp,bq]
 clear hl hp
 rotate_left
 cases bg:tagB K
 have HK:Hid (newR next l ⟨kk,s,2,li,O,ii,pr,K⟩ = 8):=by show _ = _; simp [newR,bs,bt,hl,hp,bq,bg]
 clear hl hp
 rotate_left
 have vx:=Y (U HT hl hp bq bg)
 clear HT hl hp
 rotate_left
 have hp:prcB ⟨kk,s,2,li,O,ii,pr,K⟩ = false:=by simp [prcB,hz]
 have dz:decide (fbit pr = 0) = false:=by simpa using hz
 clear hz
 have HK:Hid (newR next l ⟨kk,s,2,li,O,ii,pr,K⟩ = 6):=by show _ = _; simp [newR,bs,bt,hl,hp]
 clear hl hp
 rotate_left
 have b2:(ty == 2) = false:=by rw [xb]; exact N
 have b2n:(ty != 2) = true:=by simpa using N
 cases bk:tkOk pr
 have hp:prcB ⟨kk,s,ty,li,O,ii,pr,K⟩ = false:=by simp [prcB,N,bk]
 have HK:Hid (newR next l ⟨kk,s,ty,li,O,ii,pr,K⟩ = 6):=by show _ = _; simp [newR,bs,bt,hl,hp]
 clear hl hp N
 rotate_left
 have hp:prcB ⟨kk,s,ty,li,O,ii,pr,K⟩ = true:=by simp [prcB,N,bk]
 clear N
 cases bq:betB O 1 1000000
 have HK:Hid (newR next l ⟨kk,s,ty,li,O,ii,pr,K⟩ = 7):=by show _ = _; simp [newR,bs,bt,hl,hp,bq]
 clear hl hp
 rotate_left
 cases bg:tagB K
 have HK:Hid (newR next l ⟨kk,s,ty,li,O,ii,pr,K⟩ = 8):=by show _ = _; simp [newR,bs,bt,hl,hp,bq,bg]
 clear hl hp
 rotate_left
 have vx:=Y (U HT hl hp bq bg)
 clear HT hl hp
 all_goals
  go_wp2_with (first | (go_at_call 137; refine (U HTK _).mono ?_; rintro e w' ⟨rfl,ui⟩; rw [ui]; clear ui w') | (go_at_call 80; refine (bZ _ _ _ _).mono ?_; rintro e w' ⟨rfl,ui⟩; rw [ui]; clear ui w') | (go_at_call 91; refine (br _ _).mono ?_; rintro e w' ⟨rfl,ui⟩; rw [ui]; clear ui w') | (go_at_call 159; refine (U HZR _).mono ?_; rintro e w' ⟨rfl,ui⟩; rw [ui]; clear ui w') | (go_at_call 130; refine (U qE _).mono ?_; rintro e w' ⟨rfl,ui⟩; rw [ui]; clear ui w'))
  first
  | exact U vx _ _ _ _ _ _ _ _ _ _ _ _ _ _ _ _ _ _ _ _ _ _ _ _ _ _ _ _ _ _ _ _ _ _ _ _ _ _ _ _ _ _ _ _ _ _ _ _ _ _ _ _ _ _ _ _ _ _ _ _ _ _ _
  | (go_ret; exact ⟨zq (U HK).symm,U xC⟩)
end Go.Proofs.YtbakanofkghmiaaGreat
