/-
  Why a new order is refused, by the model: proved by walking the function.
-/
import Derived.Test.YthhkapcbocgcoaaGreatDoorGj40
import Derived.Test.YthhkapcbocgcoaaGreatDoorGj41
set_option linter.unusedVariables false
set_option maxHeartbeats 6400000
set_option maxRecDepth 100000
namespace Go.Proofs.YthhkapcbocgcoaaGreatDoor
open Go.RowKit
def EN (S:Nat) (vb bv cv ta tw u5:Value):Nat→Value→Prop
 | 0,v=>v = I S 1
 | 1,v=>v = vb
 | 2,v=>v = bv
 | 3,v=>v = cv
 | 4,v=>v = ta
 | 6,v=>v = u5
 | 7,v=>∃ lv ev,u5 = .tuple #[lv,tw,ev]∧v = lv
 | 8,v=>v = tw
 | 9,v=>∃ lv ev,u5 = .tuple #[lv,tw,ev]∧v = ev
 | 11,v=>∃ lv ev,u5 = .tuple #[lv,tw,ev]∧v = lv
 | 13,v=>∃ lv ev,u5 = .tuple #[lv,tw,ev]∧v = ev
 | _,_=>True
theorem en_any {S:Nat} {vb bv cv ta tw u u':Value} {j:Nat} {v:Value} (h:EN S vb bv cv ta tw u j v) (h6:j ≠ 6) (h7:j ≠ 7) (h9:j ≠ 9) (vK:j ≠ 11) (jd:j ≠ 13):EN S vb bv cv ta tw u' j v:=by
 match j with
 | 0 | 1 | 2 | 3 | 4 | 8=>exact h
 | 5 | 10 | 12=>trivial
 | 6=>omega
 | 7=>omega
 | 9=>omega
 | 11=>omega
 | 13=>omega
 | j + 14=>trivial
def LVok (W:World) (lv:Value) (L:List Od):Prop:=RdR Od.vs 6 W lv L∧SlOk lv
def Dst (L:List Od) (u v:Value):Prop:=∀ lv tw ev c8,u = .tuple #[lv,tw,ev]→v = I c8 0→L ≠ []→lv.ownBlock ≠ some c8
structure RN (S:Nat) (vb bv cv ta tw:Value) (twl:List Value) (L:List Od) (n2:Nat) (base:World) (x:List Bool) (f:Nat→Value) (W:World):Prop where
 bel:Below base.heap.size base W
 e:∀ j,x[j]? = some true→EN S vb bv cv ta tw (f 5) j (f j)
 m5:x[5]? = some true→∃ lv ev,f 5 = .tuple #[lv,tw,ev]∧LVok W lv L∧∃ a c,ev = .slice a n2 c
 m10:x[10]? = some true→∃ c8,f 10 = .pointer (some ⟨c8,0,none⟩)∧base.heap.size ≤ c8∧c8 < W.heap.size∧W.there c8 0 6∧(x[12]? = some true→W.rangeAt c8 0 twl)
 ap:x[5]? = some true→x[10]? = some true→Dst L (f 5) (f 10)
def RNA (hR:(Nat→Value)→Act) (S:Nat) (vb bv cv ta tw:Value) (pU:List Value) (L:List Od) (n2:Nat) (base:World) (x:List Bool) (hb:Act) (W:World):Prop:=∃ f,hb = hR f∧RN S vb bv cv ta tw pU L n2 base x f W
theorem tup3 {a b c a' b' c':Value} (h:Value.tuple #[a,b,c] = .tuple #[a',b',c']):a = a'∧b = b'∧c = c':=by
 have:=congrArg Array.toList (Value.tuple.inj h)
 simpa using this
theorem rd_block {W:World} {v:Value} {L:List Od} (h:RdR Od.vs 6 W v L) (xC:L ≠ []):∃ b,v.ownBlock = some b∧b < W.heap.size:=by
 obtain ⟨a,c,rfl,_,hc⟩:=h
 obtain ⟨b,off,rfl,A,_⟩:=hc xC
 exact ⟨b,rfl,A⟩
theorem rd_setC {W:World} {v:Value} {L:List Od} {c8 o:Nat} {vs:List Value} (h:RdR Od.vs 6 W v L) (xC:L ≠ []→v.ownBlock ≠ some c8):RdR Od.vs 6 (W.setCells c8 o vs) v L:=by
 obtain ⟨a,c,rfl,Q,hc⟩:=h
 refine ⟨a,c,rfl,Q,fun hl=>?_⟩
 obtain ⟨b,off,rfl,A,hr⟩:=hc hl
 have hbc:c8 ≠ b:=fun e=>xC hl (by rw [e]; rfl)
 exact ⟨b,off,rfl,by rw [eA]; exact A,fun i c hi=>gE (hr i c hi) hbc⟩
section
variable {S:Nat} {vb bv cv ta tw:Value} {pU:List Value} {L:List Od} {n2:Nat} {base W W':World} {x:List Bool} {f:Nat→Value}
theorem rn_grow (h:RN S vb bv cv ta tw pU L n2 base x f W) (A:yn W W'):RN S vb bv cv ta tw pU L n2 base x f W' :=
 ⟨h.bel.trans (A.mono h.bel.size),h.e,fun h5=>by
  obtain ⟨lv,ev,Q,D,X⟩:=h.m5 h5
  exact ⟨lv,ev,Q,⟨zh D.1 A hU,D.2⟩,X⟩,fun vi=>by
  obtain ⟨c8,Q,D,X,h4,h5⟩:=h.m10 vi
  exact ⟨c8,Q,D,yK X A.size,zk h4 A X,fun vX=>zc (h5 vX) A X⟩,h.ap⟩
theorem dS (h:RN S vb bv cv ta tw pU L n2 base x f W) (i:Nat) (u:Value) (h5:i ≠ 5) (vi:i ≠ 10) (vX:i ≠ 12) (hu:EN S vb bv cv ta tw (f 5) i u):RN S vb bv cv ta tw pU L n2 base (x.set i true) (upd f i u) W:=by
 refine ⟨h.bel,fun j hj=>?_,?_,?_,?_⟩
 ·rw [zq f u (show 5 ≠ i from fun e=>h5 e.symm)]
  by_cases hji:j = i
  ·subst hji; rw [zt]; exact hu
  ·rw [zq _ _ hji]
   rw [gq (fun e=>hji e.symm)] at hj
   exact h.e j hj
 ·rw [gq h5,zq f u (show 5 ≠ i from fun e=>h5 e.symm)]; exact h.m5
 ·rw [gq vi,gq vX,zq f u (show 10 ≠ i from fun e=>vi e.symm)]; exact h.m10
 ·rw [gq h5,gq vi,zq f u (show 5 ≠ i from fun e=>h5 e.symm),zq f u (show 10 ≠ i from fun e=>vi e.symm)]; exact h.ap
theorem rn_5 (h:RN S vb bv cv ta tw pU L n2 base x f W) (A:yn W W') {lv ev:Value} (hl:LVok W' lv L) (he:∃ a c,ev = .slice a n2 c) (qY:∀ j,(j = 6 ∨ j = 7 ∨ j = 9 ∨ j = 11 ∨ j = 13)→x[j]? ≠ some true)
  (hap:∀ c8,base.heap.size ≤ c8→c8 < W.heap.size→L ≠ []→lv.ownBlock ≠ some c8):RN S vb bv cv ta tw pU L n2 base (x.set 5 true) (upd f 5 (.tuple #[lv,tw,ev])) W':=by
 have hg:=rn_grow h A
 refine ⟨hg.bel,fun j hj=>?_,fun _=>⟨lv,ev,zt _ _ _,hl,he⟩,?_,?_⟩
 ·by_cases hji:j = 5
  ·subst hji; trivial
  ·rw [gq (fun e=>hji e.symm)] at hj
   rw [zq _ _ hji]
   refine en_any (hg.e j hj) ?_ ?_ ?_ ?_ ?_ <;> intro e <;> exact qY j (by omega) hj
 ·rw [gq (by omega),gq (by omega),zq _ _ (by omega)]; exact hg.m10
 ·intro _ vi
  rw [gq (by omega)] at vi
  rw [zt,zq _ _ (by omega)]
  obtain ⟨c8,Q,D,X,_⟩:=h.m10 vi
  intro lv' tw' ev' c8' e1 e2 xC
  rw [Q] at e2
  simp only [Value.pointer.injEq,Option.some.injEq,Addr.mk.injEq,and_true] at e2
  obtain rfl:c8 = c8':=e2
  have e1:lv = lv':=(tup3 e1).1
  rw [← e1]
  exact hap c8 D X xC
theorem rn_10 (h:RN S vb bv cv ta tw pU L n2 base x f W) (vX:x[12]? ≠ some true) {o:Obj} (ht:(W.alloc o).there W.heap.size 0 6):RN S vb bv cv ta tw pU L n2 base (x.set 10 true) (upd f 10 (I W.heap.size 0)) (W.alloc o):=by
 have hg:=rn_grow h ((Below.refl W.heap.size W).alloc hU o)
 refine ⟨hg.bel,fun j hj=>?_,?_,fun _=>⟨W.heap.size,zt _ _ _,h.bel.size,by rw [zi]; omega,ht,fun e=>absurd (by rwa [gq (by omega)] at e) vX⟩,?_⟩
 ·rw [zq _ _ (by omega)]
  by_cases hji:j = 10
  ·subst hji; trivial
  ·rw [gq (fun e=>hji e.symm)] at hj
   rw [zq _ _ hji]; exact hg.e j hj
 ·rw [gq (by omega),zq _ _ (by omega)]; exact hg.m5
 ·intro h5 _
  rw [gq (by omega)] at h5
  rw [zt,zq _ _ (by omega)]
  obtain ⟨lv,ev,Q,D,_⟩:=h.m5 h5
  intro lv' tw' ev' c8' e1 e2 xC e3
  rw [Q] at e1
  simp only [Value.pointer.injEq,Option.some.injEq,Addr.mk.injEq,and_true] at e2
  have e1:lv = lv':=(tup3 e1).1
  obtain ⟨b,ub,xP⟩:=rd_block D.1 xC
  rw [← e1,ub] at e3
  simp only [Option.some.injEq] at e3
  omega
theorem rn_12 (h:RN S vb bv cv ta tw pU L n2 base x f W) (h5:x[5]? = some true) (vi:x[10]? = some true) {c8:Nat} (hc:f 10 = I c8 0) (hl:pU.length = 6) (hx:x[12]? = some false):RN S vb bv cv ta tw pU L n2 base (x.set 12 true) f (W.setCells c8 0 pU):=by
 obtain ⟨c',Q,D,X,h4,_⟩:=h.m10 vi
 rw [hc] at Q
 simp only [Value.pointer.injEq,Option.some.injEq,Addr.mk.injEq,and_true] at Q
 subst Q
 obtain ⟨lv,ev,e1,e2,e3⟩:=h.m5 h5
 have hd:=h.ap h5 vi lv tw ev c8 e1 hc
 refine ⟨zj _ D _ _ _ h.bel,fun j hj=>?_,fun _=>⟨lv,ev,e1,⟨rd_setC e2.1 hd,e2.2⟩,e3⟩,fun _=>⟨c8,hc,D,by rw [eA]; exact X,xc h4 _ _ _,fun _=>yY W c8 0 _ (fun j hj=>h4 j (by omega))⟩,?_⟩
 ·by_cases hji:j = 12
  ·subst hji; trivial
  ·rw [gq (fun e=>hji e.symm)] at hj; exact h.e j hj
 ·intro _ _; exact h.ap h5 vi
end
def DV (vs:List Value) (p:Prop) (W:World) (j:Nat) (v:Value):Prop:=∀ u,vs[j]? = some u→v = u
structure R9 (C:Nat→Value→Prop) (B0:World) (L:List Od) (t:Od) (x:List Bool) (f:Nat→Value) (W:World):Prop where
 bel:Below B0.heap.size B0 W
 c:∀ j,x[j]? = some true→C j (f j)
 m13:x[13]? = some true→x[15]? = some false→ORow W B0.heap.size (f 13) []
 m15:x[15]? = some true→x[18]? = some false→ORow W B0.heap.size (f 15) L
 m17:x[17]? = some true→x[18]? = some false→∃ b,f 17 = .slice (some ⟨b,0,none⟩) 1 1∧b < W.heap.size∧B0.heap.size ≤ b∧W.rangeAt b 0 t.vs∧(x[13]? = some true→x[15]? = some false→(f 13).ownBlock ≠ some b)
 m18:x[18]? = some true→ORow W B0.heap.size (f 18) (L ++ [t])
def R9A (hR:(Nat→Value)→Act) (C:Nat→Value→Prop) (B0:World) (L:List Od) (t:Od) (x:List Bool) (hb:Act) (W:World):Prop:=∃ f,hb = hR f∧R9 C B0 L t x f W
section
variable {C:Nat→Value→Prop} {B0 W W':World} {L:List Od} {t:Od} {x:List Bool} {f:Nat→Value}
theorem r9_grow (h:R9 C B0 L t x f W) (A:yn W W'):R9 C B0 L t x f W' :=
 ⟨h.bel.trans (A.mono h.bel.size),h.c,fun a b=>zp (h.m13 a b) A,fun a b=>zp (h.m15 a b) A,fun a b=>by
  obtain ⟨b',Q,D,X,h4,h5⟩:=h.m17 a b
  exact ⟨b',Q,yK D A.size,X,zc h4 A D,h5⟩,fun a=>zp (h.m18 a) A⟩
theorem cI (h:R9 C B0 L t x f W) (i:Nat) (v:Value) (hv:C i v) (jd:i ≠ 13) (vT:i ≠ 15) (jK:i ≠ 17) (pH:i ≠ 18):R9 C B0 L t (x.set i true) (upd f i v) W:=by
 refine ⟨h.bel,zF h.c hv,?_,?_,?_,?_⟩ <;> simp only [gq jd,gq vT,gq jK,gq pH,zq f v jd.symm,zq f v vT.symm,zq f v jK.symm,zq f v pH.symm]
 ·exact h.m13
 ·exact h.m15
 ·exact h.m17
 ·exact h.m18
theorem r9_13 (h:R9 C B0 L t x f W) (jd:x[13]? = some false) (hc:∀ v,C 13 v):R9 C B0 L t (x.set 13 true) (upd f 13 (.slice (some (J W.heap.size 0)) 0 0)) (W.alloc (O #[] 65)):=by
 have hg:=r9_grow h ((Below.refl W.heap.size W).alloc hU (O #[] 65))
 refine ⟨hg.bel,zF hg.c (hc _),?_,?_,?_,?_⟩
 ·intro _ _; rw [zt]; exact World.ownsRow_made W #[] 0 h.bel.size (by decide) rfl
 ·rw [gq (by decide),gq (by decide),zq _ _ (by decide)]; exact hg.m15
 ·intro jK pH
  rw [gq (by decide)] at jK pH
  obtain ⟨b,Q,D,X,h4,h5⟩:=hg.m17 jK pH
  obtain ⟨b',e1,e2,_⟩:=h.m17 jK pH
  rw [Q] at e1
  simp only [Value.slice.injEq,Option.some.injEq,Addr.mk.injEq,and_true] at e1
  subst e1
  refine ⟨b,by rw [zq _ _ (by decide)]; exact Q,D,X,h4,fun _ _ e=>?_⟩
  rw [zt] at e
  simp [Value.ownBlock] at e
  omega
 ·rw [gq (by decide),zq _ _ (by decide)]; exact hg.m18
theorem r9_15 (h:R9 C B0 L t x f W) (jd:x[13]? = some true) (vT:x[15]? = some false) (pH:x[18]? = some false) (hc:∀ v,C 15 v) {v':Value} (Y:ORow W' B0.heap.size v' L) (hg:W.grownBy W' (f 13).ownBlock):R9 C B0 L t (x.set 15 true) (upd f 15 v') W':=by
 refine ⟨h.bel.grown hg h.bel.size (fun k E=>((h.m13 jd vT).lt k E).1),zF h.c (hc _),?_,?_,?_,?_⟩
 ·intro _ e; rw [gqs vT] at e; cases e
 ·intro _ _; rw [zt]; exact Y
 ·intro jK _
  rw [gq (by decide)] at jK
  obtain ⟨b,Q,D,X,h4,h5⟩:=h.m17 jK pH
  refine ⟨b,by rw [zq _ _ (by decide)]; exact Q,yK D hg.size,X,zv h4 hg D (fun e=>h5 jd vT e.symm),fun _ e=>?_⟩
  rw [gqs vT] at e; cases e
 ·intro e; rw [gq (by decide),pH] at e; cases e
theorem r9_17 (h:R9 C B0 L t x f W) (jK:x[17]? = some false) (pH:x[18]? = some false) (hc:∀ v,C 17 v):R9 C B0 L t (x.set 17 true) (upd f 17 (.slice (some (J W.heap.size 0)) 1 1)) (W.alloc (Obj.cells t.vs.toArray 65)):=by
 have hg:=r9_grow h ((Below.refl W.heap.size W).alloc hU (Obj.cells t.vs.toArray 65))
 refine ⟨hg.bel,zF hg.c (hc _),?_,?_,?_,?_⟩
 ·rw [gq (by decide),gq (by decide),zq _ _ (by decide)]; exact hg.m13
 ·rw [gq (by decide),gq (by decide),zq _ _ (by decide)]; exact hg.m15
 ·intro _ _
  refine ⟨W.heap.size,zt _ _ _,by rw [zi]; omega,h.bel.size,zm W t.vs _,fun jd vT e=>?_⟩
  rw [gq (by decide)] at jd vT
  rw [zq _ _ (by decide)] at e
  have:=((h.m13 jd vT).lt _ e).2
  omega
 ·rw [gq (by decide),zq _ _ (by decide)]; exact hg.m18
theorem r9_18 (h:R9 C B0 L t x f W) (vT:x[15]? = some true) (pH:x[18]? = some false) (hc:∀ v,C 18 v) {v':Value} (Y:ORow W' B0.heap.size v' (L ++ [t])) (hg:W.grownBy W' (f 15).ownBlock):R9 C B0 L t (x.set 18 true) (upd f 18 v') W':=by
 refine ⟨h.bel.grown hg h.bel.size (fun k E=>((h.m15 vT pH).lt k E).1),zF h.c (hc _),?_,?_,?_,?_⟩
 ·intro _ e; rw [gq (by decide)] at e; rw [e] at vT; cases vT
 ·intro _ e; rw [gqs pH] at e; cases e
 ·intro _ e; rw [gqs pH] at e; cases e
 ·intro _; rw [zt]; exact Y
end
def C9 (S c8:Nat) (ty left:Int) (lv:Value) (n1:Nat) (ta:Value) (N:Int):Nat→Value→Prop
 | 0,v=>v = I (S + 1) 2
 | 1,v=>v = H ty
 | 2,v=>v = .bool true
 | 3,v=>v = .bool true
 | 4,v=>v = I c8 3
 | 5,v=>v = H left
 | 6,v=>v = .bool true
 | 7,v=>v = .bool true
 | 8,v=>v = .bool true
 | 9,v=>v = lv
 | 10,v=>v = H n1
 | 11,v=>v = .bool false
 | 12,v=>v = .bool false
 | 14,v=>v = lv
 | 16,v=>v = ta
 | 19,v=>v = H N
 | 20,v=>v = .bool (decide (8 < N))
 | 21,v=>v = .bool (decide (8 < N))
 | 22,v=>v = .bool (decide (8 < N))
 | _,_=>True
theorem l04New_any (next:Int) (vb:Value) (l:List Od) (c:Cm) (w:World) (hr:RdR Od.vs 6 w vb l) (hs:SlOk vb) (hg:GoodL l) (ui:∀ x ∈ l,x.side = 1 ∨ x.side = 2) (ht:c.g.size ≤ maxLen) :
  Calls Tryz.prog 68 #[.agg #[H next,vb],cmV c] w fun e w'=>e = .returned (H (newR next l c))∧yn w w':=by
 have HR:=M hr
 have HG:=M hg
 have qn:=M hs
 have HSD:=M ui
 have ja:=M (fun W=>l03Tag_any c.g W ht)
 have HZR:=M (fun W=>l04Zero_any c.p W)
 have uY:=M (fun W=>l01Ticks_any c.p W)
 obtain ⟨a,cap,rfl,xD,hc⟩:=hr
 obtain ⟨kk,s,ty,li,qt,ii,pr,tg⟩:=c
 unfold cmV
 simp only at ja HZR uY ⊢
 clear hc hg hs ui xD ht
 have xF:=zi w (O #[H next,.slice a l.length cap] 27)
 have ug:((w.alloc (O #[H next,.slice a l.length cap] 27)).alloc (O (yx kk s ty li qt ii pr tg).toArray 33)).heap.size = w.heap.size + 1 + 1:=by rw [zi,xF]
 have r1:=zm w [H next,.slice a l.length cap] 27
 have r2:=zm (w.alloc (O #[H next,.slice a l.length cap] 27)) (yx kk s ty li qt ii pr tg) 33
 rw [xF] at r2
 have qi:Below (w.heap.size + 1) (w.alloc (O #[H next,.slice a l.length cap] 27)) ((w.alloc (O #[H next,.slice a l.length cap] 27)).alloc (O (yx kk s ty li qt ii pr tg).toArray 33)):=(Below.refl _ _).alloc (by rw [xF]; omega) _
 have xt:Hid (yn w ((w.alloc (O #[H next,.slice a l.length cap] 27)).alloc (O (yx kk s ty li qt ii pr tg).toArray 33))):=(gZ _ _).alloc (by rw [xF]; omega) _
 have HX:Hid (_∧_):=⟨zc r1 qi (by omega),r2⟩
 have ul:Hid (w.heap.size + 1 < ((w.alloc (O #[H next,.slice a l.length cap] 27)).alloc (O (yx kk s ty li qt ii pr tg).toArray 33)).heap.size):=by show _ < _; omega
 clear xF ug r1 r2 qi
 go_enter Tryz.func68,Tryz.ntmps68
 refine ic fun xh xK=>?_
 go_wp2_with fail
 refine U xK _ _ ?_
 clear xK
 generalize ((w.alloc (O #[H next,.slice a l.length cap] 27)).alloc (O (yx kk s ty li qt ii pr tg).toArray 33)) = X2 at xt HX ul ⊢
 have HX:Hid (X2.rangeAt w.heap.size 0 [H next,.slice a l.length cap]∧X2.rangeAt (w.heap.size + 1) 0 (yx kk s ty li qt ii pr tg)):=U HX
 have o1:X2.cell? (J (w.heap.size + 1) 1) = some (H s):=(U HX).2 1 _ rfl
 have o2:X2.cell? (J (w.heap.size + 1) 2) = some (H ty):=(U HX).2 2 _ rfl
 have o3:X2.cell? (J (w.heap.size + 1) 3) = some (H li):=(U HX).2 3 _ rfl
 have o4:X2.cell? (J (w.heap.size + 1) 4) = some (H qt):=(U HX).2 4 _ rfl
 have o6:X2.cell? (J (w.heap.size + 1) 6) = some (yj pr):=(U HX).2 6 _ rfl
 have o7:X2.cell? (J (w.heap.size + 1) 7) = some (yk tg):=(U HX).2 7 _ rfl
 refine ic fun xh xK=>?_
 go_wp2_with (first | (go_at_call 71; refine (U uY _).mono ?_; rintro e w' ⟨rfl,uh⟩; rw [uh]; clear uh w') | (go_at_call 31; refine (db _ _ _ _).mono ?_; rintro e w' ⟨rfl,uh⟩; rw [uh]; clear uh w') | (go_at_call 42; refine (eB _ _).mono ?_; rintro e w' ⟨rfl,uh⟩; rw [uh]; clear uh w') | (go_at_call 118; refine (U HZR _).mono ?_; rintro e w' ⟨rfl,uh⟩; rw [uh]; clear uh w') | (go_at_call 65; refine (U ja _).mono ?_; rintro e w' ⟨rfl,uh⟩; rw [uh]; clear uh w'))
 refine U xK _ _ ?_
 clear xK
 refine ic fun xh xK=>?_
 cases bs:betB s 1 2
 have HK:Hid (newR next l ⟨kk,s,ty,li,qt,ii,pr,tg⟩ = 3):=by show _ = _; simp [newR,bs]
 rotate_left
 cases bt:betB ty 1 5
 have HK:Hid (newR next l ⟨kk,s,ty,li,qt,ii,pr,tg⟩ = 4):=by show _ = _; simp [newR,bs,bt]
 rotate_left
 have HT:Hid (lifW ⟨kk,s,ty,li,qt,ii,pr,tg⟩ = false→prcB ⟨kk,s,ty,li,qt,ii,pr,tg⟩ = true→betB qt 1 1000000 = true→tagB tg = true→∀ (u5 u6 u10 u11 u12 u13 u14 u15 u16 u17 u18 u19 u20 u21 u22 u23 u24 u25 u26 u27 u28 u29 u30 u31 u32 u33 u34 u35 u36 u37 u38 u39 u40 u41 u42 u43 u44 u45 u46 u47 u48 u49 u50 u51 u52 u53 u54 u55 u56 u57 u58 u59 u60 u61 u62 u63 u64 u65 u66 u67 u68 u69 u70:Value),xh { tmps:=#[.agg #[H next,.slice a l.length cap],.agg (yx kk s ty li qt ii pr tg).toArray,I w.heap.size 0,I (w.heap.size + 1) 0,H 0,u5,u6,Z,Z,Z,u10,u11,u12,u13,u14,u15,u16,u17,u18,u19,u20,u21,u22,u23,u24,u25,u26,u27,u28,u29,u30,u31,u32,u33,u34,u35,u36,u37,u38,u39,u40,u41,u42,u43,u44,u45,u46,u47,u48,u49,u50,u51,u52,u53,u54,u55,u56,u57,u58,u59,u60,u61,u62,u63,u64,u65,u66,u67,u68,u69,u70,Z,Z,Z,Z,Z,Z,Z,Z,Z,Z,Z,Z,Z,Z,Z,Z,Z,Z,Z,Z,Z,Z,Z,Z,Z,Z,Z,Z,Z,Z,Z,Z,Z,Z,Z,Z,Z,Z,Z,Z,Z,Z,Z,Z,Z,Z,Z,Z,Z,Z,Z,Z,Z,Z,Z],defers:=[] } X2):=by
  intro hlif hprc hqty htag u5 u6 u10 u11 u12 u13 u14 u15 u16 u17 u18 u19 u20 u21 u22 u23 u24 u25 u26 u27 u28 u29 u30 u31 u32 u33 u34 u35 u36 u37 u38 u39 u40 u41 u42 u43 u44 u45 u46 u47 u48 u49 u50 u51 u52 u53 u54 u55 u56 u57 u58 u59 u60 u61 u62 u63 u64 u65 u66 u67 u68 u69 u70
  refine U xK _ _ ?_
  clear xK o1 o2 o3 o4 o6 o7
  have hside:=side_of bs
  have hqq:1 ≤ qt∧qt ≤ 1000000:=by simpa [betB] using hqty
  have kM:Hid (newR next l ⟨kk,s,ty,li,qt,ii,pr,tg⟩ = matS next ⟨kk,s,ty,li,qt,ii,pr,tg⟩ (matL ⟨kk,s,ty,li,qt,ii,pr,tg⟩ next 21 l qt [])):=by
   show _ = _
   rw [matS_eq (U HG) (U HSD) bs hprc hqty]
   simp [newR,bs,bt,hlif,hprc,hqty,htag]
  have kw:=M (fun W hW=>fw (.slice a l.length cap) l ⟨kk,s,ty,li,qt,ii,pr,tg⟩ next W hW (U HG) hside hprc (by show 0 ≤ qt; omega) hqq.2)
  have qV:=M (eF (c:=⟨kk,s,ty,li,qt,ii,pr,tg⟩) (id:=next) 21 l qt [] (U HG) (by omega) hqq.2)
  simp only at kw qV
  generalize matL ⟨kk,s,ty,li,qt,ii,pr,tg⟩ next 21 l qt [] = hR at kM kw qV
  generalize newR next l ⟨kk,s,ty,li,qt,ii,pr,tg⟩ = res at kM ⊢
  have HTKR:=M (fun W=>fx next a l.length cap ⟨kk,s,ty,li,qt,ii,pr,tg⟩ W)
  unfold cmV at HTKR
  simp only at HTKR
  have HMS:Hid (matS next ⟨kk,s,ty,li,qt,ii,pr,tg⟩ hR = if ty = 5∧0 < hR.2.2.length then 11 else if ty = 4∧0 < hR.2.1 then 12 else if next = 1000000 then 13
   else if bR ty = true then (if 0 < hR.2.1 then (if hR.1.length = 20 then 13 else if 8 < nlev (hR.1 ++ [⟨next,s,tkS pr,hR.2.1,li,tg⟩]) then 13 else 0) else 0) else 0):=rfl
  have kM:Hid (res = _):=(U kM).trans (U HMS)
  clear HMS hlif hprc hqty htag hqq
  generalize tkS pr = tt at kw HTKR kM
  obtain ⟨L,left,ts⟩:=hR
  simp only at kw kM qV
  refine ic fun xh xK=>?_
  refine zn (RNA (fun f=>{ tmps:=#[.agg #[H next,.slice a l.length cap],.agg (yx kk s ty li qt ii pr tg).toArray,I w.heap.size 0,I (w.heap.size + 1) 0,H 0,u5,u6,f 11,f 10,f 13,u10,u11,u12,u13,u14,u15,u16,u17,u18,u19,u20,u21,u22,u23,u24,u25,u26,u27,u28,u29,u30,u31,u32,u33,u34,u35,u36,u37,u38,u39,u40,u41,u42,u43,u44,u45,u46,u47,u48,u49,u50,u51,u52,u53,u54,u55,u56,u57,u58,u59,u60,u61,u62,u63,u64,u65,u66,u67,u68,u69,u70,f 6,f 0,f 1,f 2,f 3,f 4,f 5,f 7,f 8,f 9,Z,Z,Z,Z,Z,Z,Z,Z,Z,Z,Z,Z,Z,Z,Z,Z,Z,Z,Z,Z,Z,Z,Z,Z,Z,Z,Z,Z,Z,Z,Z,Z,Z,Z,Z,Z,Z,Z,Z,Z,Z,Z,Z,Z,Z],defers:=[] }) w.heap.size (.slice a l.length cap) (.agg #[H next,.slice a l.length cap]) (.agg (yx kk s ty li qt ii pr tg).toArray) (.agg (yw next s tt qt li tg).toArray) (.agg (yw next s tt left li tg).toArray) (yw next s tt left li tg) L ts.length X2) (by kernel_rfl) ?_ ?_ ?_
  ·exact ⟨fun j=>Z,rfl,⟨⟨rfl,rfl,rfl,Nat.le_refl _,fun _ _=>rfl⟩,fun j hj=>by rw [yJ] at hj; split at hj <;> simp at hj,by simp,by simp,by simp⟩⟩
  ·rintro x hb V ⟨f,rfl,F⟩ hx xN
   have xp:=zY xN hx (by kernel_rfl)
   obtain ⟨lv,ev,e5,hlv,ae,ce,hev⟩:=F.m5 (xp 5 (by simp))
   obtain ⟨c8,vy,kT,js,-,hcr⟩:=F.m10 (xp 10 (by simp))
   obtain ⟨lv',ev',vz,e11'⟩:=F.e 11 (xp 11 (by simp))
   obtain ⟨lv'',ev'',qk,e13'⟩:=F.e 13 (xp 13 (by simp))
   have HC8:=M (hcr (xp 12 (by simp)))
   rw [e5] at vz qk
   have q1:lv = lv':=(tup3 vz).1
   have q2:ev = ev'':=(tup3 qk).2.2
   rw [← q1] at e11'
   rw [← q2,hev] at e13'
   have HLV:=M hlv
   have xw:=M ((U xt).trans (F.bel.mono (U xt).size))
   have HXV:Hid (V.rangeAt w.heap.size 0 [H next,.slice a l.length cap]∧V.rangeAt (w.heap.size + 1) 0 (yx kk s ty li qt ii pr tg)):=⟨zc (U HX).1 F.bel (by have:=U ul; omega),zc (U HX).2 F.bel (U ul)⟩
   have hVS:w.heap.size + 1 < V.heap.size:=yK (U ul) F.bel.size
   refine U xK _ _ ?_
   clear xK
   simp only [vy,e11',e13']
   generalize f 6 = u71,f 0 = u72,f 1 = u73,f 2 = u74,f 3 = u75,f 4 = u76,f 5 = u77,f 7 = u78,f 8 = u79,f 9 = u80
   clear F xp e5 vy vz qk e11' e13' q1 q2 hcr xN hx hlv hev kw HTKR HX xt ul
   obtain ⟨⟨al,cal,qx,hll,vB⟩,hsl⟩:=U HLV
   have HRL:Hid (RdR Od.vs 6 V (.slice al L.length cal) L):=by rw [← qx]; exact (U HLV).1
   have HSV:Hid (SlOk (.slice al L.length cal)):=by rw [← qx]; exact hsl
   subst qx
   clear vB hsl hll HLV
   have k0:V.cell? (J w.heap.size 0) = some (H next):=(U HXV).1 0 _ rfl
   have o2:V.cell? (J (w.heap.size + 1) 2) = some (H ty):=(U HXV).2 2 _ rfl
   have c3:V.cell? (J c8 3) = some (H left):=U HC8 3 _ rfl
   have h20:L.length ≤ 20:=(U qV).1.len
   refine ic fun xh xK=>?_
   have vp:Hid (¬ (ty = 5∧0 < ts.length)→¬ (ty = 4∧0 < left)→next ≠ 1000000→∀ (u5 u6 u10 u11 u12 u13 u14 u15 u16 u17 u18 u19 u20 u21 u22 u23 u24 u25 u26 u27 u28 u29 u30 u31 u32 u33 u34 u35 u36 u37 u38 u39 u40 u41 u42 u43 u44 u45 u46 u47 u48 u49 u50 u51 u52 u53 u54 u55 u56 u57 u58 u59 u60 u61 u62 u63 u64 u65 u66 u67 u68 u69 u70 u71 u72 u73 u74 u75 u76 u77 u78 u79 u80 u81 u82 u83 u84 u85 u86 u87 u88 u89 u90 u91 u92 u93 u94 u95 u96 u97 u98 u99 u100 u101 u102:Value),xh { tmps:=#[.agg #[H next,.slice a l.length cap],.agg (yx kk s ty li qt ii pr tg).toArray,I w.heap.size 0,I (w.heap.size + 1) 0,H 0,u5,u6,.slice al L.length cal,I c8 0,.slice ae ts.length ce,u10,u11,u12,u13,u14,u15,u16,u17,u18,u19,u20,u21,u22,u23,u24,u25,u26,u27,u28,u29,u30,u31,u32,u33,u34,u35,u36,u37,u38,u39,u40,u41,u42,u43,u44,u45,u46,u47,u48,u49,u50,u51,u52,u53,u54,u55,u56,u57,u58,u59,u60,u61,u62,u63,u64,u65,u66,u67,u68,u69,u70,u71,u72,u73,u74,u75,u76,u77,u78,u79,u80,u81,u82,u83,u84,u85,u86,u87,u88,u89,u90,u91,u92,u93,u94,u95,u96,u97,u98,u99,u100,u101,u102,Z,Z,Z,Z,Z,Z,Z,Z,Z,Z,Z,Z,Z,Z,Z,Z,Z,Z,Z,Z,Z,Z,Z],defers:=[] } V):=by
    intro g5 g4 gn u5 u6 u10 u11 u12 u13 u14 u15 u16 u17 u18 u19 u20 u21 u22 u23 u24 u25 u26 u27 u28 u29 u30 u31 u32 u33 u34 u35 u36 u37 u38 u39 u40 u41 u42 u43 u44 u45 u46 u47 u48 u49 u50 u51 u52 u53 u54 u55 u56 u57 u58 u59 u60 u61 u62 u63 u64 u65 u66 u67 u68 u69 u70 u71 u72 u73 u74 u75 u76 u77 u78 u79 u80 u81 u82 u83 u84 u85 u86 u87 u88 u89 u90 u91 u92 u93 u94 u95 u96 u97 u98 u99 u100 u101 u102
    have HRS:Hid (res = if bR ty = true then (if 0 < left then (if L.length = 20 then 13 else if 8 < nlev (L ++ [⟨next,s,tt,left,li,tg⟩]) then 13 else 0) else 0) else 0):=by
     have:=U kM
     rw [if_neg g5,if_neg g4,if_neg gn] at this
     exact this
    refine U xK _ _ ?_
    clear xK g5 g4 gn kM k0
    have qO:Hid (∀ w':World,V.grownBy w' none→w'.cell? (J (w.heap.size + 1) 2) = some (H ty)∧w'.cell? (J c8 3) = some (H left)):=fun w' h'=>⟨zv (U HXV).2 h' hVS (by simp) 2 _ rfl,zv (U HC8) h' js (by simp) 3 _ rfl⟩
    cases brs:bR ty
    ·have HQ0:Hid (res = 0):=(U HRS).trans (by rw [brs]; rfl)
     go_wp2_with fail
     refine zn (RG V (fun f=>{ tmps:=#[.agg #[H next,.slice a l.length cap],.agg (yx kk s ty li qt ii pr tg).toArray,I w.heap.size 0,I (w.heap.size + 1) 0,H 0,u5,u6,.slice al L.length cal,I c8 0,.slice ae ts.length ce,u10,u11,u12,u13,u14,u15,u16,u17,u18,u19,u20,u21,u22,u23,u24,u25,u26,u27,u28,u29,u30,u31,u32,u33,u34,u35,u36,u37,u38,u39,u40,u41,u42,u43,u44,u45,u46,u47,u48,u49,u50,u51,u52,u53,u54,u55,u56,u57,u58,u59,u60,u61,u62,u63,u64,u65,u66,u67,u68,u69,u70,u71,u72,u73,u74,u75,u76,u77,u78,u79,u80,u81,u82,u83,u84,u85,u86,u87,u88,u89,u90,u91,u92,u93,u94,u95,u96,u97,u98,u99,u100,u101,u102,f 0,f 1,f 2,f 3,f 4,f 5,f 6,f 7,f 8,f 9,f 10,f 11,f 12,f 13,f 14,f 15,f 16,f 17,f 18,f 19,f 20,f 21,f 22],defers:=[] }) 99 (DV [I (w.heap.size + 1) 2,H ty,.bool false,.bool false,Z,Z,Z,.bool false,.bool false,Z,Z,Z,Z,Z,Z,Z,Z,Z,Z,Z,Z,Z,.bool false])) (by kernel_rfl) ?_ ?_ ?_
     ·exact ⟨fun _=>Z,rfl,⟨rfl,rfl,rfl,Nat.le_refl _,fun _ _=>rfl⟩,fun j hj=>by rw [yJ] at hj; split at hj <;> simp at hj⟩
     ·rintro x hb V' ⟨f,rfl,xi,hD⟩ hx xN
      have xp:=zX xN hx (acyc _ (by kernel_rfl))
      have e22:f 22 = .bool false:=hD 22 (xp 22 (by simp)) _ rfl
      have xG:=M (ia (U xw) xi)
      simp only [e22]
      clear hD xp e22 xN hx xi
      go_wp2_with fail
      go_ret
      exact ⟨zw (U HQ0).symm,U xG⟩
     ·rintro x hb V' i' o' ⟨f,rfl,xi,hD⟩ xo hx Y xu K
      clear xo
      have xI:=M xi
      have HD:=M hD
      have o2:V'.cell? (J (w.heap.size + 1) 2) = some (H ty):=zc (U HXV).2 xi hVS 2 _ rfl
      have c3:V'.cell? (J c8 3) = some (H left):=zc (U HC8) xi js 3 _ rfl
      clear HRS HQ0
      match i',Y with
      | 0,Y =>
       obtain rfl:=ya Y
       clear K hD xi
       rw [if_pos (by rfl)];unfold Oper.wp;go_simp
       exact ⟨upd f 0 (I (w.heap.size + 1) 2),by simp [upd],zf (U xI) (U HD) (by decide) (yh rfl)⟩
      | 1,Y =>
       obtain rfl:=ya Y
       have g0:=hD 0 (ye K 0 rfl) _ rfl
       clear K hD xi
       rw [if_pos (by rfl)];unfold Oper.wp;go_simp
       exact ⟨upd f 1 (H ty),by simp [upd,g0],zf (U xI) (U HD) (by decide) (yh rfl)⟩
      | 2,Y =>
       obtain rfl:=ya Y
       have g1:=hD 1 (ye K 1 rfl) _ rfl
       clear K hD xi
       rw [if_pos (by rfl)];unfold Oper.wp;go_simp
       refine (eB ty _).mono ?_
       rintro e w3 ⟨rfl,hw3⟩
       rw [hw3,brs]
       exact ⟨upd f 2 (.bool false),by simp [upd,g1],zf (U xI) (U HD) (by decide) (yh rfl)⟩
      | 3,Y =>
       obtain rfl:=ya Y
       have g2:=hD 2 (ye K 2 rfl) _ rfl
       clear K hD xi
       rw [if_pos (by rfl)];unfold Oper.wp;go_simp
       exact ⟨upd f 3 (.bool false),by simp [upd,g2],zf (U xI) (U HD) (by decide) (yh rfl)⟩
      | 4,Y | 5,Y | 6,Y =>
       obtain rfl:=ya Y
       have g3:=hD 3 (ye K 3 rfl) _ rfl
       clear K hD xi
       rw [if_neg (by simp only [g3]; exact fun h=>Bool.noConfusion (show (false:Bool) = true from h))]
       exact ⟨upd f _ Z,rfl,zf (U xI) (U HD) (by decide) (yh rfl)⟩
      | 7,Y =>
       obtain rfl:=ya Y
       have g3:=hD 3 (ye K 3 rfl) _ rfl
       have g6:=hD 6 (ye K 6 rfl) _ rfl
       clear K hD xi
       rw [if_pos (by rfl)];unfold Oper.wp;go_simp
       exact ⟨upd f 7 (.bool false),by simp [upd,g3,g6],zf (U xI) (U HD) (by decide) (yh rfl)⟩
      | 8,Y =>
       obtain rfl:=ya Y
       have g7:=hD 7 (ye K 7 rfl) _ rfl
       clear K hD xi
       rw [if_pos (by rfl)];unfold Oper.wp;go_simp
       exact ⟨upd f 8 (.bool false),by simp [upd,g7],zf (U xI) (U HD) (by decide) (yh rfl)⟩
      | 9,Y | 10,Y | 11,Y | 12,Y | 21,Y =>
       obtain rfl:=ya Y
       have g8:=hD 8 (ye K 8 rfl) _ rfl
       clear K hD xi
       rw [if_neg (by simp only [g8]; exact fun h=>Bool.noConfusion (show (false:Bool) = true from h))]
       exact ⟨upd f _ Z,rfl,zf (U xI) (U HD) (by decide) (yh rfl)⟩
      | 13,Y | 14,Y | 15,Y | 16,Y | 17,Y | 18,Y | 19,Y | 20,Y =>
       obtain rfl:=ya Y
       have ud:=hD 12 (ye K 12 rfl) _ rfl
       clear K hD xi
       rw [if_neg (by simp only [ud]; exact fun h=>Bool.noConfusion (show (false:Bool) = true from h))]
       exact ⟨upd f _ Z,rfl,zf (U xI) (U HD) (by decide) (yh rfl)⟩
      | 22,Y =>
       obtain rfl:=ya Y
       have g8:=hD 8 (ye K 8 rfl) _ rfl
       have g21:=hD 21 (ye K 21 rfl) _ rfl
       clear K hD xi
       rw [if_pos (by rfl)];unfold Oper.wp;go_simp
       exact ⟨upd f 22 (.bool false),by simp [upd,g8,g21],zf (U xI) (U HD) (by decide) (yh rfl)⟩
      | n + 23,Y=>simp at Y
    by_cases pQ:0 < left
    ·by_cases aT:L.length = 20
     ·have HQ0:Hid (res = 13):=(U HRS).trans (by rw [if_pos brs,if_pos pQ,if_pos aT])
      have bL:(L.length:Int) = 20:=by omega
      have hb20:((L.length:Int) == 20) = true:=by simpa using bL
      have hlf':decide (0 < left) = true:=by simpa using pQ
      clear aT bL
      go_wp2_with fail
      refine zn (RG V (fun f=>{ tmps:=#[.agg #[H next,.slice a l.length cap],.agg (yx kk s ty li qt ii pr tg).toArray,I w.heap.size 0,I (w.heap.size + 1) 0,H 0,u5,u6,.slice al L.length cal,I c8 0,.slice ae ts.length ce,u10,u11,u12,u13,u14,u15,u16,u17,u18,u19,u20,u21,u22,u23,u24,u25,u26,u27,u28,u29,u30,u31,u32,u33,u34,u35,u36,u37,u38,u39,u40,u41,u42,u43,u44,u45,u46,u47,u48,u49,u50,u51,u52,u53,u54,u55,u56,u57,u58,u59,u60,u61,u62,u63,u64,u65,u66,u67,u68,u69,u70,u71,u72,u73,u74,u75,u76,u77,u78,u79,u80,u81,u82,u83,u84,u85,u86,u87,u88,u89,u90,u91,u92,u93,u94,u95,u96,u97,u98,u99,u100,u101,u102,f 0,f 1,f 2,f 3,f 4,f 5,f 6,f 7,f 8,f 9,f 10,f 11,f 12,f 13,f 14,f 15,f 16,f 17,f 18,f 19,f 20,f 21,f 22],defers:=[] }) 99 (DV [I (w.heap.size + 1) 2,H ty,.bool true,.bool true,I c8 3,H left,.bool true,.bool true,.bool true,.slice al L.length cal,H L.length,.bool true,.bool true,Z,Z,Z,Z,Z,Z,Z,Z,.bool true,.bool true])) (by kernel_rfl) ?_ ?_ ?_
      ·exact ⟨fun _=>Z,rfl,⟨rfl,rfl,rfl,Nat.le_refl _,fun _ _=>rfl⟩,fun j hj=>by rw [yJ] at hj; split at hj <;> simp at hj⟩
      ·rintro x hb V' ⟨f,rfl,xi,hD⟩ hx xN
       have xp:=zX xN hx (acyc _ (by kernel_rfl))
       have e22:f 22 = .bool true:=hD 22 (xp 22 (by simp)) _ rfl
       have xG:=M (ia (U xw) xi)
       simp only [e22]
       clear hD xp e22 xN hx xi
       go_wp2_with fail
       go_ret
       exact ⟨zw (U HQ0).symm,U xG⟩
      ·rintro x hb V' i' o' ⟨f,rfl,xi,hD⟩ xo hx Y xu K
       clear xo
       have xI:=M xi
       have HD:=M hD
       have o2:V'.cell? (J (w.heap.size + 1) 2) = some (H ty):=zc (U HXV).2 xi hVS 2 _ rfl
       have c3:V'.cell? (J c8 3) = some (H left):=zc (U HC8) xi js 3 _ rfl
       clear HRS HQ0
       match i',Y with
       | 0,Y =>
        obtain rfl:=ya Y
        clear K hD xi
        rw [if_pos (by rfl)];unfold Oper.wp;go_simp
        exact ⟨upd f 0 (I (w.heap.size + 1) 2),by simp [upd],zf (U xI) (U HD) (by decide) (yh rfl)⟩
       | 1,Y =>
        obtain rfl:=ya Y
        have g0:=hD 0 (ye K 0 rfl) _ rfl
        clear K hD xi
        rw [if_pos (by rfl)];unfold Oper.wp;go_simp
        exact ⟨upd f 1 (H ty),by simp [upd,g0],zf (U xI) (U HD) (by decide) (yh rfl)⟩
       | 2,Y =>
        obtain rfl:=ya Y
        have g1:=hD 1 (ye K 1 rfl) _ rfl
        clear K hD xi
        rw [if_pos (by rfl)];unfold Oper.wp;go_simp
        refine (eB ty _).mono ?_
        rintro e w3 ⟨rfl,hw3⟩
        rw [hw3,brs]
        exact ⟨upd f 2 (.bool true),by simp [upd,g1],zf (U xI) (U HD) (by decide) (yh rfl)⟩
       | 3,Y =>
        obtain rfl:=ya Y
        have g2:=hD 2 (ye K 2 rfl) _ rfl
        clear K hD xi
        rw [if_pos (by rfl)];unfold Oper.wp;go_simp
        exact ⟨upd f 3 (.bool true),by simp [upd,g2],zf (U xI) (U HD) (by decide) (yh rfl)⟩
       | 4,Y =>
        obtain rfl:=ya Y
        have g3:=hD 3 (ye K 3 rfl) _ rfl
        clear K hD xi
        rw [if_pos (by simp only [g3]; rfl)]
        unfold Oper.wp
        go_simp
        exact ⟨upd f 4 (I c8 3),by simp [upd,g3],zf (U xI) (U HD) (by decide) (yh rfl)⟩
       | 5,Y =>
        obtain rfl:=ya Y
        have g3:=hD 3 (ye K 3 rfl) _ rfl
        have g4:=hD 4 (ye K 4 rfl) _ rfl
        clear K hD xi
        rw [if_pos (by simp only [g3]; rfl)]
        unfold Oper.wp
        go_simp
        exact ⟨upd f 5 (H left),by simp [upd,g3,g4],zf (U xI) (U HD) (by decide) (yh rfl)⟩
       | 6,Y =>
        obtain rfl:=ya Y
        have g3:=hD 3 (ye K 3 rfl) _ rfl
        have g5:=hD 5 (ye K 5 rfl) _ rfl
        clear K hD xi
        rw [if_pos (by simp only [g3]; rfl)]
        unfold Oper.wp
        go_simp
        exact ⟨upd f 6 (.bool true),by simp [upd,g3,g5],zf (U xI) (U HD) (by decide) (yh rfl)⟩
       | 7,Y =>
        obtain rfl:=ya Y
        have g3:=hD 3 (ye K 3 rfl) _ rfl
        have g6:=hD 6 (ye K 6 rfl) _ rfl
        clear K hD xi
        rw [if_pos (by rfl)];unfold Oper.wp;go_simp
        exact ⟨upd f 7 (.bool true),by simp [upd,g3,g6],zf (U xI) (U HD) (by decide) (yh rfl)⟩
       | 8,Y =>
        obtain rfl:=ya Y
        have g7:=hD 7 (ye K 7 rfl) _ rfl
        clear K hD xi
        rw [if_pos (by rfl)];unfold Oper.wp;go_simp
        exact ⟨upd f 8 (.bool true),by simp [upd,g7],zf (U xI) (U HD) (by decide) (yh rfl)⟩
       | 9,Y =>
        obtain rfl:=ya Y
        have g8:=hD 8 (ye K 8 rfl) _ rfl
        clear K hD xi
        rw [if_pos (by simp only [g8]; rfl)]
        unfold Oper.wp
        go_simp
        exact ⟨upd f 9 (.slice al L.length cal),by simp [upd,g8],zf (U xI) (U HD) (by decide) (yh rfl)⟩
       | 10,Y =>
        obtain rfl:=ya Y
        have g8:=hD 8 (ye K 8 rfl) _ rfl
        have g9:=hD 9 (ye K 9 rfl) _ rfl
        clear K hD xi
        rw [if_pos (by simp only [g8]; rfl)]
        unfold Oper.wp
        go_simp
        exact ⟨upd f 10 (H L.length),by simp [upd,g8,g9],zf (U xI) (U HD) (by decide) (yh rfl)⟩
       | 11,Y =>
        obtain rfl:=ya Y
        have g8:=hD 8 (ye K 8 rfl) _ rfl
        have qL:=hD 10 (ye K 10 rfl) _ rfl
        clear K hD xi
        rw [if_pos (by simp only [g8]; rfl)]
        unfold Oper.wp
        go_simp
        exact ⟨upd f 11 (.bool true),by simp [upd,g8,qL],zf (U xI) (U HD) (by decide) (yh rfl)⟩
       | 12,Y =>
        obtain rfl:=ya Y
        have g8:=hD 8 (ye K 8 rfl) _ rfl
        have ql:=hD 11 (ye K 11 rfl) _ rfl
        clear K hD xi
        rw [if_pos (by simp only [g8]; rfl)]
        unfold Oper.wp
        go_simp
        exact ⟨upd f 12 (.bool true),by simp [upd,g8,ql],zf (U xI) (U HD) (by decide) (yh rfl)⟩
       | 13,Y | 14,Y | 15,Y | 16,Y | 17,Y | 18,Y | 19,Y | 20,Y =>
        obtain rfl:=ya Y
        have ud:=hD 12 (ye K 12 rfl) _ rfl
        clear K hD xi
        rw [if_neg (by simp only [ud]; exact fun h=>Bool.noConfusion (show (false:Bool) = true from h))]
        exact ⟨upd f _ Z,rfl,zf (U xI) (U HD) (by decide) (yh rfl)⟩
       | 21,Y =>
        obtain rfl:=ya Y
        have g8:=hD 8 (ye K 8 rfl) _ rfl
        have ud:=hD 12 (ye K 12 rfl) _ rfl
        have g20:=hD 20 (ye K 20 rfl) _ rfl
        clear K hD xi
        rw [if_pos (by simp only [g8]; rfl)]
        unfold Oper.wp
        go_simp
        exact ⟨upd f 21 (.bool true),by simp [upd,g8,ud,g20],zf (U xI) (U HD) (by decide) (yh rfl)⟩
       | 22,Y =>
        obtain rfl:=ya Y
        have g8:=hD 8 (ye K 8 rfl) _ rfl
        have g21:=hD 21 (ye K 21 rfl) _ rfl
        clear K hD xi
        rw [if_pos (by rfl)];unfold Oper.wp;go_simp
        exact ⟨upd f 22 (.bool true),by simp [upd,g8,g21],zf (U xI) (U HD) (by decide) (yh rfl)⟩
       | n + 23,Y=>simp at Y
     ·have HQ0:Hid (res = if decide (8 < ((nlev (L ++ [⟨next,s,tt,left,li,tg⟩]):Nat):Int)) = true then 13 else 0):=(U HRS).trans (by
       rw [if_pos brs,if_pos pQ,if_neg aT]
       by_cases h8:8 < nlev (L ++ [⟨next,s,tt,left,li,tg⟩])
       ·rw [if_pos h8,if_pos (by simp only [xg]; omega)]
       ·rw [if_neg h8,if_neg (by simp only [xg]; omega)])
      have HLV2:=M (fun (W:World) (v:Value) (hW:RdR Od.vs 6 W v (L ++ [⟨next,s,tt,left,li,tg⟩]))=>l03Levels_any v (L ++ [⟨next,s,tt,left,li,tg⟩]) W hW (by simp; omega))
      generalize ((nlev (L ++ [⟨next,s,tt,left,li,tg⟩]):Nat):Int) = N at HQ0 HLV2
      have bL:¬ (L.length:Int) = 20:=by omega
      have hb20:((L.length:Int) == 20) = false:=by rw [xe]; exact bL
      have hlf':decide (0 < left) = true:=by simpa using pQ
      obtain ⟨i0,uJ,uD,uz,uM⟩:=info_parts Tryz.infoOrder
      clear aT
      go_wp2_with fail
      refine zn (R9A (fun f=>{ tmps:=#[.agg #[H next,.slice a l.length cap],.agg (yx kk s ty li qt ii pr tg).toArray,I w.heap.size 0,I (w.heap.size + 1) 0,H 0,u5,u6,.slice al L.length cal,I c8 0,.slice ae ts.length ce,u10,u11,u12,u13,u14,u15,u16,u17,u18,u19,u20,u21,u22,u23,u24,u25,u26,u27,u28,u29,u30,u31,u32,u33,u34,u35,u36,u37,u38,u39,u40,u41,u42,u43,u44,u45,u46,u47,u48,u49,u50,u51,u52,u53,u54,u55,u56,u57,u58,u59,u60,u61,u62,u63,u64,u65,u66,u67,u68,u69,u70,u71,u72,u73,u74,u75,u76,u77,u78,u79,u80,u81,u82,u83,u84,u85,u86,u87,u88,u89,u90,u91,u92,u93,u94,u95,u96,u97,u98,u99,u100,u101,u102,f 0,f 1,f 2,f 3,f 4,f 5,f 6,f 7,f 8,f 9,f 10,f 11,f 12,f 13,f 14,f 15,f 16,f 17,f 18,f 19,f 20,f 21,f 22],defers:=[] }) (C9 w.heap.size c8 ty left (.slice al L.length cal) L.length (.agg (yw next s tt left li tg).toArray) N) V L ⟨next,s,tt,left,li,tg⟩) (by kernel_rfl) ?_ ?_ ?_
      ·exact ⟨fun j=>Z,rfl,⟨⟨rfl,rfl,rfl,Nat.le_refl _,fun _ _=>rfl⟩,fun j hj=>by rw [yJ] at hj; split at hj <;> simp at hj,by simp,by simp,by simp,by simp⟩⟩
      ·rintro x hb V' ⟨f,rfl,F⟩ hx xN
       have xp:=zX xN hx (acyc _ (by kernel_rfl))
       have e22:f 22 = .bool (decide (8 < N)):=F.c 22 (xp 22 (by simp))
       have xG:=M ((U xw).trans (F.bel.mono (U xw).size))
       simp only [e22]
       clear F xp e22 xN hx
       cases hd:decide (8 < N)
       ·have ou:Hid (res = 0):=(U HQ0).trans (by rw [hd]; rfl)
        go_wp2_with fail
        go_ret
        exact ⟨zw (U ou).symm,U xG⟩
       ·have ou:Hid (res = 13):=(U HQ0).trans (by rw [hd]; rfl)
        go_wp2_with fail
        go_ret
        exact ⟨zw (U ou).symm,U xG⟩
      ·rintro x hb V' i' o' ⟨f,rfl,F⟩ xo hx Y xu K
       have xA:=M F
       have o2:V'.cell? (J (w.heap.size + 1) 2) = some (H ty):=zc (U HXV).2 F.bel hVS 2 _ rfl
       have HC9:=M (zc (U HC8) F.bel js)
       have c3:V'.cell? (J c8 3) = some (H left):=U HC9 3 _ rfl
       have xi:=M F.bel
       clear HRS HQ0
       match i',Y with
       | 0,Y =>
        obtain rfl:=ya Y
        clear K F xo
        rw [if_pos (by rfl)];unfold Oper.wp;go_simp
        exact ⟨upd f 0 (I (w.heap.size + 1) 2),by simp [upd],cI (U xA) 0 _ rfl (by decide) (by decide) (by decide) (by decide)⟩
       | 1,Y =>
        obtain rfl:=ya Y
        have g0:f 0 = I (w.heap.size + 1) 2:=F.c 0 (ye K 0 rfl)
        clear K F xo
        rw [if_pos (by rfl)];unfold Oper.wp;go_simp
        exact ⟨upd f 1 (H ty),by simp [upd,g0],cI (U xA) 1 _ rfl (by decide) (by decide) (by decide) (by decide)⟩
       | 2,Y =>
        obtain rfl:=ya Y
        have g1:f 1 = H ty:=F.c 1 (ye K 1 rfl)
        clear K F xo
        rw [if_pos (by rfl)];unfold Oper.wp;go_simp
        refine (eB ty _).mono ?_
        rintro e w3 ⟨rfl,hw3⟩
        rw [hw3,brs]
        exact ⟨upd f 2 (.bool true),by simp [upd,g1],cI (U xA) 2 _ rfl (by decide) (by decide) (by decide) (by decide)⟩
       | 3,Y =>
        obtain rfl:=ya Y
        have g2:f 2 = .bool true:=F.c 2 (ye K 2 rfl)
        clear K F xo
        rw [if_pos (by rfl)];unfold Oper.wp;go_simp
        exact ⟨upd f 3 (.bool true),by simp [upd,g2],cI (U xA) 3 _ rfl (by decide) (by decide) (by decide) (by decide)⟩
       | 4,Y =>
        obtain rfl:=ya Y
        have g3:f 3 = .bool true:=F.c 3 (ye K 3 rfl)
        clear K F xo
        rw [if_pos (by simp only [g3]; rfl)]
        unfold Oper.wp
        go_simp
        exact ⟨upd f 4 (I c8 3),by simp [upd,g3],cI (U xA) 4 _ rfl (by decide) (by decide) (by decide) (by decide)⟩
       | 5,Y =>
        obtain rfl:=ya Y
        have g4:f 4 = I c8 3:=F.c 4 (ye K 4 rfl)
        have g3:f 3 = .bool true:=F.c 3 (ye K 3 rfl)
        clear K F xo
        rw [if_pos (by simp only [g3]; rfl)]
        unfold Oper.wp
        go_simp
        exact ⟨upd f 5 (H left),by simp [upd,g4,g3],cI (U xA) 5 _ rfl (by decide) (by decide) (by decide) (by decide)⟩
       | 6,Y =>
        obtain rfl:=ya Y
        have g5:f 5 = H left:=F.c 5 (ye K 5 rfl)
        have g3:f 3 = .bool true:=F.c 3 (ye K 3 rfl)
        clear K F xo
        rw [if_pos (by simp only [g3]; rfl)]
        unfold Oper.wp
        go_simp
        exact ⟨upd f 6 (.bool true),by simp [upd,g5,g3],cI (U xA) 6 _ rfl (by decide) (by decide) (by decide) (by decide)⟩
       | 7,Y =>
        obtain rfl:=ya Y
        have g3:f 3 = .bool true:=F.c 3 (ye K 3 rfl)
        have g6:f 6 = .bool true:=F.c 6 (ye K 6 rfl)
        clear K F xo
        rw [if_pos (by rfl)];unfold Oper.wp;go_simp
        exact ⟨upd f 7 (.bool true),by simp [upd,g3,g6],cI (U xA) 7 _ rfl (by decide) (by decide) (by decide) (by decide)⟩
       | 8,Y =>
        obtain rfl:=ya Y
        have g7:f 7 = .bool true:=F.c 7 (ye K 7 rfl)
        clear K F xo
        rw [if_pos (by rfl)];unfold Oper.wp;go_simp
        exact ⟨upd f 8 (.bool true),by simp [upd,g7],cI (U xA) 8 _ rfl (by decide) (by decide) (by decide) (by decide)⟩
       | 9,Y =>
        obtain rfl:=ya Y
        have g8:f 8 = .bool true:=F.c 8 (ye K 8 rfl)
        clear K F xo
        rw [if_pos (by simp only [g8]; rfl)]
        unfold Oper.wp
        go_simp
        exact ⟨upd f 9 (.slice al L.length cal),by simp [upd,g8],cI (U xA) 9 _ rfl (by decide) (by decide) (by decide) (by decide)⟩
       | 10,Y =>
        obtain rfl:=ya Y
        have g9:f 9 = .slice al L.length cal:=F.c 9 (ye K 9 rfl)
        have g8:f 8 = .bool true:=F.c 8 (ye K 8 rfl)
        clear K F xo
        rw [if_pos (by simp only [g8]; rfl)]
        unfold Oper.wp
        go_simp
        exact ⟨upd f 10 (H L.length),by simp [upd,g9,g8],cI (U xA) 10 _ rfl (by decide) (by decide) (by decide) (by decide)⟩
       | 11,Y =>
        obtain rfl:=ya Y
        have qL:f 10 = H L.length:=F.c 10 (ye K 10 rfl)
        have g8:f 8 = .bool true:=F.c 8 (ye K 8 rfl)
        clear K F xo
        rw [if_pos (by simp only [g8]; rfl)]
        unfold Oper.wp
        go_simp
        exact ⟨upd f 11 (.bool false),by simp [upd,qL,g8],cI (U xA) 11 _ rfl (by decide) (by decide) (by decide) (by decide)⟩
       | 12,Y =>
        obtain rfl:=ya Y
        have ql:f 11 = .bool false:=F.c 11 (ye K 11 rfl)
        have g8:f 8 = .bool true:=F.c 8 (ye K 8 rfl)
        clear K F xo
        rw [if_pos (by simp only [g8]; rfl)]
        unfold Oper.wp
        go_simp
        exact ⟨upd f 12 (.bool false),by simp [upd,ql,g8],cI (U xA) 12 _ rfl (by decide) (by decide) (by decide) (by decide)⟩
       | 13,Y =>
        obtain rfl:=ya Y
        have ud:f 12 = .bool false:=F.c 12 (ye K 12 rfl)
        clear K F xo
        rw [if_pos (by simp only [ud]; rfl)]
        unfold Oper.wp
        go_simp
        exact ⟨upd f 13 (.slice (some (J V'.heap.size 0)) 0 0),by simp [upd,ud],r9_13 (U xA) xu (fun _=>trivial)⟩
       | 14,Y =>
        obtain rfl:=ya Y
        have ud:f 12 = .bool false:=F.c 12 (ye K 12 rfl)
        clear K F xo
        rw [if_pos (by simp only [ud]; rfl)]
        unfold Oper.wp
        go_simp
        exact ⟨upd f 14 (.slice al L.length cal),by simp [upd,ud],cI (U xA) 14 _ rfl (by decide) (by decide) (by decide) (by decide)⟩
       | 15,Y =>
        obtain rfl:=ya Y
        have ud:f 12 = .bool false:=F.c 12 (ye K 12 rfl)
        have kR:f 14 = .slice al L.length cal:=F.c 14 (ye K 14 rfl)
        have k13:x[13]? = some true:=K ⟨13,.data⟩ (by simp) rfl
        have n18:x[18]? = some false:=by
         rcases dm hx (show 18 < 23 by omega) with h | h
         ·exact h
         ·have:=yf xo 18 rfl h 15 rfl
          rw [xu] at this; cases this
        have HO13:=M (F.m13 k13 xu)
        have vf:Hid (∀ ad,al = some ad→∀ j u,(L.flatMap Od.vs)[j]? = some u→V'.cell? (ad.add j) = some u):=fun ad had=>by
         have h:=zh (U HRL) (U xi) hU
         rw [had] at h
         exact rd_src h
        clear K F xo
        rw [if_pos (by simp only [ud]; rfl)]
        rcases U HSV with h | ⟨ad,nn,cc,h⟩
        ·simp only [Value.slice.injEq] at h
         have hL:L = []:=List.length_eq_zero_iff.1 h.2.1
         refine gY (.tmp 116) (.tmp 117) 25 rfl V.heap.size 65 i0 6 Tryz.underlying25 uJ (f 13) 0 [] rfl (U HO13) (by show f 14 = _; rw [kR,h.1,h.2.1,h.2.2]) ?_
         refine ⟨upd f 15 (f 13),rfl,r9_15 (U xA) k13 xu n18 (fun _=>trivial) (by rw [hL]; exact U HO13) (yS _ _)⟩
        ·simp only [Value.slice.injEq] at h
         refine wp_append_own V' (.tmp 116) (.tmp 117) 25 rfl V.heap.size 65 i0 _ 6 56 Tryz.underlying25 uJ uD uz uM rfl (by decide) (f 13) 0 [] rfl (U HO13) ad L.length cal (L.flatMap Od.vs) (by show f 14 = _; rw [kR,h.1]) (by rw [zL Od.len]) (U vf ad h.1) (dj L) (by unfold maxLen; omega) (by omega) (U xi).size ?_
         intro v' w' xS uZ _
         refine ⟨upd f 15 v',rfl,r9_15 (U xA) k13 xu n18 (fun _=>trivial) ?_ uZ⟩
         show w'.ownsRow _ _ _ _ L.length _
         simpa using xS
       | 16,Y =>
        obtain rfl:=ya Y
        have ud:f 12 = .bool false:=F.c 12 (ye K 12 rfl)
        obtain ⟨q0,q1,q2,q3,q4,q5⟩:=yD (U HC9)
        clear K F xo
        rw [if_pos (by simp only [ud]; rfl)]
        unfold Oper.wp
        go_simp
        exact ⟨upd f 16 (.agg (yw next s tt left li tg).toArray),by simp [upd,ud],cI (U xA) 16 _ rfl (by decide) (by decide) (by decide) (by decide)⟩
       | 17,Y =>
        obtain rfl:=ya Y
        have ud:f 12 = .bool false:=F.c 12 (ye K 12 rfl)
        have g16:f 16 = .agg (yw next s tt left li tg).toArray:=F.c 16 (ye K 16 rfl)
        have n18:x[18]? = some false:=by
         rcases dm hx (show 18 < 23 by omega) with h | h
         ·exact h
         ·have:=yf xo 18 rfl h 17 rfl
          rw [xu] at this; cases this
        clear K F xo
        rw [if_pos (by simp only [ud]; rfl)]
        unfold Oper.wp
        go_simp
        exact ⟨upd f 17 (.slice (some (J V'.heap.size 0)) 1 1),by simp [upd,ud,g16],r9_17 (U xA) xu n18 (fun _=>trivial)⟩
       | 18,Y =>
        obtain rfl:=ya Y
        have ud:f 12 = .bool false:=F.c 12 (ye K 12 rfl)
        have k15:x[15]? = some true:=K ⟨15,.data⟩ (by simp) rfl
        obtain ⟨b,g17,ub,xP,xQ,-⟩:=F.m17 (ye K 17 rfl) xu
        have HO15:=M (F.m15 k15 xu)
        have vf:Hid (∀ j u,(Od.vs ⟨next,s,tt,left,li,tg⟩)[j]? = some u→V'.cell? (((J b 0):Addr).add j) = some u):=fun j u hu=>by
         have:=xQ j u hu
         rw [Addr.add_mid]; exact this
        clear K F xo xQ
        rw [if_pos (by simp only [ud]; rfl)]
        refine wp_append_own V' (.tmp 118) (.tmp 120) 25 rfl V.heap.size 65 i0 _ 6 56 Tryz.underlying25 uJ uD uz uM rfl (by decide) (f 15) L.length (L.flatMap Od.vs) rfl (U HO15) (J b 0) 1 1 (Od.vs ⟨next,s,tt,left,li,tg⟩) (by show f 17 = _; exact g17) rfl (U vf) (one_od _) (by unfold maxLen; omega) (by omega) (U xi).size ?_
        intro v' w' xS uZ _
        refine ⟨upd f 18 v',rfl,r9_18 (U xA) k15 xu (fun _=>trivial) ?_ uZ⟩
        show w'.ownsRow _ _ _ _ (L ++ [(⟨next,s,tt,left,li,tg⟩:Od)]).length _
        rw [yQ,List.flatMap_append]
        simpa using xS
       | 19,Y =>
        obtain rfl:=ya Y
        have ud:f 12 = .bool false:=F.c 12 (ye K 12 rfl)
        have HO18:=M (F.m18 (ye K 18 rfl))
        clear K F xo
        rw [if_pos (by simp only [ud]; rfl)]
        unfold Oper.wp
        go_simp
        refine (U HLV2 V' (f 18) (zV (U HO18) (by simp; omega))).mono ?_
        rintro e w4 ⟨rfl,jt⟩
        exact ⟨upd f 19 (H N),by simp [upd,ud],cI (r9_grow (U xA) (gr_below' jt (fun g hg=>by cases hg) hU)) 19 _ rfl (by decide) (by decide) (by decide) (by decide)⟩
       | 20,Y =>
        obtain rfl:=ya Y
        have g19:f 19 = H N:=F.c 19 (ye K 19 rfl)
        have ud:f 12 = .bool false:=F.c 12 (ye K 12 rfl)
        clear K F xo
        rw [if_pos (by simp only [ud]; rfl)]
        unfold Oper.wp
        go_simp
        exact ⟨upd f 20 (.bool (decide (8 < N))),by simp [upd,g19,ud],cI (U xA) 20 _ rfl (by decide) (by decide) (by decide) (by decide)⟩
       | 21,Y =>
        obtain rfl:=ya Y
        have ud:f 12 = .bool false:=F.c 12 (ye K 12 rfl)
        have g20:f 20 = .bool (decide (8 < N)):=F.c 20 (ye K 20 rfl)
        have g8:f 8 = .bool true:=F.c 8 (ye K 8 rfl)
        clear K F xo
        rw [if_pos (by simp only [g8]; rfl)]
        unfold Oper.wp
        go_simp
        exact ⟨upd f 21 (.bool (decide (8 < N))),by simp [upd,ud,g20,g8],cI (U xA) 21 _ rfl (by decide) (by decide) (by decide) (by decide)⟩
       | 22,Y =>
        obtain rfl:=ya Y
        have g8:f 8 = .bool true:=F.c 8 (ye K 8 rfl)
        have g21:f 21 = .bool (decide (8 < N)):=F.c 21 (ye K 21 rfl)
        clear K F xo
        rw [if_pos (by rfl)];unfold Oper.wp;go_simp
        exact ⟨upd f 22 (.bool (decide (8 < N))),by simp [upd,g8,g21],cI (U xA) 22 _ rfl (by decide) (by decide) (by decide) (by decide)⟩
       | n + 23,Y=>simp at Y
    ·have HQ0:Hid (res = 0):=(U HRS).trans (by rw [if_pos brs,if_neg pQ])
     have hlf':decide (0 < left) = false:=by simpa using pQ
     go_wp2_with fail
     refine zn (RG V (fun f=>{ tmps:=#[.agg #[H next,.slice a l.length cap],.agg (yx kk s ty li qt ii pr tg).toArray,I w.heap.size 0,I (w.heap.size + 1) 0,H 0,u5,u6,.slice al L.length cal,I c8 0,.slice ae ts.length ce,u10,u11,u12,u13,u14,u15,u16,u17,u18,u19,u20,u21,u22,u23,u24,u25,u26,u27,u28,u29,u30,u31,u32,u33,u34,u35,u36,u37,u38,u39,u40,u41,u42,u43,u44,u45,u46,u47,u48,u49,u50,u51,u52,u53,u54,u55,u56,u57,u58,u59,u60,u61,u62,u63,u64,u65,u66,u67,u68,u69,u70,u71,u72,u73,u74,u75,u76,u77,u78,u79,u80,u81,u82,u83,u84,u85,u86,u87,u88,u89,u90,u91,u92,u93,u94,u95,u96,u97,u98,u99,u100,u101,u102,f 0,f 1,f 2,f 3,f 4,f 5,f 6,f 7,f 8,f 9,f 10,f 11,f 12,f 13,f 14,f 15,f 16,f 17,f 18,f 19,f 20,f 21,f 22],defers:=[] }) 99 (DV [I (w.heap.size + 1) 2,H ty,.bool true,.bool true,I c8 3,H left,.bool false,.bool false,.bool false,Z,Z,Z,Z,Z,Z,Z,Z,Z,Z,Z,Z,Z,.bool false])) (by kernel_rfl) ?_ ?_ ?_
     ·exact ⟨fun _=>Z,rfl,⟨rfl,rfl,rfl,Nat.le_refl _,fun _ _=>rfl⟩,fun j hj=>by rw [yJ] at hj; split at hj <;> simp at hj⟩
     ·rintro x hb V' ⟨f,rfl,xi,hD⟩ hx xN
      have xp:=zX xN hx (acyc _ (by kernel_rfl))
      have e22:f 22 = .bool false:=hD 22 (xp 22 (by simp)) _ rfl
      have xG:=M (ia (U xw) xi)
      simp only [e22]
      clear hD xp e22 xN hx xi
      go_wp2_with fail
      go_ret
      exact ⟨zw (U HQ0).symm,U xG⟩
     ·rintro x hb V' i' o' ⟨f,rfl,xi,hD⟩ xo hx Y xu K
      clear xo
      have xI:=M xi
      have HD:=M hD
      have o2:V'.cell? (J (w.heap.size + 1) 2) = some (H ty):=zc (U HXV).2 xi hVS 2 _ rfl
      have c3:V'.cell? (J c8 3) = some (H left):=zc (U HC8) xi js 3 _ rfl
      clear HRS HQ0
      match i',Y with
      | 0,Y =>
       obtain rfl:=ya Y
       clear K hD xi
       rw [if_pos (by rfl)];unfold Oper.wp;go_simp
       exact ⟨upd f 0 (I (w.heap.size + 1) 2),by simp [upd],zf (U xI) (U HD) (by decide) (yh rfl)⟩
      | 1,Y =>
       obtain rfl:=ya Y
       have g0:=hD 0 (ye K 0 rfl) _ rfl
       clear K hD xi
       rw [if_pos (by rfl)];unfold Oper.wp;go_simp
       exact ⟨upd f 1 (H ty),by simp [upd,g0],zf (U xI) (U HD) (by decide) (yh rfl)⟩
      | 2,Y =>
       obtain rfl:=ya Y
       have g1:=hD 1 (ye K 1 rfl) _ rfl
       clear K hD xi
       rw [if_pos (by rfl)];unfold Oper.wp;go_simp
       refine (eB ty _).mono ?_
       rintro e w3 ⟨rfl,hw3⟩
       rw [hw3,brs]
       exact ⟨upd f 2 (.bool true),by simp [upd,g1],zf (U xI) (U HD) (by decide) (yh rfl)⟩
      | 3,Y =>
       obtain rfl:=ya Y
       have g2:=hD 2 (ye K 2 rfl) _ rfl
       clear K hD xi
       rw [if_pos (by rfl)];unfold Oper.wp;go_simp
       exact ⟨upd f 3 (.bool true),by simp [upd,g2],zf (U xI) (U HD) (by decide) (yh rfl)⟩
      | 4,Y =>
       obtain rfl:=ya Y
       have g3:=hD 3 (ye K 3 rfl) _ rfl
       clear K hD xi
       rw [if_pos (by simp only [g3]; rfl)]
       unfold Oper.wp
       go_simp
       exact ⟨upd f 4 (I c8 3),by simp [upd,g3],zf (U xI) (U HD) (by decide) (yh rfl)⟩
      | 5,Y =>
       obtain rfl:=ya Y
       have g3:=hD 3 (ye K 3 rfl) _ rfl
       have g4:=hD 4 (ye K 4 rfl) _ rfl
       clear K hD xi
       rw [if_pos (by simp only [g3]; rfl)]
       unfold Oper.wp
       go_simp
       exact ⟨upd f 5 (H left),by simp [upd,g3,g4],zf (U xI) (U HD) (by decide) (yh rfl)⟩
      | 6,Y =>
       obtain rfl:=ya Y
       have g3:=hD 3 (ye K 3 rfl) _ rfl
       have g5:=hD 5 (ye K 5 rfl) _ rfl
       clear K hD xi
       rw [if_pos (by simp only [g3]; rfl)]
       unfold Oper.wp
       go_simp
       exact ⟨upd f 6 (.bool false),by simp [upd,g3,g5],zf (U xI) (U HD) (by decide) (yh rfl)⟩
      | 7,Y =>
       obtain rfl:=ya Y
       have g3:=hD 3 (ye K 3 rfl) _ rfl
       have g6:=hD 6 (ye K 6 rfl) _ rfl
       clear K hD xi
       rw [if_pos (by rfl)];unfold Oper.wp;go_simp
       exact ⟨upd f 7 (.bool false),by simp [upd,g3,g6],zf (U xI) (U HD) (by decide) (yh rfl)⟩
      | 8,Y =>
       obtain rfl:=ya Y
       have g7:=hD 7 (ye K 7 rfl) _ rfl
       clear K hD xi
       rw [if_pos (by rfl)];unfold Oper.wp;go_simp
       exact ⟨upd f 8 (.bool false),by simp [upd,g7],zf (U xI) (U HD) (by decide) (yh rfl)⟩
      | 9,Y | 10,Y | 11,Y | 12,Y | 21,Y =>
       obtain rfl:=ya Y
       have g8:=hD 8 (ye K 8 rfl) _ rfl
       clear K hD xi
       rw [if_neg (by simp only [g8]; exact fun h=>Bool.noConfusion (show (false:Bool) = true from h))]
       exact ⟨upd f _ Z,rfl,zf (U xI) (U HD) (by decide) (yh rfl)⟩
      | 13,Y | 14,Y | 15,Y | 16,Y | 17,Y | 18,Y | 19,Y | 20,Y =>
       obtain rfl:=ya Y
       have ud:=hD 12 (ye K 12 rfl) _ rfl
       clear K hD xi
       rw [if_neg (by simp only [ud]; exact fun h=>Bool.noConfusion (show (false:Bool) = true from h))]
       exact ⟨upd f _ Z,rfl,zf (U xI) (U HD) (by decide) (yh rfl)⟩
      | 22,Y =>
       obtain rfl:=ya Y
       have g8:=hD 8 (ye K 8 rfl) _ rfl
       have g21:=hD 21 (ye K 21 rfl) _ rfl
       clear K hD xi
       rw [if_pos (by rfl)];unfold Oper.wp;go_simp
       exact ⟨upd f 22 (.bool false),by simp [upd,g8,g21],zf (U xI) (U HD) (by decide) (yh rfl)⟩
      | n + 23,Y=>simp at Y
   clear xK
   have HTN:Hid (¬ (ty = 5∧0 < ts.length)→¬ (ty = 4∧0 < left)→next = 1000000→res = 13):=fun g5 g4 gn=>by
    have:=U kM
    rw [if_neg g5,if_neg g4,if_pos gn] at this
    exact this
   by_cases h5:ty = 5
   ·by_cases hts:0 < ts.length
    ·have ou:Hid (res = 11):=(U kM).trans (if_pos ⟨h5,hts⟩)
     subst h5
     have hts':(0:Int) < ts.length:=by omega
     clear hts vp HTN
     go_wp2_with fail
     go_ret
     exact ⟨zw (U ou).symm,U xw⟩
    ·subst h5
     have g5:¬ ((5:Int) = 5∧0 < ts.length):=fun h=>hts h.2
     have g4:¬ ((5:Int) = 4∧0 < left):=fun h=>by omega
     have hts':¬ (0:Int) < ts.length:=by omega
     have htz:(ts.length:Int) = 0:=by omega
     by_cases qm:next = 1000000
     ·have ou:=M (U HTN g5 g4 qm)
      subst qm
      clear vp HTN g5 g4
      go_wp2_with fail
      go_ret
      exact ⟨zw (U ou).symm,U xw⟩
     have bn:(next == 1000000) = false:=by rw [xe]; exact qm
     have jx:=M (U vp g5 g4 qm)
     clear vp HTN g5 g4 qm
     go_wp2_with fail
     exact U jx _ _ _ _ _ _ _ _ _ _ _ _ _ _ _ _ _ _ _ _ _ _ _ _ _ _ _ _ _ _ _ _ _ _ _ _ _ _ _ _ _ _ _ _ _ _ _ _ _ _ _ _ _ _ _ _ _ _ _ _ _ _ _ _ _ _ _ _ _ _ _ _ _ _ _ _ _ _ _ _ _ _ _ _ _ _ _ _ _ _ _ _ _ _ _
   ·have b5:(ty == 5) = false:=by rw [xe]; exact h5
    have g5:¬ (ty = 5∧0 < ts.length):=fun h=>h5 h.1
    by_cases h4:ty = 4
    ·by_cases pQ:0 < left
     ·have ou:Hid (res = 12):=(U kM).trans (by rw [if_neg g5,if_pos ⟨h4,pQ⟩])
      subst h4
      clear vp HTN h5 g5 b5
      go_wp2_with fail
      go_ret
      exact ⟨zw (U ou).symm,U xw⟩
     ·subst h4
      have g4:¬ ((4:Int) = 4∧0 < left):=fun h=>pQ h.2
      by_cases qm:next = 1000000
      ·have ou:=M (U HTN g5 g4 qm)
       subst qm
       clear vp HTN g5 g4
       go_wp2_with fail
       go_ret
       exact ⟨zw (U ou).symm,U xw⟩
      have bn:(next == 1000000) = false:=by rw [xe]; exact qm
      have jx:=M (U vp g5 g4 qm)
      clear vp HTN g5 g4 qm
      go_wp2_with fail
      exact U jx _ _ _ _ _ _ _ _ _ _ _ _ _ _ _ _ _ _ _ _ _ _ _ _ _ _ _ _ _ _ _ _ _ _ _ _ _ _ _ _ _ _ _ _ _ _ _ _ _ _ _ _ _ _ _ _ _ _ _ _ _ _ _ _ _ _ _ _ _ _ _ _ _ _ _ _ _ _ _ _ _ _ _ _ _ _ _ _ _ _ _ _ _ _ _
    ·have b4:(ty == 4) = false:=by rw [xe]; exact h4
     have g4:¬ (ty = 4∧0 < left):=fun h=>h4 h.1
     by_cases qm:next = 1000000
     ·have ou:=M (U HTN g5 g4 qm)
      subst qm
      clear vp HTN g5 g4
      go_wp2_with fail
      go_ret
      exact ⟨zw (U ou).symm,U xw⟩
     have bn:(next == 1000000) = false:=by rw [xe]; exact qm
     have jx:=M (U vp g5 g4 qm)
     clear vp HTN g5 g4 qm
     go_wp2_with fail
     exact U jx _ _ _ _ _ _ _ _ _ _ _ _ _ _ _ _ _ _ _ _ _ _ _ _ _ _ _ _ _ _ _ _ _ _ _ _ _ _ _ _ _ _ _ _ _ _ _ _ _ _ _ _ _ _ _ _ _ _ _ _ _ _ _ _ _ _ _ _ _ _ _ _ _ _ _ _ _ _ _ _ _ _ _ _ _ _ _ _ _ _ _ _ _ _ _
  ·rintro x hb V i' o' ⟨f,rfl,F⟩ xo hx Y xu K
   have xA:=M F
   have xi:=F.bel
   have xM:=U ul
   clear xK
   match i',Y with
   | 0,Y =>
    obtain rfl:=ya Y
    clear K F xo
    rw [if_pos (by rfl)];unfold Oper.wp;go_simp
    exact ⟨upd f 0 (I w.heap.size 1),by simp [upd],dS (U xA) 0 _ (by decide) (by decide) (by decide) (rfl)⟩
   | 1,Y =>
    obtain rfl:=ya Y
    have g0:f 0 = I w.heap.size 1:=F.e 0 (ye K 0 rfl)
    have z1:V.cell? (J w.heap.size 1) = some (.slice a l.length cap):=zc (U HX).1 xi (by omega) 1 _ rfl
    clear K F xo
    rw [if_pos (by rfl)];unfold Oper.wp;go_simp
    exact ⟨upd f 1 (.slice a l.length cap),by simp [upd,g0],dS (U xA) 1 _ (by decide) (by decide) (by decide) (rfl)⟩
   | 2,Y =>
    obtain rfl:=ya Y
    have z0:V.cell? (J w.heap.size 0) = some (H next):=zc (U HX).1 xi (by omega) 0 _ rfl
    have z1:V.cell? (J w.heap.size 1) = some (.slice a l.length cap):=zc (U HX).1 xi (by omega) 1 _ rfl
    clear K F xo
    rw [if_pos (by rfl)];unfold Oper.wp;go_simp
    exact ⟨upd f 2 (.agg #[H next,.slice a l.length cap]),by simp [upd],dS (U xA) 2 _ (by decide) (by decide) (by decide) (rfl)⟩
   | 3,Y =>
    obtain rfl:=ya Y
    obtain ⟨z0,z1,z2,z3,z4,z5,z6,z7⟩:=yE (zc (U HX).2 xi (by omega))
    clear K F xo
    rw [if_pos (by rfl)];unfold Oper.wp;go_simp
    exact ⟨upd f 3 (.agg (yx kk s ty li qt ii pr tg).toArray),by simp [upd],dS (U xA) 3 _ (by decide) (by decide) (by decide) (rfl)⟩
   | 4,Y =>
    obtain rfl:=ya Y
    have g2:f 2 = .agg #[H next,.slice a l.length cap]:=F.e 2 (ye K 2 rfl)
    have g3:f 3 = .agg (yx kk s ty li qt ii pr tg).toArray:=F.e 3 (ye K 3 rfl)
    clear K F xo
    rw [if_pos (by rfl)];unfold Oper.wp;go_simp
    refine (U HTKR _).mono ?_
    rintro e w4 ⟨rfl,xy⟩
    exact ⟨upd f 4 (.agg (yw next s tt qt li tg).toArray),by simp [upd,g2,g3],dS (rn_grow (U xA) xy) 4 _ (by decide) (by decide) (by decide) rfl⟩
   | 5,Y =>
    obtain rfl:=ya Y
    have g1:f 1 = .slice a l.length cap:=F.e 1 (ye K 1 rfl)
    have g4:f 4 = .agg (yw next s tt qt li tg).toArray:=F.e 4 (ye K 4 rfl)
    have qY:∀ j,(j = 6 ∨ j = 7 ∨ j = 9 ∨ j = 11 ∨ j = 13)→x[j]? ≠ some true:=fun j hj e=>by
     have h6:x[6]? ≠ some true:=fun e6=>by have:=yf xo 6 rfl e6 5 rfl; rw [xu] at this; cases this
     rcases hj with rfl | rfl | rfl | rfl | rfl
     ·exact h6 e
     ·exact h6 (yf xo 7 rfl e 6 rfl)
     ·exact h6 (yf xo 9 rfl e 6 rfl)
     ·exact h6 (yf xo 11 rfl e 6 rfl)
     ·exact h6 (yf xo 13 rfl e 6 rfl)
    have kZ:=M qY
    have HRV:=M (zh (zh (U HR) (U xt) hU) xi hU)
    clear K F xo qY
    rw [if_pos (by rfl)];unfold Oper.wp;go_simp
    refine (U kw V (U HRV)).mono ?_
    rintro e w4 ⟨lv,ve,rfl,hl4,he4,xy⟩
    refine ⟨upd f 5 (.tuple #[lv,.agg (yw next s tt left li tg).toArray,ve]),by simp [upd,g1,g4],rn_5 (U xA) xy ?_ ?_ (U kZ) ?_⟩
    ·rcases hl4 with ⟨rfl,hL⟩ | h
     ·simp only at hL; rw [hL]; exact ⟨zh (U HRV) xy hU,U qn⟩
     ·exact ⟨zV h (by have h20:L.length ≤ 20:=(U qV).1.len; show L.length ≤ _; omega),oRow_sl h⟩
    ·rcases he4.2 with ⟨Q,D⟩ | ⟨g,jJ,xz,Q,_⟩
     ·exact ⟨none,0,by rw [Q]; simp only at D; rw [D]⟩
     ·exact ⟨_,_,Q⟩
    ·intro c8 kT js xC e
     rcases hl4 with ⟨rfl,hL⟩ | h
     ·simp only at hL
      obtain ⟨b,ub,xP⟩:=rd_block (U HR) (by rw [← hL]; exact xC)
      rw [ub] at e
      simp only [Option.some.injEq] at e
      have:=(U xt).size
      omega
     ·have:=(h.lt c8 e).1
      omega
   | 6,Y =>
    obtain rfl:=ya Y
    clear K F xo
    rw [if_pos (by rfl)];unfold Oper.wp;go_simp
    exact ⟨upd f 6 (f 5),by simp [upd],dS (U xA) 6 _ (by decide) (by decide) (by decide) (rfl)⟩
   | 7,Y =>
    obtain rfl:=ya Y
    obtain ⟨lv,ev,e5,-⟩:=F.m5 (yf xo 6 rfl (ye K 6 rfl) 5 rfl)
    have g6:f 6 = f 5:=F.e 6 (ye K 6 rfl)
    rw [e5] at g6
    clear K F xo
    rw [if_pos (by rfl)];unfold Oper.wp;go_simp
    exact ⟨upd f 7 lv,by simp [upd,g6,e5],dS (U xA) 7 _ (by decide) (by decide) (by decide) ⟨lv,ev,e5,rfl⟩⟩
   | 8,Y =>
    obtain rfl:=ya Y
    obtain ⟨lv,ev,e5,-⟩:=F.m5 (yf xo 6 rfl (ye K 6 rfl) 5 rfl)
    have g6:f 6 = f 5:=F.e 6 (ye K 6 rfl)
    rw [e5] at g6
    clear K F xo
    rw [if_pos (by rfl)];unfold Oper.wp;go_simp
    exact ⟨upd f 8 (.agg (yw next s tt left li tg).toArray),by simp [upd,g6,e5],dS (U xA) 8 _ (by decide) (by decide) (by decide) rfl⟩
   | 9,Y =>
    obtain rfl:=ya Y
    obtain ⟨lv,ev,e5,-⟩:=F.m5 (yf xo 6 rfl (ye K 6 rfl) 5 rfl)
    have g6:f 6 = f 5:=F.e 6 (ye K 6 rfl)
    rw [e5] at g6
    clear K F xo
    rw [if_pos (by rfl)];unfold Oper.wp;go_simp
    exact ⟨upd f 9 ev,by simp [upd,g6,e5],dS (U xA) 9 _ (by decide) (by decide) (by decide) ⟨lv,ev,e5,rfl⟩⟩
   | 10,Y =>
    obtain rfl:=ya Y
    have bi:x[12]? ≠ some true:=fun e=>by have:=yf xo 12 rfl e 10 rfl; rw [xu] at this; cases this
    clear K F xo
    rw [if_pos (by rfl)];unfold Oper.wp;go_simp
    exact ⟨upd f 10 (I V.heap.size 0),by simp [upd],rn_10 (U xA) bi (zM V (yw 0 0 0 0 0 ⟨#[]⟩) _)⟩
   | 11,Y =>
    obtain rfl:=ya Y
    obtain ⟨lv,ev,e5,e7⟩:=F.e 7 (ye K 7 rfl)
    clear K F xo
    rw [if_pos (by rfl)];unfold Oper.wp;go_simp
    exact ⟨upd f 11 lv,by simp [upd,e7,e5],dS (U xA) 11 _ (by decide) (by decide) (by decide) ⟨lv,ev,e5,rfl⟩⟩
   | 12,Y =>
    obtain rfl:=ya Y
    have k5:x[5]? = some true:=K ⟨5,.phase⟩ (by simp) rfl
    have k10:x[10]? = some true:=K ⟨10,.data⟩ (by simp) rfl
    have g8:f 8 = .agg (yw next s tt left li tg).toArray:=F.e 8 (ye K 8 rfl)
    obtain ⟨c8,qL,kT,js,xV,-⟩:=F.m10 k10
    obtain ⟨y0,z0,q0⟩:=zg xV (j:=0) (by omega)
    obtain ⟨y1,z1,q1⟩:=zg xV (j:=1) (by omega)
    obtain ⟨y2,z2,q2⟩:=zg xV (j:=2) (by omega)
    obtain ⟨y3,z3,q3⟩:=zg xV (j:=3) (by omega)
    obtain ⟨y4,z4,q4⟩:=zg xV (j:=4) (by omega)
    obtain ⟨y5,z5,q5⟩:=zg xV (j:=5) (by omega)
    clear K F xo xV
    rw [if_pos (by rfl)];unfold Oper.wp;go_simp
    exact ⟨f,by simp [g8,qL],rn_12 (U xA) k5 k10 qL rfl xu⟩
   | 13,Y =>
    obtain rfl:=ya Y
    obtain ⟨lv,ev,e5,e9⟩:=F.e 9 (ye K 9 rfl)
    clear K F xo
    rw [if_pos (by rfl)];unfold Oper.wp;go_simp
    exact ⟨upd f 13 ev,by simp [upd,e9,e5],dS (U xA) 13 _ (by decide) (by decide) (by decide) ⟨lv,ev,e5,rfl⟩⟩
   | n + 14,Y=>simp at Y
 clear xK
 cases bl:betB li 0 1
 have hl:lifW ⟨kk,s,ty,li,qt,ii,pr,tg⟩ = true:=by simp [lifW,bl]
 have HK:Hid (newR next l ⟨kk,s,ty,li,qt,ii,pr,tg⟩ = 5):=by show _ = _; simp [newR,bs,bt,hl]
 clear hl
 rotate_left
 by_cases Q:li = 1
 subst Q
 cases brs:bR ty
 have hl:lifW ⟨kk,s,ty,1,qt,ii,pr,tg⟩ = true:=by simp [lifW,brs]
 have HK:Hid (newR next l ⟨kk,s,ty,1,qt,ii,pr,tg⟩ = 5):=by show _ = _; simp [newR,bs,bt,hl]
 clear hl
 rotate_left
 have hl:lifW ⟨kk,s,ty,1,qt,ii,pr,tg⟩ = false:=by simp [lifW,brs,bl]
 by_cases D:ty = 2
 subst D
 by_cases hz:fbit pr = 0
 have hp:prcB ⟨kk,s,2,1,qt,ii,pr,tg⟩ = true:=by simp [prcB,hz]
 have dz:decide (fbit pr = 0) = true:=by simpa using hz
 clear hz
 cases bq:betB qt 1 1000000
 have HK:Hid (newR next l ⟨kk,s,2,1,qt,ii,pr,tg⟩ = 7):=by show _ = _; simp [newR,bs,bt,hl,hp,bq]
 clear hl hp
 rotate_left
 cases bg:tagB tg
 have HK:Hid (newR next l ⟨kk,s,2,1,qt,ii,pr,tg⟩ = 8):=by show _ = _; simp [newR,bs,bt,hl,hp,bq,bg]
 clear hl hp
 rotate_left
 have vp:=M (U HT hl hp bq bg)
 clear HT hl hp
 rotate_left
 have hp:prcB ⟨kk,s,2,1,qt,ii,pr,tg⟩ = false:=by simp [prcB,hz]
 have dz:decide (fbit pr = 0) = false:=by simpa using hz
 clear hz
 have HK:Hid (newR next l ⟨kk,s,2,1,qt,ii,pr,tg⟩ = 6):=by show _ = _; simp [newR,bs,bt,hl,hp]
 clear hl hp
 rotate_left
 have b2:(ty == 2) = false:=by rw [xe]; exact D
 have b2n:(ty != 2) = true:=by simpa using D
 cases bk:tkOk pr
 have hp:prcB ⟨kk,s,ty,1,qt,ii,pr,tg⟩ = false:=by simp [prcB,D,bk]
 have HK:Hid (newR next l ⟨kk,s,ty,1,qt,ii,pr,tg⟩ = 6):=by show _ = _; simp [newR,bs,bt,hl,hp]
 clear hl hp D
 rotate_left
 have hp:prcB ⟨kk,s,ty,1,qt,ii,pr,tg⟩ = true:=by simp [prcB,D,bk]
 clear D
 cases bq:betB qt 1 1000000
 have HK:Hid (newR next l ⟨kk,s,ty,1,qt,ii,pr,tg⟩ = 7):=by show _ = _; simp [newR,bs,bt,hl,hp,bq]
 clear hl hp
 rotate_left
 cases bg:tagB tg
 have HK:Hid (newR next l ⟨kk,s,ty,1,qt,ii,pr,tg⟩ = 8):=by show _ = _; simp [newR,bs,bt,hl,hp,bq,bg]
 clear hl hp
 rotate_left
 have vp:=M (U HT hl hp bq bg)
 clear HT hl hp
 rotate_left
 have hl:lifW ⟨kk,s,ty,li,qt,ii,pr,tg⟩ = false:=by simp [lifW,bl,Q]
 have b1:(li == 1) = false:=by rw [xe]; exact Q
 clear Q
 by_cases D:ty = 2
 subst D
 by_cases hz:fbit pr = 0
 have hp:prcB ⟨kk,s,2,li,qt,ii,pr,tg⟩ = true:=by simp [prcB,hz]
 have dz:decide (fbit pr = 0) = true:=by simpa using hz
 clear hz
 cases bq:betB qt 1 1000000
 have HK:Hid (newR next l ⟨kk,s,2,li,qt,ii,pr,tg⟩ = 7):=by show _ = _; simp [newR,bs,bt,hl,hp,bq]
 clear hl hp
 rotate_left
 cases bg:tagB tg
 have HK:Hid (newR next l ⟨kk,s,2,li,qt,ii,pr,tg⟩ = 8):=by show _ = _; simp [newR,bs,bt,hl,hp,bq,bg]
 clear hl hp
 rotate_left
 have vp:=M (U HT hl hp bq bg)
 clear HT hl hp
 rotate_left
 have hp:prcB ⟨kk,s,2,li,qt,ii,pr,tg⟩ = false:=by simp [prcB,hz]
 have dz:decide (fbit pr = 0) = false:=by simpa using hz
 clear hz
 have HK:Hid (newR next l ⟨kk,s,2,li,qt,ii,pr,tg⟩ = 6):=by show _ = _; simp [newR,bs,bt,hl,hp]
 clear hl hp
 rotate_left
 have b2:(ty == 2) = false:=by rw [xe]; exact D
 have b2n:(ty != 2) = true:=by simpa using D
 cases bk:tkOk pr
 have hp:prcB ⟨kk,s,ty,li,qt,ii,pr,tg⟩ = false:=by simp [prcB,D,bk]
 have HK:Hid (newR next l ⟨kk,s,ty,li,qt,ii,pr,tg⟩ = 6):=by show _ = _; simp [newR,bs,bt,hl,hp]
 clear hl hp D
 rotate_left
 have hp:prcB ⟨kk,s,ty,li,qt,ii,pr,tg⟩ = true:=by simp [prcB,D,bk]
 clear D
 cases bq:betB qt 1 1000000
 have HK:Hid (newR next l ⟨kk,s,ty,li,qt,ii,pr,tg⟩ = 7):=by show _ = _; simp [newR,bs,bt,hl,hp,bq]
 clear hl hp
 rotate_left
 cases bg:tagB tg
 have HK:Hid (newR next l ⟨kk,s,ty,li,qt,ii,pr,tg⟩ = 8):=by show _ = _; simp [newR,bs,bt,hl,hp,bq,bg]
 clear hl hp
 rotate_left
 have vp:=M (U HT hl hp bq bg)
 clear HT hl hp
 all_goals
  go_wp2_with (first | (go_at_call 71; refine (U uY _).mono ?_; rintro e w' ⟨rfl,uh⟩; rw [uh]; clear uh w') | (go_at_call 31; refine (db _ _ _ _).mono ?_; rintro e w' ⟨rfl,uh⟩; rw [uh]; clear uh w') | (go_at_call 42; refine (eB _ _).mono ?_; rintro e w' ⟨rfl,uh⟩; rw [uh]; clear uh w') | (go_at_call 118; refine (U HZR _).mono ?_; rintro e w' ⟨rfl,uh⟩; rw [uh]; clear uh w') | (go_at_call 65; refine (U ja _).mono ?_; rintro e w' ⟨rfl,uh⟩; rw [uh]; clear uh w'))
  first
  | exact U vp _ _ _ _ _ _ _ _ _ _ _ _ _ _ _ _ _ _ _ _ _ _ _ _ _ _ _ _ _ _ _ _ _ _ _ _ _ _ _ _ _ _ _ _ _ _ _ _ _ _ _ _ _ _ _ _ _ _ _ _ _ _ _
  | (go_ret; exact ⟨zw (U HK).symm,U xt⟩)
end Go.Proofs.YthhkapcbocgcoaaGreatDoor
