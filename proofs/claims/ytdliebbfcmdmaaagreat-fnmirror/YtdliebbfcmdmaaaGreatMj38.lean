/-
  Why a new order is refused, by the model: proved by walking the function.
-/
import Derived.Test.YtdliebbfcmdmaaaGreatMj34
import Derived.Test.YtdliebbfcmdmaaaGreatMj37
set_option linter.unusedVariables false
set_option maxHeartbeats 6400000
set_option maxRecDepth 100000
namespace Go.Proofs.YtdliebbfcmdmaaaGreat
open Go.RowKit
def EN (S:Nat) (vb bv cv ta tw u5:Value):Nat→Value→Prop
 | 0,v=>v = I S 1
 | 1,v=>v = vb
 | 2,v=>v = bv
 | 3,v=>v = cv
 | 4,v=>v = ta
 | 6,v=>v = u5
 | 7,v=>∃ lv ev,u5 = .tuple #[lv,tw,ev]∧v = lv
 | 8,v=>v = tw
 | 9,v=>∃ lv ev,u5 = .tuple #[lv,tw,ev]∧v = ev
 | 11,v=>∃ lv ev,u5 = .tuple #[lv,tw,ev]∧v = lv
 | 13,v=>∃ lv ev,u5 = .tuple #[lv,tw,ev]∧v = ev
 | _,_=>True
theorem en_any {S:Nat} {vb bv cv ta tw u u':Value} {j:Nat} {v:Value} (h:EN S vb bv cv ta tw u j v) (h6:j ≠ 6) (h7:j ≠ 7) (h9:j ≠ 9) (uX:j ≠ 11) (jr:j ≠ 13):EN S vb bv cv ta tw u' j v:=by
 match j with
 | 0 | 1 | 2 | 3 | 4 | 8=>exact h
 | 5 | 10 | 12=>trivial
 | 6=>omega
 | 7=>omega
 | 9=>omega
 | 11=>omega
 | 13=>omega
 | j + 14=>trivial
def LVok (W:World) (lv:Value) (hb:List Od):Prop:=RdR Od.vs 6 W lv hb∧SlOk lv
def Dst (hb:List Od) (u v:Value):Prop:=∀ lv tw ev c8,u = .tuple #[lv,tw,ev]→v = I c8 0→hb ≠ []→lv.ownBlock ≠ some c8
structure RN (S:Nat) (vb bv cv ta tw:Value) (twl:List Value) (hb:List Od) (n2:Nat) (base:World) (x:List Bool) (f:Nat→Value) (W:World):Prop where
 bel:Below base.heap.size base W
 e:∀ j,x[j]? = some true→EN S vb bv cv ta tw (f 5) j (f j)
 m5:x[5]? = some true→∃ lv ev,f 5 = .tuple #[lv,tw,ev]∧LVok W lv hb∧∃ a c,ev = .slice a n2 c
 m10:x[10]? = some true→∃ c8,f 10 = .pointer (some ⟨c8,0,none⟩)∧base.heap.size ≤ c8∧c8 < W.heap.size∧W.there c8 0 6∧(x[12]? = some true→W.rangeAt c8 0 twl)
 ap:x[5]? = some true→x[10]? = some true→Dst hb (f 5) (f 10)
def RNA (qt:(Nat→Value)→Act) (S:Nat) (vb bv cv ta tw:Value) (pg:List Value) (hb:List Od) (n2:Nat) (base:World) (x:List Bool) (xm:Act) (W:World):Prop:=∃ f,xm = qt f∧RN S vb bv cv ta tw pg hb n2 base x f W
theorem tup3 {a b c a' b' c':Value} (h:Value.tuple #[a,b,c] = .tuple #[a',b',c']):a = a'∧b = b'∧c = c':=by
 have:=congrArg Array.toList (Value.tuple.inj h)
 simpa using this
theorem rd_block {W:World} {v:Value} {hb:List Od} (h:RdR Od.vs 6 W v hb) (xB:hb ≠ []):∃ b,v.ownBlock = some b∧b < W.heap.size:=by
 obtain ⟨a,c,rfl,_,hc⟩:=h
 obtain ⟨b,off,rfl,L,_⟩:=hc xB
 exact ⟨b,rfl,L⟩
theorem rd_setC {W:World} {v:Value} {hb:List Od} {c8 o:Nat} {vs:List Value} (h:RdR Od.vs 6 W v hb) (xB:hb ≠ []→v.ownBlock ≠ some c8):RdR Od.vs 6 (W.setCells c8 o vs) v hb:=by
 obtain ⟨a,c,rfl,Q,hc⟩:=h
 refine ⟨a,c,rfl,Q,fun hl=>?_⟩
 obtain ⟨b,off,rfl,L,hr⟩:=hc hl
 have hbc:c8 ≠ b:=fun e=>xB hl (by rw [e]; rfl)
 exact ⟨b,off,rfl,by rw [bM]; exact L,fun i c hi=>dM (hr i c hi) hbc⟩
section
variable {S:Nat} {vb bv cv ta tw:Value} {pg:List Value} {hb:List Od} {n2:Nat} {base W W':World} {x:List Bool} {f:Nat→Value}
theorem rn_grow (h:RN S vb bv cv ta tw pg hb n2 base x f W) (L:yn W W'):RN S vb bv cv ta tw pg hb n2 base x f W' :=
 ⟨h.bel.trans (L.mono h.bel.size),h.e,fun h5=>by
  obtain ⟨lv,ev,Q,N,h3⟩:=h.m5 h5
  exact ⟨lv,ev,Q,⟨zl N.1 L tg,N.2⟩,h3⟩,fun vS=>by
  obtain ⟨c8,Q,N,h3,h4,h5⟩:=h.m10 vS
  exact ⟨c8,Q,N,yJ h3 L.size,zf h4 L h3,fun qy=>zb (h5 qy) L h3⟩,h.ap⟩
theorem bI (h:RN S vb bv cv ta tw pg hb n2 base x f W) (i:Nat) (u:Value) (h5:i ≠ 5) (vS:i ≠ 10) (qy:i ≠ 12) (hu:EN S vb bv cv ta tw (f 5) i u):RN S vb bv cv ta tw pg hb n2 base (x.set i true) (upd f i u) W:=by
 refine ⟨h.bel,fun j R=>?_,?_,?_,?_⟩
 ·rw [zo f u (show 5 ≠ i from fun e=>h5 e.symm)]
  by_cases hji:j = i
  ·subst hji; rw [zn]; exact hu
  ·rw [zo _ _ hji]
   rw [gq (fun e=>hji e.symm)] at R
   exact h.e j R
 ·rw [gq h5,zo f u (show 5 ≠ i from fun e=>h5 e.symm)]; exact h.m5
 ·rw [gq vS,gq qy,zo f u (show 10 ≠ i from fun e=>vS e.symm)]; exact h.m10
 ·rw [gq h5,gq vS,zo f u (show 5 ≠ i from fun e=>h5 e.symm),zo f u (show 10 ≠ i from fun e=>vS e.symm)]; exact h.ap
theorem rn_5 (h:RN S vb bv cv ta tw pg hb n2 base x f W) (L:yn W W') {lv ev:Value} (hl:LVok W' lv hb) (he:∃ a c,ev = .slice a n2 c) (ja:∀ j,(j = 6 ∨ j = 7 ∨ j = 9 ∨ j = 11 ∨ j = 13)→x[j]? ≠ some true)
  (hap:∀ c8,base.heap.size ≤ c8→c8 < W.heap.size→hb ≠ []→lv.ownBlock ≠ some c8):RN S vb bv cv ta tw pg hb n2 base (x.set 5 true) (upd f 5 (.tuple #[lv,tw,ev])) W':=by
 have hg:=rn_grow h L
 refine ⟨hg.bel,fun j R=>?_,fun _=>⟨lv,ev,zn _ _ _,hl,he⟩,?_,?_⟩
 ·by_cases hji:j = 5
  ·subst hji; trivial
  ·rw [gq (fun e=>hji e.symm)] at R
   rw [zo _ _ hji]
   refine en_any (hg.e j R) ?_ ?_ ?_ ?_ ?_ <;> intro e <;> exact ja j (by omega) R
 ·rw [gq (by omega),gq (by omega),zo _ _ (by omega)]; exact hg.m10
 ·intro _ vS
  rw [gq (by omega)] at vS
  rw [zn,zo _ _ (by omega)]
  obtain ⟨c8,Q,N,h3,_⟩:=h.m10 vS
  intro lv' tw' ev' c8' e1 e2 xB
  rw [Q] at e2
  simp only [Value.pointer.injEq,Option.some.injEq,Addr.mk.injEq,and_true] at e2
  obtain rfl:c8 = c8':=e2
  have e1:lv = lv':=(tup3 e1).1
  rw [← e1]
  exact hap c8 N h3 xB
theorem rn_10 (h:RN S vb bv cv ta tw pg hb n2 base x f W) (qy:x[12]? ≠ some true) {o:Obj} (ht:(W.alloc o).there W.heap.size 0 6):RN S vb bv cv ta tw pg hb n2 base (x.set 10 true) (upd f 10 (I W.heap.size 0)) (W.alloc o):=by
 have hg:=rn_grow h ((Below.refl W.heap.size W).alloc tg o)
 refine ⟨hg.bel,fun j R=>?_,?_,fun _=>⟨W.heap.size,zn _ _ _,h.bel.size,by rw [ze]; omega,ht,fun e=>absurd (by rwa [gq (by omega)] at e) qy⟩,?_⟩
 ·rw [zo _ _ (by omega)]
  by_cases hji:j = 10
  ·subst hji; trivial
  ·rw [gq (fun e=>hji e.symm)] at R
   rw [zo _ _ hji]; exact hg.e j R
 ·rw [gq (by omega),zo _ _ (by omega)]; exact hg.m5
 ·intro h5 _
  rw [gq (by omega)] at h5
  rw [zn,zo _ _ (by omega)]
  obtain ⟨lv,ev,Q,N,_⟩:=h.m5 h5
  intro lv' tw' ev' c8' e1 e2 xB e3
  rw [Q] at e1
  simp only [Value.pointer.injEq,Option.some.injEq,Addr.mk.injEq,and_true] at e2
  have e1:lv = lv':=(tup3 e1).1
  obtain ⟨b,xX,xZ⟩:=rd_block N.1 xB
  rw [← e1,xX] at e3
  simp only [Option.some.injEq] at e3
  omega
theorem rn_12 (h:RN S vb bv cv ta tw pg hb n2 base x f W) (h5:x[5]? = some true) (vS:x[10]? = some true) {c8:Nat} (hc:f 10 = I c8 0) (hl:pg.length = 6) (hx:x[12]? = some false):RN S vb bv cv ta tw pg hb n2 base (x.set 12 true) f (W.setCells c8 0 pg):=by
 obtain ⟨c',Q,N,h3,h4,_⟩:=h.m10 vS
 rw [hc] at Q
 simp only [Value.pointer.injEq,Option.some.injEq,Addr.mk.injEq,and_true] at Q
 subst Q
 obtain ⟨lv,ev,e1,e2,e3⟩:=h.m5 h5
 have hd:=h.ap h5 vS lv tw ev c8 e1 hc
 refine ⟨zm _ N _ _ _ h.bel,fun j R=>?_,fun _=>⟨lv,ev,e1,⟨rd_setC e2.1 hd,e2.2⟩,e3⟩,fun _=>⟨c8,hc,N,by rw [bM]; exact h3,xb h4 _ _ _,fun _=>yX W c8 0 _ (fun j R=>h4 j (by omega))⟩,?_⟩
 ·by_cases hji:j = 12
  ·subst hji; trivial
  ·rw [gq (fun e=>hji e.symm)] at R; exact h.e j R
 ·intro _ _; exact h.ap h5 vS
end
def DV (vs:List Value) (p:Prop) (W:World) (j:Nat) (v:Value):Prop:=∀ u,vs[j]? = some u→v = u
structure R9 (C:Nat→Value→Prop) (B0:World) (hb:List Od) (t:Od) (x:List Bool) (f:Nat→Value) (W:World):Prop where
 bel:Below B0.heap.size B0 W
 c:∀ j,x[j]? = some true→C j (f j)
 m13:x[13]? = some true→x[15]? = some false→ORow W B0.heap.size (f 13) []
 m15:x[15]? = some true→x[18]? = some false→ORow W B0.heap.size (f 15) hb
 m17:x[17]? = some true→x[18]? = some false→∃ b,f 17 = .slice (some ⟨b,0,none⟩) 1 1∧b < W.heap.size∧B0.heap.size ≤ b∧W.rangeAt b 0 t.vs∧(x[13]? = some true→x[15]? = some false→(f 13).ownBlock ≠ some b)
 m18:x[18]? = some true→ORow W B0.heap.size (f 18) (hb ++ [t])
def R9A (qt:(Nat→Value)→Act) (C:Nat→Value→Prop) (B0:World) (hb:List Od) (t:Od) (x:List Bool) (xm:Act) (W:World):Prop:=∃ f,xm = qt f∧R9 C B0 hb t x f W
section
variable {C:Nat→Value→Prop} {B0 W W':World} {hb:List Od} {t:Od} {x:List Bool} {f:Nat→Value}
theorem r9_grow (h:R9 C B0 hb t x f W) (L:yn W W'):R9 C B0 hb t x f W' :=
 ⟨h.bel.trans (L.mono h.bel.size),h.c,fun a b=>zk (h.m13 a b) L,fun a b=>zk (h.m15 a b) L,fun a b=>by
  obtain ⟨b',Q,N,h3,h4,h5⟩:=h.m17 a b
  exact ⟨b',Q,yJ N L.size,h3,zb h4 L N,h5⟩,fun a=>zk (h.m18 a) L⟩
theorem aQ (h:R9 C B0 hb t x f W) (i:Nat) (v:Value) (hv:C i v) (jr:i ≠ 13) (vx:i ≠ 15) (kI:i ≠ 17) (ki:i ≠ 18):R9 C B0 hb t (x.set i true) (upd f i v) W:=by
 refine ⟨h.bel,zx h.c hv,?_,?_,?_,?_⟩ <;> simp only [gq jr,gq vx,gq kI,gq ki,zo f v jr.symm,zo f v vx.symm,zo f v kI.symm,zo f v ki.symm]
 ·exact h.m13
 ·exact h.m15
 ·exact h.m17
 ·exact h.m18
theorem r9_13 (h:R9 C B0 hb t x f W) (jr:x[13]? = some false) (hc:∀ v,C 13 v):R9 C B0 hb t (x.set 13 true) (upd f 13 (.slice (some (J W.heap.size 0)) 0 0)) (W.alloc (E #[] 66)):=by
 have hg:=r9_grow h ((Below.refl W.heap.size W).alloc tg (E #[] 66))
 refine ⟨hg.bel,zx hg.c (hc _),?_,?_,?_,?_⟩
 ·intro _ _; rw [zn]; exact World.ownsRow_made W #[] 0 h.bel.size (by decide) rfl
 ·rw [gq (by decide),gq (by decide),zo _ _ (by decide)]; exact hg.m15
 ·intro kI ki
  rw [gq (by decide)] at kI ki
  obtain ⟨b,Q,N,h3,h4,h5⟩:=hg.m17 kI ki
  obtain ⟨b',e1,e2,_⟩:=h.m17 kI ki
  rw [Q] at e1
  simp only [Value.slice.injEq,Option.some.injEq,Addr.mk.injEq,and_true] at e1
  subst e1
  refine ⟨b,by rw [zo _ _ (by decide)]; exact Q,N,h3,h4,fun _ _ e=>?_⟩
  rw [zn] at e
  simp [Value.ownBlock] at e
  omega
 ·rw [gq (by decide),zo _ _ (by decide)]; exact hg.m18
theorem r9_15 (h:R9 C B0 hb t x f W) (jr:x[13]? = some true) (vx:x[15]? = some false) (ki:x[18]? = some false) (hc:∀ v,C 15 v) {v':Value} (Z:ORow W' B0.heap.size v' hb) (hg:W.grownBy W' (f 13).ownBlock):R9 C B0 hb t (x.set 15 true) (upd f 15 v') W':=by
 refine ⟨h.bel.grown hg h.bel.size (fun k hk=>((h.m13 jr vx).lt k hk).1),zx h.c (hc _),?_,?_,?_,?_⟩
 ·intro _ e; rw [gqs vx] at e; cases e
 ·intro _ _; rw [zn]; exact Z
 ·intro kI _
  rw [gq (by decide)] at kI
  obtain ⟨b,Q,N,h3,h4,h5⟩:=h.m17 kI ki
  refine ⟨b,by rw [zo _ _ (by decide)]; exact Q,yJ N hg.size,h3,zq h4 hg N (fun e=>h5 jr vx e.symm),fun _ e=>?_⟩
  rw [gqs vx] at e; cases e
 ·intro e; rw [gq (by decide),ki] at e; cases e
theorem r9_17 (h:R9 C B0 hb t x f W) (kI:x[17]? = some false) (ki:x[18]? = some false) (hc:∀ v,C 17 v):R9 C B0 hb t (x.set 17 true) (upd f 17 (.slice (some (J W.heap.size 0)) 1 1)) (W.alloc (Obj.cells t.vs.toArray 66)):=by
 have hg:=r9_grow h ((Below.refl W.heap.size W).alloc tg (Obj.cells t.vs.toArray 66))
 refine ⟨hg.bel,zx hg.c (hc _),?_,?_,?_,?_⟩
 ·rw [gq (by decide),gq (by decide),zo _ _ (by decide)]; exact hg.m13
 ·rw [gq (by decide),gq (by decide),zo _ _ (by decide)]; exact hg.m15
 ·intro _ _
  refine ⟨W.heap.size,zn _ _ _,by rw [ze]; omega,h.bel.size,zg W t.vs _,fun jr vx e=>?_⟩
  rw [gq (by decide)] at jr vx
  rw [zo _ _ (by decide)] at e
  have:=((h.m13 jr vx).lt _ e).2
  omega
 ·rw [gq (by decide),zo _ _ (by decide)]; exact hg.m18
theorem r9_18 (h:R9 C B0 hb t x f W) (vx:x[15]? = some true) (ki:x[18]? = some false) (hc:∀ v,C 18 v) {v':Value} (Z:ORow W' B0.heap.size v' (hb ++ [t])) (hg:W.grownBy W' (f 15).ownBlock):R9 C B0 hb t (x.set 18 true) (upd f 18 v') W':=by
 refine ⟨h.bel.grown hg h.bel.size (fun k hk=>((h.m15 vx ki).lt k hk).1),zx h.c (hc _),?_,?_,?_,?_⟩
 ·intro _ e; rw [gq (by decide)] at e; rw [e] at vx; cases vx
 ·intro _ e; rw [gqs ki] at e; cases e
 ·intro _ e; rw [gqs ki] at e; cases e
 ·intro _; rw [zn]; exact Z
end
def C9 (S c8:Nat) (X left:Int) (lv:Value) (n1:Nat) (ta:Value) (h2:Int):Nat→Value→Prop
 | 0,v=>v = I (S + 1) 2
 | 1,v=>v = H X
 | 2,v=>v = .bool true
 | 3,v=>v = .bool true
 | 4,v=>v = I c8 3
 | 5,v=>v = H left
 | 6,v=>v = .bool true
 | 7,v=>v = .bool true
 | 8,v=>v = .bool true
 | 9,v=>v = lv
 | 10,v=>v = H n1
 | 11,v=>v = .bool false
 | 12,v=>v = .bool false
 | 14,v=>v = lv
 | 16,v=>v = ta
 | 19,v=>v = H h2
 | 20,v=>v = .bool (decide (8 < h2))
 | 21,v=>v = .bool (decide (8 < h2))
 | 22,v=>v = .bool (decide (8 < h2))
 | _,_=>True
theorem l04New_any (next:Int) (vb:Value) (l:List Od) (c:Cm) (w:World) (hr:RdR Od.vs 6 w vb l) (hs:SlOk vb) (hg:GoodL l) (uF:∀ x ∈ l,x.side = 1 ∨ x.side = 2) (ht:c.g.size ≤ maxLen) :
  Calls Tryz.prog 25 #[.agg #[H next,vb],cmV c] w fun e w'=>e = .returned (H (newR next l c))∧yn w w':=by
 have HR:=Y hr
 have HG:=Y hg
 have vR:=Y hs
 have HSD:=Y uF
 have qM:=Y (fun W=>l03Tag_any c.g W ht)
 have HZR:=Y (fun W=>l04Zero_any c.p W)
 have kG:=Y (fun W=>l01Ticks_any c.p W)
 obtain ⟨a,A,rfl,xD,hc⟩:=hr
 obtain ⟨kk,s,X,li,F,ii,pr,O⟩:=c
 unfold cmV
 simp only at qM HZR kG ⊢
 clear hc hg hs uF xD ht
 have xA:=ze w (E #[H next,.slice a l.length A] 31)
 have uc:((w.alloc (E #[H next,.slice a l.length A] 31)).alloc (E (yw kk s X li F ii pr O).toArray 27)).heap.size = w.heap.size + 1 + 1:=by rw [ze,xA]
 have r1:=zg w [H next,.slice a l.length A] 31
 have r2:=zg (w.alloc (E #[H next,.slice a l.length A] 31)) (yw kk s X li F ii pr O) 27
 rw [xA] at r2
 have qm:Below (w.heap.size + 1) (w.alloc (E #[H next,.slice a l.length A] 31)) ((w.alloc (E #[H next,.slice a l.length A] 31)).alloc (E (yw kk s X li F ii pr O).toArray 27)):=(Below.refl _ _).alloc (by rw [xA]; omega) _
 have xF:Hid (yn w ((w.alloc (E #[H next,.slice a l.length A] 31)).alloc (E (yw kk s X li F ii pr O).toArray 27))):=(ed _ _).alloc (by rw [xA]; omega) _
 have HX:Hid (_∧_):=⟨zb r1 qm (by omega),r2⟩
 have ux:Hid (w.heap.size + 1 < ((w.alloc (E #[H next,.slice a l.length A] 31)).alloc (E (yw kk s X li F ii pr O).toArray 27)).heap.size):=by show _ < _; omega
 clear xA uc r1 r2 qm
 go_enter Tryz.func25,Tryz.ntmps25
 refine ei fun hR xu=>?_
 go_wp2_with fail
 refine U xu _ _ ?_
 clear xu
 generalize ((w.alloc (E #[H next,.slice a l.length A] 31)).alloc (E (yw kk s X li F ii pr O).toArray 27)) = X2 at xF HX ux ⊢
 have HX:Hid (X2.rangeAt w.heap.size 0 [H next,.slice a l.length A]∧X2.rangeAt (w.heap.size + 1) 0 (yw kk s X li F ii pr O)):=U HX
 have o1:X2.cell? (J (w.heap.size + 1) 1) = some (H s):=(U HX).2 1 _ rfl
 have o2:X2.cell? (J (w.heap.size + 1) 2) = some (H X):=(U HX).2 2 _ rfl
 have o3:X2.cell? (J (w.heap.size + 1) 3) = some (H li):=(U HX).2 3 _ rfl
 have o4:X2.cell? (J (w.heap.size + 1) 4) = some (H F):=(U HX).2 4 _ rfl
 have o6:X2.cell? (J (w.heap.size + 1) 6) = some (yj pr):=(U HX).2 6 _ rfl
 have o7:X2.cell? (J (w.heap.size + 1) 7) = some (yk O):=(U HX).2 7 _ rfl
 refine ei fun hR xu=>?_
 go_wp2_with (first | (go_at_call 43; refine (U kG _).mono ?_; rintro e w' ⟨rfl,ul⟩; rw [ul]; clear ul w') | (go_at_call 23; refine (dd _ _ _ _).mono ?_; rintro e w' ⟨rfl,ul⟩; rw [ul]; clear ul w') | (go_at_call 21; refine (cj _ _).mono ?_; rintro e w' ⟨rfl,ul⟩; rw [ul]; clear ul w') | (go_at_call 42; refine (U HZR _).mono ?_; rintro e w' ⟨rfl,ul⟩; rw [ul]; clear ul w') | (go_at_call 44; refine (U qM _).mono ?_; rintro e w' ⟨rfl,ul⟩; rw [ul]; clear ul w'))
 refine U xu _ _ ?_
 clear xu
 refine ei fun hR xu=>?_
 cases bs:betB s 1 2
 have HK:Hid (newR next l ⟨kk,s,X,li,F,ii,pr,O⟩ = 3):=by show _ = _; simp [newR,bs]
 rotate_left
 cases bt:betB X 1 5
 have HK:Hid (newR next l ⟨kk,s,X,li,F,ii,pr,O⟩ = 4):=by show _ = _; simp [newR,bs,bt]
 rotate_left
 have HT:Hid (lifW ⟨kk,s,X,li,F,ii,pr,O⟩ = false→prcB ⟨kk,s,X,li,F,ii,pr,O⟩ = true→betB F 1 1000000 = true→tagB O = true→∀ (u5 u6 u10 u11 u12 u13 u14 u15 u16 u17 u18 u19 u20 u21 u22 u23 u24 u25 u26 u27 u28 u29 u30 u31 u32 u33 u34 u35 u36 u37 u38 u39 u40 u41 u42 u43 u44 u45 u46 u47 u48 u49 u50 u51 u52 u53 u54 u55 u56 u57 u58 u59 u60 u61 u62 u63 u64 u65 u66 u67 u68 u69 u70:Value),hR { tmps:=#[.agg #[H next,.slice a l.length A],.agg (yw kk s X li F ii pr O).toArray,I w.heap.size 0,I (w.heap.size + 1) 0,H 0,u5,u6,M,M,M,u10,u11,u12,u13,u14,u15,u16,u17,u18,u19,u20,u21,u22,u23,u24,u25,u26,u27,u28,u29,u30,u31,u32,u33,u34,u35,u36,u37,u38,u39,u40,u41,u42,u43,u44,u45,u46,u47,u48,u49,u50,u51,u52,u53,u54,u55,u56,u57,u58,u59,u60,u61,u62,u63,u64,u65,u66,u67,u68,u69,u70,M,M,M,M,M,M,M,M,M,M,M,M,M,M,M,M,M,M,M,M,M,M,M,M,M,M,M,M,M,M,M,M,M,M,M,M,M,M,M,M,M,M,M,M,M,M,M,M,M,M,M,M,M,M,M],defers:=[] } X2):=by
  intro hlif hprc hqty htag u5 u6 u10 u11 u12 u13 u14 u15 u16 u17 u18 u19 u20 u21 u22 u23 u24 u25 u26 u27 u28 u29 u30 u31 u32 u33 u34 u35 u36 u37 u38 u39 u40 u41 u42 u43 u44 u45 u46 u47 u48 u49 u50 u51 u52 u53 u54 u55 u56 u57 u58 u59 u60 u61 u62 u63 u64 u65 u66 u67 u68 u69 u70
  refine U xu _ _ ?_
  clear xu o1 o2 o3 o4 o6 o7
  have hside:=side_of bs
  have hqq:1 ≤ F∧F ≤ 1000000:=by simpa [betB] using hqty
  have qX:Hid (newR next l ⟨kk,s,X,li,F,ii,pr,O⟩ = matS next ⟨kk,s,X,li,F,ii,pr,O⟩ (matL ⟨kk,s,X,li,F,ii,pr,O⟩ next 21 l F [])):=by
   show _ = _
   rw [matS_eq (U HG) (U HSD) bs hprc hqty]
   simp [newR,bs,bt,hlif,hprc,hqty,htag]
  have kh:=Y (fun W hW=>cX (.slice a l.length A) l ⟨kk,s,X,li,F,ii,pr,O⟩ next W hW (U HG) hside hprc (by show 0 ≤ F; omega) hqq.2)
  have HGF:=Y (bV (c:=⟨kk,s,X,li,F,ii,pr,O⟩) (id:=next) 21 l F [] (U HG) (by omega) hqq.2)
  simp only at kh HGF
  generalize matL ⟨kk,s,X,li,F,ii,pr,O⟩ next 21 l F [] = qt at qX kh HGF
  generalize newR next l ⟨kk,s,X,li,F,ii,pr,O⟩ = res at qX ⊢
  have HTKR:=Y (fun W=>cY next a l.length A ⟨kk,s,X,li,F,ii,pr,O⟩ W)
  unfold cmV at HTKR
  simp only at HTKR
  have oh:Hid (matS next ⟨kk,s,X,li,F,ii,pr,O⟩ qt = if X = 5∧0 < qt.2.2.length then 11 else if X = 4∧0 < qt.2.1 then 12 else if next = 1000000 then 13
   else if aA X = true then (if 0 < qt.2.1 then (if qt.1.length = 20 then 13 else if 8 < nlev (qt.1 ++ [⟨next,s,tkS pr,qt.2.1,li,O⟩]) then 13 else 0) else 0) else 0):=rfl
  have qX:Hid (res = _):=(U qX).trans (U oh)
  clear oh hlif hprc hqty htag hqq
  generalize tkS pr = tt at kh HTKR qX
  obtain ⟨hb,left,ts⟩:=qt
  simp only at kh qX HGF
  refine ei fun hR xu=>?_
  refine zh (RNA (fun f=>{ tmps:=#[.agg #[H next,.slice a l.length A],.agg (yw kk s X li F ii pr O).toArray,I w.heap.size 0,I (w.heap.size + 1) 0,H 0,u5,u6,f 11,f 10,f 13,u10,u11,u12,u13,u14,u15,u16,u17,u18,u19,u20,u21,u22,u23,u24,u25,u26,u27,u28,u29,u30,u31,u32,u33,u34,u35,u36,u37,u38,u39,u40,u41,u42,u43,u44,u45,u46,u47,u48,u49,u50,u51,u52,u53,u54,u55,u56,u57,u58,u59,u60,u61,u62,u63,u64,u65,u66,u67,u68,u69,u70,f 6,f 0,f 1,f 2,f 3,f 4,f 5,f 7,f 8,f 9,M,M,M,M,M,M,M,M,M,M,M,M,M,M,M,M,M,M,M,M,M,M,M,M,M,M,M,M,M,M,M,M,M,M,M,M,M,M,M,M,M,M,M,M,M],defers:=[] }) w.heap.size (.slice a l.length A) (.agg #[H next,.slice a l.length A]) (.agg (yw kk s X li F ii pr O).toArray) (.agg (yv next s tt F li O).toArray) (.agg (yv next s tt left li O).toArray) (yv next s tt left li O) hb ts.length X2) (by kernel_rfl) ?_ ?_ ?_
  ·exact ⟨fun j=>M,rfl,⟨⟨rfl,rfl,rfl,Nat.le_refl _,fun _ _=>rfl⟩,fun j R=>by rw [yI] at R; split at R <;> simp at R,by simp,by simp,by simp⟩⟩
  ·rintro x xm V ⟨f,rfl,K⟩ hx xP
   have xp:=zP xP hx (by kernel_rfl)
   obtain ⟨lv,ev,e5,hlv,ae,ce,hev⟩:=K.m5 (xp 5 (by simp))
   obtain ⟨c8,oD,pC,kW,-,hcr⟩:=K.m10 (xp 10 (by simp))
   obtain ⟨lv',ev',e11,e11'⟩:=K.e 11 (xp 11 (by simp))
   obtain ⟨lv'',ev'',e13,e13'⟩:=K.e 13 (xp 13 (by simp))
   have HC8:=Y (hcr (xp 12 (by simp)))
   rw [e5] at e11 e13
   have q1:lv = lv':=(tup3 e11).1
   have q2:ev = ev'':=(tup3 e13).2.2
   rw [← q1] at e11'
   rw [← q2,hev] at e13'
   have jS:=Y hlv
   have xv:=Y ((U xF).trans (K.bel.mono (U xF).size))
   have HXV:Hid (V.rangeAt w.heap.size 0 [H next,.slice a l.length A]∧V.rangeAt (w.heap.size + 1) 0 (yw kk s X li F ii pr O)):=⟨zb (U HX).1 K.bel (by have:=U ux; omega),zb (U HX).2 K.bel (U ux)⟩
   have hVS:w.heap.size + 1 < V.heap.size:=yJ (U ux) K.bel.size
   refine U xu _ _ ?_
   clear xu
   simp only [oD,e11',e13']
   generalize f 6 = u71,f 0 = u72,f 1 = u73,f 2 = u74,f 3 = u75,f 4 = u76,f 5 = u77,f 7 = u78,f 8 = u79,f 9 = u80
   clear K xp e5 oD e11 e13 e11' e13' q1 q2 hcr xP hx hlv hev kh HTKR HX xF ux
   obtain ⟨⟨al,cal,kl,hll,qn⟩,hsl⟩:=U jS
   have HRL:Hid (RdR Od.vs 6 V (.slice al hb.length cal) hb):=by rw [← kl]; exact (U jS).1
   have HSV:Hid (SlOk (.slice al hb.length cal)):=by rw [← kl]; exact hsl
   subst kl
   clear qn hsl hll jS
   have k0:V.cell? (J w.heap.size 0) = some (H next):=(U HXV).1 0 _ rfl
   have o2:V.cell? (J (w.heap.size + 1) 2) = some (H X):=(U HXV).2 2 _ rfl
   have c3:V.cell? (J c8 3) = some (H left):=U HC8 3 _ rfl
   have h20:hb.length ≤ 20:=(U HGF).1.len
   refine ei fun hR xu=>?_
   have vE:Hid (¬ (X = 5∧0 < ts.length)→¬ (X = 4∧0 < left)→next ≠ 1000000→∀ (u5 u6 u10 u11 u12 u13 u14 u15 u16 u17 u18 u19 u20 u21 u22 u23 u24 u25 u26 u27 u28 u29 u30 u31 u32 u33 u34 u35 u36 u37 u38 u39 u40 u41 u42 u43 u44 u45 u46 u47 u48 u49 u50 u51 u52 u53 u54 u55 u56 u57 u58 u59 u60 u61 u62 u63 u64 u65 u66 u67 u68 u69 u70 u71 u72 u73 u74 u75 u76 u77 u78 u79 u80 u81 u82 u83 u84 u85 u86 u87 u88 u89 u90 u91 u92 u93 u94 u95 u96 u97 u98 u99 u100 u101 u102:Value),hR { tmps:=#[.agg #[H next,.slice a l.length A],.agg (yw kk s X li F ii pr O).toArray,I w.heap.size 0,I (w.heap.size + 1) 0,H 0,u5,u6,.slice al hb.length cal,I c8 0,.slice ae ts.length ce,u10,u11,u12,u13,u14,u15,u16,u17,u18,u19,u20,u21,u22,u23,u24,u25,u26,u27,u28,u29,u30,u31,u32,u33,u34,u35,u36,u37,u38,u39,u40,u41,u42,u43,u44,u45,u46,u47,u48,u49,u50,u51,u52,u53,u54,u55,u56,u57,u58,u59,u60,u61,u62,u63,u64,u65,u66,u67,u68,u69,u70,u71,u72,u73,u74,u75,u76,u77,u78,u79,u80,u81,u82,u83,u84,u85,u86,u87,u88,u89,u90,u91,u92,u93,u94,u95,u96,u97,u98,u99,u100,u101,u102,M,M,M,M,M,M,M,M,M,M,M,M,M,M,M,M,M,M,M,M,M,M,M],defers:=[] } V):=by
    intro g5 g4 gn u5 u6 u10 u11 u12 u13 u14 u15 u16 u17 u18 u19 u20 u21 u22 u23 u24 u25 u26 u27 u28 u29 u30 u31 u32 u33 u34 u35 u36 u37 u38 u39 u40 u41 u42 u43 u44 u45 u46 u47 u48 u49 u50 u51 u52 u53 u54 u55 u56 u57 u58 u59 u60 u61 u62 u63 u64 u65 u66 u67 u68 u69 u70 u71 u72 u73 u74 u75 u76 u77 u78 u79 u80 u81 u82 u83 u84 u85 u86 u87 u88 u89 u90 u91 u92 u93 u94 u95 u96 u97 u98 u99 u100 u101 u102
    have HRS:Hid (res = if aA X = true then (if 0 < left then (if hb.length = 20 then 13 else if 8 < nlev (hb ++ [⟨next,s,tt,left,li,O⟩]) then 13 else 0) else 0) else 0):=by
     have:=U qX
     rw [if_neg g5,if_neg g4,if_neg gn] at this
     exact this
    refine U xu _ _ ?_
    clear xu g5 g4 gn qX k0
    have HCEL:Hid (∀ w':World,V.grownBy w' none→w'.cell? (J (w.heap.size + 1) 2) = some (H X)∧w'.cell? (J c8 3) = some (H left)):=fun w' h'=>⟨zq (U HXV).2 h' hVS (by simp) 2 _ rfl,zq (U HC8) h' kW (by simp) 3 _ rfl⟩
    cases brs:aA X
    ·have HQ0:Hid (res = 0):=(U HRS).trans (by rw [brs]; rfl)
     go_wp2_with fail
     refine zh (RG V (fun f=>{ tmps:=#[.agg #[H next,.slice a l.length A],.agg (yw kk s X li F ii pr O).toArray,I w.heap.size 0,I (w.heap.size + 1) 0,H 0,u5,u6,.slice al hb.length cal,I c8 0,.slice ae ts.length ce,u10,u11,u12,u13,u14,u15,u16,u17,u18,u19,u20,u21,u22,u23,u24,u25,u26,u27,u28,u29,u30,u31,u32,u33,u34,u35,u36,u37,u38,u39,u40,u41,u42,u43,u44,u45,u46,u47,u48,u49,u50,u51,u52,u53,u54,u55,u56,u57,u58,u59,u60,u61,u62,u63,u64,u65,u66,u67,u68,u69,u70,u71,u72,u73,u74,u75,u76,u77,u78,u79,u80,u81,u82,u83,u84,u85,u86,u87,u88,u89,u90,u91,u92,u93,u94,u95,u96,u97,u98,u99,u100,u101,u102,f 0,f 1,f 2,f 3,f 4,f 5,f 6,f 7,f 8,f 9,f 10,f 11,f 12,f 13,f 14,f 15,f 16,f 17,f 18,f 19,f 20,f 21,f 22],defers:=[] }) 99 (DV [I (w.heap.size + 1) 2,H X,.bool false,.bool false,M,M,M,.bool false,.bool false,M,M,M,M,M,M,M,M,M,M,M,M,M,.bool false])) (by kernel_rfl) ?_ ?_ ?_
     ·exact ⟨fun _=>M,rfl,⟨rfl,rfl,rfl,Nat.le_refl _,fun _ _=>rfl⟩,fun j R=>by rw [yI] at R; split at R <;> simp at R⟩
     ·rintro x xm V' ⟨f,rfl,xk,hD⟩ hx xP
      have xp:=zT xP hx (acyc _ (by kernel_rfl))
      have e22:f 22 = .bool false:=hD 22 (xp 22 (by simp)) _ rfl
      have xT:=Y (eh (U xv) xk)
      simp only [e22]
      clear hD xp e22 xP hx xk
      go_wp2_with fail
      go_ret
      exact ⟨zp (U HQ0).symm,U xT⟩
     ·rintro x xm V' i' o' ⟨f,rfl,xk,hD⟩ xo hx Z xy D
      clear xo
      have xE:=Y xk
      have HD:=Y hD
      have o2:V'.cell? (J (w.heap.size + 1) 2) = some (H X):=zb (U HXV).2 xk hVS 2 _ rfl
      have c3:V'.cell? (J c8 3) = some (H left):=zb (U HC8) xk kW 3 _ rfl
      clear HRS HQ0
      match i',Z with
      | 0,Z =>
       obtain rfl:=ya Z
       clear D hD xk
       rw [if_pos (by rfl)];unfold Oper.wp;go_simp
       exact ⟨upd f 0 (I (w.heap.size + 1) 2),by simp [upd],zd (U xE) (U HD) (by decide) (yh rfl)⟩
      | 1,Z =>
       obtain rfl:=ya Z
       have g0:=hD 0 (ye D 0 rfl) _ rfl
       clear D hD xk
       rw [if_pos (by rfl)];unfold Oper.wp;go_simp
       exact ⟨upd f 1 (H X),by simp [upd,g0],zd (U xE) (U HD) (by decide) (yh rfl)⟩
      | 2,Z =>
       obtain rfl:=ya Z
       have g1:=hD 1 (ye D 1 rfl) _ rfl
       clear D hD xk
       rw [if_pos (by rfl)];unfold Oper.wp;go_simp
       refine (cj X _).mono ?_
       rintro e w3 ⟨rfl,hw3⟩
       rw [hw3,brs]
       exact ⟨upd f 2 (.bool false),by simp [upd,g1],zd (U xE) (U HD) (by decide) (yh rfl)⟩
      | 3,Z =>
       obtain rfl:=ya Z
       have g2:=hD 2 (ye D 2 rfl) _ rfl
       clear D hD xk
       rw [if_pos (by rfl)];unfold Oper.wp;go_simp
       exact ⟨upd f 3 (.bool false),by simp [upd,g2],zd (U xE) (U HD) (by decide) (yh rfl)⟩
      | 4,Z | 5,Z | 6,Z =>
       obtain rfl:=ya Z
       have g3:=hD 3 (ye D 3 rfl) _ rfl
       clear D hD xk
       rw [if_neg (by simp only [g3]; exact fun h=>Bool.noConfusion (show (false:Bool) = true from h))]
       exact ⟨upd f _ M,rfl,zd (U xE) (U HD) (by decide) (yh rfl)⟩
      | 7,Z =>
       obtain rfl:=ya Z
       have g3:=hD 3 (ye D 3 rfl) _ rfl
       have g6:=hD 6 (ye D 6 rfl) _ rfl
       clear D hD xk
       rw [if_pos (by rfl)];unfold Oper.wp;go_simp
       exact ⟨upd f 7 (.bool false),by simp [upd,g3,g6],zd (U xE) (U HD) (by decide) (yh rfl)⟩
      | 8,Z =>
       obtain rfl:=ya Z
       have g7:=hD 7 (ye D 7 rfl) _ rfl
       clear D hD xk
       rw [if_pos (by rfl)];unfold Oper.wp;go_simp
       exact ⟨upd f 8 (.bool false),by simp [upd,g7],zd (U xE) (U HD) (by decide) (yh rfl)⟩
      | 9,Z | 10,Z | 11,Z | 12,Z | 21,Z =>
       obtain rfl:=ya Z
       have g8:=hD 8 (ye D 8 rfl) _ rfl
       clear D hD xk
       rw [if_neg (by simp only [g8]; exact fun h=>Bool.noConfusion (show (false:Bool) = true from h))]
       exact ⟨upd f _ M,rfl,zd (U xE) (U HD) (by decide) (yh rfl)⟩
      | 13,Z | 14,Z | 15,Z | 16,Z | 17,Z | 18,Z | 19,Z | 20,Z =>
       obtain rfl:=ya Z
       have ua:=hD 12 (ye D 12 rfl) _ rfl
       clear D hD xk
       rw [if_neg (by simp only [ua]; exact fun h=>Bool.noConfusion (show (false:Bool) = true from h))]
       exact ⟨upd f _ M,rfl,zd (U xE) (U HD) (by decide) (yh rfl)⟩
      | 22,Z =>
       obtain rfl:=ya Z
       have g8:=hD 8 (ye D 8 rfl) _ rfl
       have g21:=hD 21 (ye D 21 rfl) _ rfl
       clear D hD xk
       rw [if_pos (by rfl)];unfold Oper.wp;go_simp
       exact ⟨upd f 22 (.bool false),by simp [upd,g8,g21],zd (U xE) (U HD) (by decide) (yh rfl)⟩
      | n + 23,Z=>simp at Z
    by_cases oq:0 < left
    ·by_cases oM:hb.length = 20
     ·have HQ0:Hid (res = 13):=(U HRS).trans (by rw [if_pos brs,if_pos oq,if_pos oM])
      have aw:(hb.length:Int) = 20:=by omega
      have hb20:((hb.length:Int) == 20) = true:=by simpa using aw
      have hlf':decide (0 < left) = true:=by simpa using oq
      clear oM aw
      go_wp2_with fail
      refine zh (RG V (fun f=>{ tmps:=#[.agg #[H next,.slice a l.length A],.agg (yw kk s X li F ii pr O).toArray,I w.heap.size 0,I (w.heap.size + 1) 0,H 0,u5,u6,.slice al hb.length cal,I c8 0,.slice ae ts.length ce,u10,u11,u12,u13,u14,u15,u16,u17,u18,u19,u20,u21,u22,u23,u24,u25,u26,u27,u28,u29,u30,u31,u32,u33,u34,u35,u36,u37,u38,u39,u40,u41,u42,u43,u44,u45,u46,u47,u48,u49,u50,u51,u52,u53,u54,u55,u56,u57,u58,u59,u60,u61,u62,u63,u64,u65,u66,u67,u68,u69,u70,u71,u72,u73,u74,u75,u76,u77,u78,u79,u80,u81,u82,u83,u84,u85,u86,u87,u88,u89,u90,u91,u92,u93,u94,u95,u96,u97,u98,u99,u100,u101,u102,f 0,f 1,f 2,f 3,f 4,f 5,f 6,f 7,f 8,f 9,f 10,f 11,f 12,f 13,f 14,f 15,f 16,f 17,f 18,f 19,f 20,f 21,f 22],defers:=[] }) 99 (DV [I (w.heap.size + 1) 2,H X,.bool true,.bool true,I c8 3,H left,.bool true,.bool true,.bool true,.slice al hb.length cal,H hb.length,.bool true,.bool true,M,M,M,M,M,M,M,M,.bool true,.bool true])) (by kernel_rfl) ?_ ?_ ?_
      ·exact ⟨fun _=>M,rfl,⟨rfl,rfl,rfl,Nat.le_refl _,fun _ _=>rfl⟩,fun j R=>by rw [yI] at R; split at R <;> simp at R⟩
      ·rintro x xm V' ⟨f,rfl,xk,hD⟩ hx xP
       have xp:=zT xP hx (acyc _ (by kernel_rfl))
       have e22:f 22 = .bool true:=hD 22 (xp 22 (by simp)) _ rfl
       have xT:=Y (eh (U xv) xk)
       simp only [e22]
       clear hD xp e22 xP hx xk
       go_wp2_with fail
       go_ret
       exact ⟨zp (U HQ0).symm,U xT⟩
      ·rintro x xm V' i' o' ⟨f,rfl,xk,hD⟩ xo hx Z xy D
       clear xo
       have xE:=Y xk
       have HD:=Y hD
       have o2:V'.cell? (J (w.heap.size + 1) 2) = some (H X):=zb (U HXV).2 xk hVS 2 _ rfl
       have c3:V'.cell? (J c8 3) = some (H left):=zb (U HC8) xk kW 3 _ rfl
       clear HRS HQ0
       match i',Z with
       | 0,Z =>
        obtain rfl:=ya Z
        clear D hD xk
        rw [if_pos (by rfl)];unfold Oper.wp;go_simp
        exact ⟨upd f 0 (I (w.heap.size + 1) 2),by simp [upd],zd (U xE) (U HD) (by decide) (yh rfl)⟩
       | 1,Z =>
        obtain rfl:=ya Z
        have g0:=hD 0 (ye D 0 rfl) _ rfl
        clear D hD xk
        rw [if_pos (by rfl)];unfold Oper.wp;go_simp
        exact ⟨upd f 1 (H X),by simp [upd,g0],zd (U xE) (U HD) (by decide) (yh rfl)⟩
       | 2,Z =>
        obtain rfl:=ya Z
        have g1:=hD 1 (ye D 1 rfl) _ rfl
        clear D hD xk
        rw [if_pos (by rfl)];unfold Oper.wp;go_simp
        refine (cj X _).mono ?_
        rintro e w3 ⟨rfl,hw3⟩
        rw [hw3,brs]
        exact ⟨upd f 2 (.bool true),by simp [upd,g1],zd (U xE) (U HD) (by decide) (yh rfl)⟩
       | 3,Z =>
        obtain rfl:=ya Z
        have g2:=hD 2 (ye D 2 rfl) _ rfl
        clear D hD xk
        rw [if_pos (by rfl)];unfold Oper.wp;go_simp
        exact ⟨upd f 3 (.bool true),by simp [upd,g2],zd (U xE) (U HD) (by decide) (yh rfl)⟩
       | 4,Z =>
        obtain rfl:=ya Z
        have g3:=hD 3 (ye D 3 rfl) _ rfl
        clear D hD xk
        rw [if_pos (by simp only [g3]; rfl)]
        unfold Oper.wp
        go_simp
        exact ⟨upd f 4 (I c8 3),by simp [upd,g3],zd (U xE) (U HD) (by decide) (yh rfl)⟩
       | 5,Z =>
        obtain rfl:=ya Z
        have g3:=hD 3 (ye D 3 rfl) _ rfl
        have g4:=hD 4 (ye D 4 rfl) _ rfl
        clear D hD xk
        rw [if_pos (by simp only [g3]; rfl)]
        unfold Oper.wp
        go_simp
        exact ⟨upd f 5 (H left),by simp [upd,g3,g4],zd (U xE) (U HD) (by decide) (yh rfl)⟩
       | 6,Z =>
        obtain rfl:=ya Z
        have g3:=hD 3 (ye D 3 rfl) _ rfl
        have g5:=hD 5 (ye D 5 rfl) _ rfl
        clear D hD xk
        rw [if_pos (by simp only [g3]; rfl)]
        unfold Oper.wp
        go_simp
        exact ⟨upd f 6 (.bool true),by simp [upd,g3,g5],zd (U xE) (U HD) (by decide) (yh rfl)⟩
       | 7,Z =>
        obtain rfl:=ya Z
        have g3:=hD 3 (ye D 3 rfl) _ rfl
        have g6:=hD 6 (ye D 6 rfl) _ rfl
        clear D hD xk
        rw [if_pos (by rfl)];unfold Oper.wp;go_simp
        exact ⟨upd f 7 (.bool true),by simp [upd,g3,g6],zd (U xE) (U HD) (by decide) (yh rfl)⟩
       | 8,Z =>
        obtain rfl:=ya Z
        have g7:=hD 7 (ye D 7 rfl) _ rfl
        clear D hD xk
        rw [if_pos (by rfl)];unfold Oper.wp;go_simp
        exact ⟨upd f 8 (.bool true),by simp [upd,g7],zd (U xE) (U HD) (by decide) (yh rfl)⟩
       | 9,Z =>
        obtain rfl:=ya Z
        have g8:=hD 8 (ye D 8 rfl) _ rfl
        clear D hD xk
        rw [if_pos (by simp only [g8]; rfl)]
        unfold Oper.wp
        go_simp
        exact ⟨upd f 9 (.slice al hb.length cal),by simp [upd,g8],zd (U xE) (U HD) (by decide) (yh rfl)⟩
       | 10,Z =>
        obtain rfl:=ya Z
        have g8:=hD 8 (ye D 8 rfl) _ rfl
        have g9:=hD 9 (ye D 9 rfl) _ rfl
        clear D hD xk
        rw [if_pos (by simp only [g8]; rfl)]
        unfold Oper.wp
        go_simp
        exact ⟨upd f 10 (H hb.length),by simp [upd,g8,g9],zd (U xE) (U HD) (by decide) (yh rfl)⟩
       | 11,Z =>
        obtain rfl:=ya Z
        have g8:=hD 8 (ye D 8 rfl) _ rfl
        have qC:=hD 10 (ye D 10 rfl) _ rfl
        clear D hD xk
        rw [if_pos (by simp only [g8]; rfl)]
        unfold Oper.wp
        go_simp
        exact ⟨upd f 11 (.bool true),by simp [upd,g8,qC],zd (U xE) (U HD) (by decide) (yh rfl)⟩
       | 12,Z =>
        obtain rfl:=ya Z
        have g8:=hD 8 (ye D 8 rfl) _ rfl
        have vF:=hD 11 (ye D 11 rfl) _ rfl
        clear D hD xk
        rw [if_pos (by simp only [g8]; rfl)]
        unfold Oper.wp
        go_simp
        exact ⟨upd f 12 (.bool true),by simp [upd,g8,vF],zd (U xE) (U HD) (by decide) (yh rfl)⟩
       | 13,Z | 14,Z | 15,Z | 16,Z | 17,Z | 18,Z | 19,Z | 20,Z =>
        obtain rfl:=ya Z
        have ua:=hD 12 (ye D 12 rfl) _ rfl
        clear D hD xk
        rw [if_neg (by simp only [ua]; exact fun h=>Bool.noConfusion (show (false:Bool) = true from h))]
        exact ⟨upd f _ M,rfl,zd (U xE) (U HD) (by decide) (yh rfl)⟩
       | 21,Z =>
        obtain rfl:=ya Z
        have g8:=hD 8 (ye D 8 rfl) _ rfl
        have ua:=hD 12 (ye D 12 rfl) _ rfl
        have g20:=hD 20 (ye D 20 rfl) _ rfl
        clear D hD xk
        rw [if_pos (by simp only [g8]; rfl)]
        unfold Oper.wp
        go_simp
        exact ⟨upd f 21 (.bool true),by simp [upd,g8,ua,g20],zd (U xE) (U HD) (by decide) (yh rfl)⟩
       | 22,Z =>
        obtain rfl:=ya Z
        have g8:=hD 8 (ye D 8 rfl) _ rfl
        have g21:=hD 21 (ye D 21 rfl) _ rfl
        clear D hD xk
        rw [if_pos (by rfl)];unfold Oper.wp;go_simp
        exact ⟨upd f 22 (.bool true),by simp [upd,g8,g21],zd (U xE) (U HD) (by decide) (yh rfl)⟩
       | n + 23,Z=>simp at Z
     ·have HQ0:Hid (res = if decide (8 < ((nlev (hb ++ [⟨next,s,tt,left,li,O⟩]):Nat):Int)) = true then 13 else 0):=(U HRS).trans (by
       rw [if_pos brs,if_pos oq,if_neg oM]
       by_cases h8:8 < nlev (hb ++ [⟨next,s,tt,left,li,O⟩])
       ·rw [if_pos h8,if_pos (by simp only [xh]; omega)]
       ·rw [if_neg h8,if_neg (by simp only [xh]; omega)])
      have HLV2:=Y (fun (W:World) (v:Value) (hW:RdR Od.vs 6 W v (hb ++ [⟨next,s,tt,left,li,O⟩]))=>l03Levels_any v (hb ++ [⟨next,s,tt,left,li,O⟩]) W hW (by simp; omega))
      generalize ((nlev (hb ++ [⟨next,s,tt,left,li,O⟩]):Nat):Int) = h2 at HQ0 HLV2
      have aw:¬ (hb.length:Int) = 20:=by omega
      have hb20:((hb.length:Int) == 20) = false:=by rw [xd]; exact aw
      have hlf':decide (0 < left) = true:=by simpa using oq
      obtain ⟨i0,uE,uA,uC,uM⟩:=info_parts Tryz.infoOrder
      clear oM
      go_wp2_with fail
      refine zh (R9A (fun f=>{ tmps:=#[.agg #[H next,.slice a l.length A],.agg (yw kk s X li F ii pr O).toArray,I w.heap.size 0,I (w.heap.size + 1) 0,H 0,u5,u6,.slice al hb.length cal,I c8 0,.slice ae ts.length ce,u10,u11,u12,u13,u14,u15,u16,u17,u18,u19,u20,u21,u22,u23,u24,u25,u26,u27,u28,u29,u30,u31,u32,u33,u34,u35,u36,u37,u38,u39,u40,u41,u42,u43,u44,u45,u46,u47,u48,u49,u50,u51,u52,u53,u54,u55,u56,u57,u58,u59,u60,u61,u62,u63,u64,u65,u66,u67,u68,u69,u70,u71,u72,u73,u74,u75,u76,u77,u78,u79,u80,u81,u82,u83,u84,u85,u86,u87,u88,u89,u90,u91,u92,u93,u94,u95,u96,u97,u98,u99,u100,u101,u102,f 0,f 1,f 2,f 3,f 4,f 5,f 6,f 7,f 8,f 9,f 10,f 11,f 12,f 13,f 14,f 15,f 16,f 17,f 18,f 19,f 20,f 21,f 22],defers:=[] }) (C9 w.heap.size c8 X left (.slice al hb.length cal) hb.length (.agg (yv next s tt left li O).toArray) h2) V hb ⟨next,s,tt,left,li,O⟩) (by kernel_rfl) ?_ ?_ ?_
      ·exact ⟨fun j=>M,rfl,⟨⟨rfl,rfl,rfl,Nat.le_refl _,fun _ _=>rfl⟩,fun j R=>by rw [yI] at R; split at R <;> simp at R,by simp,by simp,by simp,by simp⟩⟩
      ·rintro x xm V' ⟨f,rfl,K⟩ hx xP
       have xp:=zT xP hx (acyc _ (by kernel_rfl))
       have e22:f 22 = .bool (decide (8 < h2)):=K.c 22 (xp 22 (by simp))
       have xT:=Y ((U xv).trans (K.bel.mono (U xv).size))
       simp only [e22]
       clear K xp e22 xP hx
       cases hd:decide (8 < h2)
       ·have kE:Hid (res = 0):=(U HQ0).trans (by rw [hd]; rfl)
        go_wp2_with fail
        go_ret
        exact ⟨zp (U kE).symm,U xT⟩
       ·have kE:Hid (res = 13):=(U HQ0).trans (by rw [hd]; rfl)
        go_wp2_with fail
        go_ret
        exact ⟨zp (U kE).symm,U xT⟩
      ·rintro x xm V' i' o' ⟨f,rfl,K⟩ xo hx Z xy D
       have xz:=Y K
       have o2:V'.cell? (J (w.heap.size + 1) 2) = some (H X):=zb (U HXV).2 K.bel hVS 2 _ rfl
       have HC9:=Y (zb (U HC8) K.bel kW)
       have c3:V'.cell? (J c8 3) = some (H left):=U HC9 3 _ rfl
       have xk:=Y K.bel
       clear HRS HQ0
       match i',Z with
       | 0,Z =>
        obtain rfl:=ya Z
        clear D K xo
        rw [if_pos (by rfl)];unfold Oper.wp;go_simp
        exact ⟨upd f 0 (I (w.heap.size + 1) 2),by simp [upd],aQ (U xz) 0 _ rfl (by decide) (by decide) (by decide) (by decide)⟩
       | 1,Z =>
        obtain rfl:=ya Z
        have g0:f 0 = I (w.heap.size + 1) 2:=K.c 0 (ye D 0 rfl)
        clear D K xo
        rw [if_pos (by rfl)];unfold Oper.wp;go_simp
        exact ⟨upd f 1 (H X),by simp [upd,g0],aQ (U xz) 1 _ rfl (by decide) (by decide) (by decide) (by decide)⟩
       | 2,Z =>
        obtain rfl:=ya Z
        have g1:f 1 = H X:=K.c 1 (ye D 1 rfl)
        clear D K xo
        rw [if_pos (by rfl)];unfold Oper.wp;go_simp
        refine (cj X _).mono ?_
        rintro e w3 ⟨rfl,hw3⟩
        rw [hw3,brs]
        exact ⟨upd f 2 (.bool true),by simp [upd,g1],aQ (U xz) 2 _ rfl (by decide) (by decide) (by decide) (by decide)⟩
       | 3,Z =>
        obtain rfl:=ya Z
        have g2:f 2 = .bool true:=K.c 2 (ye D 2 rfl)
        clear D K xo
        rw [if_pos (by rfl)];unfold Oper.wp;go_simp
        exact ⟨upd f 3 (.bool true),by simp [upd,g2],aQ (U xz) 3 _ rfl (by decide) (by decide) (by decide) (by decide)⟩
       | 4,Z =>
        obtain rfl:=ya Z
        have g3:f 3 = .bool true:=K.c 3 (ye D 3 rfl)
        clear D K xo
        rw [if_pos (by simp only [g3]; rfl)]
        unfold Oper.wp
        go_simp
        exact ⟨upd f 4 (I c8 3),by simp [upd,g3],aQ (U xz) 4 _ rfl (by decide) (by decide) (by decide) (by decide)⟩
       | 5,Z =>
        obtain rfl:=ya Z
        have g4:f 4 = I c8 3:=K.c 4 (ye D 4 rfl)
        have g3:f 3 = .bool true:=K.c 3 (ye D 3 rfl)
        clear D K xo
        rw [if_pos (by simp only [g3]; rfl)]
        unfold Oper.wp
        go_simp
        exact ⟨upd f 5 (H left),by simp [upd,g4,g3],aQ (U xz) 5 _ rfl (by decide) (by decide) (by decide) (by decide)⟩
       | 6,Z =>
        obtain rfl:=ya Z
        have g5:f 5 = H left:=K.c 5 (ye D 5 rfl)
        have g3:f 3 = .bool true:=K.c 3 (ye D 3 rfl)
        clear D K xo
        rw [if_pos (by simp only [g3]; rfl)]
        unfold Oper.wp
        go_simp
        exact ⟨upd f 6 (.bool true),by simp [upd,g5,g3],aQ (U xz) 6 _ rfl (by decide) (by decide) (by decide) (by decide)⟩
       | 7,Z =>
        obtain rfl:=ya Z
        have g3:f 3 = .bool true:=K.c 3 (ye D 3 rfl)
        have g6:f 6 = .bool true:=K.c 6 (ye D 6 rfl)
        clear D K xo
        rw [if_pos (by rfl)];unfold Oper.wp;go_simp
        exact ⟨upd f 7 (.bool true),by simp [upd,g3,g6],aQ (U xz) 7 _ rfl (by decide) (by decide) (by decide) (by decide)⟩
       | 8,Z =>
        obtain rfl:=ya Z
        have g7:f 7 = .bool true:=K.c 7 (ye D 7 rfl)
        clear D K xo
        rw [if_pos (by rfl)];unfold Oper.wp;go_simp
        exact ⟨upd f 8 (.bool true),by simp [upd,g7],aQ (U xz) 8 _ rfl (by decide) (by decide) (by decide) (by decide)⟩
       | 9,Z =>
        obtain rfl:=ya Z
        have g8:f 8 = .bool true:=K.c 8 (ye D 8 rfl)
        clear D K xo
        rw [if_pos (by simp only [g8]; rfl)]
        unfold Oper.wp
        go_simp
        exact ⟨upd f 9 (.slice al hb.length cal),by simp [upd,g8],aQ (U xz) 9 _ rfl (by decide) (by decide) (by decide) (by decide)⟩
       | 10,Z =>
        obtain rfl:=ya Z
        have g9:f 9 = .slice al hb.length cal:=K.c 9 (ye D 9 rfl)
        have g8:f 8 = .bool true:=K.c 8 (ye D 8 rfl)
        clear D K xo
        rw [if_pos (by simp only [g8]; rfl)]
        unfold Oper.wp
        go_simp
        exact ⟨upd f 10 (H hb.length),by simp [upd,g9,g8],aQ (U xz) 10 _ rfl (by decide) (by decide) (by decide) (by decide)⟩
       | 11,Z =>
        obtain rfl:=ya Z
        have qC:f 10 = H hb.length:=K.c 10 (ye D 10 rfl)
        have g8:f 8 = .bool true:=K.c 8 (ye D 8 rfl)
        clear D K xo
        rw [if_pos (by simp only [g8]; rfl)]
        unfold Oper.wp
        go_simp
        exact ⟨upd f 11 (.bool false),by simp [upd,qC,g8],aQ (U xz) 11 _ rfl (by decide) (by decide) (by decide) (by decide)⟩
       | 12,Z =>
        obtain rfl:=ya Z
        have vF:f 11 = .bool false:=K.c 11 (ye D 11 rfl)
        have g8:f 8 = .bool true:=K.c 8 (ye D 8 rfl)
        clear D K xo
        rw [if_pos (by simp only [g8]; rfl)]
        unfold Oper.wp
        go_simp
        exact ⟨upd f 12 (.bool false),by simp [upd,vF,g8],aQ (U xz) 12 _ rfl (by decide) (by decide) (by decide) (by decide)⟩
       | 13,Z =>
        obtain rfl:=ya Z
        have ua:f 12 = .bool false:=K.c 12 (ye D 12 rfl)
        clear D K xo
        rw [if_pos (by simp only [ua]; rfl)]
        unfold Oper.wp
        go_simp
        exact ⟨upd f 13 (.slice (some (J V'.heap.size 0)) 0 0),by simp [upd,ua],r9_13 (U xz) xy (fun _=>trivial)⟩
       | 14,Z =>
        obtain rfl:=ya Z
        have ua:f 12 = .bool false:=K.c 12 (ye D 12 rfl)
        clear D K xo
        rw [if_pos (by simp only [ua]; rfl)]
        unfold Oper.wp
        go_simp
        exact ⟨upd f 14 (.slice al hb.length cal),by simp [upd,ua],aQ (U xz) 14 _ rfl (by decide) (by decide) (by decide) (by decide)⟩
       | 15,Z =>
        obtain rfl:=ya Z
        have ua:f 12 = .bool false:=K.c 12 (ye D 12 rfl)
        have kw:f 14 = .slice al hb.length cal:=K.c 14 (ye D 14 rfl)
        have k13:x[13]? = some true:=D ⟨13,.data⟩ (by simp) rfl
        have n18:x[18]? = some false:=by
         rcases bE hx (show 18 < 23 by omega) with h | h
         ·exact h
         ·have:=yf xo 18 rfl h 15 rfl
          rw [xy] at this; cases this
        have HO13:=Y (K.m13 k13 xy)
        have uZ:Hid (∀ ad,al = some ad→∀ j u,(hb.flatMap Od.vs)[j]? = some u→V'.cell? (ad.add j) = some u):=fun ad had=>by
         have h:=zl (U HRL) (U xk) tg
         rw [had] at h
         exact rd_src h
        clear D K xo
        rw [if_pos (by simp only [ua]; rfl)]
        rcases U HSV with h | ⟨ad,nn,cc,h⟩
        ·simp only [Value.slice.injEq] at h
         have hL:hb = []:=List.length_eq_zero_iff.1 h.2.1
         refine ec (.tmp 116) (.tmp 117) 29 rfl V.heap.size 66 i0 6 Tryz.underlying29 uE (f 13) 0 [] rfl (U HO13) (by show f 14 = _; rw [kw,h.1,h.2.1,h.2.2]) ?_
         refine ⟨upd f 15 (f 13),rfl,r9_15 (U xz) k13 xy n18 (fun _=>trivial) (by rw [hL]; exact U HO13) (yR _ _)⟩
        ·simp only [Value.slice.injEq] at h
         refine wp_append_own V' (.tmp 116) (.tmp 117) 29 rfl V.heap.size 66 i0 _ 6 56 Tryz.underlying29 uE uA uC uM rfl (by decide) (f 13) 0 [] rfl (U HO13) ad hb.length cal (hb.flatMap Od.vs) (by show f 14 = _; rw [kw,h.1]) (by rw [zH Od.len]) (U uZ ad h.1) (bd hb) (by unfold maxLen; omega) (by omega) (U xk).size ?_
         intro v' w' xL ub _
         refine ⟨upd f 15 v',rfl,r9_15 (U xz) k13 xy n18 (fun _=>trivial) ?_ ub⟩
         show w'.ownsRow _ _ _ _ hb.length _
         simpa using xL
       | 16,Z =>
        obtain rfl:=ya Z
        have ua:f 12 = .bool false:=K.c 12 (ye D 12 rfl)
        obtain ⟨q0,q1,q2,q3,q4,q5⟩:=yC (U HC9)
        clear D K xo
        rw [if_pos (by simp only [ua]; rfl)]
        unfold Oper.wp
        go_simp
        exact ⟨upd f 16 (.agg (yv next s tt left li O).toArray),by simp [upd,ua],aQ (U xz) 16 _ rfl (by decide) (by decide) (by decide) (by decide)⟩
       | 17,Z =>
        obtain rfl:=ya Z
        have ua:f 12 = .bool false:=K.c 12 (ye D 12 rfl)
        have g16:f 16 = .agg (yv next s tt left li O).toArray:=K.c 16 (ye D 16 rfl)
        have n18:x[18]? = some false:=by
         rcases bE hx (show 18 < 23 by omega) with h | h
         ·exact h
         ·have:=yf xo 18 rfl h 17 rfl
          rw [xy] at this; cases this
        clear D K xo
        rw [if_pos (by simp only [ua]; rfl)]
        unfold Oper.wp
        go_simp
        exact ⟨upd f 17 (.slice (some (J V'.heap.size 0)) 1 1),by simp [upd,ua,g16],r9_17 (U xz) xy n18 (fun _=>trivial)⟩
       | 18,Z =>
        obtain rfl:=ya Z
        have ua:f 12 = .bool false:=K.c 12 (ye D 12 rfl)
        have k15:x[15]? = some true:=D ⟨15,.data⟩ (by simp) rfl
        obtain ⟨b,g17,xX,xZ,uH,-⟩:=K.m17 (ye D 17 rfl) xy
        have HO15:=Y (K.m15 k15 xy)
        have uZ:Hid (∀ j u,(Od.vs ⟨next,s,tt,left,li,O⟩)[j]? = some u→V'.cell? (((J b 0):Addr).add j) = some u):=fun j u hu=>by
         have:=uH j u hu
         rw [Addr.add_mid]; exact this
        clear D K xo uH
        rw [if_pos (by simp only [ua]; rfl)]
        refine wp_append_own V' (.tmp 118) (.tmp 120) 29 rfl V.heap.size 66 i0 _ 6 56 Tryz.underlying29 uE uA uC uM rfl (by decide) (f 15) hb.length (hb.flatMap Od.vs) rfl (U HO15) (J b 0) 1 1 (Od.vs ⟨next,s,tt,left,li,O⟩) (by show f 17 = _; exact g17) rfl (U uZ) (one_od _) (by unfold maxLen; omega) (by omega) (U xk).size ?_
        intro v' w' xL ub _
        refine ⟨upd f 18 v',rfl,r9_18 (U xz) k15 xy (fun _=>trivial) ?_ ub⟩
        show w'.ownsRow _ _ _ _ (hb ++ [(⟨next,s,tt,left,li,O⟩:Od)]).length _
        rw [yP,List.flatMap_append]
        simpa using xL
       | 19,Z =>
        obtain rfl:=ya Z
        have ua:f 12 = .bool false:=K.c 12 (ye D 12 rfl)
        have HO18:=Y (K.m18 (ye D 18 rfl))
        clear D K xo
        rw [if_pos (by simp only [ua]; rfl)]
        unfold Oper.wp
        go_simp
        refine (U HLV2 V' (f 18) (zK (U HO18) (by simp; omega))).mono ?_
        rintro e w4 ⟨rfl,jX⟩
        exact ⟨upd f 19 (H h2),by simp [upd,ua],aQ (r9_grow (U xz) (gr_below' jX (fun g hg=>by cases hg) tg)) 19 _ rfl (by decide) (by decide) (by decide) (by decide)⟩
       | 20,Z =>
        obtain rfl:=ya Z
        have g19:f 19 = H h2:=K.c 19 (ye D 19 rfl)
        have ua:f 12 = .bool false:=K.c 12 (ye D 12 rfl)
        clear D K xo
        rw [if_pos (by simp only [ua]; rfl)]
        unfold Oper.wp
        go_simp
        exact ⟨upd f 20 (.bool (decide (8 < h2))),by simp [upd,g19,ua],aQ (U xz) 20 _ rfl (by decide) (by decide) (by decide) (by decide)⟩
       | 21,Z =>
        obtain rfl:=ya Z
        have ua:f 12 = .bool false:=K.c 12 (ye D 12 rfl)
        have g20:f 20 = .bool (decide (8 < h2)):=K.c 20 (ye D 20 rfl)
        have g8:f 8 = .bool true:=K.c 8 (ye D 8 rfl)
        clear D K xo
        rw [if_pos (by simp only [g8]; rfl)]
        unfold Oper.wp
        go_simp
        exact ⟨upd f 21 (.bool (decide (8 < h2))),by simp [upd,ua,g20,g8],aQ (U xz) 21 _ rfl (by decide) (by decide) (by decide) (by decide)⟩
       | 22,Z =>
        obtain rfl:=ya Z
        have g8:f 8 = .bool true:=K.c 8 (ye D 8 rfl)
        have g21:f 21 = .bool (decide (8 < h2)):=K.c 21 (ye D 21 rfl)
        clear D K xo
        rw [if_pos (by rfl)];unfold Oper.wp;go_simp
        exact ⟨upd f 22 (.bool (decide (8 < h2))),by simp [upd,g8,g21],aQ (U xz) 22 _ rfl (by decide) (by decide) (by decide) (by decide)⟩
       | n + 23,Z=>simp at Z
    ·have HQ0:Hid (res = 0):=(U HRS).trans (by rw [if_pos brs,if_neg oq])
     have hlf':decide (0 < left) = false:=by simpa using oq
     go_wp2_with fail
     refine zh (RG V (fun f=>{ tmps:=#[.agg #[H next,.slice a l.length A],.agg (yw kk s X li F ii pr O).toArray,I w.heap.size 0,I (w.heap.size + 1) 0,H 0,u5,u6,.slice al hb.length cal,I c8 0,.slice ae ts.length ce,u10,u11,u12,u13,u14,u15,u16,u17,u18,u19,u20,u21,u22,u23,u24,u25,u26,u27,u28,u29,u30,u31,u32,u33,u34,u35,u36,u37,u38,u39,u40,u41,u42,u43,u44,u45,u46,u47,u48,u49,u50,u51,u52,u53,u54,u55,u56,u57,u58,u59,u60,u61,u62,u63,u64,u65,u66,u67,u68,u69,u70,u71,u72,u73,u74,u75,u76,u77,u78,u79,u80,u81,u82,u83,u84,u85,u86,u87,u88,u89,u90,u91,u92,u93,u94,u95,u96,u97,u98,u99,u100,u101,u102,f 0,f 1,f 2,f 3,f 4,f 5,f 6,f 7,f 8,f 9,f 10,f 11,f 12,f 13,f 14,f 15,f 16,f 17,f 18,f 19,f 20,f 21,f 22],defers:=[] }) 99 (DV [I (w.heap.size + 1) 2,H X,.bool true,.bool true,I c8 3,H left,.bool false,.bool false,.bool false,M,M,M,M,M,M,M,M,M,M,M,M,M,.bool false])) (by kernel_rfl) ?_ ?_ ?_
     ·exact ⟨fun _=>M,rfl,⟨rfl,rfl,rfl,Nat.le_refl _,fun _ _=>rfl⟩,fun j R=>by rw [yI] at R; split at R <;> simp at R⟩
     ·rintro x xm V' ⟨f,rfl,xk,hD⟩ hx xP
      have xp:=zT xP hx (acyc _ (by kernel_rfl))
      have e22:f 22 = .bool false:=hD 22 (xp 22 (by simp)) _ rfl
      have xT:=Y (eh (U xv) xk)
      simp only [e22]
      clear hD xp e22 xP hx xk
      go_wp2_with fail
      go_ret
      exact ⟨zp (U HQ0).symm,U xT⟩
     ·rintro x xm V' i' o' ⟨f,rfl,xk,hD⟩ xo hx Z xy D
      clear xo
      have xE:=Y xk
      have HD:=Y hD
      have o2:V'.cell? (J (w.heap.size + 1) 2) = some (H X):=zb (U HXV).2 xk hVS 2 _ rfl
      have c3:V'.cell? (J c8 3) = some (H left):=zb (U HC8) xk kW 3 _ rfl
      clear HRS HQ0
      match i',Z with
      | 0,Z =>
       obtain rfl:=ya Z
       clear D hD xk
       rw [if_pos (by rfl)];unfold Oper.wp;go_simp
       exact ⟨upd f 0 (I (w.heap.size + 1) 2),by simp [upd],zd (U xE) (U HD) (by decide) (yh rfl)⟩
      | 1,Z =>
       obtain rfl:=ya Z
       have g0:=hD 0 (ye D 0 rfl) _ rfl
       clear D hD xk
       rw [if_pos (by rfl)];unfold Oper.wp;go_simp
       exact ⟨upd f 1 (H X),by simp [upd,g0],zd (U xE) (U HD) (by decide) (yh rfl)⟩
      | 2,Z =>
       obtain rfl:=ya Z
       have g1:=hD 1 (ye D 1 rfl) _ rfl
       clear D hD xk
       rw [if_pos (by rfl)];unfold Oper.wp;go_simp
       refine (cj X _).mono ?_
       rintro e w3 ⟨rfl,hw3⟩
       rw [hw3,brs]
       exact ⟨upd f 2 (.bool true),by simp [upd,g1],zd (U xE) (U HD) (by decide) (yh rfl)⟩
      | 3,Z =>
       obtain rfl:=ya Z
       have g2:=hD 2 (ye D 2 rfl) _ rfl
       clear D hD xk
       rw [if_pos (by rfl)];unfold Oper.wp;go_simp
       exact ⟨upd f 3 (.bool true),by simp [upd,g2],zd (U xE) (U HD) (by decide) (yh rfl)⟩
      | 4,Z =>
       obtain rfl:=ya Z
       have g3:=hD 3 (ye D 3 rfl) _ rfl
       clear D hD xk
       rw [if_pos (by simp only [g3]; rfl)]
       unfold Oper.wp
       go_simp
       exact ⟨upd f 4 (I c8 3),by simp [upd,g3],zd (U xE) (U HD) (by decide) (yh rfl)⟩
      | 5,Z =>
       obtain rfl:=ya Z
       have g3:=hD 3 (ye D 3 rfl) _ rfl
       have g4:=hD 4 (ye D 4 rfl) _ rfl
       clear D hD xk
       rw [if_pos (by simp only [g3]; rfl)]
       unfold Oper.wp
       go_simp
       exact ⟨upd f 5 (H left),by simp [upd,g3,g4],zd (U xE) (U HD) (by decide) (yh rfl)⟩
      | 6,Z =>
       obtain rfl:=ya Z
       have g3:=hD 3 (ye D 3 rfl) _ rfl
       have g5:=hD 5 (ye D 5 rfl) _ rfl
       clear D hD xk
       rw [if_pos (by simp only [g3]; rfl)]
       unfold Oper.wp
       go_simp
       exact ⟨upd f 6 (.bool false),by simp [upd,g3,g5],zd (U xE) (U HD) (by decide) (yh rfl)⟩
      | 7,Z =>
       obtain rfl:=ya Z
       have g3:=hD 3 (ye D 3 rfl) _ rfl
       have g6:=hD 6 (ye D 6 rfl) _ rfl
       clear D hD xk
       rw [if_pos (by rfl)];unfold Oper.wp;go_simp
       exact ⟨upd f 7 (.bool false),by simp [upd,g3,g6],zd (U xE) (U HD) (by decide) (yh rfl)⟩
      | 8,Z =>
       obtain rfl:=ya Z
       have g7:=hD 7 (ye D 7 rfl) _ rfl
       clear D hD xk
       rw [if_pos (by rfl)];unfold Oper.wp;go_simp
       exact ⟨upd f 8 (.bool false),by simp [upd,g7],zd (U xE) (U HD) (by decide) (yh rfl)⟩
      | 9,Z | 10,Z | 11,Z | 12,Z | 21,Z =>
       obtain rfl:=ya Z
       have g8:=hD 8 (ye D 8 rfl) _ rfl
       clear D hD xk
       rw [if_neg (by simp only [g8]; exact fun h=>Bool.noConfusion (show (false:Bool) = true from h))]
       exact ⟨upd f _ M,rfl,zd (U xE) (U HD) (by decide) (yh rfl)⟩
      | 13,Z | 14,Z | 15,Z | 16,Z | 17,Z | 18,Z | 19,Z | 20,Z =>
       obtain rfl:=ya Z
       have ua:=hD 12 (ye D 12 rfl) _ rfl
       clear D hD xk
       rw [if_neg (by simp only [ua]; exact fun h=>Bool.noConfusion (show (false:Bool) = true from h))]
       exact ⟨upd f _ M,rfl,zd (U xE) (U HD) (by decide) (yh rfl)⟩
      | 22,Z =>
       obtain rfl:=ya Z
       have g8:=hD 8 (ye D 8 rfl) _ rfl
       have g21:=hD 21 (ye D 21 rfl) _ rfl
       clear D hD xk
       rw [if_pos (by rfl)];unfold Oper.wp;go_simp
       exact ⟨upd f 22 (.bool false),by simp [upd,g8,g21],zd (U xE) (U HD) (by decide) (yh rfl)⟩
      | n + 23,Z=>simp at Z
   clear xu
   have HTN:Hid (¬ (X = 5∧0 < ts.length)→¬ (X = 4∧0 < left)→next = 1000000→res = 13):=fun g5 g4 gn=>by
    have:=U qX
    rw [if_neg g5,if_neg g4,if_pos gn] at this
    exact this
   by_cases h5:X = 5
   ·by_cases hts:0 < ts.length
    ·have kE:Hid (res = 11):=(U qX).trans (if_pos ⟨h5,hts⟩)
     subst h5
     have hts':(0:Int) < ts.length:=by omega
     clear hts vE HTN
     go_wp2_with fail
     go_ret
     exact ⟨zp (U kE).symm,U xv⟩
    ·subst h5
     have g5:¬ ((5:Int) = 5∧0 < ts.length):=fun h=>hts h.2
     have g4:¬ ((5:Int) = 4∧0 < left):=fun h=>by omega
     have hts':¬ (0:Int) < ts.length:=by omega
     have htz:(ts.length:Int) = 0:=by omega
     by_cases qa:next = 1000000
     ·have kE:=Y (U HTN g5 g4 qa)
      subst qa
      clear vE HTN g5 g4
      go_wp2_with fail
      go_ret
      exact ⟨zp (U kE).symm,U xv⟩
     have bn:(next == 1000000) = false:=by rw [xd]; exact qa
     have jU:=Y (U vE g5 g4 qa)
     clear vE HTN g5 g4 qa
     go_wp2_with fail
     exact U jU _ _ _ _ _ _ _ _ _ _ _ _ _ _ _ _ _ _ _ _ _ _ _ _ _ _ _ _ _ _ _ _ _ _ _ _ _ _ _ _ _ _ _ _ _ _ _ _ _ _ _ _ _ _ _ _ _ _ _ _ _ _ _ _ _ _ _ _ _ _ _ _ _ _ _ _ _ _ _ _ _ _ _ _ _ _ _ _ _ _ _ _ _ _ _
   ·have b5:(X == 5) = false:=by rw [xd]; exact h5
    have g5:¬ (X = 5∧0 < ts.length):=fun h=>h5 h.1
    by_cases h4:X = 4
    ·by_cases oq:0 < left
     ·have kE:Hid (res = 12):=(U qX).trans (by rw [if_neg g5,if_pos ⟨h4,oq⟩])
      subst h4
      clear vE HTN h5 g5 b5
      go_wp2_with fail
      go_ret
      exact ⟨zp (U kE).symm,U xv⟩
     ·subst h4
      have g4:¬ ((4:Int) = 4∧0 < left):=fun h=>oq h.2
      by_cases qa:next = 1000000
      ·have kE:=Y (U HTN g5 g4 qa)
       subst qa
       clear vE HTN g5 g4
       go_wp2_with fail
       go_ret
       exact ⟨zp (U kE).symm,U xv⟩
      have bn:(next == 1000000) = false:=by rw [xd]; exact qa
      have jU:=Y (U vE g5 g4 qa)
      clear vE HTN g5 g4 qa
      go_wp2_with fail
      exact U jU _ _ _ _ _ _ _ _ _ _ _ _ _ _ _ _ _ _ _ _ _ _ _ _ _ _ _ _ _ _ _ _ _ _ _ _ _ _ _ _ _ _ _ _ _ _ _ _ _ _ _ _ _ _ _ _ _ _ _ _ _ _ _ _ _ _ _ _ _ _ _ _ _ _ _ _ _ _ _ _ _ _ _ _ _ _ _ _ _ _ _ _ _ _ _
    ·have b4:(X == 4) = false:=by rw [xd]; exact h4
     have g4:¬ (X = 4∧0 < left):=fun h=>h4 h.1
     by_cases qa:next = 1000000
     ·have kE:=Y (U HTN g5 g4 qa)
      subst qa
      clear vE HTN g5 g4
      go_wp2_with fail
      go_ret
      exact ⟨zp (U kE).symm,U xv⟩
     have bn:(next == 1000000) = false:=by rw [xd]; exact qa
     have jU:=Y (U vE g5 g4 qa)
     clear vE HTN g5 g4 qa
     go_wp2_with fail
     exact U jU _ _ _ _ _ _ _ _ _ _ _ _ _ _ _ _ _ _ _ _ _ _ _ _ _ _ _ _ _ _ _ _ _ _ _ _ _ _ _ _ _ _ _ _ _ _ _ _ _ _ _ _ _ _ _ _ _ _ _ _ _ _ _ _ _ _ _ _ _ _ _ _ _ _ _ _ _ _ _ _ _ _ _ _ _ _ _ _ _ _ _ _ _ _ _
  ·rintro x xm V i' o' ⟨f,rfl,K⟩ xo hx Z xy D
   have xz:=Y K
   have xk:=K.bel
   have xK:=U ux
   clear xu
   match i',Z with
   | 0,Z =>
    obtain rfl:=ya Z
    clear D K xo
    rw [if_pos (by rfl)];unfold Oper.wp;go_simp
    exact ⟨upd f 0 (I w.heap.size 1),by simp [upd],bI (U xz) 0 _ (by decide) (by decide) (by decide) (rfl)⟩
   | 1,Z =>
    obtain rfl:=ya Z
    have g0:f 0 = I w.heap.size 1:=K.e 0 (ye D 0 rfl)
    have z1:V.cell? (J w.heap.size 1) = some (.slice a l.length A):=zb (U HX).1 xk (by omega) 1 _ rfl
    clear D K xo
    rw [if_pos (by rfl)];unfold Oper.wp;go_simp
    exact ⟨upd f 1 (.slice a l.length A),by simp [upd,g0],bI (U xz) 1 _ (by decide) (by decide) (by decide) (rfl)⟩
   | 2,Z =>
    obtain rfl:=ya Z
    have z0:V.cell? (J w.heap.size 0) = some (H next):=zb (U HX).1 xk (by omega) 0 _ rfl
    have z1:V.cell? (J w.heap.size 1) = some (.slice a l.length A):=zb (U HX).1 xk (by omega) 1 _ rfl
    clear D K xo
    rw [if_pos (by rfl)];unfold Oper.wp;go_simp
    exact ⟨upd f 2 (.agg #[H next,.slice a l.length A]),by simp [upd],bI (U xz) 2 _ (by decide) (by decide) (by decide) (rfl)⟩
   | 3,Z =>
    obtain rfl:=ya Z
    obtain ⟨z0,z1,z2,z3,z4,z5,z6,z7⟩:=yD (zb (U HX).2 xk (by omega))
    clear D K xo
    rw [if_pos (by rfl)];unfold Oper.wp;go_simp
    exact ⟨upd f 3 (.agg (yw kk s X li F ii pr O).toArray),by simp [upd],bI (U xz) 3 _ (by decide) (by decide) (by decide) (rfl)⟩
   | 4,Z =>
    obtain rfl:=ya Z
    have g2:f 2 = .agg #[H next,.slice a l.length A]:=K.e 2 (ye D 2 rfl)
    have g3:f 3 = .agg (yw kk s X li F ii pr O).toArray:=K.e 3 (ye D 3 rfl)
    clear D K xo
    rw [if_pos (by rfl)];unfold Oper.wp;go_simp
    refine (U HTKR _).mono ?_
    rintro e w4 ⟨rfl,xC⟩
    exact ⟨upd f 4 (.agg (yv next s tt F li O).toArray),by simp [upd,g2,g3],bI (rn_grow (U xz) xC) 4 _ (by decide) (by decide) (by decide) rfl⟩
   | 5,Z =>
    obtain rfl:=ya Z
    have g1:f 1 = .slice a l.length A:=K.e 1 (ye D 1 rfl)
    have g4:f 4 = .agg (yv next s tt F li O).toArray:=K.e 4 (ye D 4 rfl)
    have ja:∀ j,(j = 6 ∨ j = 7 ∨ j = 9 ∨ j = 11 ∨ j = 13)→x[j]? ≠ some true:=fun j R e=>by
     have h6:x[6]? ≠ some true:=fun e6=>by have:=yf xo 6 rfl e6 5 rfl; rw [xy] at this; cases this
     rcases R with rfl | rfl | rfl | rfl | rfl
     ·exact h6 e
     ·exact h6 (yf xo 7 rfl e 6 rfl)
     ·exact h6 (yf xo 9 rfl e 6 rfl)
     ·exact h6 (yf xo 11 rfl e 6 rfl)
     ·exact h6 (yf xo 13 rfl e 6 rfl)
    have oA:=Y ja
    have HRV:=Y (zl (zl (U HR) (U xF) tg) xk tg)
    clear D K xo ja
    rw [if_pos (by rfl)];unfold Oper.wp;go_simp
    refine (U kh V (U HRV)).mono ?_
    rintro e w4 ⟨lv,ve,rfl,hl4,he4,xC⟩
    refine ⟨upd f 5 (.tuple #[lv,.agg (yv next s tt left li O).toArray,ve]),by simp [upd,g1,g4],rn_5 (U xz) xC ?_ ?_ (U oA) ?_⟩
    ·rcases hl4 with ⟨rfl,hL⟩ | h
     ·simp only at hL; rw [hL]; exact ⟨zl (U HRV) xC tg,U vR⟩
     ·exact ⟨zK h (by have h20:hb.length ≤ 20:=(U HGF).1.len; show hb.length ≤ _; omega),oRow_sl h⟩
    ·rcases he4.2 with ⟨Q,N⟩ | ⟨g,pw,xr,Q,_⟩
     ·exact ⟨none,0,by rw [Q]; simp only at N; rw [N]⟩
     ·exact ⟨_,_,Q⟩
    ·intro c8 pC kW xB e
     rcases hl4 with ⟨rfl,hL⟩ | h
     ·simp only at hL
      obtain ⟨b,xX,xZ⟩:=rd_block (U HR) (by rw [← hL]; exact xB)
      rw [xX] at e
      simp only [Option.some.injEq] at e
      have:=(U xF).size
      omega
     ·have:=(h.lt c8 e).1
      omega
   | 6,Z =>
    obtain rfl:=ya Z
    clear D K xo
    rw [if_pos (by rfl)];unfold Oper.wp;go_simp
    exact ⟨upd f 6 (f 5),by simp [upd],bI (U xz) 6 _ (by decide) (by decide) (by decide) (rfl)⟩
   | 7,Z =>
    obtain rfl:=ya Z
    obtain ⟨lv,ev,e5,-⟩:=K.m5 (yf xo 6 rfl (ye D 6 rfl) 5 rfl)
    have g6:f 6 = f 5:=K.e 6 (ye D 6 rfl)
    rw [e5] at g6
    clear D K xo
    rw [if_pos (by rfl)];unfold Oper.wp;go_simp
    exact ⟨upd f 7 lv,by simp [upd,g6,e5],bI (U xz) 7 _ (by decide) (by decide) (by decide) ⟨lv,ev,e5,rfl⟩⟩
   | 8,Z =>
    obtain rfl:=ya Z
    obtain ⟨lv,ev,e5,-⟩:=K.m5 (yf xo 6 rfl (ye D 6 rfl) 5 rfl)
    have g6:f 6 = f 5:=K.e 6 (ye D 6 rfl)
    rw [e5] at g6
    clear D K xo
    rw [if_pos (by rfl)];unfold Oper.wp;go_simp
    exact ⟨upd f 8 (.agg (yv next s tt left li O).toArray),by simp [upd,g6,e5],bI (U xz) 8 _ (by decide) (by decide) (by decide) rfl⟩
   | 9,Z =>
    obtain rfl:=ya Z
    obtain ⟨lv,ev,e5,-⟩:=K.m5 (yf xo 6 rfl (ye D 6 rfl) 5 rfl)
    have g6:f 6 = f 5:=K.e 6 (ye D 6 rfl)
    rw [e5] at g6
    clear D K xo
    rw [if_pos (by rfl)];unfold Oper.wp;go_simp
    exact ⟨upd f 9 ev,by simp [upd,g6,e5],bI (U xz) 9 _ (by decide) (by decide) (by decide) ⟨lv,ev,e5,rfl⟩⟩
   | 10,Z =>
    obtain rfl:=ya Z
    have pR:x[12]? ≠ some true:=fun e=>by have:=yf xo 12 rfl e 10 rfl; rw [xy] at this; cases this
    clear D K xo
    rw [if_pos (by rfl)];unfold Oper.wp;go_simp
    exact ⟨upd f 10 (I V.heap.size 0),by simp [upd],rn_10 (U xz) pR (zu V (yv 0 0 0 0 0 ⟨#[]⟩) _)⟩
   | 11,Z =>
    obtain rfl:=ya Z
    obtain ⟨lv,ev,e5,e7⟩:=K.e 7 (ye D 7 rfl)
    clear D K xo
    rw [if_pos (by rfl)];unfold Oper.wp;go_simp
    exact ⟨upd f 11 lv,by simp [upd,e7,e5],bI (U xz) 11 _ (by decide) (by decide) (by decide) ⟨lv,ev,e5,rfl⟩⟩
   | 12,Z =>
    obtain rfl:=ya Z
    have k5:x[5]? = some true:=D ⟨5,.phase⟩ (by simp) rfl
    have k10:x[10]? = some true:=D ⟨10,.data⟩ (by simp) rfl
    have g8:f 8 = .agg (yv next s tt left li O).toArray:=K.e 8 (ye D 8 rfl)
    obtain ⟨c8,qC,pC,kW,xG,-⟩:=K.m10 k10
    obtain ⟨y0,z0,q0⟩:=zc xG (j:=0) (by omega)
    obtain ⟨y1,z1,q1⟩:=zc xG (j:=1) (by omega)
    obtain ⟨y2,z2,q2⟩:=zc xG (j:=2) (by omega)
    obtain ⟨y3,z3,q3⟩:=zc xG (j:=3) (by omega)
    obtain ⟨y4,z4,q4⟩:=zc xG (j:=4) (by omega)
    obtain ⟨y5,z5,q5⟩:=zc xG (j:=5) (by omega)
    clear D K xo xG
    rw [if_pos (by rfl)];unfold Oper.wp;go_simp
    exact ⟨f,by simp [g8,qC],rn_12 (U xz) k5 k10 qC rfl xy⟩
   | 13,Z =>
    obtain rfl:=ya Z
    obtain ⟨lv,ev,e5,e9⟩:=K.e 9 (ye D 9 rfl)
    clear D K xo
    rw [if_pos (by rfl)];unfold Oper.wp;go_simp
    exact ⟨upd f 13 ev,by simp [upd,e9,e5],bI (U xz) 13 _ (by decide) (by decide) (by decide) ⟨lv,ev,e5,rfl⟩⟩
   | n + 14,Z=>simp at Z
 clear xu
 cases bl:betB li 0 1
 have hl:lifW ⟨kk,s,X,li,F,ii,pr,O⟩ = true:=by simp [lifW,bl]
 have HK:Hid (newR next l ⟨kk,s,X,li,F,ii,pr,O⟩ = 5):=by show _ = _; simp [newR,bs,bt,hl]
 clear hl
 rotate_left
 by_cases Q:li = 1
 subst Q
 cases brs:aA X
 have hl:lifW ⟨kk,s,X,1,F,ii,pr,O⟩ = true:=by simp [lifW,brs]
 have HK:Hid (newR next l ⟨kk,s,X,1,F,ii,pr,O⟩ = 5):=by show _ = _; simp [newR,bs,bt,hl]
 clear hl
 rotate_left
 have hl:lifW ⟨kk,s,X,1,F,ii,pr,O⟩ = false:=by simp [lifW,brs,bl]
 by_cases N:X = 2
 subst N
 by_cases hz:fbit pr = 0
 have hp:prcB ⟨kk,s,2,1,F,ii,pr,O⟩ = true:=by simp [prcB,hz]
 have dz:decide (fbit pr = 0) = true:=by simpa using hz
 clear hz
 cases bq:betB F 1 1000000
 have HK:Hid (newR next l ⟨kk,s,2,1,F,ii,pr,O⟩ = 7):=by show _ = _; simp [newR,bs,bt,hl,hp,bq]
 clear hl hp
 rotate_left
 cases bg:tagB O
 have HK:Hid (newR next l ⟨kk,s,2,1,F,ii,pr,O⟩ = 8):=by show _ = _; simp [newR,bs,bt,hl,hp,bq,bg]
 clear hl hp
 rotate_left
 have vE:=Y (U HT hl hp bq bg)
 clear HT hl hp
 rotate_left
 have hp:prcB ⟨kk,s,2,1,F,ii,pr,O⟩ = false:=by simp [prcB,hz]
 have dz:decide (fbit pr = 0) = false:=by simpa using hz
 clear hz
 have HK:Hid (newR next l ⟨kk,s,2,1,F,ii,pr,O⟩ = 6):=by show _ = _; simp [newR,bs,bt,hl,hp]
 clear hl hp
 rotate_left
 have b2:(X == 2) = false:=by rw [xd]; exact N
 have b2n:(X != 2) = true:=by simpa using N
 cases bk:tkOk pr
 have hp:prcB ⟨kk,s,X,1,F,ii,pr,O⟩ = false:=by simp [prcB,N,bk]
 have HK:Hid (newR next l ⟨kk,s,X,1,F,ii,pr,O⟩ = 6):=by show _ = _; simp [newR,bs,bt,hl,hp]
 clear hl hp N
 rotate_left
 have hp:prcB ⟨kk,s,X,1,F,ii,pr,O⟩ = true:=by simp [prcB,N,bk]
 clear N
 cases bq:betB F 1 1000000
 have HK:Hid (newR next l ⟨kk,s,X,1,F,ii,pr,O⟩ = 7):=by show _ = _; simp [newR,bs,bt,hl,hp,bq]
 clear hl hp
 rotate_left
 cases bg:tagB O
 have HK:Hid (newR next l ⟨kk,s,X,1,F,ii,pr,O⟩ = 8):=by show _ = _; simp [newR,bs,bt,hl,hp,bq,bg]
 clear hl hp
 rotate_left
 have vE:=Y (U HT hl hp bq bg)
 clear HT hl hp
 rotate_left
 have hl:lifW ⟨kk,s,X,li,F,ii,pr,O⟩ = false:=by simp [lifW,bl,Q]
 have b1:(li == 1) = false:=by rw [xd]; exact Q
 clear Q
 by_cases N:X = 2
 subst N
 by_cases hz:fbit pr = 0
 have hp:prcB ⟨kk,s,2,li,F,ii,pr,O⟩ = true:=by simp [prcB,hz]
 have dz:decide (fbit pr = 0) = true:=by simpa using hz
 clear hz
 cases bq:betB F 1 1000000
 have HK:Hid (newR next l ⟨kk,s,2,li,F,ii,pr,O⟩ = 7):=by show _ = _; simp [newR,bs,bt,hl,hp,bq]
 clear hl hp
 rotate_left
 cases bg:tagB O
 have HK:Hid (newR next l ⟨kk,s,2,li,F,ii,pr,O⟩ = 8):=by show _ = _; simp [newR,bs,bt,hl,hp,bq,bg]
 clear hl hp
 rotate_left
 have vE:=Y (U HT hl hp bq bg)
 clear HT hl hp
 rotate_left
 have hp:prcB ⟨kk,s,2,li,F,ii,pr,O⟩ = false:=by simp [prcB,hz]
 have dz:decide (fbit pr = 0) = false:=by simpa using hz
 clear hz
 have HK:Hid (newR next l ⟨kk,s,2,li,F,ii,pr,O⟩ = 6):=by show _ = _; simp [newR,bs,bt,hl,hp]
 clear hl hp
 rotate_left
 have b2:(X == 2) = false:=by rw [xd]; exact N
 have b2n:(X != 2) = true:=by simpa using N
 cases bk:tkOk pr
 have hp:prcB ⟨kk,s,X,li,F,ii,pr,O⟩ = false:=by simp [prcB,N,bk]
 have HK:Hid (newR next l ⟨kk,s,X,li,F,ii,pr,O⟩ = 6):=by show _ = _; simp [newR,bs,bt,hl,hp]
 clear hl hp N
 rotate_left
 have hp:prcB ⟨kk,s,X,li,F,ii,pr,O⟩ = true:=by simp [prcB,N,bk]
 clear N
 cases bq:betB F 1 1000000
 have HK:Hid (newR next l ⟨kk,s,X,li,F,ii,pr,O⟩ = 7):=by show _ = _; simp [newR,bs,bt,hl,hp,bq]
 clear hl hp
 rotate_left
 cases bg:tagB O
 have HK:Hid (newR next l ⟨kk,s,X,li,F,ii,pr,O⟩ = 8):=by show _ = _; simp [newR,bs,bt,hl,hp,bq,bg]
 clear hl hp
 rotate_left
 have vE:=Y (U HT hl hp bq bg)
 clear HT hl hp
 all_goals
  go_wp2_with (first | (go_at_call 43; refine (U kG _).mono ?_; rintro e w' ⟨rfl,ul⟩; rw [ul]; clear ul w') | (go_at_call 23; refine (dd _ _ _ _).mono ?_; rintro e w' ⟨rfl,ul⟩; rw [ul]; clear ul w') | (go_at_call 21; refine (cj _ _).mono ?_; rintro e w' ⟨rfl,ul⟩; rw [ul]; clear ul w') | (go_at_call 42; refine (U HZR _).mono ?_; rintro e w' ⟨rfl,ul⟩; rw [ul]; clear ul w') | (go_at_call 44; refine (U qM _).mono ?_; rintro e w' ⟨rfl,ul⟩; rw [ul]; clear ul w'))
  first
  | exact U vE _ _ _ _ _ _ _ _ _ _ _ _ _ _ _ _ _ _ _ _ _ _ _ _ _ _ _ _ _ _ _ _ _ _ _ _ _ _ _ _ _ _ _ _ _ _ _ _ _ _ _ _ _ _ _ _ _ _ _ _ _ _ _
  | (go_ret; exact ⟨zp (U HK).symm,U xF⟩)
end Go.Proofs.YtdliebbfcmdmaaaGreat
