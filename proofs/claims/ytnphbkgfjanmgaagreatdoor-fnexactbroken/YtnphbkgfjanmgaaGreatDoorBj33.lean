/-
  Why a new order is refused, by the model: proved by walking the function.
-/
import Derived.Test.YtnphbkgfjanmgaaGreatDoorBj32
set_option linter.unusedVariables false
set_option maxHeartbeats 6400000
set_option maxRecDepth 100000
namespace Go.Proofs.YtnphbkgfjanmgaaGreatDoor
open Go.RowKit
def EN (S:Nat) (vb bv cv ta tw u5:Value):Nat→Value→Prop
 | 0,v=>v = J S 1
 | 1,v=>v = vb
 | 2,v=>v = bv
 | 3,v=>v = cv
 | 4,v=>v = ta
 | 6,v=>v = u5
 | 7,v=>∃ lv ev,u5 = .tuple #[lv,tw,ev]∧v = lv
 | 8,v=>v = tw
 | 9,v=>∃ lv ev,u5 = .tuple #[lv,tw,ev]∧v = ev
 | 11,v=>∃ lv ev,u5 = .tuple #[lv,tw,ev]∧v = lv
 | 13,v=>∃ lv ev,u5 = .tuple #[lv,tw,ev]∧v = ev
 | _,_=>True
theorem en_any {S:Nat} {vb bv cv ta tw u u':Value} {j:Nat} {v:Value} (h:EN S vb bv cv ta tw u j v) (h6:j ≠ 6) (h7:j ≠ 7) (h9:j ≠ 9) (uS:j ≠ 11) (jN:j ≠ 13):EN S vb bv cv ta tw u' j v:=by
 match j with
 | 0 | 1 | 2 | 3 | 4 | 8=>exact h
 | 5 | 10 | 12=>trivial
 | 6=>omega
 | 7=>omega
 | 9=>omega
 | 11=>omega
 | 13=>omega
 | j + 14=>trivial
def LVok (W:World) (lv:Value) (cs:List Od):Prop:=RdR Od.vs 6 W lv cs∧SlOk lv
def Dst (cs:List Od) (u v:Value):Prop:=∀ lv tw ev c8,u = .tuple #[lv,tw,ev]→v = J c8 0→cs ≠ []→lv.ownBlock ≠ some c8
structure RN (S:Nat) (vb bv cv ta tw:Value) (twl:List Value) (cs:List Od) (n2:Nat) (base:World) (x:List Bool) (f:Nat→Value) (W:World):Prop where
 bel:Below base.heap.size base W
 e:∀ j,x[j]? = some true→EN S vb bv cv ta tw (f 5) j (f j)
 m5:x[5]? = some true→∃ lv ev,f 5 = .tuple #[lv,tw,ev]∧LVok W lv cs∧∃ a c,ev = .slice a n2 c
 m10:x[10]? = some true→∃ c8,f 10 = .pointer (some ⟨c8,0,none⟩)∧base.heap.size ≤ c8∧c8 < W.heap.size∧W.there c8 0 6∧(x[12]? = some true→W.rangeAt c8 0 twl)
 ap:x[5]? = some true→x[10]? = some true→Dst cs (f 5) (f 10)
def RNA (cl:(Nat→Value)→Act) (S:Nat) (vb bv cv ta tw:Value) (pE:List Value) (cs:List Od) (n2:Nat) (base:World) (x:List Bool) (fG:Act) (W:World):Prop:=∃ f,fG = cl f∧RN S vb bv cv ta tw pE cs n2 base x f W
theorem tup3 {a b c a' b' c':Value} (h:Value.tuple #[a,b,c] = .tuple #[a',b',c']):a = a'∧b = b'∧c = c':=by
 have:=congrArg Array.toList (Value.tuple.inj h)
 simpa using this
theorem rd_block {W:World} {v:Value} {cs:List Od} (h:RdR Od.vs 6 W v cs) (xD:cs ≠ []):∃ b,v.ownBlock = some b∧b < W.heap.size:=by
 obtain ⟨a,c,rfl,_,hc⟩:=h
 obtain ⟨b,off,rfl,Y,_⟩:=hc xD
 exact ⟨b,rfl,Y⟩
theorem rd_setC {W:World} {v:Value} {cs:List Od} {c8 o:Nat} {vs:List Value} (h:RdR Od.vs 6 W v cs) (xD:cs ≠ []→v.ownBlock ≠ some c8):RdR Od.vs 6 (W.setCells c8 o vs) v cs:=by
 obtain ⟨a,c,rfl,Q,hc⟩:=h
 refine ⟨a,c,rfl,Q,fun hl=>?_⟩
 obtain ⟨b,off,rfl,Y,hr⟩:=hc hl
 have hbc:c8 ≠ b:=fun e=>xD hl (by rw [e]; rfl)
 exact ⟨b,off,rfl,by rw [dm]; exact Y,fun i c hi=>eS (hr i c hi) hbc⟩
section
variable {S:Nat} {vb bv cv ta tw:Value} {pE:List Value} {cs:List Od} {n2:Nat} {base W W':World} {x:List Bool} {f:Nat→Value}
theorem rn_grow (h:RN S vb bv cv ta tw pE cs n2 base x f W) (Y:yn W W'):RN S vb bv cv ta tw pE cs n2 base x f W' :=
 ⟨h.bel.trans (Y.mono h.bel.size),h.e,fun h5=>by
  obtain ⟨lv,ev,Q,E,h3⟩:=h.m5 h5
  exact ⟨lv,ev,Q,⟨zh E.1 Y ya,E.2⟩,h3⟩,fun uV=>by
  obtain ⟨c8,Q,E,h3,h4,h5⟩:=h.m10 uV
  exact ⟨c8,Q,E,yJ h3 Y.size,zo h4 Y h3,fun uO=>zc (h5 uO) Y h3⟩,h.ap⟩
theorem cF (h:RN S vb bv cv ta tw pE cs n2 base x f W) (i:Nat) (u:Value) (h5:i ≠ 5) (uV:i ≠ 10) (uO:i ≠ 12) (hu:EN S vb bv cv ta tw (f 5) i u):RN S vb bv cv ta tw pE cs n2 base (x.set i true) (upd f i u) W:=by
 refine ⟨h.bel,fun j O=>?_,?_,?_,?_⟩
 ·rw [zl f u (show 5 ≠ i from fun e=>h5 e.symm)]
  by_cases hji:j = i
  ·subst hji; rw [zr]; exact hu
  ·rw [zl _ _ hji]
   rw [gq (fun e=>hji e.symm)] at O
   exact h.e j O
 ·rw [gq h5,zl f u (show 5 ≠ i from fun e=>h5 e.symm)]; exact h.m5
 ·rw [gq uV,gq uO,zl f u (show 10 ≠ i from fun e=>uV e.symm)]; exact h.m10
 ·rw [gq h5,gq uV,zl f u (show 5 ≠ i from fun e=>h5 e.symm),zl f u (show 10 ≠ i from fun e=>uV e.symm)]; exact h.ap
theorem rn_5 (h:RN S vb bv cv ta tw pE cs n2 base x f W) (Y:yn W W') {lv ev:Value} (hl:LVok W' lv cs) (he:∃ a c,ev = .slice a n2 c) (vL:∀ j,(j = 6 ∨ j = 7 ∨ j = 9 ∨ j = 11 ∨ j = 13)→x[j]? ≠ some true)
  (hap:∀ c8,base.heap.size ≤ c8→c8 < W.heap.size→cs ≠ []→lv.ownBlock ≠ some c8):RN S vb bv cv ta tw pE cs n2 base (x.set 5 true) (upd f 5 (.tuple #[lv,tw,ev])) W':=by
 have hg:=rn_grow h Y
 refine ⟨hg.bel,fun j O=>?_,fun _=>⟨lv,ev,zr _ _ _,hl,he⟩,?_,?_⟩
 ·by_cases hji:j = 5
  ·subst hji; trivial
  ·rw [gq (fun e=>hji e.symm)] at O
   rw [zl _ _ hji]
   refine en_any (hg.e j O) ?_ ?_ ?_ ?_ ?_ <;> intro e <;> exact vL j (by omega) O
 ·rw [gq (by omega),gq (by omega),zl _ _ (by omega)]; exact hg.m10
 ·intro _ uV
  rw [gq (by omega)] at uV
  rw [zr,zl _ _ (by omega)]
  obtain ⟨c8,Q,E,h3,_⟩:=h.m10 uV
  intro lv' tw' ev' c8' e1 e2 xD
  rw [Q] at e2
  simp only [Value.pointer.injEq,Option.some.injEq,Addr.mk.injEq,and_true] at e2
  obtain rfl:c8 = c8':=e2
  have e1:lv = lv':=(tup3 e1).1
  rw [← e1]
  exact hap c8 E h3 xD
theorem rn_10 (h:RN S vb bv cv ta tw pE cs n2 base x f W) (uO:x[12]? ≠ some true) {o:Obj} (ht:(W.alloc o).there W.heap.size 0 6):RN S vb bv cv ta tw pE cs n2 base (x.set 10 true) (upd f 10 (J W.heap.size 0)) (W.alloc o):=by
 have hg:=rn_grow h ((Below.refl W.heap.size W).alloc ya o)
 refine ⟨hg.bel,fun j O=>?_,?_,fun _=>⟨W.heap.size,zr _ _ _,h.bel.size,by rw [zi]; omega,ht,fun e=>absurd (by rwa [gq (by omega)] at e) uO⟩,?_⟩
 ·rw [zl _ _ (by omega)]
  by_cases hji:j = 10
  ·subst hji; trivial
  ·rw [gq (fun e=>hji e.symm)] at O
   rw [zl _ _ hji]; exact hg.e j O
 ·rw [gq (by omega),zl _ _ (by omega)]; exact hg.m5
 ·intro h5 _
  rw [gq (by omega)] at h5
  rw [zr,zl _ _ (by omega)]
  obtain ⟨lv,ev,Q,E,_⟩:=h.m5 h5
  intro lv' tw' ev' c8' e1 e2 xD e3
  rw [Q] at e1
  simp only [Value.pointer.injEq,Option.some.injEq,Addr.mk.injEq,and_true] at e2
  have e1:lv = lv':=(tup3 e1).1
  obtain ⟨b,ui,xJ⟩:=rd_block E.1 xD
  rw [← e1,ui] at e3
  simp only [Option.some.injEq] at e3
  omega
theorem rn_12 (h:RN S vb bv cv ta tw pE cs n2 base x f W) (h5:x[5]? = some true) (uV:x[10]? = some true) {c8:Nat} (hc:f 10 = J c8 0) (hl:pE.length = 6) (hx:x[12]? = some false):RN S vb bv cv ta tw pE cs n2 base (x.set 12 true) f (W.setCells c8 0 pE):=by
 obtain ⟨c',Q,E,h3,h4,_⟩:=h.m10 uV
 rw [hc] at Q
 simp only [Value.pointer.injEq,Option.some.injEq,Addr.mk.injEq,and_true] at Q
 subst Q
 obtain ⟨lv,ev,e1,e2,e3⟩:=h.m5 h5
 have hd:=h.ap h5 uV lv tw ev c8 e1 hc
 refine ⟨zj _ E _ _ _ h.bel,fun j O=>?_,fun _=>⟨lv,ev,e1,⟨rd_setC e2.1 hd,e2.2⟩,e3⟩,fun _=>⟨c8,hc,E,by rw [dm]; exact h3,xb h4 _ _ _,fun _=>yX W c8 0 _ (fun j O=>h4 j (by omega))⟩,?_⟩
 ·by_cases hji:j = 12
  ·subst hji; trivial
  ·rw [gq (fun e=>hji e.symm)] at O; exact h.e j O
 ·intro _ _; exact h.ap h5 uV
end
def DV (vs:List Value) (p:Prop) (W:World) (j:Nat) (v:Value):Prop:=∀ u,vs[j]? = some u→v = u
structure R9 (C:Nat→Value→Prop) (B0:World) (cs:List Od) (t:Od) (x:List Bool) (f:Nat→Value) (W:World):Prop where
 bel:Below B0.heap.size B0 W
 c:∀ j,x[j]? = some true→C j (f j)
 m13:x[13]? = some true→x[15]? = some false→ORow W B0.heap.size (f 13) []
 m15:x[15]? = some true→x[18]? = some false→ORow W B0.heap.size (f 15) cs
 m17:x[17]? = some true→x[18]? = some false→∃ b,f 17 = .slice (some ⟨b,0,none⟩) 1 1∧b < W.heap.size∧B0.heap.size ≤ b∧W.rangeAt b 0 t.vs∧(x[13]? = some true→x[15]? = some false→(f 13).ownBlock ≠ some b)
 m18:x[18]? = some true→ORow W B0.heap.size (f 18) (cs ++ [t])
def R9A (cl:(Nat→Value)→Act) (C:Nat→Value→Prop) (B0:World) (cs:List Od) (t:Od) (x:List Bool) (fG:Act) (W:World):Prop:=∃ f,fG = cl f∧R9 C B0 cs t x f W
section
variable {C:Nat→Value→Prop} {B0 W W':World} {cs:List Od} {t:Od} {x:List Bool} {f:Nat→Value}
theorem r9_grow (h:R9 C B0 cs t x f W) (Y:yn W W'):R9 C B0 cs t x f W' :=
 ⟨h.bel.trans (Y.mono h.bel.size),h.c,fun a b=>zM (h.m13 a b) Y,fun a b=>zM (h.m15 a b) Y,fun a b=>by
  obtain ⟨b',Q,E,h3,h4,h5⟩:=h.m17 a b
  exact ⟨b',Q,yJ E Y.size,h3,zc h4 Y E,h5⟩,fun a=>zM (h.m18 a) Y⟩
theorem bF (h:R9 C B0 cs t x f W) (i:Nat) (v:Value) (hv:C i v) (jN:i ≠ 13) (vQ:i ≠ 15) (qZ:i ≠ 17) (pv:i ≠ 18):R9 C B0 cs t (x.set i true) (upd f i v) W:=by
 refine ⟨h.bel,zB h.c hv,?_,?_,?_,?_⟩ <;> simp only [gq jN,gq vQ,gq qZ,gq pv,zl f v jN.symm,zl f v vQ.symm,zl f v qZ.symm,zl f v pv.symm]
 ·exact h.m13
 ·exact h.m15
 ·exact h.m17
 ·exact h.m18
theorem r9_13 (h:R9 C B0 cs t x f W) (jN:x[13]? = some false) (hc:∀ v,C 13 v):R9 C B0 cs t (x.set 13 true) (upd f 13 (.slice (some (U W.heap.size 0)) 0 0)) (W.alloc (A #[] 78)):=by
 have hg:=r9_grow h ((Below.refl W.heap.size W).alloc ya (A #[] 78))
 refine ⟨hg.bel,zB hg.c (hc _),?_,?_,?_,?_⟩
 ·intro _ _; rw [zr]; exact World.ownsRow_made W #[] 0 h.bel.size (by decide) rfl
 ·rw [gq (by decide),gq (by decide),zl _ _ (by decide)]; exact hg.m15
 ·intro qZ pv
  rw [gq (by decide)] at qZ pv
  obtain ⟨b,Q,E,h3,h4,h5⟩:=hg.m17 qZ pv
  obtain ⟨b',e1,e2,_⟩:=h.m17 qZ pv
  rw [Q] at e1
  simp only [Value.slice.injEq,Option.some.injEq,Addr.mk.injEq,and_true] at e1
  subst e1
  refine ⟨b,by rw [zl _ _ (by decide)]; exact Q,E,h3,h4,fun _ _ e=>?_⟩
  rw [zr] at e
  simp [Value.ownBlock] at e
  omega
 ·rw [gq (by decide),zl _ _ (by decide)]; exact hg.m18
theorem r9_15 (h:R9 C B0 cs t x f W) (jN:x[13]? = some true) (vQ:x[15]? = some false) (pv:x[18]? = some false) (hc:∀ v,C 15 v) {v':Value} (N:ORow W' B0.heap.size v' cs) (hg:W.grownBy W' (f 13).ownBlock):R9 C B0 cs t (x.set 15 true) (upd f 15 v') W':=by
 refine ⟨h.bel.grown hg h.bel.size (fun k hk=>((h.m13 jN vQ).lt k hk).1),zB h.c (hc _),?_,?_,?_,?_⟩
 ·intro _ e; rw [gqs vQ] at e; cases e
 ·intro _ _; rw [zr]; exact N
 ·intro qZ _
  rw [gq (by decide)] at qZ
  obtain ⟨b,Q,E,h3,h4,h5⟩:=h.m17 qZ pv
  refine ⟨b,by rw [zl _ _ (by decide)]; exact Q,yJ E hg.size,h3,zw h4 hg E (fun e=>h5 jN vQ e.symm),fun _ e=>?_⟩
  rw [gqs vQ] at e; cases e
 ·intro e; rw [gq (by decide),pv] at e; cases e
theorem r9_17 (h:R9 C B0 cs t x f W) (qZ:x[17]? = some false) (pv:x[18]? = some false) (hc:∀ v,C 17 v):R9 C B0 cs t (x.set 17 true) (upd f 17 (.slice (some (U W.heap.size 0)) 1 1)) (W.alloc (Obj.cells t.vs.toArray 78)):=by
 have hg:=r9_grow h ((Below.refl W.heap.size W).alloc ya (Obj.cells t.vs.toArray 78))
 refine ⟨hg.bel,zB hg.c (hc _),?_,?_,?_,?_⟩
 ·rw [gq (by decide),gq (by decide),zl _ _ (by decide)]; exact hg.m13
 ·rw [gq (by decide),gq (by decide),zl _ _ (by decide)]; exact hg.m15
 ·intro _ _
  refine ⟨W.heap.size,zr _ _ _,by rw [zi]; omega,h.bel.size,zn W t.vs _,fun jN vQ e=>?_⟩
  rw [gq (by decide)] at jN vQ
  rw [zl _ _ (by decide)] at e
  have:=((h.m13 jN vQ).lt _ e).2
  omega
 ·rw [gq (by decide),zl _ _ (by decide)]; exact hg.m18
theorem r9_18 (h:R9 C B0 cs t x f W) (vQ:x[15]? = some true) (pv:x[18]? = some false) (hc:∀ v,C 18 v) {v':Value} (N:ORow W' B0.heap.size v' (cs ++ [t])) (hg:W.grownBy W' (f 15).ownBlock):R9 C B0 cs t (x.set 18 true) (upd f 18 v') W':=by
 refine ⟨h.bel.grown hg h.bel.size (fun k hk=>((h.m15 vQ pv).lt k hk).1),zB h.c (hc _),?_,?_,?_,?_⟩
 ·intro _ e; rw [gq (by decide)] at e; rw [e] at vQ; cases vQ
 ·intro _ e; rw [gqs pv] at e; cases e
 ·intro _ e; rw [gqs pv] at e; cases e
 ·intro _; rw [zr]; exact N
end
def C9 (S c8:Nat) (ty left:Int) (lv:Value) (n1:Nat) (ta:Value) (ho:Int):Nat→Value→Prop
 | 0,v=>v = J (S + 1) 2
 | 1,v=>v = I ty
 | 2,v=>v = .bool true
 | 3,v=>v = .bool true
 | 4,v=>v = J c8 3
 | 5,v=>v = I left
 | 6,v=>v = .bool true
 | 7,v=>v = .bool true
 | 8,v=>v = .bool true
 | 9,v=>v = lv
 | 10,v=>v = I n1
 | 11,v=>v = .bool false
 | 12,v=>v = .bool false
 | 14,v=>v = lv
 | 16,v=>v = ta
 | 19,v=>v = I ho
 | 20,v=>v = .bool (decide (8 < ho))
 | 21,v=>v = .bool (decide (8 < ho))
 | 22,v=>v = .bool (decide (8 < ho))
 | _,_=>True
theorem l04New_any (next:Int) (vb:Value) (l:List Od) (c:Cm) (w:World) (hr:RdR Od.vs 6 w vb l) (hs:SlOk vb) (hg:GoodL l) (uT:∀ x ∈ l,x.side = 1 ∨ x.side = 2) (ht:c.g.size ≤ maxLen) :
  Calls Tryz.prog 144 #[.agg #[I next,vb],cmV c] w fun e w'=>e = .returned (I (newR next l c))∧yn w w':=by
 have HR:=M hr
 have HG:=M hg
 have km:=M hs
 have HSD:=M uT
 have aD:=M (fun W=>l03Tag_any c.g W ht)
 have HZR:=M (fun W=>l04Zero_any c.p W)
 have uU:=M (fun W=>l01Ticks_any c.p W)
 obtain ⟨a,cap,rfl,xA,hc⟩:=hr
 obtain ⟨kk,s,ty,li,qt,ii,pr,tg⟩:=c
 unfold cmV
 simp only at aD HZR uU ⊢
 clear hc hg hs uT xA ht
 have xK:=zi w (A #[I next,.slice a l.length cap] 34)
 have ue:((w.alloc (A #[I next,.slice a l.length cap] 34)).alloc (A (yx kk s ty li qt ii pr tg).toArray 50)).heap.size = w.heap.size + 1 + 1:=by rw [zi,xK]
 have r1:=zn w [I next,.slice a l.length cap] 34
 have r2:=zn (w.alloc (A #[I next,.slice a l.length cap] 34)) (yx kk s ty li qt ii pr tg) 50
 rw [xK] at r2
 have qz:Below (w.heap.size + 1) (w.alloc (A #[I next,.slice a l.length cap] 34)) ((w.alloc (A #[I next,.slice a l.length cap] 34)).alloc (A (yx kk s ty li qt ii pr tg).toArray 50)):=(Below.refl _ _).alloc (by rw [xK]; omega) _
 have xu:Hid (yn w ((w.alloc (A #[I next,.slice a l.length cap] 34)).alloc (A (yx kk s ty li qt ii pr tg).toArray 50))):=(fE _ _).alloc (by rw [xK]; omega) _
 have HX:Hid (_∧_):=⟨zc r1 qz (by omega),r2⟩
 have uu:Hid (w.heap.size + 1 < ((w.alloc (A #[I next,.slice a l.length cap] 34)).alloc (A (yx kk s ty li qt ii pr tg).toArray 50)).heap.size):=by show _ < _; omega
 clear xK ue r1 r2 qz
 go_enter Tryz.func144,Tryz.ntmps144
 refine fI fun hR xU=>?_
 go_wp2_with fail
 refine H xU _ _ ?_
 clear xU
 generalize ((w.alloc (A #[I next,.slice a l.length cap] 34)).alloc (A (yx kk s ty li qt ii pr tg).toArray 50)) = X2 at xu HX uu ⊢
 have HX:Hid (X2.rangeAt w.heap.size 0 [I next,.slice a l.length cap]∧X2.rangeAt (w.heap.size + 1) 0 (yx kk s ty li qt ii pr tg)):=H HX
 have o1:X2.cell? (U (w.heap.size + 1) 1) = some (I s):=(H HX).2 1 _ rfl
 have o2:X2.cell? (U (w.heap.size + 1) 2) = some (I ty):=(H HX).2 2 _ rfl
 have o3:X2.cell? (U (w.heap.size + 1) 3) = some (I li):=(H HX).2 3 _ rfl
 have o4:X2.cell? (U (w.heap.size + 1) 4) = some (I qt):=(H HX).2 4 _ rfl
 have o6:X2.cell? (U (w.heap.size + 1) 6) = some (yj pr):=(H HX).2 6 _ rfl
 have o7:X2.cell? (U (w.heap.size + 1) 7) = some (yk tg):=(H HX).2 7 _ rfl
 refine fI fun hR xU=>?_
 go_wp2_with (first | (go_at_call 124; refine (H uU _).mono ?_; rintro e w' ⟨rfl,un⟩; rw [un]; clear un w') | (go_at_call 47; refine (bP _ _ _ _).mono ?_; rintro e w' ⟨rfl,un⟩; rw [un]; clear un w') | (go_at_call 54; refine (cT _ _).mono ?_; rintro e w' ⟨rfl,un⟩; rw [un]; clear un w') | (go_at_call 182; refine (H HZR _).mono ?_; rintro e w' ⟨rfl,un⟩; rw [un]; clear un w') | (go_at_call 74; refine (H aD _).mono ?_; rintro e w' ⟨rfl,un⟩; rw [un]; clear un w'))
 refine H xU _ _ ?_
 clear xU
 refine fI fun hR xU=>?_
 cases bs:betB s 1 2
 have HK:Hid (newR next l ⟨kk,s,ty,li,qt,ii,pr,tg⟩ = 3):=by show _ = _; simp [newR,bs]
 rotate_left
 cases bt:betB ty 1 5
 have HK:Hid (newR next l ⟨kk,s,ty,li,qt,ii,pr,tg⟩ = 4):=by show _ = _; simp [newR,bs,bt]
 rotate_left
 have HT:Hid (lifW ⟨kk,s,ty,li,qt,ii,pr,tg⟩ = false→prcB ⟨kk,s,ty,li,qt,ii,pr,tg⟩ = true→betB qt 1 1000000 = true→tagB tg = true→∀ (u5 u6 u10 u11 u12 u13 u14 u15 u16 u17 u18 u19 u20 u21 u22 u23 u24 u25 u26 u27 u28 u29 u30 u31 u32 u33 u34 u35 u36 u37 u38 u39 u40 u41 u42 u43 u44 u45 u46 u47 u48 u49 u50 u51 u52 u53 u54 u55 u56 u57 u58 u59 u60 u61 u62 u63 u64 u65 u66 u67 u68 u69 u70:Value),hR { tmps:=#[.agg #[I next,.slice a l.length cap],.agg (yx kk s ty li qt ii pr tg).toArray,J w.heap.size 0,J (w.heap.size + 1) 0,I 0,u5,u6,Z,Z,Z,u10,u11,u12,u13,u14,u15,u16,u17,u18,u19,u20,u21,u22,u23,u24,u25,u26,u27,u28,u29,u30,u31,u32,u33,u34,u35,u36,u37,u38,u39,u40,u41,u42,u43,u44,u45,u46,u47,u48,u49,u50,u51,u52,u53,u54,u55,u56,u57,u58,u59,u60,u61,u62,u63,u64,u65,u66,u67,u68,u69,u70,Z,Z,Z,Z,Z,Z,Z,Z,Z,Z,Z,Z,Z,Z,Z,Z,Z,Z,Z,Z,Z,Z,Z,Z,Z,Z,Z,Z,Z,Z,Z,Z,Z,Z,Z,Z,Z,Z,Z,Z,Z,Z,Z,Z,Z,Z,Z,Z,Z,Z,Z,Z,Z,Z,Z],defers:=[] } X2):=by
  intro hlif hprc hqty htag u5 u6 u10 u11 u12 u13 u14 u15 u16 u17 u18 u19 u20 u21 u22 u23 u24 u25 u26 u27 u28 u29 u30 u31 u32 u33 u34 u35 u36 u37 u38 u39 u40 u41 u42 u43 u44 u45 u46 u47 u48 u49 u50 u51 u52 u53 u54 u55 u56 u57 u58 u59 u60 u61 u62 u63 u64 u65 u66 u67 u68 u69 u70
  refine H xU _ _ ?_
  clear xU o1 o2 o3 o4 o6 o7
  have hside:=side_of bs
  have hqq:1 ≤ qt∧qt ≤ 1000000:=by simpa [betB] using hqty
  have ku:Hid (newR next l ⟨kk,s,ty,li,qt,ii,pr,tg⟩ = matS next ⟨kk,s,ty,li,qt,ii,pr,tg⟩ (matL ⟨kk,s,ty,li,qt,ii,pr,tg⟩ next 21 l qt [])):=by
   show _ = _
   rw [matS_eq (H HG) (H HSD) bs hprc hqty]
   simp [newR,bs,bt,hlif,hprc,hqty,htag]
  have HMT:=M (fun W hW=>l04Match_any (.slice a l.length cap) l ⟨kk,s,ty,li,qt,ii,pr,tg⟩ next W hW (H HG) hside hprc (by show 0 ≤ qt; omega) hqq.2)
  have kL:=M (matL_good (c:=⟨kk,s,ty,li,qt,ii,pr,tg⟩) (id:=next) 21 l qt [] (H HG) (by omega) hqq.2)
  simp only at HMT kL
  generalize matL ⟨kk,s,ty,li,qt,ii,pr,tg⟩ next 21 l qt [] = cl at ku HMT kL
  generalize newR next l ⟨kk,s,ty,li,qt,ii,pr,tg⟩ = res at ku ⊢
  have HTKR:=M (fun W=>l04Taker_any next a l.length cap ⟨kk,s,ty,li,qt,ii,pr,tg⟩ W)
  unfold cmV at HTKR
  simp only at HTKR
  have HMS:Hid (matS next ⟨kk,s,ty,li,qt,ii,pr,tg⟩ cl = if ty = 5∧0 < cl.2.2.length then 11 else if ty = 4∧0 < cl.2.1 then 12 else if next = 1000000 then 13
   else if ba ty = true then (if 0 < cl.2.1 then (if cl.1.length = 20 then 13 else if 8 < nlev (cl.1 ++ [⟨next,s,tkS pr,cl.2.1,li,tg⟩]) then 13 else 0) else 0) else 0):=rfl
  have ku:Hid (res = _):=(H ku).trans (H HMS)
  clear HMS hlif hprc hqty htag hqq
  generalize tkS pr = tt at HMT HTKR ku
  obtain ⟨cs,left,ts⟩:=cl
  simp only at HMT ku kL
  refine fI fun hR xU=>?_
  refine zk (RNA (fun f=>{ tmps:=#[.agg #[I next,.slice a l.length cap],.agg (yx kk s ty li qt ii pr tg).toArray,J w.heap.size 0,J (w.heap.size + 1) 0,I 0,u5,u6,f 11,f 10,f 13,u10,u11,u12,u13,u14,u15,u16,u17,u18,u19,u20,u21,u22,u23,u24,u25,u26,u27,u28,u29,u30,u31,u32,u33,u34,u35,u36,u37,u38,u39,u40,u41,u42,u43,u44,u45,u46,u47,u48,u49,u50,u51,u52,u53,u54,u55,u56,u57,u58,u59,u60,u61,u62,u63,u64,u65,u66,u67,u68,u69,u70,f 6,f 0,f 1,f 2,f 3,f 4,f 5,f 7,f 8,f 9,Z,Z,Z,Z,Z,Z,Z,Z,Z,Z,Z,Z,Z,Z,Z,Z,Z,Z,Z,Z,Z,Z,Z,Z,Z,Z,Z,Z,Z,Z,Z,Z,Z,Z,Z,Z,Z,Z,Z,Z,Z,Z,Z,Z,Z],defers:=[] }) w.heap.size (.slice a l.length cap) (.agg #[I next,.slice a l.length cap]) (.agg (yx kk s ty li qt ii pr tg).toArray) (.agg (yw next s tt qt li tg).toArray) (.agg (yw next s tt left li tg).toArray) (yw next s tt left li tg) cs ts.length X2) (by kernel_rfl) ?_ ?_ ?_
  ·exact ⟨fun j=>Z,rfl,⟨⟨rfl,rfl,rfl,Nat.le_refl _,fun _ _=>rfl⟩,fun j O=>by rw [yI] at O; split at O <;> simp at O,by simp,by simp,by simp⟩⟩
  ·rintro x fG xn ⟨f,rfl,K⟩ hx xN
   have xo:=bT xN hx (by kernel_rfl)
   obtain ⟨lv,ev,e5,hlv,ae,ce,hev⟩:=K.m5 (xo 5 (by simp))
   obtain ⟨c8,uy,kE,jp,-,kG⟩:=K.m10 (xo 10 (by simp))
   obtain ⟨lv',ev',uk,e11'⟩:=K.e 11 (xo 11 (by simp))
   obtain ⟨lv'',ev'',uA,e13'⟩:=K.e 13 (xo 13 (by simp))
   have HC8:=M (kG (xo 12 (by simp)))
   rw [e5] at uk uA
   have q1:lv = lv':=(tup3 uk).1
   have q2:ev = ev'':=(tup3 uA).2.2
   rw [← q1] at e11'
   rw [← q2,hev] at e13'
   have HLV:=M hlv
   have xy:=M ((H xu).trans (K.bel.mono (H xu).size))
   have HXV:Hid (xn.rangeAt w.heap.size 0 [I next,.slice a l.length cap]∧xn.rangeAt (w.heap.size + 1) 0 (yx kk s ty li qt ii pr tg)):=⟨zc (H HX).1 K.bel (by have:=H uu; omega),zc (H HX).2 K.bel (H uu)⟩
   have hVS:w.heap.size + 1 < xn.heap.size:=yJ (H uu) K.bel.size
   refine H xU _ _ ?_
   clear xU
   simp only [uy,e11',e13']
   generalize f 6 = u71,f 0 = u72,f 1 = u73,f 2 = u74,f 3 = u75,f 4 = u76,f 5 = u77,f 7 = u78,f 8 = u79,f 9 = u80
   clear K xo e5 uy uk uA e11' e13' q1 q2 kG xN hx hlv hev HMT HTKR HX xu uu
   obtain ⟨⟨al,cal,qi,hll,qb⟩,hsl⟩:=H HLV
   have HRL:Hid (RdR Od.vs 6 xn (.slice al cs.length cal) cs):=by rw [← qi]; exact (H HLV).1
   have HSV:Hid (SlOk (.slice al cs.length cal)):=by rw [← qi]; exact hsl
   subst qi
   clear qb hsl hll HLV
   have k0:xn.cell? (U w.heap.size 0) = some (I next):=(H HXV).1 0 _ rfl
   have o2:xn.cell? (U (w.heap.size + 1) 2) = some (I ty):=(H HXV).2 2 _ rfl
   have c3:xn.cell? (U c8 3) = some (I left):=H HC8 3 _ rfl
   have h20:cs.length ≤ 20:=(H kL).1.len
   refine fI fun hR xU=>?_
   have ux:Hid (¬ (ty = 5∧0 < ts.length)→¬ (ty = 4∧0 < left)→next ≠ 1000000→∀ (u5 u6 u10 u11 u12 u13 u14 u15 u16 u17 u18 u19 u20 u21 u22 u23 u24 u25 u26 u27 u28 u29 u30 u31 u32 u33 u34 u35 u36 u37 u38 u39 u40 u41 u42 u43 u44 u45 u46 u47 u48 u49 u50 u51 u52 u53 u54 u55 u56 u57 u58 u59 u60 u61 u62 u63 u64 u65 u66 u67 u68 u69 u70 u71 u72 u73 u74 u75 u76 u77 u78 u79 u80 u81 u82 u83 u84 u85 u86 u87 u88 u89 u90 u91 u92 u93 u94 u95 u96 u97 u98 u99 u100 u101 u102:Value),hR { tmps:=#[.agg #[I next,.slice a l.length cap],.agg (yx kk s ty li qt ii pr tg).toArray,J w.heap.size 0,J (w.heap.size + 1) 0,I 0,u5,u6,.slice al cs.length cal,J c8 0,.slice ae ts.length ce,u10,u11,u12,u13,u14,u15,u16,u17,u18,u19,u20,u21,u22,u23,u24,u25,u26,u27,u28,u29,u30,u31,u32,u33,u34,u35,u36,u37,u38,u39,u40,u41,u42,u43,u44,u45,u46,u47,u48,u49,u50,u51,u52,u53,u54,u55,u56,u57,u58,u59,u60,u61,u62,u63,u64,u65,u66,u67,u68,u69,u70,u71,u72,u73,u74,u75,u76,u77,u78,u79,u80,u81,u82,u83,u84,u85,u86,u87,u88,u89,u90,u91,u92,u93,u94,u95,u96,u97,u98,u99,u100,u101,u102,Z,Z,Z,Z,Z,Z,Z,Z,Z,Z,Z,Z,Z,Z,Z,Z,Z,Z,Z,Z,Z,Z,Z],defers:=[] } xn):=by
    intro g5 g4 gn u5 u6 u10 u11 u12 u13 u14 u15 u16 u17 u18 u19 u20 u21 u22 u23 u24 u25 u26 u27 u28 u29 u30 u31 u32 u33 u34 u35 u36 u37 u38 u39 u40 u41 u42 u43 u44 u45 u46 u47 u48 u49 u50 u51 u52 u53 u54 u55 u56 u57 u58 u59 u60 u61 u62 u63 u64 u65 u66 u67 u68 u69 u70 u71 u72 u73 u74 u75 u76 u77 u78 u79 u80 u81 u82 u83 u84 u85 u86 u87 u88 u89 u90 u91 u92 u93 u94 u95 u96 u97 u98 u99 u100 u101 u102
    have HRS:Hid (res = if ba ty = true then (if 0 < left then (if cs.length = 20 then 13 else if 8 < nlev (cs ++ [⟨next,s,tt,left,li,tg⟩]) then 13 else 0) else 0) else 0):=by
     have:=H ku
     rw [if_neg g5,if_neg g4,if_neg gn] at this
     exact this
    refine H xU _ _ ?_
    clear xU g5 g4 gn ku k0
    have qO:Hid (∀ w':World,xn.grownBy w' none→w'.cell? (U (w.heap.size + 1) 2) = some (I ty)∧w'.cell? (U c8 3) = some (I left)):=fun w' h'=>⟨zw (H HXV).2 h' hVS (by simp) 2 _ rfl,zw (H HC8) h' jp (by simp) 3 _ rfl⟩
    cases brs:ba ty
    ·have pK:Hid (res = 0):=(H HRS).trans (by rw [brs]; rfl)
     go_wp2_with fail
     refine zk (RG xn (fun f=>{ tmps:=#[.agg #[I next,.slice a l.length cap],.agg (yx kk s ty li qt ii pr tg).toArray,J w.heap.size 0,J (w.heap.size + 1) 0,I 0,u5,u6,.slice al cs.length cal,J c8 0,.slice ae ts.length ce,u10,u11,u12,u13,u14,u15,u16,u17,u18,u19,u20,u21,u22,u23,u24,u25,u26,u27,u28,u29,u30,u31,u32,u33,u34,u35,u36,u37,u38,u39,u40,u41,u42,u43,u44,u45,u46,u47,u48,u49,u50,u51,u52,u53,u54,u55,u56,u57,u58,u59,u60,u61,u62,u63,u64,u65,u66,u67,u68,u69,u70,u71,u72,u73,u74,u75,u76,u77,u78,u79,u80,u81,u82,u83,u84,u85,u86,u87,u88,u89,u90,u91,u92,u93,u94,u95,u96,u97,u98,u99,u100,u101,u102,f 0,f 1,f 2,f 3,f 4,f 5,f 6,f 7,f 8,f 9,f 10,f 11,f 12,f 13,f 14,f 15,f 16,f 17,f 18,f 19,f 20,f 21,f 22],defers:=[] }) 99 (DV [J (w.heap.size + 1) 2,I ty,.bool false,.bool false,Z,Z,Z,.bool false,.bool false,Z,Z,Z,Z,Z,Z,Z,Z,Z,Z,Z,Z,Z,.bool false])) (by kernel_rfl) ?_ ?_ ?_
     ·exact ⟨fun _=>Z,rfl,⟨rfl,rfl,rfl,Nat.le_refl _,fun _ _=>rfl⟩,fun j O=>by rw [yI] at O; split at O <;> simp at O⟩
     ·rintro x fG V' ⟨f,rfl,xk,hD⟩ hx xN
      have xo:=zN xN hx (acyc _ (by kernel_rfl))
      have e22:f 22 = .bool false:=hD 22 (xo 22 (by simp)) _ rfl
      have xL:=M (fH (H xy) xk)
      simp only [e22]
      clear hD xo e22 xN hx xk
      go_wp2_with fail
      go_ret
      exact ⟨zy (H pK).symm,H xL⟩
     ·rintro x fG V' i' o' ⟨f,rfl,xk,hD⟩ V hx N xq D
      clear V
      have ua:=M xk
      have HD:=M hD
      have o2:V'.cell? (U (w.heap.size + 1) 2) = some (I ty):=zc (H HXV).2 xk hVS 2 _ rfl
      have c3:V'.cell? (U c8 3) = some (I left):=zc (H HC8) xk jp 3 _ rfl
      clear HRS pK
      match i',N with
      | 0,N =>
       obtain rfl:=yb N
       clear D hD xk
       rw [if_pos (by rfl)];unfold Oper.wp;go_simp
       exact ⟨upd f 0 (J (w.heap.size + 1) 2),by simp [upd],zf (H ua) (H HD) (by decide) (yh rfl)⟩
      | 1,N =>
       obtain rfl:=yb N
       have g0:=hD 0 (ye D 0 rfl) _ rfl
       clear D hD xk
       rw [if_pos (by rfl)];unfold Oper.wp;go_simp
       exact ⟨upd f 1 (I ty),by simp [upd,g0],zf (H ua) (H HD) (by decide) (yh rfl)⟩
      | 2,N =>
       obtain rfl:=yb N
       have g1:=hD 1 (ye D 1 rfl) _ rfl
       clear D hD xk
       rw [if_pos (by rfl)];unfold Oper.wp;go_simp
       refine (cT ty _).mono ?_
       rintro e w3 ⟨rfl,oR⟩
       rw [oR,brs]
       exact ⟨upd f 2 (.bool false),by simp [upd,g1],zf (H ua) (H HD) (by decide) (yh rfl)⟩
      | 3,N =>
       obtain rfl:=yb N
       have g2:=hD 2 (ye D 2 rfl) _ rfl
       clear D hD xk
       rw [if_pos (by rfl)];unfold Oper.wp;go_simp
       exact ⟨upd f 3 (.bool false),by simp [upd,g2],zf (H ua) (H HD) (by decide) (yh rfl)⟩
      | 4,N | 5,N | 6,N =>
       obtain rfl:=yb N
       have g3:=hD 3 (ye D 3 rfl) _ rfl
       clear D hD xk
       rw [if_neg (by simp only [g3]; exact fun h=>Bool.noConfusion (show (false:Bool) = true from h))]
       exact ⟨upd f _ Z,rfl,zf (H ua) (H HD) (by decide) (yh rfl)⟩
      | 7,N =>
       obtain rfl:=yb N
       have g3:=hD 3 (ye D 3 rfl) _ rfl
       have g6:=hD 6 (ye D 6 rfl) _ rfl
       clear D hD xk
       rw [if_pos (by rfl)];unfold Oper.wp;go_simp
       exact ⟨upd f 7 (.bool false),by simp [upd,g3,g6],zf (H ua) (H HD) (by decide) (yh rfl)⟩
      | 8,N =>
       obtain rfl:=yb N
       have g7:=hD 7 (ye D 7 rfl) _ rfl
       clear D hD xk
       rw [if_pos (by rfl)];unfold Oper.wp;go_simp
       exact ⟨upd f 8 (.bool false),by simp [upd,g7],zf (H ua) (H HD) (by decide) (yh rfl)⟩
      | 9,N | 10,N | 11,N | 12,N | 21,N =>
       obtain rfl:=yb N
       have g8:=hD 8 (ye D 8 rfl) _ rfl
       clear D hD xk
       rw [if_neg (by simp only [g8]; exact fun h=>Bool.noConfusion (show (false:Bool) = true from h))]
       exact ⟨upd f _ Z,rfl,zf (H ua) (H HD) (by decide) (yh rfl)⟩
      | 13,N | 14,N | 15,N | 16,N | 17,N | 18,N | 19,N | 20,N =>
       obtain rfl:=yb N
       have xZ:=hD 12 (ye D 12 rfl) _ rfl
       clear D hD xk
       rw [if_neg (by simp only [xZ]; exact fun h=>Bool.noConfusion (show (false:Bool) = true from h))]
       exact ⟨upd f _ Z,rfl,zf (H ua) (H HD) (by decide) (yh rfl)⟩
      | 22,N =>
       obtain rfl:=yb N
       have g8:=hD 8 (ye D 8 rfl) _ rfl
       have g21:=hD 21 (ye D 21 rfl) _ rfl
       clear D hD xk
       rw [if_pos (by rfl)];unfold Oper.wp;go_simp
       exact ⟨upd f 22 (.bool false),by simp [upd,g8,g21],zf (H ua) (H HD) (by decide) (yh rfl)⟩
      | n + 23,N=>simp at N
    by_cases pC:0 < left
    ·by_cases hl20:cs.length = 20
     ·have pK:Hid (res = 13):=(H HRS).trans (by rw [if_pos brs,if_pos pC,if_pos hl20])
      have aK:(cs.length:Int) = 20:=by omega
      have hb20:((cs.length:Int) == 20) = true:=by simpa using aK
      have hlf':decide (0 < left) = true:=by simpa using pC
      clear hl20 aK
      go_wp2_with fail
      refine zk (RG xn (fun f=>{ tmps:=#[.agg #[I next,.slice a l.length cap],.agg (yx kk s ty li qt ii pr tg).toArray,J w.heap.size 0,J (w.heap.size + 1) 0,I 0,u5,u6,.slice al cs.length cal,J c8 0,.slice ae ts.length ce,u10,u11,u12,u13,u14,u15,u16,u17,u18,u19,u20,u21,u22,u23,u24,u25,u26,u27,u28,u29,u30,u31,u32,u33,u34,u35,u36,u37,u38,u39,u40,u41,u42,u43,u44,u45,u46,u47,u48,u49,u50,u51,u52,u53,u54,u55,u56,u57,u58,u59,u60,u61,u62,u63,u64,u65,u66,u67,u68,u69,u70,u71,u72,u73,u74,u75,u76,u77,u78,u79,u80,u81,u82,u83,u84,u85,u86,u87,u88,u89,u90,u91,u92,u93,u94,u95,u96,u97,u98,u99,u100,u101,u102,f 0,f 1,f 2,f 3,f 4,f 5,f 6,f 7,f 8,f 9,f 10,f 11,f 12,f 13,f 14,f 15,f 16,f 17,f 18,f 19,f 20,f 21,f 22],defers:=[] }) 99 (DV [J (w.heap.size + 1) 2,I ty,.bool true,.bool true,J c8 3,I left,.bool true,.bool true,.bool true,.slice al cs.length cal,I cs.length,.bool true,.bool true,Z,Z,Z,Z,Z,Z,Z,Z,.bool true,.bool true])) (by kernel_rfl) ?_ ?_ ?_
      ·exact ⟨fun _=>Z,rfl,⟨rfl,rfl,rfl,Nat.le_refl _,fun _ _=>rfl⟩,fun j O=>by rw [yI] at O; split at O <;> simp at O⟩
      ·rintro x fG V' ⟨f,rfl,xk,hD⟩ hx xN
       have xo:=zN xN hx (acyc _ (by kernel_rfl))
       have e22:f 22 = .bool true:=hD 22 (xo 22 (by simp)) _ rfl
       have xL:=M (fH (H xy) xk)
       simp only [e22]
       clear hD xo e22 xN hx xk
       go_wp2_with fail
       go_ret
       exact ⟨zy (H pK).symm,H xL⟩
      ·rintro x fG V' i' o' ⟨f,rfl,xk,hD⟩ V hx N xq D
       clear V
       have ua:=M xk
       have HD:=M hD
       have o2:V'.cell? (U (w.heap.size + 1) 2) = some (I ty):=zc (H HXV).2 xk hVS 2 _ rfl
       have c3:V'.cell? (U c8 3) = some (I left):=zc (H HC8) xk jp 3 _ rfl
       clear HRS pK
       match i',N with
       | 0,N =>
        obtain rfl:=yb N
        clear D hD xk
        rw [if_pos (by rfl)];unfold Oper.wp;go_simp
        exact ⟨upd f 0 (J (w.heap.size + 1) 2),by simp [upd],zf (H ua) (H HD) (by decide) (yh rfl)⟩
       | 1,N =>
        obtain rfl:=yb N
        have g0:=hD 0 (ye D 0 rfl) _ rfl
        clear D hD xk
        rw [if_pos (by rfl)];unfold Oper.wp;go_simp
        exact ⟨upd f 1 (I ty),by simp [upd,g0],zf (H ua) (H HD) (by decide) (yh rfl)⟩
       | 2,N =>
        obtain rfl:=yb N
        have g1:=hD 1 (ye D 1 rfl) _ rfl
        clear D hD xk
        rw [if_pos (by rfl)];unfold Oper.wp;go_simp
        refine (cT ty _).mono ?_
        rintro e w3 ⟨rfl,oR⟩
        rw [oR,brs]
        exact ⟨upd f 2 (.bool true),by simp [upd,g1],zf (H ua) (H HD) (by decide) (yh rfl)⟩
       | 3,N =>
        obtain rfl:=yb N
        have g2:=hD 2 (ye D 2 rfl) _ rfl
        clear D hD xk
        rw [if_pos (by rfl)];unfold Oper.wp;go_simp
        exact ⟨upd f 3 (.bool true),by simp [upd,g2],zf (H ua) (H HD) (by decide) (yh rfl)⟩
       | 4,N =>
        obtain rfl:=yb N
        have g3:=hD 3 (ye D 3 rfl) _ rfl
        clear D hD xk
        rw [if_pos (by simp only [g3]; rfl)]
        unfold Oper.wp
        go_simp
        exact ⟨upd f 4 (J c8 3),by simp [upd,g3],zf (H ua) (H HD) (by decide) (yh rfl)⟩
       | 5,N =>
        obtain rfl:=yb N
        have g3:=hD 3 (ye D 3 rfl) _ rfl
        have g4:=hD 4 (ye D 4 rfl) _ rfl
        clear D hD xk
        rw [if_pos (by simp only [g3]; rfl)]
        unfold Oper.wp
        go_simp
        exact ⟨upd f 5 (I left),by simp [upd,g3,g4],zf (H ua) (H HD) (by decide) (yh rfl)⟩
       | 6,N =>
        obtain rfl:=yb N
        have g3:=hD 3 (ye D 3 rfl) _ rfl
        have g5:=hD 5 (ye D 5 rfl) _ rfl
        clear D hD xk
        rw [if_pos (by simp only [g3]; rfl)]
        unfold Oper.wp
        go_simp
        exact ⟨upd f 6 (.bool true),by simp [upd,g3,g5],zf (H ua) (H HD) (by decide) (yh rfl)⟩
       | 7,N =>
        obtain rfl:=yb N
        have g3:=hD 3 (ye D 3 rfl) _ rfl
        have g6:=hD 6 (ye D 6 rfl) _ rfl
        clear D hD xk
        rw [if_pos (by rfl)];unfold Oper.wp;go_simp
        exact ⟨upd f 7 (.bool true),by simp [upd,g3,g6],zf (H ua) (H HD) (by decide) (yh rfl)⟩
       | 8,N =>
        obtain rfl:=yb N
        have g7:=hD 7 (ye D 7 rfl) _ rfl
        clear D hD xk
        rw [if_pos (by rfl)];unfold Oper.wp;go_simp
        exact ⟨upd f 8 (.bool true),by simp [upd,g7],zf (H ua) (H HD) (by decide) (yh rfl)⟩
       | 9,N =>
        obtain rfl:=yb N
        have g8:=hD 8 (ye D 8 rfl) _ rfl
        clear D hD xk
        rw [if_pos (by simp only [g8]; rfl)]
        unfold Oper.wp
        go_simp
        exact ⟨upd f 9 (.slice al cs.length cal),by simp [upd,g8],zf (H ua) (H HD) (by decide) (yh rfl)⟩
       | 10,N =>
        obtain rfl:=yb N
        have g8:=hD 8 (ye D 8 rfl) _ rfl
        have g9:=hD 9 (ye D 9 rfl) _ rfl
        clear D hD xk
        rw [if_pos (by simp only [g8]; rfl)]
        unfold Oper.wp
        go_simp
        exact ⟨upd f 10 (I cs.length),by simp [upd,g8,g9],zf (H ua) (H HD) (by decide) (yh rfl)⟩
       | 11,N =>
        obtain rfl:=yb N
        have g8:=hD 8 (ye D 8 rfl) _ rfl
        have qp:=hD 10 (ye D 10 rfl) _ rfl
        clear D hD xk
        rw [if_pos (by simp only [g8]; rfl)]
        unfold Oper.wp
        go_simp
        exact ⟨upd f 11 (.bool true),by simp [upd,g8,qp],zf (H ua) (H HD) (by decide) (yh rfl)⟩
       | 12,N =>
        obtain rfl:=yb N
        have g8:=hD 8 (ye D 8 rfl) _ rfl
        have vE:=hD 11 (ye D 11 rfl) _ rfl
        clear D hD xk
        rw [if_pos (by simp only [g8]; rfl)]
        unfold Oper.wp
        go_simp
        exact ⟨upd f 12 (.bool true),by simp [upd,g8,vE],zf (H ua) (H HD) (by decide) (yh rfl)⟩
       | 13,N | 14,N | 15,N | 16,N | 17,N | 18,N | 19,N | 20,N =>
        obtain rfl:=yb N
        have xZ:=hD 12 (ye D 12 rfl) _ rfl
        clear D hD xk
        rw [if_neg (by simp only [xZ]; exact fun h=>Bool.noConfusion (show (false:Bool) = true from h))]
        exact ⟨upd f _ Z,rfl,zf (H ua) (H HD) (by decide) (yh rfl)⟩
       | 21,N =>
        obtain rfl:=yb N
        have g8:=hD 8 (ye D 8 rfl) _ rfl
        have xZ:=hD 12 (ye D 12 rfl) _ rfl
        have g20:=hD 20 (ye D 20 rfl) _ rfl
        clear D hD xk
        rw [if_pos (by simp only [g8]; rfl)]
        unfold Oper.wp
        go_simp
        exact ⟨upd f 21 (.bool true),by simp [upd,g8,xZ,g20],zf (H ua) (H HD) (by decide) (yh rfl)⟩
       | 22,N =>
        obtain rfl:=yb N
        have g8:=hD 8 (ye D 8 rfl) _ rfl
        have g21:=hD 21 (ye D 21 rfl) _ rfl
        clear D hD xk
        rw [if_pos (by rfl)];unfold Oper.wp;go_simp
        exact ⟨upd f 22 (.bool true),by simp [upd,g8,g21],zf (H ua) (H HD) (by decide) (yh rfl)⟩
       | n + 23,N=>simp at N
     ·have pK:Hid (res = if decide (8 < ((nlev (cs ++ [⟨next,s,tt,left,li,tg⟩]):Nat):Int)) = true then 13 else 0):=(H HRS).trans (by
       rw [if_pos brs,if_pos pC,if_neg hl20]
       by_cases h8:8 < nlev (cs ++ [⟨next,s,tt,left,li,tg⟩])
       ·rw [if_pos h8,if_pos (by simp only [xf]; omega)]
       ·rw [if_neg h8,if_neg (by simp only [xf]; omega)])
      have HLV2:=M (fun (W:World) (v:Value) (hW:RdR Od.vs 6 W v (cs ++ [⟨next,s,tt,left,li,tg⟩]))=>l03Levels_any v (cs ++ [⟨next,s,tt,left,li,tg⟩]) W hW (by simp; omega))
      generalize ((nlev (cs ++ [⟨next,s,tt,left,li,tg⟩]):Nat):Int) = ho at pK HLV2
      have aK:¬ (cs.length:Int) = 20:=by omega
      have hb20:((cs.length:Int) == 20) = false:=by rw [xd]; exact aK
      have hlf':decide (0 < left) = true:=by simpa using pC
      obtain ⟨i0,vA,uL,uM,uF⟩:=info_parts Tryz.infoOrder
      clear hl20
      go_wp2_with fail
      refine zk (R9A (fun f=>{ tmps:=#[.agg #[I next,.slice a l.length cap],.agg (yx kk s ty li qt ii pr tg).toArray,J w.heap.size 0,J (w.heap.size + 1) 0,I 0,u5,u6,.slice al cs.length cal,J c8 0,.slice ae ts.length ce,u10,u11,u12,u13,u14,u15,u16,u17,u18,u19,u20,u21,u22,u23,u24,u25,u26,u27,u28,u29,u30,u31,u32,u33,u34,u35,u36,u37,u38,u39,u40,u41,u42,u43,u44,u45,u46,u47,u48,u49,u50,u51,u52,u53,u54,u55,u56,u57,u58,u59,u60,u61,u62,u63,u64,u65,u66,u67,u68,u69,u70,u71,u72,u73,u74,u75,u76,u77,u78,u79,u80,u81,u82,u83,u84,u85,u86,u87,u88,u89,u90,u91,u92,u93,u94,u95,u96,u97,u98,u99,u100,u101,u102,f 0,f 1,f 2,f 3,f 4,f 5,f 6,f 7,f 8,f 9,f 10,f 11,f 12,f 13,f 14,f 15,f 16,f 17,f 18,f 19,f 20,f 21,f 22],defers:=[] }) (C9 w.heap.size c8 ty left (.slice al cs.length cal) cs.length (.agg (yw next s tt left li tg).toArray) ho) xn cs ⟨next,s,tt,left,li,tg⟩) (by kernel_rfl) ?_ ?_ ?_
      ·exact ⟨fun j=>Z,rfl,⟨⟨rfl,rfl,rfl,Nat.le_refl _,fun _ _=>rfl⟩,fun j O=>by rw [yI] at O; split at O <;> simp at O,by simp,by simp,by simp,by simp⟩⟩
      ·rintro x fG V' ⟨f,rfl,K⟩ hx xN
       have xo:=zN xN hx (acyc _ (by kernel_rfl))
       have e22:f 22 = .bool (decide (8 < ho)):=K.c 22 (xo 22 (by simp))
       have xL:=M ((H xy).trans (K.bel.mono (H xy).size))
       simp only [e22]
       clear K xo e22 xN hx
       cases hd:decide (8 < ho)
       ·have po:Hid (res = 0):=(H pK).trans (by rw [hd]; rfl)
        go_wp2_with fail
        go_ret
        exact ⟨zy (H po).symm,H xL⟩
       ·have po:Hid (res = 13):=(H pK).trans (by rw [hd]; rfl)
        go_wp2_with fail
        go_ret
        exact ⟨zy (H po).symm,H xL⟩
      ·rintro x fG V' i' o' ⟨f,rfl,K⟩ V hx N xq D
       have xt:=M K
       have o2:V'.cell? (U (w.heap.size + 1) 2) = some (I ty):=zc (H HXV).2 K.bel hVS 2 _ rfl
       have HC9:=M (zc (H HC8) K.bel jp)
       have c3:V'.cell? (U c8 3) = some (I left):=H HC9 3 _ rfl
       have xk:=M K.bel
       clear HRS pK
       match i',N with
       | 0,N =>
        obtain rfl:=yb N
        clear D K V
        rw [if_pos (by rfl)];unfold Oper.wp;go_simp
        exact ⟨upd f 0 (J (w.heap.size + 1) 2),by simp [upd],bF (H xt) 0 _ rfl (by decide) (by decide) (by decide) (by decide)⟩
       | 1,N =>
        obtain rfl:=yb N
        have g0:f 0 = J (w.heap.size + 1) 2:=K.c 0 (ye D 0 rfl)
        clear D K V
        rw [if_pos (by rfl)];unfold Oper.wp;go_simp
        exact ⟨upd f 1 (I ty),by simp [upd,g0],bF (H xt) 1 _ rfl (by decide) (by decide) (by decide) (by decide)⟩
       | 2,N =>
        obtain rfl:=yb N
        have g1:f 1 = I ty:=K.c 1 (ye D 1 rfl)
        clear D K V
        rw [if_pos (by rfl)];unfold Oper.wp;go_simp
        refine (cT ty _).mono ?_
        rintro e w3 ⟨rfl,oR⟩
        rw [oR,brs]
        exact ⟨upd f 2 (.bool true),by simp [upd,g1],bF (H xt) 2 _ rfl (by decide) (by decide) (by decide) (by decide)⟩
       | 3,N =>
        obtain rfl:=yb N
        have g2:f 2 = .bool true:=K.c 2 (ye D 2 rfl)
        clear D K V
        rw [if_pos (by rfl)];unfold Oper.wp;go_simp
        exact ⟨upd f 3 (.bool true),by simp [upd,g2],bF (H xt) 3 _ rfl (by decide) (by decide) (by decide) (by decide)⟩
       | 4,N =>
        obtain rfl:=yb N
        have g3:f 3 = .bool true:=K.c 3 (ye D 3 rfl)
        clear D K V
        rw [if_pos (by simp only [g3]; rfl)]
        unfold Oper.wp
        go_simp
        exact ⟨upd f 4 (J c8 3),by simp [upd,g3],bF (H xt) 4 _ rfl (by decide) (by decide) (by decide) (by decide)⟩
       | 5,N =>
        obtain rfl:=yb N
        have g4:f 4 = J c8 3:=K.c 4 (ye D 4 rfl)
        have g3:f 3 = .bool true:=K.c 3 (ye D 3 rfl)
        clear D K V
        rw [if_pos (by simp only [g3]; rfl)]
        unfold Oper.wp
        go_simp
        exact ⟨upd f 5 (I left),by simp [upd,g4,g3],bF (H xt) 5 _ rfl (by decide) (by decide) (by decide) (by decide)⟩
       | 6,N =>
        obtain rfl:=yb N
        have g5:f 5 = I left:=K.c 5 (ye D 5 rfl)
        have g3:f 3 = .bool true:=K.c 3 (ye D 3 rfl)
        clear D K V
        rw [if_pos (by simp only [g3]; rfl)]
        unfold Oper.wp
        go_simp
        exact ⟨upd f 6 (.bool true),by simp [upd,g5,g3],bF (H xt) 6 _ rfl (by decide) (by decide) (by decide) (by decide)⟩
       | 7,N =>
        obtain rfl:=yb N
        have g3:f 3 = .bool true:=K.c 3 (ye D 3 rfl)
        have g6:f 6 = .bool true:=K.c 6 (ye D 6 rfl)
        clear D K V
        rw [if_pos (by rfl)];unfold Oper.wp;go_simp
        exact ⟨upd f 7 (.bool true),by simp [upd,g3,g6],bF (H xt) 7 _ rfl (by decide) (by decide) (by decide) (by decide)⟩
       | 8,N =>
        obtain rfl:=yb N
        have g7:f 7 = .bool true:=K.c 7 (ye D 7 rfl)
        clear D K V
        rw [if_pos (by rfl)];unfold Oper.wp;go_simp
        exact ⟨upd f 8 (.bool true),by simp [upd,g7],bF (H xt) 8 _ rfl (by decide) (by decide) (by decide) (by decide)⟩
       | 9,N =>
        obtain rfl:=yb N
        have g8:f 8 = .bool true:=K.c 8 (ye D 8 rfl)
        clear D K V
        rw [if_pos (by simp only [g8]; rfl)]
        unfold Oper.wp
        go_simp
        exact ⟨upd f 9 (.slice al cs.length cal),by simp [upd,g8],bF (H xt) 9 _ rfl (by decide) (by decide) (by decide) (by decide)⟩
       | 10,N =>
        obtain rfl:=yb N
        have g9:f 9 = .slice al cs.length cal:=K.c 9 (ye D 9 rfl)
        have g8:f 8 = .bool true:=K.c 8 (ye D 8 rfl)
        clear D K V
        rw [if_pos (by simp only [g8]; rfl)]
        unfold Oper.wp
        go_simp
        exact ⟨upd f 10 (I cs.length),by simp [upd,g9,g8],bF (H xt) 10 _ rfl (by decide) (by decide) (by decide) (by decide)⟩
       | 11,N =>
        obtain rfl:=yb N
        have qp:f 10 = I cs.length:=K.c 10 (ye D 10 rfl)
        have g8:f 8 = .bool true:=K.c 8 (ye D 8 rfl)
        clear D K V
        rw [if_pos (by simp only [g8]; rfl)]
        unfold Oper.wp
        go_simp
        exact ⟨upd f 11 (.bool false),by simp [upd,qp,g8],bF (H xt) 11 _ rfl (by decide) (by decide) (by decide) (by decide)⟩
       | 12,N =>
        obtain rfl:=yb N
        have vE:f 11 = .bool false:=K.c 11 (ye D 11 rfl)
        have g8:f 8 = .bool true:=K.c 8 (ye D 8 rfl)
        clear D K V
        rw [if_pos (by simp only [g8]; rfl)]
        unfold Oper.wp
        go_simp
        exact ⟨upd f 12 (.bool false),by simp [upd,vE,g8],bF (H xt) 12 _ rfl (by decide) (by decide) (by decide) (by decide)⟩
       | 13,N =>
        obtain rfl:=yb N
        have xZ:f 12 = .bool false:=K.c 12 (ye D 12 rfl)
        clear D K V
        rw [if_pos (by simp only [xZ]; rfl)]
        unfold Oper.wp
        go_simp
        exact ⟨upd f 13 (.slice (some (U V'.heap.size 0)) 0 0),by simp [upd,xZ],r9_13 (H xt) xq (fun _=>trivial)⟩
       | 14,N =>
        obtain rfl:=yb N
        have xZ:f 12 = .bool false:=K.c 12 (ye D 12 rfl)
        clear D K V
        rw [if_pos (by simp only [xZ]; rfl)]
        unfold Oper.wp
        go_simp
        exact ⟨upd f 14 (.slice al cs.length cal),by simp [upd,xZ],bF (H xt) 14 _ rfl (by decide) (by decide) (by decide) (by decide)⟩
       | 15,N =>
        obtain rfl:=yb N
        have xZ:f 12 = .bool false:=K.c 12 (ye D 12 rfl)
        have jf:f 14 = .slice al cs.length cal:=K.c 14 (ye D 14 rfl)
        have aP:x[13]? = some true:=D ⟨13,.data⟩ (by simp) rfl
        have n18:x[18]? = some false:=by
         rcases bB hx (show 18 < 23 by omega) with h | h
         ·exact h
         ·have:=yf V 18 rfl h 15 rfl
          rw [xq] at this; cases this
        have HO13:=M (K.m13 aP xq)
        have qP:Hid (∀ ad,al = some ad→∀ j u,(cs.flatMap Od.vs)[j]? = some u→V'.cell? (ad.add j) = some u):=fun ad had=>by
         have h:=zh (H HRL) (H xk) ya
         rw [had] at h
         exact rd_src h
        clear D K V
        rw [if_pos (by simp only [xZ]; rfl)]
        rcases H HSV with h | ⟨ad,nn,cc,h⟩
        ·simp only [Value.slice.injEq] at h
         have hL:cs = []:=List.length_eq_zero_iff.1 h.2.1
         refine eZ (.tmp 116) (.tmp 117) 32 rfl xn.heap.size 78 i0 6 Tryz.underlying32 vA (f 13) 0 [] rfl (H HO13) (by show f 14 = _; rw [jf,h.1,h.2.1,h.2.2]) ?_
         refine ⟨upd f 15 (f 13),rfl,r9_15 (H xt) aP xq n18 (fun _=>trivial) (by rw [hL]; exact H HO13) (yR _ _)⟩
        ·simp only [Value.slice.injEq] at h
         refine wp_append_own V' (.tmp 116) (.tmp 117) 32 rfl xn.heap.size 78 i0 _ 6 56 Tryz.underlying32 vA uL uM uF rfl (by decide) (f 13) 0 [] rfl (H HO13) ad cs.length cal (cs.flatMap Od.vs) (by show f 14 = _; rw [jf,h.1]) (by rw [zZ Od.len]) (H qP ad h.1) (cz cs) (by unfold maxLen; omega) (by omega) (H xk).size ?_
         intro v' w' xR vG _
         refine ⟨upd f 15 v',rfl,r9_15 (H xt) aP xq n18 (fun _=>trivial) ?_ vG⟩
         show w'.ownsRow _ _ _ _ cs.length _
         simpa using xR
       | 16,N =>
        obtain rfl:=yb N
        have xZ:f 12 = .bool false:=K.c 12 (ye D 12 rfl)
        obtain ⟨q0,q1,q2,q3,q4,q5⟩:=yC (H HC9)
        clear D K V
        rw [if_pos (by simp only [xZ]; rfl)]
        unfold Oper.wp
        go_simp
        exact ⟨upd f 16 (.agg (yw next s tt left li tg).toArray),by simp [upd,xZ],bF (H xt) 16 _ rfl (by decide) (by decide) (by decide) (by decide)⟩
       | 17,N =>
        obtain rfl:=yb N
        have xZ:f 12 = .bool false:=K.c 12 (ye D 12 rfl)
        have g16:f 16 = .agg (yw next s tt left li tg).toArray:=K.c 16 (ye D 16 rfl)
        have n18:x[18]? = some false:=by
         rcases bB hx (show 18 < 23 by omega) with h | h
         ·exact h
         ·have:=yf V 18 rfl h 17 rfl
          rw [xq] at this; cases this
        clear D K V
        rw [if_pos (by simp only [xZ]; rfl)]
        unfold Oper.wp
        go_simp
        exact ⟨upd f 17 (.slice (some (U V'.heap.size 0)) 1 1),by simp [upd,xZ,g16],r9_17 (H xt) xq n18 (fun _=>trivial)⟩
       | 18,N =>
        obtain rfl:=yb N
        have xZ:f 12 = .bool false:=K.c 12 (ye D 12 rfl)
        have qD:x[15]? = some true:=D ⟨15,.data⟩ (by simp) rfl
        obtain ⟨b,g17,ui,xJ,xM,-⟩:=K.m17 (ye D 17 rfl) xq
        have HO15:=M (K.m15 qD xq)
        have qP:Hid (∀ j u,(Od.vs ⟨next,s,tt,left,li,tg⟩)[j]? = some u→V'.cell? (((U b 0):Addr).add j) = some u):=fun j u hu=>by
         have:=xM j u hu
         rw [Addr.add_mid]; exact this
        clear D K V xM
        rw [if_pos (by simp only [xZ]; rfl)]
        refine wp_append_own V' (.tmp 118) (.tmp 120) 32 rfl xn.heap.size 78 i0 _ 6 56 Tryz.underlying32 vA uL uM uF rfl (by decide) (f 15) cs.length (cs.flatMap Od.vs) rfl (H HO15) (U b 0) 1 1 (Od.vs ⟨next,s,tt,left,li,tg⟩) (by show f 17 = _; exact g17) rfl (H qP) (one_od _) (by unfold maxLen; omega) (by omega) (H xk).size ?_
        intro v' w' xR vG _
        refine ⟨upd f 18 v',rfl,r9_18 (H xt) qD xq (fun _=>trivial) ?_ vG⟩
        show w'.ownsRow _ _ _ _ (cs ++ [(⟨next,s,tt,left,li,tg⟩:Od)]).length _
        rw [yP,List.flatMap_append]
        simpa using xR
       | 19,N =>
        obtain rfl:=yb N
        have xZ:f 12 = .bool false:=K.c 12 (ye D 12 rfl)
        have HO18:=M (K.m18 (ye D 18 rfl))
        clear D K V
        rw [if_pos (by simp only [xZ]; rfl)]
        unfold Oper.wp
        go_simp
        refine (H HLV2 V' (f 18) (zK (H HO18) (by simp; omega))).mono ?_
        rintro e w4 ⟨rfl,kM⟩
        exact ⟨upd f 19 (I ho),by simp [upd,xZ],bF (r9_grow (H xt) (dR kM (fun g hg=>by cases hg) ya)) 19 _ rfl (by decide) (by decide) (by decide) (by decide)⟩
       | 20,N =>
        obtain rfl:=yb N
        have g19:f 19 = I ho:=K.c 19 (ye D 19 rfl)
        have xZ:f 12 = .bool false:=K.c 12 (ye D 12 rfl)
        clear D K V
        rw [if_pos (by simp only [xZ]; rfl)]
        unfold Oper.wp
        go_simp
        exact ⟨upd f 20 (.bool (decide (8 < ho))),by simp [upd,g19,xZ],bF (H xt) 20 _ rfl (by decide) (by decide) (by decide) (by decide)⟩
       | 21,N =>
        obtain rfl:=yb N
        have xZ:f 12 = .bool false:=K.c 12 (ye D 12 rfl)
        have g20:f 20 = .bool (decide (8 < ho)):=K.c 20 (ye D 20 rfl)
        have g8:f 8 = .bool true:=K.c 8 (ye D 8 rfl)
        clear D K V
        rw [if_pos (by simp only [g8]; rfl)]
        unfold Oper.wp
        go_simp
        exact ⟨upd f 21 (.bool (decide (8 < ho))),by simp [upd,xZ,g20,g8],bF (H xt) 21 _ rfl (by decide) (by decide) (by decide) (by decide)⟩
       | 22,N =>
        obtain rfl:=yb N
        have g8:f 8 = .bool true:=K.c 8 (ye D 8 rfl)
        have g21:f 21 = .bool (decide (8 < ho)):=K.c 21 (ye D 21 rfl)
        clear D K V
        rw [if_pos (by rfl)];unfold Oper.wp;go_simp
        exact ⟨upd f 22 (.bool (decide (8 < ho))),by simp [upd,g8,g21],bF (H xt) 22 _ rfl (by decide) (by decide) (by decide) (by decide)⟩
       | n + 23,N=>simp at N
    ·have pK:Hid (res = 0):=(H HRS).trans (by rw [if_pos brs,if_neg pC])
     have hlf':decide (0 < left) = false:=by simpa using pC
     go_wp2_with fail
     refine zk (RG xn (fun f=>{ tmps:=#[.agg #[I next,.slice a l.length cap],.agg (yx kk s ty li qt ii pr tg).toArray,J w.heap.size 0,J (w.heap.size + 1) 0,I 0,u5,u6,.slice al cs.length cal,J c8 0,.slice ae ts.length ce,u10,u11,u12,u13,u14,u15,u16,u17,u18,u19,u20,u21,u22,u23,u24,u25,u26,u27,u28,u29,u30,u31,u32,u33,u34,u35,u36,u37,u38,u39,u40,u41,u42,u43,u44,u45,u46,u47,u48,u49,u50,u51,u52,u53,u54,u55,u56,u57,u58,u59,u60,u61,u62,u63,u64,u65,u66,u67,u68,u69,u70,u71,u72,u73,u74,u75,u76,u77,u78,u79,u80,u81,u82,u83,u84,u85,u86,u87,u88,u89,u90,u91,u92,u93,u94,u95,u96,u97,u98,u99,u100,u101,u102,f 0,f 1,f 2,f 3,f 4,f 5,f 6,f 7,f 8,f 9,f 10,f 11,f 12,f 13,f 14,f 15,f 16,f 17,f 18,f 19,f 20,f 21,f 22],defers:=[] }) 99 (DV [J (w.heap.size + 1) 2,I ty,.bool true,.bool true,J c8 3,I left,.bool false,.bool false,.bool false,Z,Z,Z,Z,Z,Z,Z,Z,Z,Z,Z,Z,Z,.bool false])) (by kernel_rfl) ?_ ?_ ?_
     ·exact ⟨fun _=>Z,rfl,⟨rfl,rfl,rfl,Nat.le_refl _,fun _ _=>rfl⟩,fun j O=>by rw [yI] at O; split at O <;> simp at O⟩
     ·rintro x fG V' ⟨f,rfl,xk,hD⟩ hx xN
      have xo:=zN xN hx (acyc _ (by kernel_rfl))
      have e22:f 22 = .bool false:=hD 22 (xo 22 (by simp)) _ rfl
      have xL:=M (fH (H xy) xk)
      simp only [e22]
      clear hD xo e22 xN hx xk
      go_wp2_with fail
      go_ret
      exact ⟨zy (H pK).symm,H xL⟩
     ·rintro x fG V' i' o' ⟨f,rfl,xk,hD⟩ V hx N xq D
      clear V
      have ua:=M xk
      have HD:=M hD
      have o2:V'.cell? (U (w.heap.size + 1) 2) = some (I ty):=zc (H HXV).2 xk hVS 2 _ rfl
      have c3:V'.cell? (U c8 3) = some (I left):=zc (H HC8) xk jp 3 _ rfl
      clear HRS pK
      match i',N with
      | 0,N =>
       obtain rfl:=yb N
       clear D hD xk
       rw [if_pos (by rfl)];unfold Oper.wp;go_simp
       exact ⟨upd f 0 (J (w.heap.size + 1) 2),by simp [upd],zf (H ua) (H HD) (by decide) (yh rfl)⟩
      | 1,N =>
       obtain rfl:=yb N
       have g0:=hD 0 (ye D 0 rfl) _ rfl
       clear D hD xk
       rw [if_pos (by rfl)];unfold Oper.wp;go_simp
       exact ⟨upd f 1 (I ty),by simp [upd,g0],zf (H ua) (H HD) (by decide) (yh rfl)⟩
      | 2,N =>
       obtain rfl:=yb N
       have g1:=hD 1 (ye D 1 rfl) _ rfl
       clear D hD xk
       rw [if_pos (by rfl)];unfold Oper.wp;go_simp
       refine (cT ty _).mono ?_
       rintro e w3 ⟨rfl,oR⟩
       rw [oR,brs]
       exact ⟨upd f 2 (.bool true),by simp [upd,g1],zf (H ua) (H HD) (by decide) (yh rfl)⟩
      | 3,N =>
       obtain rfl:=yb N
       have g2:=hD 2 (ye D 2 rfl) _ rfl
       clear D hD xk
       rw [if_pos (by rfl)];unfold Oper.wp;go_simp
       exact ⟨upd f 3 (.bool true),by simp [upd,g2],zf (H ua) (H HD) (by decide) (yh rfl)⟩
      | 4,N =>
       obtain rfl:=yb N
       have g3:=hD 3 (ye D 3 rfl) _ rfl
       clear D hD xk
       rw [if_pos (by simp only [g3]; rfl)]
       unfold Oper.wp
       go_simp
       exact ⟨upd f 4 (J c8 3),by simp [upd,g3],zf (H ua) (H HD) (by decide) (yh rfl)⟩
      | 5,N =>
       obtain rfl:=yb N
       have g3:=hD 3 (ye D 3 rfl) _ rfl
       have g4:=hD 4 (ye D 4 rfl) _ rfl
       clear D hD xk
       rw [if_pos (by simp only [g3]; rfl)]
       unfold Oper.wp
       go_simp
       exact ⟨upd f 5 (I left),by simp [upd,g3,g4],zf (H ua) (H HD) (by decide) (yh rfl)⟩
      | 6,N =>
       obtain rfl:=yb N
       have g3:=hD 3 (ye D 3 rfl) _ rfl
       have g5:=hD 5 (ye D 5 rfl) _ rfl
       clear D hD xk
       rw [if_pos (by simp only [g3]; rfl)]
       unfold Oper.wp
       go_simp
       exact ⟨upd f 6 (.bool false),by simp [upd,g3,g5],zf (H ua) (H HD) (by decide) (yh rfl)⟩
      | 7,N =>
       obtain rfl:=yb N
       have g3:=hD 3 (ye D 3 rfl) _ rfl
       have g6:=hD 6 (ye D 6 rfl) _ rfl
       clear D hD xk
       rw [if_pos (by rfl)];unfold Oper.wp;go_simp
       exact ⟨upd f 7 (.bool false),by simp [upd,g3,g6],zf (H ua) (H HD) (by decide) (yh rfl)⟩
      | 8,N =>
       obtain rfl:=yb N
       have g7:=hD 7 (ye D 7 rfl) _ rfl
       clear D hD xk
       rw [if_pos (by rfl)];unfold Oper.wp;go_simp
       exact ⟨upd f 8 (.bool false),by simp [upd,g7],zf (H ua) (H HD) (by decide) (yh rfl)⟩
      | 9,N | 10,N | 11,N | 12,N | 21,N =>
       obtain rfl:=yb N
       have g8:=hD 8 (ye D 8 rfl) _ rfl
       clear D hD xk
       rw [if_neg (by simp only [g8]; exact fun h=>Bool.noConfusion (show (false:Bool) = true from h))]
       exact ⟨upd f _ Z,rfl,zf (H ua) (H HD) (by decide) (yh rfl)⟩
      | 13,N | 14,N | 15,N | 16,N | 17,N | 18,N | 19,N | 20,N =>
       obtain rfl:=yb N
       have xZ:=hD 12 (ye D 12 rfl) _ rfl
       clear D hD xk
       rw [if_neg (by simp only [xZ]; exact fun h=>Bool.noConfusion (show (false:Bool) = true from h))]
       exact ⟨upd f _ Z,rfl,zf (H ua) (H HD) (by decide) (yh rfl)⟩
      | 22,N =>
       obtain rfl:=yb N
       have g8:=hD 8 (ye D 8 rfl) _ rfl
       have g21:=hD 21 (ye D 21 rfl) _ rfl
       clear D hD xk
       rw [if_pos (by rfl)];unfold Oper.wp;go_simp
       exact ⟨upd f 22 (.bool false),by simp [upd,g8,g21],zf (H ua) (H HD) (by decide) (yh rfl)⟩
      | n + 23,N=>simp at N
   clear xU
   have HTN:Hid (¬ (ty = 5∧0 < ts.length)→¬ (ty = 4∧0 < left)→next = 1000000→res = 13):=fun g5 g4 gn=>by
    have:=H ku
    rw [if_neg g5,if_neg g4,if_pos gn] at this
    exact this
   by_cases h5:ty = 5
   ·by_cases hts:0 < ts.length
    ·have po:Hid (res = 11):=(H ku).trans (if_pos ⟨h5,hts⟩)
     subst h5
     have hts':(0:Int) < ts.length:=by omega
     clear hts ux HTN
     go_wp2_with fail
     go_ret
     exact ⟨zy (H po).symm,H xy⟩
    ·subst h5
     have g5:¬ ((5:Int) = 5∧0 < ts.length):=fun h=>hts h.2
     have g4:¬ ((5:Int) = 4∧0 < left):=fun h=>by omega
     have hts':¬ (0:Int) < ts.length:=by omega
     have htz:(ts.length:Int) = 0:=by omega
     by_cases qe:next = 1000000
     ·have po:=M (H HTN g5 g4 qe)
      subst qe
      clear ux HTN g5 g4
      go_wp2_with fail
      go_ret
      exact ⟨zy (H po).symm,H xy⟩
     have bn:(next == 1000000) = false:=by rw [xd]; exact qe
     have ju:=M (H ux g5 g4 qe)
     clear ux HTN g5 g4 qe
     go_wp2_with fail
     exact H ju _ _ _ _ _ _ _ _ _ _ _ _ _ _ _ _ _ _ _ _ _ _ _ _ _ _ _ _ _ _ _ _ _ _ _ _ _ _ _ _ _ _ _ _ _ _ _ _ _ _ _ _ _ _ _ _ _ _ _ _ _ _ _ _ _ _ _ _ _ _ _ _ _ _ _ _ _ _ _ _ _ _ _ _ _ _ _ _ _ _ _ _ _ _ _
   ·have b5:(ty == 5) = false:=by rw [xd]; exact h5
    have g5:¬ (ty = 5∧0 < ts.length):=fun h=>h5 h.1
    by_cases h4:ty = 4
    ·by_cases pC:0 < left
     ·have po:Hid (res = 12):=(H ku).trans (by rw [if_neg g5,if_pos ⟨h4,pC⟩])
      subst h4
      clear ux HTN h5 g5 b5
      go_wp2_with fail
      go_ret
      exact ⟨zy (H po).symm,H xy⟩
     ·subst h4
      have g4:¬ ((4:Int) = 4∧0 < left):=fun h=>pC h.2
      by_cases qe:next = 1000000
      ·have po:=M (H HTN g5 g4 qe)
       subst qe
       clear ux HTN g5 g4
       go_wp2_with fail
       go_ret
       exact ⟨zy (H po).symm,H xy⟩
      have bn:(next == 1000000) = false:=by rw [xd]; exact qe
      have ju:=M (H ux g5 g4 qe)
      clear ux HTN g5 g4 qe
      go_wp2_with fail
      exact H ju _ _ _ _ _ _ _ _ _ _ _ _ _ _ _ _ _ _ _ _ _ _ _ _ _ _ _ _ _ _ _ _ _ _ _ _ _ _ _ _ _ _ _ _ _ _ _ _ _ _ _ _ _ _ _ _ _ _ _ _ _ _ _ _ _ _ _ _ _ _ _ _ _ _ _ _ _ _ _ _ _ _ _ _ _ _ _ _ _ _ _ _ _ _ _
    ·have b4:(ty == 4) = false:=by rw [xd]; exact h4
     have g4:¬ (ty = 4∧0 < left):=fun h=>h4 h.1
     by_cases qe:next = 1000000
     ·have po:=M (H HTN g5 g4 qe)
      subst qe
      clear ux HTN g5 g4
      go_wp2_with fail
      go_ret
      exact ⟨zy (H po).symm,H xy⟩
     have bn:(next == 1000000) = false:=by rw [xd]; exact qe
     have ju:=M (H ux g5 g4 qe)
     clear ux HTN g5 g4 qe
     go_wp2_with fail
     exact H ju _ _ _ _ _ _ _ _ _ _ _ _ _ _ _ _ _ _ _ _ _ _ _ _ _ _ _ _ _ _ _ _ _ _ _ _ _ _ _ _ _ _ _ _ _ _ _ _ _ _ _ _ _ _ _ _ _ _ _ _ _ _ _ _ _ _ _ _ _ _ _ _ _ _ _ _ _ _ _ _ _ _ _ _ _ _ _ _ _ _ _ _ _ _ _
  ·rintro x fG xn i' o' ⟨f,rfl,K⟩ V hx N xq D
   have xt:=M K
   have xk:=K.bel
   have xI:=H uu
   clear xU
   match i',N with
   | 0,N =>
    obtain rfl:=yb N
    clear D K V
    rw [if_pos (by rfl)];unfold Oper.wp;go_simp
    exact ⟨upd f 0 (J w.heap.size 1),by simp [upd],cF (H xt) 0 _ (by decide) (by decide) (by decide) (rfl)⟩
   | 1,N =>
    obtain rfl:=yb N
    have g0:f 0 = J w.heap.size 1:=K.e 0 (ye D 0 rfl)
    have z1:xn.cell? (U w.heap.size 1) = some (.slice a l.length cap):=zc (H HX).1 xk (by omega) 1 _ rfl
    clear D K V
    rw [if_pos (by rfl)];unfold Oper.wp;go_simp
    exact ⟨upd f 1 (.slice a l.length cap),by simp [upd,g0],cF (H xt) 1 _ (by decide) (by decide) (by decide) (rfl)⟩
   | 2,N =>
    obtain rfl:=yb N
    have z0:xn.cell? (U w.heap.size 0) = some (I next):=zc (H HX).1 xk (by omega) 0 _ rfl
    have z1:xn.cell? (U w.heap.size 1) = some (.slice a l.length cap):=zc (H HX).1 xk (by omega) 1 _ rfl
    clear D K V
    rw [if_pos (by rfl)];unfold Oper.wp;go_simp
    exact ⟨upd f 2 (.agg #[I next,.slice a l.length cap]),by simp [upd],cF (H xt) 2 _ (by decide) (by decide) (by decide) (rfl)⟩
   | 3,N =>
    obtain rfl:=yb N
    obtain ⟨z0,z1,z2,z3,z4,z5,z6,z7⟩:=yD (zc (H HX).2 xk (by omega))
    clear D K V
    rw [if_pos (by rfl)];unfold Oper.wp;go_simp
    exact ⟨upd f 3 (.agg (yx kk s ty li qt ii pr tg).toArray),by simp [upd],cF (H xt) 3 _ (by decide) (by decide) (by decide) (rfl)⟩
   | 4,N =>
    obtain rfl:=yb N
    have g2:f 2 = .agg #[I next,.slice a l.length cap]:=K.e 2 (ye D 2 rfl)
    have g3:f 3 = .agg (yx kk s ty li qt ii pr tg).toArray:=K.e 3 (ye D 3 rfl)
    clear D K V
    rw [if_pos (by rfl)];unfold Oper.wp;go_simp
    refine (H HTKR _).mono ?_
    rintro e w4 ⟨rfl,xw⟩
    exact ⟨upd f 4 (.agg (yw next s tt qt li tg).toArray),by simp [upd,g2,g3],cF (rn_grow (H xt) xw) 4 _ (by decide) (by decide) (by decide) rfl⟩
   | 5,N =>
    obtain rfl:=yb N
    have g1:f 1 = .slice a l.length cap:=K.e 1 (ye D 1 rfl)
    have g4:f 4 = .agg (yw next s tt qt li tg).toArray:=K.e 4 (ye D 4 rfl)
    have vL:∀ j,(j = 6 ∨ j = 7 ∨ j = 9 ∨ j = 11 ∨ j = 13)→x[j]? ≠ some true:=fun j O e=>by
     have h6:x[6]? ≠ some true:=fun e6=>by have:=yf V 6 rfl e6 5 rfl; rw [xq] at this; cases this
     rcases O with rfl | rfl | rfl | rfl | rfl
     ·exact h6 e
     ·exact h6 (yf V 7 rfl e 6 rfl)
     ·exact h6 (yf V 9 rfl e 6 rfl)
     ·exact h6 (yf V 11 rfl e 6 rfl)
     ·exact h6 (yf V 13 rfl e 6 rfl)
    have HNO:=M vL
    have ql:=M (zh (zh (H HR) (H xu) ya) xk ya)
    clear D K V vL
    rw [if_pos (by rfl)];unfold Oper.wp;go_simp
    refine (H HMT xn (H ql)).mono ?_
    rintro e w4 ⟨lv,ve,rfl,hl4,he4,xw⟩
    refine ⟨upd f 5 (.tuple #[lv,.agg (yw next s tt left li tg).toArray,ve]),by simp [upd,g1,g4],rn_5 (H xt) xw ?_ ?_ (H HNO) ?_⟩
    ·rcases hl4 with ⟨rfl,hL⟩ | h
     ·simp only at hL; rw [hL]; exact ⟨zh (H ql) xw ya,H km⟩
     ·exact ⟨zK h (by have h20:cs.length ≤ 20:=(H kL).1.len; show cs.length ≤ _; omega),oRow_sl h⟩
    ·rcases he4.2 with ⟨Q,E⟩ | ⟨g,uD,xF,Q,_⟩
     ·exact ⟨none,0,by rw [Q]; simp only at E; rw [E]⟩
     ·exact ⟨_,_,Q⟩
    ·intro c8 kE jp xD e
     rcases hl4 with ⟨rfl,hL⟩ | h
     ·simp only at hL
      obtain ⟨b,ui,xJ⟩:=rd_block (H HR) (by rw [← hL]; exact xD)
      rw [ui] at e
      simp only [Option.some.injEq] at e
      have:=(H xu).size
      omega
     ·have:=(h.lt c8 e).1
      omega
   | 6,N =>
    obtain rfl:=yb N
    clear D K V
    rw [if_pos (by rfl)];unfold Oper.wp;go_simp
    exact ⟨upd f 6 (f 5),by simp [upd],cF (H xt) 6 _ (by decide) (by decide) (by decide) (rfl)⟩
   | 7,N =>
    obtain rfl:=yb N
    obtain ⟨lv,ev,e5,-⟩:=K.m5 (yf V 6 rfl (ye D 6 rfl) 5 rfl)
    have g6:f 6 = f 5:=K.e 6 (ye D 6 rfl)
    rw [e5] at g6
    clear D K V
    rw [if_pos (by rfl)];unfold Oper.wp;go_simp
    exact ⟨upd f 7 lv,by simp [upd,g6,e5],cF (H xt) 7 _ (by decide) (by decide) (by decide) ⟨lv,ev,e5,rfl⟩⟩
   | 8,N =>
    obtain rfl:=yb N
    obtain ⟨lv,ev,e5,-⟩:=K.m5 (yf V 6 rfl (ye D 6 rfl) 5 rfl)
    have g6:f 6 = f 5:=K.e 6 (ye D 6 rfl)
    rw [e5] at g6
    clear D K V
    rw [if_pos (by rfl)];unfold Oper.wp;go_simp
    exact ⟨upd f 8 (.agg (yw next s tt left li tg).toArray),by simp [upd,g6,e5],cF (H xt) 8 _ (by decide) (by decide) (by decide) rfl⟩
   | 9,N =>
    obtain rfl:=yb N
    obtain ⟨lv,ev,e5,-⟩:=K.m5 (yf V 6 rfl (ye D 6 rfl) 5 rfl)
    have g6:f 6 = f 5:=K.e 6 (ye D 6 rfl)
    rw [e5] at g6
    clear D K V
    rw [if_pos (by rfl)];unfold Oper.wp;go_simp
    exact ⟨upd f 9 ev,by simp [upd,g6,e5],cF (H xt) 9 _ (by decide) (by decide) (by decide) ⟨lv,ev,e5,rfl⟩⟩
   | 10,N =>
    obtain rfl:=yb N
    have vr:x[12]? ≠ some true:=fun e=>by have:=yf V 12 rfl e 10 rfl; rw [xq] at this; cases this
    clear D K V
    rw [if_pos (by rfl)];unfold Oper.wp;go_simp
    exact ⟨upd f 10 (J xn.heap.size 0),by simp [upd],rn_10 (H xt) vr (zY xn (yw 0 0 0 0 0 ⟨#[]⟩) _)⟩
   | 11,N =>
    obtain rfl:=yb N
    obtain ⟨lv,ev,e5,e7⟩:=K.e 7 (ye D 7 rfl)
    clear D K V
    rw [if_pos (by rfl)];unfold Oper.wp;go_simp
    exact ⟨upd f 11 lv,by simp [upd,e7,e5],cF (H xt) 11 _ (by decide) (by decide) (by decide) ⟨lv,ev,e5,rfl⟩⟩
   | 12,N =>
    obtain rfl:=yb N
    have k5:x[5]? = some true:=D ⟨5,.phase⟩ (by simp) rfl
    have k10:x[10]? = some true:=D ⟨10,.data⟩ (by simp) rfl
    have g8:f 8 = .agg (yw next s tt left li tg).toArray:=K.e 8 (ye D 8 rfl)
    obtain ⟨c8,qp,kE,jp,xY,-⟩:=K.m10 k10
    obtain ⟨y0,z0,q0⟩:=zm xY (j:=0) (by omega)
    obtain ⟨y1,z1,q1⟩:=zm xY (j:=1) (by omega)
    obtain ⟨y2,z2,q2⟩:=zm xY (j:=2) (by omega)
    obtain ⟨y3,z3,q3⟩:=zm xY (j:=3) (by omega)
    obtain ⟨y4,z4,q4⟩:=zm xY (j:=4) (by omega)
    obtain ⟨y5,z5,q5⟩:=zm xY (j:=5) (by omega)
    clear D K V xY
    rw [if_pos (by rfl)];unfold Oper.wp;go_simp
    exact ⟨f,by simp [g8,qp],rn_12 (H xt) k5 k10 qp rfl xq⟩
   | 13,N =>
    obtain rfl:=yb N
    obtain ⟨lv,ev,e5,e9⟩:=K.e 9 (ye D 9 rfl)
    clear D K V
    rw [if_pos (by rfl)];unfold Oper.wp;go_simp
    exact ⟨upd f 13 ev,by simp [upd,e9,e5],cF (H xt) 13 _ (by decide) (by decide) (by decide) ⟨lv,ev,e5,rfl⟩⟩
   | n + 14,N=>simp at N
 clear xU
 cases bl:betB li 0 1
 have hl:lifW ⟨kk,s,ty,li,qt,ii,pr,tg⟩ = true:=by simp [lifW,bl]
 have HK:Hid (newR next l ⟨kk,s,ty,li,qt,ii,pr,tg⟩ = 5):=by show _ = _; simp [newR,bs,bt,hl]
 clear hl
 rotate_left
 by_cases Q:li = 1
 subst Q
 cases brs:ba ty
 have hl:lifW ⟨kk,s,ty,1,qt,ii,pr,tg⟩ = true:=by simp [lifW,brs]
 have HK:Hid (newR next l ⟨kk,s,ty,1,qt,ii,pr,tg⟩ = 5):=by show _ = _; simp [newR,bs,bt,hl]
 clear hl
 rotate_left
 have hl:lifW ⟨kk,s,ty,1,qt,ii,pr,tg⟩ = false:=by simp [lifW,brs,bl]
 by_cases E:ty = 2
 subst E
 by_cases hz:fbit pr = 0
 have hp:prcB ⟨kk,s,2,1,qt,ii,pr,tg⟩ = true:=by simp [prcB,hz]
 have dz:decide (fbit pr = 0) = true:=by simpa using hz
 clear hz
 cases bq:betB qt 1 1000000
 have HK:Hid (newR next l ⟨kk,s,2,1,qt,ii,pr,tg⟩ = 7):=by show _ = _; simp [newR,bs,bt,hl,hp,bq]
 clear hl hp
 rotate_left
 cases bg:tagB tg
 have HK:Hid (newR next l ⟨kk,s,2,1,qt,ii,pr,tg⟩ = 8):=by show _ = _; simp [newR,bs,bt,hl,hp,bq,bg]
 clear hl hp
 rotate_left
 have ux:=M (H HT hl hp bq bg)
 clear HT hl hp
 rotate_left
 have hp:prcB ⟨kk,s,2,1,qt,ii,pr,tg⟩ = false:=by simp [prcB,hz]
 have dz:decide (fbit pr = 0) = false:=by simpa using hz
 clear hz
 have HK:Hid (newR next l ⟨kk,s,2,1,qt,ii,pr,tg⟩ = 6):=by show _ = _; simp [newR,bs,bt,hl,hp]
 clear hl hp
 rotate_left
 have b2:(ty == 2) = false:=by rw [xd]; exact E
 have b2n:(ty != 2) = true:=by simpa using E
 cases bk:tkOk pr
 have hp:prcB ⟨kk,s,ty,1,qt,ii,pr,tg⟩ = false:=by simp [prcB,E,bk]
 have HK:Hid (newR next l ⟨kk,s,ty,1,qt,ii,pr,tg⟩ = 6):=by show _ = _; simp [newR,bs,bt,hl,hp]
 clear hl hp E
 rotate_left
 have hp:prcB ⟨kk,s,ty,1,qt,ii,pr,tg⟩ = true:=by simp [prcB,E,bk]
 clear E
 cases bq:betB qt 1 1000000
 have HK:Hid (newR next l ⟨kk,s,ty,1,qt,ii,pr,tg⟩ = 7):=by show _ = _; simp [newR,bs,bt,hl,hp,bq]
 clear hl hp
 rotate_left
 cases bg:tagB tg
 have HK:Hid (newR next l ⟨kk,s,ty,1,qt,ii,pr,tg⟩ = 8):=by show _ = _; simp [newR,bs,bt,hl,hp,bq,bg]
 clear hl hp
 rotate_left
 have ux:=M (H HT hl hp bq bg)
 clear HT hl hp
 rotate_left
 have hl:lifW ⟨kk,s,ty,li,qt,ii,pr,tg⟩ = false:=by simp [lifW,bl,Q]
 have b1:(li == 1) = false:=by rw [xd]; exact Q
 clear Q
 by_cases E:ty = 2
 subst E
 by_cases hz:fbit pr = 0
 have hp:prcB ⟨kk,s,2,li,qt,ii,pr,tg⟩ = true:=by simp [prcB,hz]
 have dz:decide (fbit pr = 0) = true:=by simpa using hz
 clear hz
 cases bq:betB qt 1 1000000
 have HK:Hid (newR next l ⟨kk,s,2,li,qt,ii,pr,tg⟩ = 7):=by show _ = _; simp [newR,bs,bt,hl,hp,bq]
 clear hl hp
 rotate_left
 cases bg:tagB tg
 have HK:Hid (newR next l ⟨kk,s,2,li,qt,ii,pr,tg⟩ = 8):=by show _ = _; simp [newR,bs,bt,hl,hp,bq,bg]
 clear hl hp
 rotate_left
 have ux:=M (H HT hl hp bq bg)
 clear HT hl hp
 rotate_left
 have hp:prcB ⟨kk,s,2,li,qt,ii,pr,tg⟩ = false:=by simp [prcB,hz]
 have dz:decide (fbit pr = 0) = false:=by simpa using hz
 clear hz
 have HK:Hid (newR next l ⟨kk,s,2,li,qt,ii,pr,tg⟩ = 6):=by show _ = _; simp [newR,bs,bt,hl,hp]
 clear hl hp
 rotate_left
 have b2:(ty == 2) = false:=by rw [xd]; exact E
 have b2n:(ty != 2) = true:=by simpa using E
 cases bk:tkOk pr
 have hp:prcB ⟨kk,s,ty,li,qt,ii,pr,tg⟩ = false:=by simp [prcB,E,bk]
 have HK:Hid (newR next l ⟨kk,s,ty,li,qt,ii,pr,tg⟩ = 6):=by show _ = _; simp [newR,bs,bt,hl,hp]
 clear hl hp E
 rotate_left
 have hp:prcB ⟨kk,s,ty,li,qt,ii,pr,tg⟩ = true:=by simp [prcB,E,bk]
 clear E
 cases bq:betB qt 1 1000000
 have HK:Hid (newR next l ⟨kk,s,ty,li,qt,ii,pr,tg⟩ = 7):=by show _ = _; simp [newR,bs,bt,hl,hp,bq]
 clear hl hp
 rotate_left
 cases bg:tagB tg
 have HK:Hid (newR next l ⟨kk,s,ty,li,qt,ii,pr,tg⟩ = 8):=by show _ = _; simp [newR,bs,bt,hl,hp,bq,bg]
 clear hl hp
 rotate_left
 have ux:=M (H HT hl hp bq bg)
 clear HT hl hp
 all_goals
  go_wp2_with (first | (go_at_call 124; refine (H uU _).mono ?_; rintro e w' ⟨rfl,un⟩; rw [un]; clear un w') | (go_at_call 47; refine (bP _ _ _ _).mono ?_; rintro e w' ⟨rfl,un⟩; rw [un]; clear un w') | (go_at_call 54; refine (cT _ _).mono ?_; rintro e w' ⟨rfl,un⟩; rw [un]; clear un w') | (go_at_call 182; refine (H HZR _).mono ?_; rintro e w' ⟨rfl,un⟩; rw [un]; clear un w') | (go_at_call 74; refine (H aD _).mono ?_; rintro e w' ⟨rfl,un⟩; rw [un]; clear un w'))
  first
  | exact H ux _ _ _ _ _ _ _ _ _ _ _ _ _ _ _ _ _ _ _ _ _ _ _ _ _ _ _ _ _ _ _ _ _ _ _ _ _ _ _ _ _ _ _ _ _ _ _ _ _ _ _ _ _ _ _ _ _ _ _ _ _ _ _
  | (go_ret; exact ⟨zy (H HK).symm,H xu⟩)
end Go.Proofs.YtnphbkgfjanmgaaGreatDoor
