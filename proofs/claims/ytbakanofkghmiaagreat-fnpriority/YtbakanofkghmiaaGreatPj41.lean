/-
  Why a new order is refused, by the model: proved by walking the function.
-/
import Derived.Test.YtbakanofkghmiaaGreatPj37
import Derived.Test.YtbakanofkghmiaaGreatPj40
set_option linter.unusedVariables false
set_option maxHeartbeats 6400000
set_option maxRecDepth 100000
namespace Go.Proofs.YtbakanofkghmiaaGreat
open Go.RowKit
def EN (S:Nat) (vb bv cv ta tw u5:Value):Nat→Value→Prop
 | 0,v=>v = I S 1
 | 1,v=>v = vb
 | 2,v=>v = bv
 | 3,v=>v = cv
 | 4,v=>v = ta
 | 6,v=>v = u5
 | 7,v=>∃ lv ev,u5 = .tuple #[lv,tw,ev]∧v = lv
 | 8,v=>v = tw
 | 9,v=>∃ lv ev,u5 = .tuple #[lv,tw,ev]∧v = ev
 | 11,v=>∃ lv ev,u5 = .tuple #[lv,tw,ev]∧v = lv
 | 13,v=>∃ lv ev,u5 = .tuple #[lv,tw,ev]∧v = ev
 | _,_=>True
theorem en_any {S:Nat} {vb bv cv ta tw u u':Value} {j:Nat} {v:Value} (h:EN S vb bv cv ta tw u j v) (h6:j ≠ 6) (h7:j ≠ 7) (h9:j ≠ 9) (uL:j ≠ 11) (jA:j ≠ 13):EN S vb bv cv ta tw u' j v:=by
 match j with
 | 0 | 1 | 2 | 3 | 4 | 8=>exact h
 | 5 | 10 | 12=>trivial
 | 6=>omega
 | 7=>omega
 | 9=>omega
 | 11=>omega
 | 13=>omega
 | j + 14=>trivial
def LVok (W:World) (lv:Value) (hj:List Od):Prop:=RdR Od.vs 6 W lv hj∧SlOk lv
def Dst (hj:List Od) (u v:Value):Prop:=∀ lv tw ev c8,u = .tuple #[lv,tw,ev]→v = I c8 0→hj ≠ []→lv.ownBlock ≠ some c8
structure RN (S:Nat) (vb bv cv ta tw:Value) (twl:List Value) (hj:List Od) (n2:Nat) (base:World) (x:List Bool) (f:Nat→Value) (W:World):Prop where
 bel:Below base.heap.size base W
 e:∀ j,x[j]? = some true→EN S vb bv cv ta tw (f 5) j (f j)
 m5:x[5]? = some true→∃ lv ev,f 5 = .tuple #[lv,tw,ev]∧LVok W lv hj∧∃ a c,ev = .slice a n2 c
 m10:x[10]? = some true→∃ c8,f 10 = .pointer (some ⟨c8,0,none⟩)∧base.heap.size ≤ c8∧c8 < W.heap.size∧W.there c8 0 6∧(x[12]? = some true→W.rangeAt c8 0 twl)
 ap:x[5]? = some true→x[10]? = some true→Dst hj (f 5) (f 10)
def RNA (xh:(Nat→Value)→Act) (S:Nat) (vb bv cv ta tw:Value) (oW:List Value) (hj:List Od) (n2:Nat) (base:World) (x:List Bool) (hR:Act) (W:World):Prop:=∃ f,hR = xh f∧RN S vb bv cv ta tw oW hj n2 base x f W
theorem tup3 {a b c a' b' c':Value} (h:Value.tuple #[a,b,c] = .tuple #[a',b',c']):a = a'∧b = b'∧c = c':=by
 have:=congrArg Array.toList (Value.tuple.inj h)
 simpa using this
theorem rd_block {W:World} {v:Value} {hj:List Od} (h:RdR Od.vs 6 W v hj) (xA:hj ≠ []):∃ b,v.ownBlock = some b∧b < W.heap.size:=by
 obtain ⟨a,c,rfl,_,hc⟩:=h
 obtain ⟨b,off,rfl,hb,_⟩:=hc xA
 exact ⟨b,rfl,hb⟩
theorem rd_setC {W:World} {v:Value} {hj:List Od} {c8 o:Nat} {vs:List Value} (h:RdR Od.vs 6 W v hj) (xA:hj ≠ []→v.ownBlock ≠ some c8):RdR Od.vs 6 (W.setCells c8 o vs) v hj:=by
 obtain ⟨a,c,rfl,z,hc⟩:=h
 refine ⟨a,c,rfl,z,fun hl=>?_⟩
 obtain ⟨b,off,rfl,hb,hr⟩:=hc hl
 have hbc:c8 ≠ b:=fun e=>xA hl (by rw [e]; rfl)
 exact ⟨b,off,rfl,by rw [cy]; exact hb,fun i c hi=>ed (hr i c hi) hbc⟩
section
variable {S:Nat} {vb bv cv ta tw:Value} {oW:List Value} {hj:List Od} {n2:Nat} {base W W':World} {x:List Bool} {f:Nat→Value}
theorem rn_grow (h:RN S vb bv cv ta tw oW hj n2 base x f W) (hb:yl W W'):RN S vb bv cv ta tw oW hj n2 base x f W' :=
 ⟨h.bel.trans (hb.mono h.bel.size),h.e,fun h5=>by
  obtain ⟨lv,ev,z,K,h3⟩:=h.m5 h5
  exact ⟨lv,ev,z,⟨zh K.1 hb tg,K.2⟩,h3⟩,fun vL=>by
  obtain ⟨c8,z,K,h3,h4,h5⟩:=h.m10 vL
  exact ⟨c8,z,K,yG h3 hb.size,zf h4 hb h3,fun qp=>zb (h5 qp) hb h3⟩,h.ap⟩
theorem bS (h:RN S vb bv cv ta tw oW hj n2 base x f W) (i:Nat) (u:Value) (h5:i ≠ 5) (vL:i ≠ 10) (qp:i ≠ 12) (hu:EN S vb bv cv ta tw (f 5) i u):RN S vb bv cv ta tw oW hj n2 base (x.set i true) (upd f i u) W:=by
 refine ⟨h.bel,fun j L=>?_,?_,?_,?_⟩
 ·rw [zr f u (show 5 ≠ i from fun e=>h5 e.symm)]
  by_cases hji:j = i
  ·subst hji; rw [zp]; exact hu
  ·rw [zr _ _ hji]
   rw [gq (fun e=>hji e.symm)] at L
   exact h.e j L
 ·rw [gq h5,zr f u (show 5 ≠ i from fun e=>h5 e.symm)]; exact h.m5
 ·rw [gq vL,gq qp,zr f u (show 10 ≠ i from fun e=>vL e.symm)]; exact h.m10
 ·rw [gq h5,gq vL,zr f u (show 5 ≠ i from fun e=>h5 e.symm),zr f u (show 10 ≠ i from fun e=>vL e.symm)]; exact h.ap
theorem rn_5 (h:RN S vb bv cv ta tw oW hj n2 base x f W) (hb:yl W W') {lv ev:Value} (hl:LVok W' lv hj) (he:∃ a c,ev = .slice a n2 c) (qS:∀ j,(j = 6 ∨ j = 7 ∨ j = 9 ∨ j = 11 ∨ j = 13)→x[j]? ≠ some true)
  (hap:∀ c8,base.heap.size ≤ c8→c8 < W.heap.size→hj ≠ []→lv.ownBlock ≠ some c8):RN S vb bv cv ta tw oW hj n2 base (x.set 5 true) (upd f 5 (.tuple #[lv,tw,ev])) W':=by
 have hg:=rn_grow h hb
 refine ⟨hg.bel,fun j L=>?_,fun _=>⟨lv,ev,zp _ _ _,hl,he⟩,?_,?_⟩
 ·by_cases hji:j = 5
  ·subst hji; trivial
  ·rw [gq (fun e=>hji e.symm)] at L
   rw [zr _ _ hji]
   refine en_any (hg.e j L) ?_ ?_ ?_ ?_ ?_ <;> intro e <;> exact qS j (by omega) L
 ·rw [gq (by omega),gq (by omega),zr _ _ (by omega)]; exact hg.m10
 ·intro _ vL
  rw [gq (by omega)] at vL
  rw [zp,zr _ _ (by omega)]
  obtain ⟨c8,z,K,h3,_⟩:=h.m10 vL
  intro lv' tw' ev' c8' e1 e2 xA
  rw [z] at e2
  simp only [Value.pointer.injEq,Option.some.injEq,Addr.mk.injEq,and_true] at e2
  obtain rfl:c8 = c8':=e2
  have e1:lv = lv':=(tup3 e1).1
  rw [← e1]
  exact hap c8 K h3 xA
theorem rn_10 (h:RN S vb bv cv ta tw oW hj n2 base x f W) (qp:x[12]? ≠ some true) {o:Obj} (ht:(W.alloc o).there W.heap.size 0 6):RN S vb bv cv ta tw oW hj n2 base (x.set 10 true) (upd f 10 (I W.heap.size 0)) (W.alloc o):=by
 have hg:=rn_grow h ((Below.refl W.heap.size W).alloc tg o)
 refine ⟨hg.bel,fun j L=>?_,?_,fun _=>⟨W.heap.size,zp _ _ _,h.bel.size,by rw [ze]; omega,ht,fun e=>absurd (by rwa [gq (by omega)] at e) qp⟩,?_⟩
 ·rw [zr _ _ (by omega)]
  by_cases hji:j = 10
  ·subst hji; trivial
  ·rw [gq (fun e=>hji e.symm)] at L
   rw [zr _ _ hji]; exact hg.e j L
 ·rw [gq (by omega),zr _ _ (by omega)]; exact hg.m5
 ·intro h5 _
  rw [gq (by omega)] at h5
  rw [zp,zr _ _ (by omega)]
  obtain ⟨lv,ev,z,K,_⟩:=h.m5 h5
  intro lv' tw' ev' c8' e1 e2 xA e3
  rw [z] at e1
  simp only [Value.pointer.injEq,Option.some.injEq,Addr.mk.injEq,and_true] at e2
  have e1:lv = lv':=(tup3 e1).1
  obtain ⟨b,xR,ue⟩:=rd_block K.1 xA
  rw [← e1,xR] at e3
  simp only [Option.some.injEq] at e3
  omega
theorem rn_12 (h:RN S vb bv cv ta tw oW hj n2 base x f W) (h5:x[5]? = some true) (vL:x[10]? = some true) {c8:Nat} (hc:f 10 = I c8 0) (hl:oW.length = 6) (hx:x[12]? = some false):RN S vb bv cv ta tw oW hj n2 base (x.set 12 true) f (W.setCells c8 0 oW):=by
 obtain ⟨c',z,K,h3,h4,_⟩:=h.m10 vL
 rw [hc] at z
 simp only [Value.pointer.injEq,Option.some.injEq,Addr.mk.injEq,and_true] at z
 subst z
 obtain ⟨lv,ev,e1,e2,e3⟩:=h.m5 h5
 have hd:=h.ap h5 vL lv tw ev c8 e1 hc
 refine ⟨zu _ K _ _ _ h.bel,fun j L=>?_,fun _=>⟨lv,ev,e1,⟨rd_setC e2.1 hd,e2.2⟩,e3⟩,fun _=>⟨c8,hc,K,by rw [cy]; exact h3,yY h4 _ _ _,fun _=>yU W c8 0 _ (fun j L=>h4 j (by omega))⟩,?_⟩
 ·by_cases hji:j = 12
  ·subst hji; trivial
  ·rw [gq (fun e=>hji e.symm)] at L; exact h.e j L
 ·intro _ _; exact h.ap h5 vL
end
def DV (vs:List Value) (p:Prop) (W:World) (j:Nat) (v:Value):Prop:=∀ u,vs[j]? = some u→v = u
structure R9 (C:Nat→Value→Prop) (B0:World) (hj:List Od) (t:Od) (x:List Bool) (f:Nat→Value) (W:World):Prop where
 bel:Below B0.heap.size B0 W
 c:∀ j,x[j]? = some true→C j (f j)
 m13:x[13]? = some true→x[15]? = some false→ORow W B0.heap.size (f 13) []
 m15:x[15]? = some true→x[18]? = some false→ORow W B0.heap.size (f 15) hj
 m17:x[17]? = some true→x[18]? = some false→∃ b,f 17 = .slice (some ⟨b,0,none⟩) 1 1∧b < W.heap.size∧B0.heap.size ≤ b∧W.rangeAt b 0 t.vs∧(x[13]? = some true→x[15]? = some false→(f 13).ownBlock ≠ some b)
 m18:x[18]? = some true→ORow W B0.heap.size (f 18) (hj ++ [t])
def R9A (xh:(Nat→Value)→Act) (C:Nat→Value→Prop) (B0:World) (hj:List Od) (t:Od) (x:List Bool) (hR:Act) (W:World):Prop:=∃ f,hR = xh f∧R9 C B0 hj t x f W
section
variable {C:Nat→Value→Prop} {B0 W W':World} {hj:List Od} {t:Od} {x:List Bool} {f:Nat→Value}
theorem r9_grow (h:R9 C B0 hj t x f W) (hb:yl W W'):R9 C B0 hj t x f W' :=
 ⟨h.bel.trans (hb.mono h.bel.size),h.c,fun a b=>zj (h.m13 a b) hb,fun a b=>zj (h.m15 a b) hb,fun a b=>by
  obtain ⟨b',z,K,h3,h4,h5⟩:=h.m17 a b
  exact ⟨b',z,yG K hb.size,h3,zb h4 hb K,h5⟩,fun a=>zj (h.m18 a) hb⟩
theorem aO (h:R9 C B0 hj t x f W) (i:Nat) (v:Value) (hv:C i v) (jA:i ≠ 13) (vl:i ≠ 15) (ki:i ≠ 17) (jL:i ≠ 18):R9 C B0 hj t (x.set i true) (upd f i v) W:=by
 refine ⟨h.bel,zz h.c hv,?_,?_,?_,?_⟩ <;> simp only [gq jA,gq vl,gq ki,gq jL,zr f v jA.symm,zr f v vl.symm,zr f v ki.symm,zr f v jL.symm]
 ·exact h.m13
 ·exact h.m15
 ·exact h.m17
 ·exact h.m18
theorem r9_13 (h:R9 C B0 hj t x f W) (jA:x[13]? = some false) (hc:∀ v,C 13 v):R9 C B0 hj t (x.set 13 true) (upd f 13 (.slice (some (J W.heap.size 0)) 0 0)) (W.alloc (E #[] 49)):=by
 have hg:=r9_grow h ((Below.refl W.heap.size W).alloc tg (E #[] 49))
 refine ⟨hg.bel,zz hg.c (hc _),?_,?_,?_,?_⟩
 ·intro _ _; rw [zp]; exact World.ownsRow_made W #[] 0 h.bel.size (by decide) rfl
 ·rw [gq (by decide),gq (by decide),zr _ _ (by decide)]; exact hg.m15
 ·intro ki jL
  rw [gq (by decide)] at ki jL
  obtain ⟨b,z,K,h3,h4,h5⟩:=hg.m17 ki jL
  obtain ⟨b',e1,e2,_⟩:=h.m17 ki jL
  rw [z] at e1
  simp only [Value.slice.injEq,Option.some.injEq,Addr.mk.injEq,and_true] at e1
  subst e1
  refine ⟨b,by rw [zr _ _ (by decide)]; exact z,K,h3,h4,fun _ _ e=>?_⟩
  rw [zp] at e
  simp [Value.ownBlock] at e
  omega
 ·rw [gq (by decide),zr _ _ (by decide)]; exact hg.m18
theorem r9_15 (h:R9 C B0 hj t x f W) (jA:x[13]? = some true) (vl:x[15]? = some false) (jL:x[18]? = some false) (hc:∀ v,C 15 v) {v':Value} (Y:ORow W' B0.heap.size v' hj) (hg:W.grownBy W' (f 13).ownBlock):R9 C B0 hj t (x.set 15 true) (upd f 15 v') W':=by
 refine ⟨h.bel.grown hg h.bel.size (fun k hk=>((h.m13 jA vl).lt k hk).1),zz h.c (hc _),?_,?_,?_,?_⟩
 ·intro _ e; rw [gqs vl] at e; cases e
 ·intro _ _; rw [zp]; exact Y
 ·intro ki _
  rw [gq (by decide)] at ki
  obtain ⟨b,z,K,h3,h4,h5⟩:=h.m17 ki jL
  refine ⟨b,by rw [zr _ _ (by decide)]; exact z,yG K hg.size,h3,zm h4 hg K (fun e=>h5 jA vl e.symm),fun _ e=>?_⟩
  rw [gqs vl] at e; cases e
 ·intro e; rw [gq (by decide),jL] at e; cases e
theorem r9_17 (h:R9 C B0 hj t x f W) (ki:x[17]? = some false) (jL:x[18]? = some false) (hc:∀ v,C 17 v):R9 C B0 hj t (x.set 17 true) (upd f 17 (.slice (some (J W.heap.size 0)) 1 1)) (W.alloc (Obj.cells t.vs.toArray 49)):=by
 have hg:=r9_grow h ((Below.refl W.heap.size W).alloc tg (Obj.cells t.vs.toArray 49))
 refine ⟨hg.bel,zz hg.c (hc _),?_,?_,?_,?_⟩
 ·rw [gq (by decide),gq (by decide),zr _ _ (by decide)]; exact hg.m13
 ·rw [gq (by decide),gq (by decide),zr _ _ (by decide)]; exact hg.m15
 ·intro _ _
  refine ⟨W.heap.size,zp _ _ _,by rw [ze]; omega,h.bel.size,zg W t.vs _,fun jA vl e=>?_⟩
  rw [gq (by decide)] at jA vl
  rw [zr _ _ (by decide)] at e
  have:=((h.m13 jA vl).lt _ e).2
  omega
 ·rw [gq (by decide),zr _ _ (by decide)]; exact hg.m18
theorem r9_18 (h:R9 C B0 hj t x f W) (vl:x[15]? = some true) (jL:x[18]? = some false) (hc:∀ v,C 18 v) {v':Value} (Y:ORow W' B0.heap.size v' (hj ++ [t])) (hg:W.grownBy W' (f 15).ownBlock):R9 C B0 hj t (x.set 18 true) (upd f 18 v') W':=by
 refine ⟨h.bel.grown hg h.bel.size (fun k hk=>((h.m15 vl jL).lt k hk).1),zz h.c (hc _),?_,?_,?_,?_⟩
 ·intro _ e; rw [gq (by decide)] at e; rw [e] at vl; cases vl
 ·intro _ e; rw [gqs jL] at e; cases e
 ·intro _ e; rw [gqs jL] at e; cases e
 ·intro _; rw [zp]; exact Y
end
def C9 (S c8:Nat) (ty left:Int) (lv:Value) (n1:Nat) (ta:Value) (mb:Int):Nat→Value→Prop
 | 0,v=>v = I (S + 1) 2
 | 1,v=>v = H ty
 | 2,v=>v = .bool true
 | 3,v=>v = .bool true
 | 4,v=>v = I c8 3
 | 5,v=>v = H left
 | 6,v=>v = .bool true
 | 7,v=>v = .bool true
 | 8,v=>v = .bool true
 | 9,v=>v = lv
 | 10,v=>v = H n1
 | 11,v=>v = .bool false
 | 12,v=>v = .bool false
 | 14,v=>v = lv
 | 16,v=>v = ta
 | 19,v=>v = H mb
 | 20,v=>v = .bool (decide (8 < mb))
 | 21,v=>v = .bool (decide (8 < mb))
 | 22,v=>v = .bool (decide (8 < mb))
 | _,_=>True
theorem l04New_any (next:Int) (vb:Value) (l:List Od) (c:Cm) (w:World) (hr:RdR Od.vs 6 w vb l) (hs:SlOk vb) (hg:GoodL l) (uu:∀ x ∈ l,x.side = 1 ∨ x.side = 2) (ht:c.g.size ≤ maxLen) :
  Calls Tryz.prog 133 #[.agg #[H next,vb],cmV c] w fun e w'=>e = .returned (H (newR next l c))∧yl w w':=by
 have HR:=Q hr
 have HG:=Q hg
 have uW:=Q hs
 have HSD:=Q uu
 have qF:=Q (fun W=>l03Tag_any c.g W ht)
 have HZR:=Q (fun W=>l04Zero_any c.p W)
 have oK:=Q (fun W=>l01Ticks_any c.p W)
 obtain ⟨a,F,rfl,xD,hc⟩:=hr
 obtain ⟨kk,s,ty,li,X,ii,pr,O⟩:=c
 unfold cmV
 simp only at qF HZR oK ⊢
 clear hc hg hs uu xD ht
 have xz:=ze w (E #[H next,.slice a l.length F] 28)
 have xY:((w.alloc (E #[H next,.slice a l.length F] 28)).alloc (E (yu kk s ty li X ii pr O).toArray 43)).heap.size = w.heap.size + 1 + 1:=by rw [ze,xz]
 have r1:=zg w [H next,.slice a l.length F] 28
 have r2:=zg (w.alloc (E #[H next,.slice a l.length F] 28)) (yu kk s ty li X ii pr O) 43
 rw [xz] at r2
 have qg:Below (w.heap.size + 1) (w.alloc (E #[H next,.slice a l.length F] 28)) ((w.alloc (E #[H next,.slice a l.length F] 28)).alloc (E (yu kk s ty li X ii pr O).toArray 43)):=(Below.refl _ _).alloc (by rw [xz]; omega) _
 have xC:Hid (yl w ((w.alloc (E #[H next,.slice a l.length F] 28)).alloc (E (yu kk s ty li X ii pr O).toArray 43))):=(eD _ _).alloc (by rw [xz]; omega) _
 have HX:Hid (_∧_):=⟨zb r1 qg (by omega),r2⟩
 have uj:Hid (w.heap.size + 1 < ((w.alloc (E #[H next,.slice a l.length F] 28)).alloc (E (yu kk s ty li X ii pr O).toArray 43)).heap.size):=by show _ < _; omega
 clear xz xY r1 r2 qg
 go_enter Tryz.func133,Tryz.ntmps133
 refine eH fun h2 xu=>?_
 go_wp2_with fail
 refine M xu _ _ ?_
 clear xu
 generalize ((w.alloc (E #[H next,.slice a l.length F] 28)).alloc (E (yu kk s ty li X ii pr O).toArray 43)) = X2 at xC HX uj ⊢
 have HX:Hid (X2.rangeAt w.heap.size 0 [H next,.slice a l.length F]∧X2.rangeAt (w.heap.size + 1) 0 (yu kk s ty li X ii pr O)):=M HX
 have o1:X2.cell? (J (w.heap.size + 1) 1) = some (H s):=(M HX).2 1 _ rfl
 have o2:X2.cell? (J (w.heap.size + 1) 2) = some (H ty):=(M HX).2 2 _ rfl
 have o3:X2.cell? (J (w.heap.size + 1) 3) = some (H li):=(M HX).2 3 _ rfl
 have o4:X2.cell? (J (w.heap.size + 1) 4) = some (H X):=(M HX).2 4 _ rfl
 have o6:X2.cell? (J (w.heap.size + 1) 6) = some (yh pr):=(M HX).2 6 _ rfl
 have o7:X2.cell? (J (w.heap.size + 1) 7) = some (yi O):=(M HX).2 7 _ rfl
 refine eH fun h2 xu=>?_
 go_wp2_with (first | (go_at_call 137; refine (M oK _).mono ?_; rintro e w' ⟨rfl,uc⟩; rw [uc]; clear uc w') | (go_at_call 80; refine (ba _ _ _ _).mono ?_; rintro e w' ⟨rfl,uc⟩; rw [uc]; clear uc w') | (go_at_call 91; refine (cI _ _).mono ?_; rintro e w' ⟨rfl,uc⟩; rw [uc]; clear uc w') | (go_at_call 159; refine (M HZR _).mono ?_; rintro e w' ⟨rfl,uc⟩; rw [uc]; clear uc w') | (go_at_call 130; refine (M qF _).mono ?_; rintro e w' ⟨rfl,uc⟩; rw [uc]; clear uc w'))
 refine M xu _ _ ?_
 clear xu
 refine eH fun h2 xu=>?_
 cases bs:betB s 1 2
 have HK:Hid (newR next l ⟨kk,s,ty,li,X,ii,pr,O⟩ = 3):=by show _ = _; simp [newR,bs]
 rotate_left
 cases bt:betB ty 1 5
 have HK:Hid (newR next l ⟨kk,s,ty,li,X,ii,pr,O⟩ = 4):=by show _ = _; simp [newR,bs,bt]
 rotate_left
 have HT:Hid (lifW ⟨kk,s,ty,li,X,ii,pr,O⟩ = false→prcB ⟨kk,s,ty,li,X,ii,pr,O⟩ = true→betB X 1 1000000 = true→tagB O = true→∀ (u5 u6 u10 u11 u12 u13 u14 u15 u16 u17 u18 u19 u20 u21 u22 u23 u24 u25 u26 u27 u28 u29 u30 u31 u32 u33 u34 u35 u36 u37 u38 u39 u40 u41 u42 u43 u44 u45 u46 u47 u48 u49 u50 u51 u52 u53 u54 u55 u56 u57 u58 u59 u60 u61 u62 u63 u64 u65 u66 u67 u68 u69 u70:Value),h2 { tmps:=#[.agg #[H next,.slice a l.length F],.agg (yu kk s ty li X ii pr O).toArray,I w.heap.size 0,I (w.heap.size + 1) 0,H 0,u5,u6,Z,Z,Z,u10,u11,u12,u13,u14,u15,u16,u17,u18,u19,u20,u21,u22,u23,u24,u25,u26,u27,u28,u29,u30,u31,u32,u33,u34,u35,u36,u37,u38,u39,u40,u41,u42,u43,u44,u45,u46,u47,u48,u49,u50,u51,u52,u53,u54,u55,u56,u57,u58,u59,u60,u61,u62,u63,u64,u65,u66,u67,u68,u69,u70,Z,Z,Z,Z,Z,Z,Z,Z,Z,Z,Z,Z,Z,Z,Z,Z,Z,Z,Z,Z,Z,Z,Z,Z,Z,Z,Z,Z,Z,Z,Z,Z,Z,Z,Z,Z,Z,Z,Z,Z,Z,Z,Z,Z,Z,Z,Z,Z,Z,Z,Z,Z,Z,Z,Z],defers:=[] } X2):=by
  intro hlif hprc hqty htag u5 u6 u10 u11 u12 u13 u14 u15 u16 u17 u18 u19 u20 u21 u22 u23 u24 u25 u26 u27 u28 u29 u30 u31 u32 u33 u34 u35 u36 u37 u38 u39 u40 u41 u42 u43 u44 u45 u46 u47 u48 u49 u50 u51 u52 u53 u54 u55 u56 u57 u58 u59 u60 u61 u62 u63 u64 u65 u66 u67 u68 u69 u70
  refine M xu _ _ ?_
  clear xu o1 o2 o3 o4 o6 o7
  have hside:=side_of bs
  have kW:1 ≤ X∧X ≤ 1000000:=by simpa [betB] using hqty
  have qR:Hid (newR next l ⟨kk,s,ty,li,X,ii,pr,O⟩ = matS next ⟨kk,s,ty,li,X,ii,pr,O⟩ (matL ⟨kk,s,ty,li,X,ii,pr,O⟩ next 21 l X [])):=by
   show _ = _
   rw [matS_eq (M HG) (M HSD) bs hprc hqty]
   simp [newR,bs,bt,hlif,hprc,hqty,htag]
  have jJ:=Q (fun W hW=>dm (.slice a l.length F) l ⟨kk,s,ty,li,X,ii,pr,O⟩ next W hW (M HG) hside hprc (by show 0 ≤ X; omega) kW.2)
  have HGF:=Q (cM (c:=⟨kk,s,ty,li,X,ii,pr,O⟩) (id:=next) 21 l X [] (M HG) (by omega) kW.2)
  simp only at jJ HGF
  generalize matL ⟨kk,s,ty,li,X,ii,pr,O⟩ next 21 l X [] = xh at qR jJ HGF
  generalize newR next l ⟨kk,s,ty,li,X,ii,pr,O⟩ = res at qR ⊢
  have HTKR:=Q (fun W=>dn next a l.length F ⟨kk,s,ty,li,X,ii,pr,O⟩ W)
  unfold cmV at HTKR
  simp only at HTKR
  have kP:Hid (matS next ⟨kk,s,ty,li,X,ii,pr,O⟩ xh = if ty = 5∧0 < xh.2.2.length then 11 else if ty = 4∧0 < xh.2.1 then 12 else if next = 1000000 then 13
   else if ay ty = true then (if 0 < xh.2.1 then (if xh.1.length = 20 then 13 else if 8 < nlev (xh.1 ++ [⟨next,s,tkS pr,xh.2.1,li,O⟩]) then 13 else 0) else 0) else 0):=rfl
  have qR:Hid (res = _):=(M qR).trans (M kP)
  clear kP hlif hprc hqty htag kW
  generalize tkS pr = tt at jJ HTKR qR
  obtain ⟨hj,left,ts⟩:=xh
  simp only at jJ qR HGF
  refine eH fun h2 xu=>?_
  refine zi (RNA (fun f=>{ tmps:=#[.agg #[H next,.slice a l.length F],.agg (yu kk s ty li X ii pr O).toArray,I w.heap.size 0,I (w.heap.size + 1) 0,H 0,u5,u6,f 11,f 10,f 13,u10,u11,u12,u13,u14,u15,u16,u17,u18,u19,u20,u21,u22,u23,u24,u25,u26,u27,u28,u29,u30,u31,u32,u33,u34,u35,u36,u37,u38,u39,u40,u41,u42,u43,u44,u45,u46,u47,u48,u49,u50,u51,u52,u53,u54,u55,u56,u57,u58,u59,u60,u61,u62,u63,u64,u65,u66,u67,u68,u69,u70,f 6,f 0,f 1,f 2,f 3,f 4,f 5,f 7,f 8,f 9,Z,Z,Z,Z,Z,Z,Z,Z,Z,Z,Z,Z,Z,Z,Z,Z,Z,Z,Z,Z,Z,Z,Z,Z,Z,Z,Z,Z,Z,Z,Z,Z,Z,Z,Z,Z,Z,Z,Z,Z,Z,Z,Z,Z,Z],defers:=[] }) w.heap.size (.slice a l.length F) (.agg #[H next,.slice a l.length F]) (.agg (yu kk s ty li X ii pr O).toArray) (.agg (yt next s tt X li O).toArray) (.agg (yt next s tt left li O).toArray) (yt next s tt left li O) hj ts.length X2) (by kernel_rfl) ?_ ?_ ?_
  ·exact ⟨fun j=>Z,rfl,⟨⟨rfl,rfl,rfl,Nat.le_refl _,fun _ _=>rfl⟩,fun j L=>by rw [yF] at L; split at L <;> simp at L,by simp,by simp,by simp⟩⟩
  ·rintro x hR V ⟨f,rfl,A⟩ hx xK
   have xm:=zL xK hx (by kernel_rfl)
   obtain ⟨lv,ev,e5,hlv,ae,ce,hev⟩:=A.m5 (xm 5 (by simp))
   obtain ⟨c8,jz,px,jq,-,hcr⟩:=A.m10 (xm 10 (by simp))
   obtain ⟨lv',ev',pq,e11'⟩:=A.e 11 (xm 11 (by simp))
   obtain ⟨lv'',ev'',oe,e13'⟩:=A.e 13 (xm 13 (by simp))
   have HC8:=Q (hcr (xm 12 (by simp)))
   rw [e5] at pq oe
   have q1:lv = lv':=(tup3 pq).1
   have q2:ev = ev'':=(tup3 oe).2.2
   rw [← q1] at e11'
   rw [← q2,hev] at e13'
   have HLV:=Q hlv
   have xo:=Q ((M xC).trans (A.bel.mono (M xC).size))
   have HXV:Hid (V.rangeAt w.heap.size 0 [H next,.slice a l.length F]∧V.rangeAt (w.heap.size + 1) 0 (yu kk s ty li X ii pr O)):=⟨zb (M HX).1 A.bel (by have:=M uj; omega),zb (M HX).2 A.bel (M uj)⟩
   have hVS:w.heap.size + 1 < V.heap.size:=yG (M uj) A.bel.size
   refine M xu _ _ ?_
   clear xu
   simp only [jz,e11',e13']
   generalize f 6 = u71,f 0 = u72,f 1 = u73,f 2 = u74,f 3 = u75,f 4 = u76,f 5 = u77,f 7 = u78,f 8 = u79,f 9 = u80
   clear A xm e5 jz pq oe e11' e13' q1 q2 hcr xK hx hlv hev jJ HTKR HX xC uj
   obtain ⟨⟨al,cal,qI,hll,vp⟩,hsl⟩:=M HLV
   have HRL:Hid (RdR Od.vs 6 V (.slice al hj.length cal) hj):=by rw [← qI]; exact (M HLV).1
   have HSV:Hid (SlOk (.slice al hj.length cal)):=by rw [← qI]; exact hsl
   subst qI
   clear vp hsl hll HLV
   have k0:V.cell? (J w.heap.size 0) = some (H next):=(M HXV).1 0 _ rfl
   have o2:V.cell? (J (w.heap.size + 1) 2) = some (H ty):=(M HXV).2 2 _ rfl
   have c3:V.cell? (J c8 3) = some (H left):=M HC8 3 _ rfl
   have h20:hj.length ≤ 20:=(M HGF).1.len
   refine eH fun h2 xu=>?_
   have vh:Hid (¬ (ty = 5∧0 < ts.length)→¬ (ty = 4∧0 < left)→next ≠ 1000000→∀ (u5 u6 u10 u11 u12 u13 u14 u15 u16 u17 u18 u19 u20 u21 u22 u23 u24 u25 u26 u27 u28 u29 u30 u31 u32 u33 u34 u35 u36 u37 u38 u39 u40 u41 u42 u43 u44 u45 u46 u47 u48 u49 u50 u51 u52 u53 u54 u55 u56 u57 u58 u59 u60 u61 u62 u63 u64 u65 u66 u67 u68 u69 u70 u71 u72 u73 u74 u75 u76 u77 u78 u79 u80 u81 u82 u83 u84 u85 u86 u87 u88 u89 u90 u91 u92 u93 u94 u95 u96 u97 u98 u99 u100 u101 u102:Value),h2 { tmps:=#[.agg #[H next,.slice a l.length F],.agg (yu kk s ty li X ii pr O).toArray,I w.heap.size 0,I (w.heap.size + 1) 0,H 0,u5,u6,.slice al hj.length cal,I c8 0,.slice ae ts.length ce,u10,u11,u12,u13,u14,u15,u16,u17,u18,u19,u20,u21,u22,u23,u24,u25,u26,u27,u28,u29,u30,u31,u32,u33,u34,u35,u36,u37,u38,u39,u40,u41,u42,u43,u44,u45,u46,u47,u48,u49,u50,u51,u52,u53,u54,u55,u56,u57,u58,u59,u60,u61,u62,u63,u64,u65,u66,u67,u68,u69,u70,u71,u72,u73,u74,u75,u76,u77,u78,u79,u80,u81,u82,u83,u84,u85,u86,u87,u88,u89,u90,u91,u92,u93,u94,u95,u96,u97,u98,u99,u100,u101,u102,Z,Z,Z,Z,Z,Z,Z,Z,Z,Z,Z,Z,Z,Z,Z,Z,Z,Z,Z,Z,Z,Z,Z],defers:=[] } V):=by
    intro g5 g4 gn u5 u6 u10 u11 u12 u13 u14 u15 u16 u17 u18 u19 u20 u21 u22 u23 u24 u25 u26 u27 u28 u29 u30 u31 u32 u33 u34 u35 u36 u37 u38 u39 u40 u41 u42 u43 u44 u45 u46 u47 u48 u49 u50 u51 u52 u53 u54 u55 u56 u57 u58 u59 u60 u61 u62 u63 u64 u65 u66 u67 u68 u69 u70 u71 u72 u73 u74 u75 u76 u77 u78 u79 u80 u81 u82 u83 u84 u85 u86 u87 u88 u89 u90 u91 u92 u93 u94 u95 u96 u97 u98 u99 u100 u101 u102
    have HRS:Hid (res = if ay ty = true then (if 0 < left then (if hj.length = 20 then 13 else if 8 < nlev (hj ++ [⟨next,s,tt,left,li,O⟩]) then 13 else 0) else 0) else 0):=by
     have:=M qR
     rw [if_neg g5,if_neg g4,if_neg gn] at this
     exact this
    refine M xu _ _ ?_
    clear xu g5 g4 gn qR k0
    have qv:Hid (∀ w':World,V.grownBy w' none→w'.cell? (J (w.heap.size + 1) 2) = some (H ty)∧w'.cell? (J c8 3) = some (H left)):=fun w' h'=>⟨zm (M HXV).2 h' hVS (by simp) 2 _ rfl,zm (M HC8) h' jq (by simp) 3 _ rfl⟩
    cases brs:ay ty
    ·have HQ0:Hid (res = 0):=(M HRS).trans (by rw [brs]; rfl)
     go_wp2_with fail
     refine zi (RG V (fun f=>{ tmps:=#[.agg #[H next,.slice a l.length F],.agg (yu kk s ty li X ii pr O).toArray,I w.heap.size 0,I (w.heap.size + 1) 0,H 0,u5,u6,.slice al hj.length cal,I c8 0,.slice ae ts.length ce,u10,u11,u12,u13,u14,u15,u16,u17,u18,u19,u20,u21,u22,u23,u24,u25,u26,u27,u28,u29,u30,u31,u32,u33,u34,u35,u36,u37,u38,u39,u40,u41,u42,u43,u44,u45,u46,u47,u48,u49,u50,u51,u52,u53,u54,u55,u56,u57,u58,u59,u60,u61,u62,u63,u64,u65,u66,u67,u68,u69,u70,u71,u72,u73,u74,u75,u76,u77,u78,u79,u80,u81,u82,u83,u84,u85,u86,u87,u88,u89,u90,u91,u92,u93,u94,u95,u96,u97,u98,u99,u100,u101,u102,f 0,f 1,f 2,f 3,f 4,f 5,f 6,f 7,f 8,f 9,f 10,f 11,f 12,f 13,f 14,f 15,f 16,f 17,f 18,f 19,f 20,f 21,f 22],defers:=[] }) 99 (DV [I (w.heap.size + 1) 2,H ty,.bool false,.bool false,Z,Z,Z,.bool false,.bool false,Z,Z,Z,Z,Z,Z,Z,Z,Z,Z,Z,Z,Z,.bool false])) (by kernel_rfl) ?_ ?_ ?_
     ·exact ⟨fun _=>Z,rfl,⟨rfl,rfl,rfl,Nat.le_refl _,fun _ _=>rfl⟩,fun j L=>by rw [yF] at L; split at L <;> simp at L⟩
     ·rintro x hR V' ⟨f,rfl,xe,U⟩ hx xK
      have xm:=aK xK hx (acyc _ (by kernel_rfl))
      have e22:f 22 = .bool false:=U 22 (xm 22 (by simp)) _ rfl
      have xM:=Q (eG (M xo) xe)
      simp only [e22]
      clear U xm e22 xK hx xe
      go_wp2_with fail
      go_ret
      exact ⟨zv (M HQ0).symm,M xM⟩
     ·rintro x hR V' i' o' ⟨f,rfl,xe,U⟩ xk hx Y xq D
      clear xk
      have xJ:=Q xe
      have HD:=Q U
      have o2:V'.cell? (J (w.heap.size + 1) 2) = some (H ty):=zb (M HXV).2 xe hVS 2 _ rfl
      have c3:V'.cell? (J c8 3) = some (H left):=zb (M HC8) xe jq 3 _ rfl
      clear HRS HQ0
      match i',Y with
      | 0,Y =>
       obtain rfl:=hD Y
       clear D U xe
       rw [if_pos (by rfl)];unfold Oper.wp;go_simp
       exact ⟨upd f 0 (I (w.heap.size + 1) 2),by simp [upd],zc (M xJ) (M HD) (by decide) (ye rfl)⟩
      | 1,Y =>
       obtain rfl:=hD Y
       have g0:=U 0 (yc D 0 rfl) _ rfl
       clear D U xe
       rw [if_pos (by rfl)];unfold Oper.wp;go_simp
       exact ⟨upd f 1 (H ty),by simp [upd,g0],zc (M xJ) (M HD) (by decide) (ye rfl)⟩
      | 2,Y =>
       obtain rfl:=hD Y
       have g1:=U 1 (yc D 1 rfl) _ rfl
       clear D U xe
       rw [if_pos (by rfl)];unfold Oper.wp;go_simp
       refine (cI ty _).mono ?_
       rintro e w3 ⟨rfl,hw3⟩
       rw [hw3,brs]
       exact ⟨upd f 2 (.bool false),by simp [upd,g1],zc (M xJ) (M HD) (by decide) (ye rfl)⟩
      | 3,Y =>
       obtain rfl:=hD Y
       have g2:=U 2 (yc D 2 rfl) _ rfl
       clear D U xe
       rw [if_pos (by rfl)];unfold Oper.wp;go_simp
       exact ⟨upd f 3 (.bool false),by simp [upd,g2],zc (M xJ) (M HD) (by decide) (ye rfl)⟩
      | 4,Y | 5,Y | 6,Y =>
       obtain rfl:=hD Y
       have g3:=U 3 (yc D 3 rfl) _ rfl
       clear D U xe
       rw [if_neg (by simp only [g3]; exact fun h=>Bool.noConfusion (show (false:Bool) = true from h))]
       exact ⟨upd f _ Z,rfl,zc (M xJ) (M HD) (by decide) (ye rfl)⟩
      | 7,Y =>
       obtain rfl:=hD Y
       have g3:=U 3 (yc D 3 rfl) _ rfl
       have g6:=U 6 (yc D 6 rfl) _ rfl
       clear D U xe
       rw [if_pos (by rfl)];unfold Oper.wp;go_simp
       exact ⟨upd f 7 (.bool false),by simp [upd,g3,g6],zc (M xJ) (M HD) (by decide) (ye rfl)⟩
      | 8,Y =>
       obtain rfl:=hD Y
       have g7:=U 7 (yc D 7 rfl) _ rfl
       clear D U xe
       rw [if_pos (by rfl)];unfold Oper.wp;go_simp
       exact ⟨upd f 8 (.bool false),by simp [upd,g7],zc (M xJ) (M HD) (by decide) (ye rfl)⟩
      | 9,Y | 10,Y | 11,Y | 12,Y | 21,Y =>
       obtain rfl:=hD Y
       have g8:=U 8 (yc D 8 rfl) _ rfl
       clear D U xe
       rw [if_neg (by simp only [g8]; exact fun h=>Bool.noConfusion (show (false:Bool) = true from h))]
       exact ⟨upd f _ Z,rfl,zc (M xJ) (M HD) (by decide) (ye rfl)⟩
      | 13,Y | 14,Y | 15,Y | 16,Y | 17,Y | 18,Y | 19,Y | 20,Y =>
       obtain rfl:=hD Y
       have xX:=U 12 (yc D 12 rfl) _ rfl
       clear D U xe
       rw [if_neg (by simp only [xX]; exact fun h=>Bool.noConfusion (show (false:Bool) = true from h))]
       exact ⟨upd f _ Z,rfl,zc (M xJ) (M HD) (by decide) (ye rfl)⟩
      | 22,Y =>
       obtain rfl:=hD Y
       have g8:=U 8 (yc D 8 rfl) _ rfl
       have g21:=U 21 (yc D 21 rfl) _ rfl
       clear D U xe
       rw [if_pos (by rfl)];unfold Oper.wp;go_simp
       exact ⟨upd f 22 (.bool false),by simp [upd,g8,g21],zc (M xJ) (M HD) (by decide) (ye rfl)⟩
      | n + 23,Y=>simp at Y
    by_cases oU:0 < left
    ·by_cases oy:hj.length = 20
     ·have HQ0:Hid (res = 13):=(M HRS).trans (by rw [if_pos brs,if_pos oU,if_pos oy])
      have au:(hj.length:Int) = 20:=by omega
      have hb20:((hj.length:Int) == 20) = true:=by simpa using au
      have hlf':decide (0 < left) = true:=by simpa using oU
      clear oy au
      go_wp2_with fail
      refine zi (RG V (fun f=>{ tmps:=#[.agg #[H next,.slice a l.length F],.agg (yu kk s ty li X ii pr O).toArray,I w.heap.size 0,I (w.heap.size + 1) 0,H 0,u5,u6,.slice al hj.length cal,I c8 0,.slice ae ts.length ce,u10,u11,u12,u13,u14,u15,u16,u17,u18,u19,u20,u21,u22,u23,u24,u25,u26,u27,u28,u29,u30,u31,u32,u33,u34,u35,u36,u37,u38,u39,u40,u41,u42,u43,u44,u45,u46,u47,u48,u49,u50,u51,u52,u53,u54,u55,u56,u57,u58,u59,u60,u61,u62,u63,u64,u65,u66,u67,u68,u69,u70,u71,u72,u73,u74,u75,u76,u77,u78,u79,u80,u81,u82,u83,u84,u85,u86,u87,u88,u89,u90,u91,u92,u93,u94,u95,u96,u97,u98,u99,u100,u101,u102,f 0,f 1,f 2,f 3,f 4,f 5,f 6,f 7,f 8,f 9,f 10,f 11,f 12,f 13,f 14,f 15,f 16,f 17,f 18,f 19,f 20,f 21,f 22],defers:=[] }) 99 (DV [I (w.heap.size + 1) 2,H ty,.bool true,.bool true,I c8 3,H left,.bool true,.bool true,.bool true,.slice al hj.length cal,H hj.length,.bool true,.bool true,Z,Z,Z,Z,Z,Z,Z,Z,.bool true,.bool true])) (by kernel_rfl) ?_ ?_ ?_
      ·exact ⟨fun _=>Z,rfl,⟨rfl,rfl,rfl,Nat.le_refl _,fun _ _=>rfl⟩,fun j L=>by rw [yF] at L; split at L <;> simp at L⟩
      ·rintro x hR V' ⟨f,rfl,xe,U⟩ hx xK
       have xm:=aK xK hx (acyc _ (by kernel_rfl))
       have e22:f 22 = .bool true:=U 22 (xm 22 (by simp)) _ rfl
       have xM:=Q (eG (M xo) xe)
       simp only [e22]
       clear U xm e22 xK hx xe
       go_wp2_with fail
       go_ret
       exact ⟨zv (M HQ0).symm,M xM⟩
      ·rintro x hR V' i' o' ⟨f,rfl,xe,U⟩ xk hx Y xq D
       clear xk
       have xJ:=Q xe
       have HD:=Q U
       have o2:V'.cell? (J (w.heap.size + 1) 2) = some (H ty):=zb (M HXV).2 xe hVS 2 _ rfl
       have c3:V'.cell? (J c8 3) = some (H left):=zb (M HC8) xe jq 3 _ rfl
       clear HRS HQ0
       match i',Y with
       | 0,Y =>
        obtain rfl:=hD Y
        clear D U xe
        rw [if_pos (by rfl)];unfold Oper.wp;go_simp
        exact ⟨upd f 0 (I (w.heap.size + 1) 2),by simp [upd],zc (M xJ) (M HD) (by decide) (ye rfl)⟩
       | 1,Y =>
        obtain rfl:=hD Y
        have g0:=U 0 (yc D 0 rfl) _ rfl
        clear D U xe
        rw [if_pos (by rfl)];unfold Oper.wp;go_simp
        exact ⟨upd f 1 (H ty),by simp [upd,g0],zc (M xJ) (M HD) (by decide) (ye rfl)⟩
       | 2,Y =>
        obtain rfl:=hD Y
        have g1:=U 1 (yc D 1 rfl) _ rfl
        clear D U xe
        rw [if_pos (by rfl)];unfold Oper.wp;go_simp
        refine (cI ty _).mono ?_
        rintro e w3 ⟨rfl,hw3⟩
        rw [hw3,brs]
        exact ⟨upd f 2 (.bool true),by simp [upd,g1],zc (M xJ) (M HD) (by decide) (ye rfl)⟩
       | 3,Y =>
        obtain rfl:=hD Y
        have g2:=U 2 (yc D 2 rfl) _ rfl
        clear D U xe
        rw [if_pos (by rfl)];unfold Oper.wp;go_simp
        exact ⟨upd f 3 (.bool true),by simp [upd,g2],zc (M xJ) (M HD) (by decide) (ye rfl)⟩
       | 4,Y =>
        obtain rfl:=hD Y
        have g3:=U 3 (yc D 3 rfl) _ rfl
        clear D U xe
        rw [if_pos (by simp only [g3]; rfl)]
        unfold Oper.wp
        go_simp
        exact ⟨upd f 4 (I c8 3),by simp [upd,g3],zc (M xJ) (M HD) (by decide) (ye rfl)⟩
       | 5,Y =>
        obtain rfl:=hD Y
        have g3:=U 3 (yc D 3 rfl) _ rfl
        have g4:=U 4 (yc D 4 rfl) _ rfl
        clear D U xe
        rw [if_pos (by simp only [g3]; rfl)]
        unfold Oper.wp
        go_simp
        exact ⟨upd f 5 (H left),by simp [upd,g3,g4],zc (M xJ) (M HD) (by decide) (ye rfl)⟩
       | 6,Y =>
        obtain rfl:=hD Y
        have g3:=U 3 (yc D 3 rfl) _ rfl
        have g5:=U 5 (yc D 5 rfl) _ rfl
        clear D U xe
        rw [if_pos (by simp only [g3]; rfl)]
        unfold Oper.wp
        go_simp
        exact ⟨upd f 6 (.bool true),by simp [upd,g3,g5],zc (M xJ) (M HD) (by decide) (ye rfl)⟩
       | 7,Y =>
        obtain rfl:=hD Y
        have g3:=U 3 (yc D 3 rfl) _ rfl
        have g6:=U 6 (yc D 6 rfl) _ rfl
        clear D U xe
        rw [if_pos (by rfl)];unfold Oper.wp;go_simp
        exact ⟨upd f 7 (.bool true),by simp [upd,g3,g6],zc (M xJ) (M HD) (by decide) (ye rfl)⟩
       | 8,Y =>
        obtain rfl:=hD Y
        have g7:=U 7 (yc D 7 rfl) _ rfl
        clear D U xe
        rw [if_pos (by rfl)];unfold Oper.wp;go_simp
        exact ⟨upd f 8 (.bool true),by simp [upd,g7],zc (M xJ) (M HD) (by decide) (ye rfl)⟩
       | 9,Y =>
        obtain rfl:=hD Y
        have g8:=U 8 (yc D 8 rfl) _ rfl
        clear D U xe
        rw [if_pos (by simp only [g8]; rfl)]
        unfold Oper.wp
        go_simp
        exact ⟨upd f 9 (.slice al hj.length cal),by simp [upd,g8],zc (M xJ) (M HD) (by decide) (ye rfl)⟩
       | 10,Y =>
        obtain rfl:=hD Y
        have g8:=U 8 (yc D 8 rfl) _ rfl
        have g9:=U 9 (yc D 9 rfl) _ rfl
        clear D U xe
        rw [if_pos (by simp only [g8]; rfl)]
        unfold Oper.wp
        go_simp
        exact ⟨upd f 10 (H hj.length),by simp [upd,g8,g9],zc (M xJ) (M HD) (by decide) (ye rfl)⟩
       | 11,Y =>
        obtain rfl:=hD Y
        have g8:=U 8 (yc D 8 rfl) _ rfl
        have vP:=U 10 (yc D 10 rfl) _ rfl
        clear D U xe
        rw [if_pos (by simp only [g8]; rfl)]
        unfold Oper.wp
        go_simp
        exact ⟨upd f 11 (.bool true),by simp [upd,g8,vP],zc (M xJ) (M HD) (by decide) (ye rfl)⟩
       | 12,Y =>
        obtain rfl:=hD Y
        have g8:=U 8 (yc D 8 rfl) _ rfl
        have vr:=U 11 (yc D 11 rfl) _ rfl
        clear D U xe
        rw [if_pos (by simp only [g8]; rfl)]
        unfold Oper.wp
        go_simp
        exact ⟨upd f 12 (.bool true),by simp [upd,g8,vr],zc (M xJ) (M HD) (by decide) (ye rfl)⟩
       | 13,Y | 14,Y | 15,Y | 16,Y | 17,Y | 18,Y | 19,Y | 20,Y =>
        obtain rfl:=hD Y
        have xX:=U 12 (yc D 12 rfl) _ rfl
        clear D U xe
        rw [if_neg (by simp only [xX]; exact fun h=>Bool.noConfusion (show (false:Bool) = true from h))]
        exact ⟨upd f _ Z,rfl,zc (M xJ) (M HD) (by decide) (ye rfl)⟩
       | 21,Y =>
        obtain rfl:=hD Y
        have g8:=U 8 (yc D 8 rfl) _ rfl
        have xX:=U 12 (yc D 12 rfl) _ rfl
        have g20:=U 20 (yc D 20 rfl) _ rfl
        clear D U xe
        rw [if_pos (by simp only [g8]; rfl)]
        unfold Oper.wp
        go_simp
        exact ⟨upd f 21 (.bool true),by simp [upd,g8,xX,g20],zc (M xJ) (M HD) (by decide) (ye rfl)⟩
       | 22,Y =>
        obtain rfl:=hD Y
        have g8:=U 8 (yc D 8 rfl) _ rfl
        have g21:=U 21 (yc D 21 rfl) _ rfl
        clear D U xe
        rw [if_pos (by rfl)];unfold Oper.wp;go_simp
        exact ⟨upd f 22 (.bool true),by simp [upd,g8,g21],zc (M xJ) (M HD) (by decide) (ye rfl)⟩
       | n + 23,Y=>simp at Y
     ·have HQ0:Hid (res = if decide (8 < ((nlev (hj ++ [⟨next,s,tt,left,li,O⟩]):Nat):Int)) = true then 13 else 0):=(M HRS).trans (by
       rw [if_pos brs,if_pos oU,if_neg oy]
       by_cases h8:8 < nlev (hj ++ [⟨next,s,tt,left,li,O⟩])
       ·rw [if_pos h8,if_pos (by simp only [xc]; omega)]
       ·rw [if_neg h8,if_neg (by simp only [xc]; omega)])
      have HLV2:=Q (fun (W:World) (v:Value) (hW:RdR Od.vs 6 W v (hj ++ [⟨next,s,tt,left,li,O⟩]))=>l03Levels_any v (hj ++ [⟨next,s,tt,left,li,O⟩]) W hW (by simp; omega))
      generalize ((nlev (hj ++ [⟨next,s,tt,left,li,O⟩]):Nat):Int) = mb at HQ0 HLV2
      have au:¬ (hj.length:Int) = 20:=by omega
      have hb20:((hj.length:Int) == 20) = false:=by rw [xa]; exact au
      have hlf':decide (0 < left) = true:=by simpa using oU
      obtain ⟨i0,uv,uq,uw,uM⟩:=info_parts Tryz.infoOrder
      clear oy
      go_wp2_with fail
      refine zi (R9A (fun f=>{ tmps:=#[.agg #[H next,.slice a l.length F],.agg (yu kk s ty li X ii pr O).toArray,I w.heap.size 0,I (w.heap.size + 1) 0,H 0,u5,u6,.slice al hj.length cal,I c8 0,.slice ae ts.length ce,u10,u11,u12,u13,u14,u15,u16,u17,u18,u19,u20,u21,u22,u23,u24,u25,u26,u27,u28,u29,u30,u31,u32,u33,u34,u35,u36,u37,u38,u39,u40,u41,u42,u43,u44,u45,u46,u47,u48,u49,u50,u51,u52,u53,u54,u55,u56,u57,u58,u59,u60,u61,u62,u63,u64,u65,u66,u67,u68,u69,u70,u71,u72,u73,u74,u75,u76,u77,u78,u79,u80,u81,u82,u83,u84,u85,u86,u87,u88,u89,u90,u91,u92,u93,u94,u95,u96,u97,u98,u99,u100,u101,u102,f 0,f 1,f 2,f 3,f 4,f 5,f 6,f 7,f 8,f 9,f 10,f 11,f 12,f 13,f 14,f 15,f 16,f 17,f 18,f 19,f 20,f 21,f 22],defers:=[] }) (C9 w.heap.size c8 ty left (.slice al hj.length cal) hj.length (.agg (yt next s tt left li O).toArray) mb) V hj ⟨next,s,tt,left,li,O⟩) (by kernel_rfl) ?_ ?_ ?_
      ·exact ⟨fun j=>Z,rfl,⟨⟨rfl,rfl,rfl,Nat.le_refl _,fun _ _=>rfl⟩,fun j L=>by rw [yF] at L; split at L <;> simp at L,by simp,by simp,by simp,by simp⟩⟩
      ·rintro x hR V' ⟨f,rfl,A⟩ hx xK
       have xm:=aK xK hx (acyc _ (by kernel_rfl))
       have e22:f 22 = .bool (decide (8 < mb)):=A.c 22 (xm 22 (by simp))
       have xM:=Q ((M xo).trans (A.bel.mono (M xo).size))
       simp only [e22]
       clear A xm e22 xK hx
       cases hd:decide (8 < mb)
       ·have kC:Hid (res = 0):=(M HQ0).trans (by rw [hd]; rfl)
        go_wp2_with fail
        go_ret
        exact ⟨zv (M kC).symm,M xM⟩
       ·have kC:Hid (res = 13):=(M HQ0).trans (by rw [hd]; rfl)
        go_wp2_with fail
        go_ret
        exact ⟨zv (M kC).symm,M xM⟩
      ·rintro x hR V' i' o' ⟨f,rfl,A⟩ xk hx Y xq D
       have xv:=Q A
       have o2:V'.cell? (J (w.heap.size + 1) 2) = some (H ty):=zb (M HXV).2 A.bel hVS 2 _ rfl
       have HC9:=Q (zb (M HC8) A.bel jq)
       have c3:V'.cell? (J c8 3) = some (H left):=M HC9 3 _ rfl
       have xe:=Q A.bel
       clear HRS HQ0
       match i',Y with
       | 0,Y =>
        obtain rfl:=hD Y
        clear D A xk
        rw [if_pos (by rfl)];unfold Oper.wp;go_simp
        exact ⟨upd f 0 (I (w.heap.size + 1) 2),by simp [upd],aO (M xv) 0 _ rfl (by decide) (by decide) (by decide) (by decide)⟩
       | 1,Y =>
        obtain rfl:=hD Y
        have g0:f 0 = I (w.heap.size + 1) 2:=A.c 0 (yc D 0 rfl)
        clear D A xk
        rw [if_pos (by rfl)];unfold Oper.wp;go_simp
        exact ⟨upd f 1 (H ty),by simp [upd,g0],aO (M xv) 1 _ rfl (by decide) (by decide) (by decide) (by decide)⟩
       | 2,Y =>
        obtain rfl:=hD Y
        have g1:f 1 = H ty:=A.c 1 (yc D 1 rfl)
        clear D A xk
        rw [if_pos (by rfl)];unfold Oper.wp;go_simp
        refine (cI ty _).mono ?_
        rintro e w3 ⟨rfl,hw3⟩
        rw [hw3,brs]
        exact ⟨upd f 2 (.bool true),by simp [upd,g1],aO (M xv) 2 _ rfl (by decide) (by decide) (by decide) (by decide)⟩
       | 3,Y =>
        obtain rfl:=hD Y
        have g2:f 2 = .bool true:=A.c 2 (yc D 2 rfl)
        clear D A xk
        rw [if_pos (by rfl)];unfold Oper.wp;go_simp
        exact ⟨upd f 3 (.bool true),by simp [upd,g2],aO (M xv) 3 _ rfl (by decide) (by decide) (by decide) (by decide)⟩
       | 4,Y =>
        obtain rfl:=hD Y
        have g3:f 3 = .bool true:=A.c 3 (yc D 3 rfl)
        clear D A xk
        rw [if_pos (by simp only [g3]; rfl)]
        unfold Oper.wp
        go_simp
        exact ⟨upd f 4 (I c8 3),by simp [upd,g3],aO (M xv) 4 _ rfl (by decide) (by decide) (by decide) (by decide)⟩
       | 5,Y =>
        obtain rfl:=hD Y
        have g4:f 4 = I c8 3:=A.c 4 (yc D 4 rfl)
        have g3:f 3 = .bool true:=A.c 3 (yc D 3 rfl)
        clear D A xk
        rw [if_pos (by simp only [g3]; rfl)]
        unfold Oper.wp
        go_simp
        exact ⟨upd f 5 (H left),by simp [upd,g4,g3],aO (M xv) 5 _ rfl (by decide) (by decide) (by decide) (by decide)⟩
       | 6,Y =>
        obtain rfl:=hD Y
        have g5:f 5 = H left:=A.c 5 (yc D 5 rfl)
        have g3:f 3 = .bool true:=A.c 3 (yc D 3 rfl)
        clear D A xk
        rw [if_pos (by simp only [g3]; rfl)]
        unfold Oper.wp
        go_simp
        exact ⟨upd f 6 (.bool true),by simp [upd,g5,g3],aO (M xv) 6 _ rfl (by decide) (by decide) (by decide) (by decide)⟩
       | 7,Y =>
        obtain rfl:=hD Y
        have g3:f 3 = .bool true:=A.c 3 (yc D 3 rfl)
        have g6:f 6 = .bool true:=A.c 6 (yc D 6 rfl)
        clear D A xk
        rw [if_pos (by rfl)];unfold Oper.wp;go_simp
        exact ⟨upd f 7 (.bool true),by simp [upd,g3,g6],aO (M xv) 7 _ rfl (by decide) (by decide) (by decide) (by decide)⟩
       | 8,Y =>
        obtain rfl:=hD Y
        have g7:f 7 = .bool true:=A.c 7 (yc D 7 rfl)
        clear D A xk
        rw [if_pos (by rfl)];unfold Oper.wp;go_simp
        exact ⟨upd f 8 (.bool true),by simp [upd,g7],aO (M xv) 8 _ rfl (by decide) (by decide) (by decide) (by decide)⟩
       | 9,Y =>
        obtain rfl:=hD Y
        have g8:f 8 = .bool true:=A.c 8 (yc D 8 rfl)
        clear D A xk
        rw [if_pos (by simp only [g8]; rfl)]
        unfold Oper.wp
        go_simp
        exact ⟨upd f 9 (.slice al hj.length cal),by simp [upd,g8],aO (M xv) 9 _ rfl (by decide) (by decide) (by decide) (by decide)⟩
       | 10,Y =>
        obtain rfl:=hD Y
        have g9:f 9 = .slice al hj.length cal:=A.c 9 (yc D 9 rfl)
        have g8:f 8 = .bool true:=A.c 8 (yc D 8 rfl)
        clear D A xk
        rw [if_pos (by simp only [g8]; rfl)]
        unfold Oper.wp
        go_simp
        exact ⟨upd f 10 (H hj.length),by simp [upd,g9,g8],aO (M xv) 10 _ rfl (by decide) (by decide) (by decide) (by decide)⟩
       | 11,Y =>
        obtain rfl:=hD Y
        have vP:f 10 = H hj.length:=A.c 10 (yc D 10 rfl)
        have g8:f 8 = .bool true:=A.c 8 (yc D 8 rfl)
        clear D A xk
        rw [if_pos (by simp only [g8]; rfl)]
        unfold Oper.wp
        go_simp
        exact ⟨upd f 11 (.bool false),by simp [upd,vP,g8],aO (M xv) 11 _ rfl (by decide) (by decide) (by decide) (by decide)⟩
       | 12,Y =>
        obtain rfl:=hD Y
        have vr:f 11 = .bool false:=A.c 11 (yc D 11 rfl)
        have g8:f 8 = .bool true:=A.c 8 (yc D 8 rfl)
        clear D A xk
        rw [if_pos (by simp only [g8]; rfl)]
        unfold Oper.wp
        go_simp
        exact ⟨upd f 12 (.bool false),by simp [upd,vr,g8],aO (M xv) 12 _ rfl (by decide) (by decide) (by decide) (by decide)⟩
       | 13,Y =>
        obtain rfl:=hD Y
        have xX:f 12 = .bool false:=A.c 12 (yc D 12 rfl)
        clear D A xk
        rw [if_pos (by simp only [xX]; rfl)]
        unfold Oper.wp
        go_simp
        exact ⟨upd f 13 (.slice (some (J V'.heap.size 0)) 0 0),by simp [upd,xX],r9_13 (M xv) xq (fun _=>trivial)⟩
       | 14,Y =>
        obtain rfl:=hD Y
        have xX:f 12 = .bool false:=A.c 12 (yc D 12 rfl)
        clear D A xk
        rw [if_pos (by simp only [xX]; rfl)]
        unfold Oper.wp
        go_simp
        exact ⟨upd f 14 (.slice al hj.length cal),by simp [upd,xX],aO (M xv) 14 _ rfl (by decide) (by decide) (by decide) (by decide)⟩
       | 15,Y =>
        obtain rfl:=hD Y
        have xX:f 12 = .bool false:=A.c 12 (yc D 12 rfl)
        have jU:f 14 = .slice al hj.length cal:=A.c 14 (yc D 14 rfl)
        have k13:x[13]? = some true:=D ⟨13,.data⟩ (by simp) rfl
        have n18:x[18]? = some false:=by
         rcases bK hx (show 18 < 23 by omega) with h | h
         ·exact h
         ·have:=yd xk 18 rfl h 15 rfl
          rw [xq] at this; cases this
        have HO13:=Q (A.m13 k13 xq)
        have uQ:Hid (∀ ad,al = some ad→∀ j u,(hj.flatMap Od.vs)[j]? = some u→V'.cell? (ad.add j) = some u):=fun ad had=>by
         have h:=zh (M HRL) (M xe) tg
         rw [had] at h
         exact rd_src h
        clear D A xk
        rw [if_pos (by simp only [xX]; rfl)]
        rcases M HSV with h | ⟨ad,nn,cc,h⟩
        ·simp only [Value.slice.injEq] at h
         have hL:hj = []:=List.length_eq_zero_iff.1 h.2.1
         refine eC (.tmp 116) (.tmp 117) 26 rfl V.heap.size 49 i0 6 Tryz.underlying26 uv (f 13) 0 [] rfl (M HO13) (by show f 14 = _; rw [jU,h.1,h.2.1,h.2.2]) ?_
         refine ⟨upd f 15 (f 13),rfl,r9_15 (M xv) k13 xq n18 (fun _=>trivial) (by rw [hL]; exact M HO13) (yO _ _)⟩
        ·simp only [Value.slice.injEq] at h
         refine wp_append_own V' (.tmp 116) (.tmp 117) 26 rfl V.heap.size 49 i0 _ 6 56 Tryz.underlying26 uv uq uw uM rfl (by decide) (f 13) 0 [] rfl (M HO13) ad hj.length cal (hj.flatMap Od.vs) (by show f 14 = _; rw [jU,h.1]) (by rw [zM Od.len]) (M uQ ad h.1) (bh hj) (by unfold maxLen; omega) (by omega) (M xe).size ?_
         intro v' w' xN ut _
         refine ⟨upd f 15 v',rfl,r9_15 (M xv) k13 xq n18 (fun _=>trivial) ?_ ut⟩
         show w'.ownsRow _ _ _ _ hj.length _
         simpa using xN
       | 16,Y =>
        obtain rfl:=hD Y
        have xX:f 12 = .bool false:=A.c 12 (yc D 12 rfl)
        obtain ⟨q0,q1,q2,q3,q4,q5⟩:=yz (M HC9)
        clear D A xk
        rw [if_pos (by simp only [xX]; rfl)]
        unfold Oper.wp
        go_simp
        exact ⟨upd f 16 (.agg (yt next s tt left li O).toArray),by simp [upd,xX],aO (M xv) 16 _ rfl (by decide) (by decide) (by decide) (by decide)⟩
       | 17,Y =>
        obtain rfl:=hD Y
        have xX:f 12 = .bool false:=A.c 12 (yc D 12 rfl)
        have g16:f 16 = .agg (yt next s tt left li O).toArray:=A.c 16 (yc D 16 rfl)
        have n18:x[18]? = some false:=by
         rcases bK hx (show 18 < 23 by omega) with h | h
         ·exact h
         ·have:=yd xk 18 rfl h 17 rfl
          rw [xq] at this; cases this
        clear D A xk
        rw [if_pos (by simp only [xX]; rfl)]
        unfold Oper.wp
        go_simp
        exact ⟨upd f 17 (.slice (some (J V'.heap.size 0)) 1 1),by simp [upd,xX,g16],r9_17 (M xv) xq n18 (fun _=>trivial)⟩
       | 18,Y =>
        obtain rfl:=hD Y
        have xX:f 12 = .bool false:=A.c 12 (yc D 12 rfl)
        have k15:x[15]? = some true:=D ⟨15,.data⟩ (by simp) rfl
        obtain ⟨b,g17,xR,ue,uf,-⟩:=A.m17 (yc D 17 rfl) xq
        have HO15:=Q (A.m15 k15 xq)
        have uQ:Hid (∀ j u,(Od.vs ⟨next,s,tt,left,li,O⟩)[j]? = some u→V'.cell? (((J b 0):Addr).add j) = some u):=fun j u hu=>by
         have:=uf j u hu
         rw [Addr.add_mid]; exact this
        clear D A xk uf
        rw [if_pos (by simp only [xX]; rfl)]
        refine wp_append_own V' (.tmp 118) (.tmp 120) 26 rfl V.heap.size 49 i0 _ 6 56 Tryz.underlying26 uv uq uw uM rfl (by decide) (f 15) hj.length (hj.flatMap Od.vs) rfl (M HO15) (J b 0) 1 1 (Od.vs ⟨next,s,tt,left,li,O⟩) (by show f 17 = _; exact g17) rfl (M uQ) (one_od _) (by unfold maxLen; omega) (by omega) (M xe).size ?_
        intro v' w' xN ut _
        refine ⟨upd f 18 v',rfl,r9_18 (M xv) k15 xq (fun _=>trivial) ?_ ut⟩
        show w'.ownsRow _ _ _ _ (hj ++ [(⟨next,s,tt,left,li,O⟩:Od)]).length _
        rw [yM,List.flatMap_append]
        simpa using xN
       | 19,Y =>
        obtain rfl:=hD Y
        have xX:f 12 = .bool false:=A.c 12 (yc D 12 rfl)
        have HO18:=Q (A.m18 (yc D 18 rfl))
        clear D A xk
        rw [if_pos (by simp only [xX]; rfl)]
        unfold Oper.wp
        go_simp
        refine (M HLV2 V' (f 18) (zT (M HO18) (by simp; omega))).mono ?_
        rintro e w4 ⟨rfl,km⟩
        exact ⟨upd f 19 (H mb),by simp [upd,xX],aO (r9_grow (M xv) (gr_below' km (fun g hg=>by cases hg) tg)) 19 _ rfl (by decide) (by decide) (by decide) (by decide)⟩
       | 20,Y =>
        obtain rfl:=hD Y
        have g19:f 19 = H mb:=A.c 19 (yc D 19 rfl)
        have xX:f 12 = .bool false:=A.c 12 (yc D 12 rfl)
        clear D A xk
        rw [if_pos (by simp only [xX]; rfl)]
        unfold Oper.wp
        go_simp
        exact ⟨upd f 20 (.bool (decide (8 < mb))),by simp [upd,g19,xX],aO (M xv) 20 _ rfl (by decide) (by decide) (by decide) (by decide)⟩
       | 21,Y =>
        obtain rfl:=hD Y
        have xX:f 12 = .bool false:=A.c 12 (yc D 12 rfl)
        have g20:f 20 = .bool (decide (8 < mb)):=A.c 20 (yc D 20 rfl)
        have g8:f 8 = .bool true:=A.c 8 (yc D 8 rfl)
        clear D A xk
        rw [if_pos (by simp only [g8]; rfl)]
        unfold Oper.wp
        go_simp
        exact ⟨upd f 21 (.bool (decide (8 < mb))),by simp [upd,xX,g20,g8],aO (M xv) 21 _ rfl (by decide) (by decide) (by decide) (by decide)⟩
       | 22,Y =>
        obtain rfl:=hD Y
        have g8:f 8 = .bool true:=A.c 8 (yc D 8 rfl)
        have g21:f 21 = .bool (decide (8 < mb)):=A.c 21 (yc D 21 rfl)
        clear D A xk
        rw [if_pos (by rfl)];unfold Oper.wp;go_simp
        exact ⟨upd f 22 (.bool (decide (8 < mb))),by simp [upd,g8,g21],aO (M xv) 22 _ rfl (by decide) (by decide) (by decide) (by decide)⟩
       | n + 23,Y=>simp at Y
    ·have HQ0:Hid (res = 0):=(M HRS).trans (by rw [if_pos brs,if_neg oU])
     have hlf':decide (0 < left) = false:=by simpa using oU
     go_wp2_with fail
     refine zi (RG V (fun f=>{ tmps:=#[.agg #[H next,.slice a l.length F],.agg (yu kk s ty li X ii pr O).toArray,I w.heap.size 0,I (w.heap.size + 1) 0,H 0,u5,u6,.slice al hj.length cal,I c8 0,.slice ae ts.length ce,u10,u11,u12,u13,u14,u15,u16,u17,u18,u19,u20,u21,u22,u23,u24,u25,u26,u27,u28,u29,u30,u31,u32,u33,u34,u35,u36,u37,u38,u39,u40,u41,u42,u43,u44,u45,u46,u47,u48,u49,u50,u51,u52,u53,u54,u55,u56,u57,u58,u59,u60,u61,u62,u63,u64,u65,u66,u67,u68,u69,u70,u71,u72,u73,u74,u75,u76,u77,u78,u79,u80,u81,u82,u83,u84,u85,u86,u87,u88,u89,u90,u91,u92,u93,u94,u95,u96,u97,u98,u99,u100,u101,u102,f 0,f 1,f 2,f 3,f 4,f 5,f 6,f 7,f 8,f 9,f 10,f 11,f 12,f 13,f 14,f 15,f 16,f 17,f 18,f 19,f 20,f 21,f 22],defers:=[] }) 99 (DV [I (w.heap.size + 1) 2,H ty,.bool true,.bool true,I c8 3,H left,.bool false,.bool false,.bool false,Z,Z,Z,Z,Z,Z,Z,Z,Z,Z,Z,Z,Z,.bool false])) (by kernel_rfl) ?_ ?_ ?_
     ·exact ⟨fun _=>Z,rfl,⟨rfl,rfl,rfl,Nat.le_refl _,fun _ _=>rfl⟩,fun j L=>by rw [yF] at L; split at L <;> simp at L⟩
     ·rintro x hR V' ⟨f,rfl,xe,U⟩ hx xK
      have xm:=aK xK hx (acyc _ (by kernel_rfl))
      have e22:f 22 = .bool false:=U 22 (xm 22 (by simp)) _ rfl
      have xM:=Q (eG (M xo) xe)
      simp only [e22]
      clear U xm e22 xK hx xe
      go_wp2_with fail
      go_ret
      exact ⟨zv (M HQ0).symm,M xM⟩
     ·rintro x hR V' i' o' ⟨f,rfl,xe,U⟩ xk hx Y xq D
      clear xk
      have xJ:=Q xe
      have HD:=Q U
      have o2:V'.cell? (J (w.heap.size + 1) 2) = some (H ty):=zb (M HXV).2 xe hVS 2 _ rfl
      have c3:V'.cell? (J c8 3) = some (H left):=zb (M HC8) xe jq 3 _ rfl
      clear HRS HQ0
      match i',Y with
      | 0,Y =>
       obtain rfl:=hD Y
       clear D U xe
       rw [if_pos (by rfl)];unfold Oper.wp;go_simp
       exact ⟨upd f 0 (I (w.heap.size + 1) 2),by simp [upd],zc (M xJ) (M HD) (by decide) (ye rfl)⟩
      | 1,Y =>
       obtain rfl:=hD Y
       have g0:=U 0 (yc D 0 rfl) _ rfl
       clear D U xe
       rw [if_pos (by rfl)];unfold Oper.wp;go_simp
       exact ⟨upd f 1 (H ty),by simp [upd,g0],zc (M xJ) (M HD) (by decide) (ye rfl)⟩
      | 2,Y =>
       obtain rfl:=hD Y
       have g1:=U 1 (yc D 1 rfl) _ rfl
       clear D U xe
       rw [if_pos (by rfl)];unfold Oper.wp;go_simp
       refine (cI ty _).mono ?_
       rintro e w3 ⟨rfl,hw3⟩
       rw [hw3,brs]
       exact ⟨upd f 2 (.bool true),by simp [upd,g1],zc (M xJ) (M HD) (by decide) (ye rfl)⟩
      | 3,Y =>
       obtain rfl:=hD Y
       have g2:=U 2 (yc D 2 rfl) _ rfl
       clear D U xe
       rw [if_pos (by rfl)];unfold Oper.wp;go_simp
       exact ⟨upd f 3 (.bool true),by simp [upd,g2],zc (M xJ) (M HD) (by decide) (ye rfl)⟩
      | 4,Y =>
       obtain rfl:=hD Y
       have g3:=U 3 (yc D 3 rfl) _ rfl
       clear D U xe
       rw [if_pos (by simp only [g3]; rfl)]
       unfold Oper.wp
       go_simp
       exact ⟨upd f 4 (I c8 3),by simp [upd,g3],zc (M xJ) (M HD) (by decide) (ye rfl)⟩
      | 5,Y =>
       obtain rfl:=hD Y
       have g3:=U 3 (yc D 3 rfl) _ rfl
       have g4:=U 4 (yc D 4 rfl) _ rfl
       clear D U xe
       rw [if_pos (by simp only [g3]; rfl)]
       unfold Oper.wp
       go_simp
       exact ⟨upd f 5 (H left),by simp [upd,g3,g4],zc (M xJ) (M HD) (by decide) (ye rfl)⟩
      | 6,Y =>
       obtain rfl:=hD Y
       have g3:=U 3 (yc D 3 rfl) _ rfl
       have g5:=U 5 (yc D 5 rfl) _ rfl
       clear D U xe
       rw [if_pos (by simp only [g3]; rfl)]
       unfold Oper.wp
       go_simp
       exact ⟨upd f 6 (.bool false),by simp [upd,g3,g5],zc (M xJ) (M HD) (by decide) (ye rfl)⟩
      | 7,Y =>
       obtain rfl:=hD Y
       have g3:=U 3 (yc D 3 rfl) _ rfl
       have g6:=U 6 (yc D 6 rfl) _ rfl
       clear D U xe
       rw [if_pos (by rfl)];unfold Oper.wp;go_simp
       exact ⟨upd f 7 (.bool false),by simp [upd,g3,g6],zc (M xJ) (M HD) (by decide) (ye rfl)⟩
      | 8,Y =>
       obtain rfl:=hD Y
       have g7:=U 7 (yc D 7 rfl) _ rfl
       clear D U xe
       rw [if_pos (by rfl)];unfold Oper.wp;go_simp
       exact ⟨upd f 8 (.bool false),by simp [upd,g7],zc (M xJ) (M HD) (by decide) (ye rfl)⟩
      | 9,Y | 10,Y | 11,Y | 12,Y | 21,Y =>
       obtain rfl:=hD Y
       have g8:=U 8 (yc D 8 rfl) _ rfl
       clear D U xe
       rw [if_neg (by simp only [g8]; exact fun h=>Bool.noConfusion (show (false:Bool) = true from h))]
       exact ⟨upd f _ Z,rfl,zc (M xJ) (M HD) (by decide) (ye rfl)⟩
      | 13,Y | 14,Y | 15,Y | 16,Y | 17,Y | 18,Y | 19,Y | 20,Y =>
       obtain rfl:=hD Y
       have xX:=U 12 (yc D 12 rfl) _ rfl
       clear D U xe
       rw [if_neg (by simp only [xX]; exact fun h=>Bool.noConfusion (show (false:Bool) = true from h))]
       exact ⟨upd f _ Z,rfl,zc (M xJ) (M HD) (by decide) (ye rfl)⟩
      | 22,Y =>
       obtain rfl:=hD Y
       have g8:=U 8 (yc D 8 rfl) _ rfl
       have g21:=U 21 (yc D 21 rfl) _ rfl
       clear D U xe
       rw [if_pos (by rfl)];unfold Oper.wp;go_simp
       exact ⟨upd f 22 (.bool false),by simp [upd,g8,g21],zc (M xJ) (M HD) (by decide) (ye rfl)⟩
      | n + 23,Y=>simp at Y
   clear xu
   have HTN:Hid (¬ (ty = 5∧0 < ts.length)→¬ (ty = 4∧0 < left)→next = 1000000→res = 13):=fun g5 g4 gn=>by
    have:=M qR
    rw [if_neg g5,if_neg g4,if_pos gn] at this
    exact this
   by_cases h5:ty = 5
   ·by_cases hts:0 < ts.length
    ·have kC:Hid (res = 11):=(M qR).trans (if_pos ⟨h5,hts⟩)
     subst h5
     have hts':(0:Int) < ts.length:=by omega
     clear hts vh HTN
     go_wp2_with fail
     go_ret
     exact ⟨zv (M kC).symm,M xo⟩
    ·subst h5
     have g5:¬ ((5:Int) = 5∧0 < ts.length):=fun h=>hts h.2
     have g4:¬ ((5:Int) = 4∧0 < left):=fun h=>by omega
     have hts':¬ (0:Int) < ts.length:=by omega
     have htz:(ts.length:Int) = 0:=by omega
     by_cases vU:next = 1000000
     ·have kC:=Q (M HTN g5 g4 vU)
      subst vU
      clear vh HTN g5 g4
      go_wp2_with fail
      go_ret
      exact ⟨zv (M kC).symm,M xo⟩
     have bn:(next == 1000000) = false:=by rw [xa]; exact vU
     have qE:=Q (M vh g5 g4 vU)
     clear vh HTN g5 g4 vU
     go_wp2_with fail
     exact M qE _ _ _ _ _ _ _ _ _ _ _ _ _ _ _ _ _ _ _ _ _ _ _ _ _ _ _ _ _ _ _ _ _ _ _ _ _ _ _ _ _ _ _ _ _ _ _ _ _ _ _ _ _ _ _ _ _ _ _ _ _ _ _ _ _ _ _ _ _ _ _ _ _ _ _ _ _ _ _ _ _ _ _ _ _ _ _ _ _ _ _ _ _ _ _
   ·have b5:(ty == 5) = false:=by rw [xa]; exact h5
    have g5:¬ (ty = 5∧0 < ts.length):=fun h=>h5 h.1
    by_cases h4:ty = 4
    ·by_cases oU:0 < left
     ·have kC:Hid (res = 12):=(M qR).trans (by rw [if_neg g5,if_pos ⟨h4,oU⟩])
      subst h4
      clear vh HTN h5 g5 b5
      go_wp2_with fail
      go_ret
      exact ⟨zv (M kC).symm,M xo⟩
     ·subst h4
      have g4:¬ ((4:Int) = 4∧0 < left):=fun h=>oU h.2
      by_cases vU:next = 1000000
      ·have kC:=Q (M HTN g5 g4 vU)
       subst vU
       clear vh HTN g5 g4
       go_wp2_with fail
       go_ret
       exact ⟨zv (M kC).symm,M xo⟩
      have bn:(next == 1000000) = false:=by rw [xa]; exact vU
      have qE:=Q (M vh g5 g4 vU)
      clear vh HTN g5 g4 vU
      go_wp2_with fail
      exact M qE _ _ _ _ _ _ _ _ _ _ _ _ _ _ _ _ _ _ _ _ _ _ _ _ _ _ _ _ _ _ _ _ _ _ _ _ _ _ _ _ _ _ _ _ _ _ _ _ _ _ _ _ _ _ _ _ _ _ _ _ _ _ _ _ _ _ _ _ _ _ _ _ _ _ _ _ _ _ _ _ _ _ _ _ _ _ _ _ _ _ _ _ _ _ _
    ·have b4:(ty == 4) = false:=by rw [xa]; exact h4
     have g4:¬ (ty = 4∧0 < left):=fun h=>h4 h.1
     by_cases vU:next = 1000000
     ·have kC:=Q (M HTN g5 g4 vU)
      subst vU
      clear vh HTN g5 g4
      go_wp2_with fail
      go_ret
      exact ⟨zv (M kC).symm,M xo⟩
     have bn:(next == 1000000) = false:=by rw [xa]; exact vU
     have qE:=Q (M vh g5 g4 vU)
     clear vh HTN g5 g4 vU
     go_wp2_with fail
     exact M qE _ _ _ _ _ _ _ _ _ _ _ _ _ _ _ _ _ _ _ _ _ _ _ _ _ _ _ _ _ _ _ _ _ _ _ _ _ _ _ _ _ _ _ _ _ _ _ _ _ _ _ _ _ _ _ _ _ _ _ _ _ _ _ _ _ _ _ _ _ _ _ _ _ _ _ _ _ _ _ _ _ _ _ _ _ _ _ _ _ _ _ _ _ _ _
  ·rintro x hR V i' o' ⟨f,rfl,A⟩ xk hx Y xq D
   have xv:=Q A
   have xe:=A.bel
   have xL:=M uj
   clear xu
   match i',Y with
   | 0,Y =>
    obtain rfl:=hD Y
    clear D A xk
    rw [if_pos (by rfl)];unfold Oper.wp;go_simp
    exact ⟨upd f 0 (I w.heap.size 1),by simp [upd],bS (M xv) 0 _ (by decide) (by decide) (by decide) (rfl)⟩
   | 1,Y =>
    obtain rfl:=hD Y
    have g0:f 0 = I w.heap.size 1:=A.e 0 (yc D 0 rfl)
    have z1:V.cell? (J w.heap.size 1) = some (.slice a l.length F):=zb (M HX).1 xe (by omega) 1 _ rfl
    clear D A xk
    rw [if_pos (by rfl)];unfold Oper.wp;go_simp
    exact ⟨upd f 1 (.slice a l.length F),by simp [upd,g0],bS (M xv) 1 _ (by decide) (by decide) (by decide) (rfl)⟩
   | 2,Y =>
    obtain rfl:=hD Y
    have z0:V.cell? (J w.heap.size 0) = some (H next):=zb (M HX).1 xe (by omega) 0 _ rfl
    have z1:V.cell? (J w.heap.size 1) = some (.slice a l.length F):=zb (M HX).1 xe (by omega) 1 _ rfl
    clear D A xk
    rw [if_pos (by rfl)];unfold Oper.wp;go_simp
    exact ⟨upd f 2 (.agg #[H next,.slice a l.length F]),by simp [upd],bS (M xv) 2 _ (by decide) (by decide) (by decide) (rfl)⟩
   | 3,Y =>
    obtain rfl:=hD Y
    obtain ⟨z0,z1,z2,z3,z4,z5,z6,z7⟩:=yA (zb (M HX).2 xe (by omega))
    clear D A xk
    rw [if_pos (by rfl)];unfold Oper.wp;go_simp
    exact ⟨upd f 3 (.agg (yu kk s ty li X ii pr O).toArray),by simp [upd],bS (M xv) 3 _ (by decide) (by decide) (by decide) (rfl)⟩
   | 4,Y =>
    obtain rfl:=hD Y
    have g2:f 2 = .agg #[H next,.slice a l.length F]:=A.e 2 (yc D 2 rfl)
    have g3:f 3 = .agg (yu kk s ty li X ii pr O).toArray:=A.e 3 (yc D 3 rfl)
    clear D A xk
    rw [if_pos (by rfl)];unfold Oper.wp;go_simp
    refine (M HTKR _).mono ?_
    rintro e w4 ⟨rfl,xy⟩
    exact ⟨upd f 4 (.agg (yt next s tt X li O).toArray),by simp [upd,g2,g3],bS (rn_grow (M xv) xy) 4 _ (by decide) (by decide) (by decide) rfl⟩
   | 5,Y =>
    obtain rfl:=hD Y
    have g1:f 1 = .slice a l.length F:=A.e 1 (yc D 1 rfl)
    have g4:f 4 = .agg (yt next s tt X li O).toArray:=A.e 4 (yc D 4 rfl)
    have qS:∀ j,(j = 6 ∨ j = 7 ∨ j = 9 ∨ j = 11 ∨ j = 13)→x[j]? ≠ some true:=fun j L e=>by
     have h6:x[6]? ≠ some true:=fun e6=>by have:=yd xk 6 rfl e6 5 rfl; rw [xq] at this; cases this
     rcases L with rfl | rfl | rfl | rfl | rfl
     ·exact h6 e
     ·exact h6 (yd xk 7 rfl e 6 rfl)
     ·exact h6 (yd xk 9 rfl e 6 rfl)
     ·exact h6 (yd xk 11 rfl e 6 rfl)
     ·exact h6 (yd xk 13 rfl e 6 rfl)
    have oa:=Q qS
    have oJ:=Q (zh (zh (M HR) (M xC) tg) xe tg)
    clear D A xk qS
    rw [if_pos (by rfl)];unfold Oper.wp;go_simp
    refine (M jJ V (M oJ)).mono ?_
    rintro e w4 ⟨lv,ve,rfl,hl4,he4,xy⟩
    refine ⟨upd f 5 (.tuple #[lv,.agg (yt next s tt left li O).toArray,ve]),by simp [upd,g1,g4],rn_5 (M xv) xy ?_ ?_ (M oa) ?_⟩
    ·rcases hl4 with ⟨rfl,hL⟩ | h
     ·simp only at hL; rw [hL]; exact ⟨zh (M oJ) xy tg,M uW⟩
     ·exact ⟨zT h (by have h20:hj.length ≤ 20:=(M HGF).1.len; show hj.length ≤ _; omega),cD h⟩
    ·rcases he4.2 with ⟨z,K⟩ | ⟨g,po,xp,z,_⟩
     ·exact ⟨none,0,by rw [z]; simp only at K; rw [K]⟩
     ·exact ⟨_,_,z⟩
    ·intro c8 px jq xA e
     rcases hl4 with ⟨rfl,hL⟩ | h
     ·simp only at hL
      obtain ⟨b,xR,ue⟩:=rd_block (M HR) (by rw [← hL]; exact xA)
      rw [xR] at e
      simp only [Option.some.injEq] at e
      have:=(M xC).size
      omega
     ·have:=(h.lt c8 e).1
      omega
   | 6,Y =>
    obtain rfl:=hD Y
    clear D A xk
    rw [if_pos (by rfl)];unfold Oper.wp;go_simp
    exact ⟨upd f 6 (f 5),by simp [upd],bS (M xv) 6 _ (by decide) (by decide) (by decide) (rfl)⟩
   | 7,Y =>
    obtain rfl:=hD Y
    obtain ⟨lv,ev,e5,-⟩:=A.m5 (yd xk 6 rfl (yc D 6 rfl) 5 rfl)
    have g6:f 6 = f 5:=A.e 6 (yc D 6 rfl)
    rw [e5] at g6
    clear D A xk
    rw [if_pos (by rfl)];unfold Oper.wp;go_simp
    exact ⟨upd f 7 lv,by simp [upd,g6,e5],bS (M xv) 7 _ (by decide) (by decide) (by decide) ⟨lv,ev,e5,rfl⟩⟩
   | 8,Y =>
    obtain rfl:=hD Y
    obtain ⟨lv,ev,e5,-⟩:=A.m5 (yd xk 6 rfl (yc D 6 rfl) 5 rfl)
    have g6:f 6 = f 5:=A.e 6 (yc D 6 rfl)
    rw [e5] at g6
    clear D A xk
    rw [if_pos (by rfl)];unfold Oper.wp;go_simp
    exact ⟨upd f 8 (.agg (yt next s tt left li O).toArray),by simp [upd,g6,e5],bS (M xv) 8 _ (by decide) (by decide) (by decide) rfl⟩
   | 9,Y =>
    obtain rfl:=hD Y
    obtain ⟨lv,ev,e5,-⟩:=A.m5 (yd xk 6 rfl (yc D 6 rfl) 5 rfl)
    have g6:f 6 = f 5:=A.e 6 (yc D 6 rfl)
    rw [e5] at g6
    clear D A xk
    rw [if_pos (by rfl)];unfold Oper.wp;go_simp
    exact ⟨upd f 9 ev,by simp [upd,g6,e5],bS (M xv) 9 _ (by decide) (by decide) (by decide) ⟨lv,ev,e5,rfl⟩⟩
   | 10,Y =>
    obtain rfl:=hD Y
    have pK:x[12]? ≠ some true:=fun e=>by have:=yd xk 12 rfl e 10 rfl; rw [xq] at this; cases this
    clear D A xk
    rw [if_pos (by rfl)];unfold Oper.wp;go_simp
    exact ⟨upd f 10 (I V.heap.size 0),by simp [upd],rn_10 (M xv) pK (zH V (yt 0 0 0 0 0 ⟨#[]⟩) _)⟩
   | 11,Y =>
    obtain rfl:=hD Y
    obtain ⟨lv,ev,e5,e7⟩:=A.e 7 (yc D 7 rfl)
    clear D A xk
    rw [if_pos (by rfl)];unfold Oper.wp;go_simp
    exact ⟨upd f 11 lv,by simp [upd,e7,e5],bS (M xv) 11 _ (by decide) (by decide) (by decide) ⟨lv,ev,e5,rfl⟩⟩
   | 12,Y =>
    obtain rfl:=hD Y
    have k5:x[5]? = some true:=D ⟨5,.phase⟩ (by simp) rfl
    have k10:x[10]? = some true:=D ⟨10,.data⟩ (by simp) rfl
    have g8:f 8 = .agg (yt next s tt left li O).toArray:=A.e 8 (yc D 8 rfl)
    obtain ⟨c8,vP,px,jq,xG,-⟩:=A.m10 k10
    obtain ⟨y0,z0,q0⟩:=zd xG (j:=0) (by omega)
    obtain ⟨y1,z1,q1⟩:=zd xG (j:=1) (by omega)
    obtain ⟨y2,z2,q2⟩:=zd xG (j:=2) (by omega)
    obtain ⟨y3,z3,q3⟩:=zd xG (j:=3) (by omega)
    obtain ⟨y4,z4,q4⟩:=zd xG (j:=4) (by omega)
    obtain ⟨y5,z5,q5⟩:=zd xG (j:=5) (by omega)
    clear D A xk xG
    rw [if_pos (by rfl)];unfold Oper.wp;go_simp
    exact ⟨f,by simp [g8,vP],rn_12 (M xv) k5 k10 vP rfl xq⟩
   | 13,Y =>
    obtain rfl:=hD Y
    obtain ⟨lv,ev,e5,e9⟩:=A.e 9 (yc D 9 rfl)
    clear D A xk
    rw [if_pos (by rfl)];unfold Oper.wp;go_simp
    exact ⟨upd f 13 ev,by simp [upd,e9,e5],bS (M xv) 13 _ (by decide) (by decide) (by decide) ⟨lv,ev,e5,rfl⟩⟩
   | n + 14,Y=>simp at Y
 clear xu
 cases bl:betB li 0 1
 have hl:lifW ⟨kk,s,ty,li,X,ii,pr,O⟩ = true:=by simp [lifW,bl]
 have HK:Hid (newR next l ⟨kk,s,ty,li,X,ii,pr,O⟩ = 5):=by show _ = _; simp [newR,bs,bt,hl]
 clear hl
 rotate_left
 by_cases z:li = 1
 subst z
 cases brs:ay ty
 have hl:lifW ⟨kk,s,ty,1,X,ii,pr,O⟩ = true:=by simp [lifW,brs]
 have HK:Hid (newR next l ⟨kk,s,ty,1,X,ii,pr,O⟩ = 5):=by show _ = _; simp [newR,bs,bt,hl]
 clear hl
 rotate_left
 have hl:lifW ⟨kk,s,ty,1,X,ii,pr,O⟩ = false:=by simp [lifW,brs,bl]
 by_cases K:ty = 2
 subst K
 by_cases hz:fbit pr = 0
 have hp:prcB ⟨kk,s,2,1,X,ii,pr,O⟩ = true:=by simp [prcB,hz]
 have dz:decide (fbit pr = 0) = true:=by simpa using hz
 clear hz
 cases bq:betB X 1 1000000
 have HK:Hid (newR next l ⟨kk,s,2,1,X,ii,pr,O⟩ = 7):=by show _ = _; simp [newR,bs,bt,hl,hp,bq]
 clear hl hp
 rotate_left
 cases bg:tagB O
 have HK:Hid (newR next l ⟨kk,s,2,1,X,ii,pr,O⟩ = 8):=by show _ = _; simp [newR,bs,bt,hl,hp,bq,bg]
 clear hl hp
 rotate_left
 have vh:=Q (M HT hl hp bq bg)
 clear HT hl hp
 rotate_left
 have hp:prcB ⟨kk,s,2,1,X,ii,pr,O⟩ = false:=by simp [prcB,hz]
 have dz:decide (fbit pr = 0) = false:=by simpa using hz
 clear hz
 have HK:Hid (newR next l ⟨kk,s,2,1,X,ii,pr,O⟩ = 6):=by show _ = _; simp [newR,bs,bt,hl,hp]
 clear hl hp
 rotate_left
 have b2:(ty == 2) = false:=by rw [xa]; exact K
 have b2n:(ty != 2) = true:=by simpa using K
 cases bk:tkOk pr
 have hp:prcB ⟨kk,s,ty,1,X,ii,pr,O⟩ = false:=by simp [prcB,K,bk]
 have HK:Hid (newR next l ⟨kk,s,ty,1,X,ii,pr,O⟩ = 6):=by show _ = _; simp [newR,bs,bt,hl,hp]
 clear hl hp K
 rotate_left
 have hp:prcB ⟨kk,s,ty,1,X,ii,pr,O⟩ = true:=by simp [prcB,K,bk]
 clear K
 cases bq:betB X 1 1000000
 have HK:Hid (newR next l ⟨kk,s,ty,1,X,ii,pr,O⟩ = 7):=by show _ = _; simp [newR,bs,bt,hl,hp,bq]
 clear hl hp
 rotate_left
 cases bg:tagB O
 have HK:Hid (newR next l ⟨kk,s,ty,1,X,ii,pr,O⟩ = 8):=by show _ = _; simp [newR,bs,bt,hl,hp,bq,bg]
 clear hl hp
 rotate_left
 have vh:=Q (M HT hl hp bq bg)
 clear HT hl hp
 rotate_left
 have hl:lifW ⟨kk,s,ty,li,X,ii,pr,O⟩ = false:=by simp [lifW,bl,z]
 have b1:(li == 1) = false:=by rw [xa]; exact z
 clear z
 by_cases K:ty = 2
 subst K
 by_cases hz:fbit pr = 0
 have hp:prcB ⟨kk,s,2,li,X,ii,pr,O⟩ = true:=by simp [prcB,hz]
 have dz:decide (fbit pr = 0) = true:=by simpa using hz
 clear hz
 cases bq:betB X 1 1000000
 have HK:Hid (newR next l ⟨kk,s,2,li,X,ii,pr,O⟩ = 7):=by show _ = _; simp [newR,bs,bt,hl,hp,bq]
 clear hl hp
 rotate_left
 cases bg:tagB O
 have HK:Hid (newR next l ⟨kk,s,2,li,X,ii,pr,O⟩ = 8):=by show _ = _; simp [newR,bs,bt,hl,hp,bq,bg]
 clear hl hp
 rotate_left
 have vh:=Q (M HT hl hp bq bg)
 clear HT hl hp
 rotate_left
 have hp:prcB ⟨kk,s,2,li,X,ii,pr,O⟩ = false:=by simp [prcB,hz]
 have dz:decide (fbit pr = 0) = false:=by simpa using hz
 clear hz
 have HK:Hid (newR next l ⟨kk,s,2,li,X,ii,pr,O⟩ = 6):=by show _ = _; simp [newR,bs,bt,hl,hp]
 clear hl hp
 rotate_left
 have b2:(ty == 2) = false:=by rw [xa]; exact K
 have b2n:(ty != 2) = true:=by simpa using K
 cases bk:tkOk pr
 have hp:prcB ⟨kk,s,ty,li,X,ii,pr,O⟩ = false:=by simp [prcB,K,bk]
 have HK:Hid (newR next l ⟨kk,s,ty,li,X,ii,pr,O⟩ = 6):=by show _ = _; simp [newR,bs,bt,hl,hp]
 clear hl hp K
 rotate_left
 have hp:prcB ⟨kk,s,ty,li,X,ii,pr,O⟩ = true:=by simp [prcB,K,bk]
 clear K
 cases bq:betB X 1 1000000
 have HK:Hid (newR next l ⟨kk,s,ty,li,X,ii,pr,O⟩ = 7):=by show _ = _; simp [newR,bs,bt,hl,hp,bq]
 clear hl hp
 rotate_left
 cases bg:tagB O
 have HK:Hid (newR next l ⟨kk,s,ty,li,X,ii,pr,O⟩ = 8):=by show _ = _; simp [newR,bs,bt,hl,hp,bq,bg]
 clear hl hp
 rotate_left
 have vh:=Q (M HT hl hp bq bg)
 clear HT hl hp
 all_goals
  go_wp2_with (first | (go_at_call 137; refine (M oK _).mono ?_; rintro e w' ⟨rfl,uc⟩; rw [uc]; clear uc w') | (go_at_call 80; refine (ba _ _ _ _).mono ?_; rintro e w' ⟨rfl,uc⟩; rw [uc]; clear uc w') | (go_at_call 91; refine (cI _ _).mono ?_; rintro e w' ⟨rfl,uc⟩; rw [uc]; clear uc w') | (go_at_call 159; refine (M HZR _).mono ?_; rintro e w' ⟨rfl,uc⟩; rw [uc]; clear uc w') | (go_at_call 130; refine (M qF _).mono ?_; rintro e w' ⟨rfl,uc⟩; rw [uc]; clear uc w'))
  first
  | exact M vh _ _ _ _ _ _ _ _ _ _ _ _ _ _ _ _ _ _ _ _ _ _ _ _ _ _ _ _ _ _ _ _ _ _ _ _ _ _ _ _ _ _ _ _ _ _ _ _ _ _ _ _ _ _ _ _ _ _ _ _ _ _ _
  | (go_ret; exact ⟨zv (M HK).symm,M xC⟩)
end Go.Proofs.YtbakanofkghmiaaGreat
