/-
  Why a new order is refused, by the model: proved by walking the function.
-/
import Derived.Test.YtopjoogdpjaocaaGreatTj34
set_option linter.unusedVariables false
set_option maxHeartbeats 6400000
set_option maxRecDepth 100000
namespace Go.Proofs.YtopjoogdpjaocaaGreat
open Go.RowKit
def EN (S:Nat) (vb bv cv ta tw u5:Value):Nat→Value→Prop
 | 0,v=>v = .pointer (some ⟨S,1,none⟩)
 | 1,v=>v = vb
 | 2,v=>v = bv
 | 3,v=>v = cv
 | 4,v=>v = ta
 | 6,v=>v = u5
 | 7,v=>∃ lv ev,u5 = .tuple #[lv,tw,ev]∧v = lv
 | 8,v=>v = tw
 | 9,v=>∃ lv ev,u5 = .tuple #[lv,tw,ev]∧v = ev
 | 11,v=>∃ lv ev,u5 = .tuple #[lv,tw,ev]∧v = lv
 | 13,v=>∃ lv ev,u5 = .tuple #[lv,tw,ev]∧v = ev
 | _,_=>True
theorem en_any {S:Nat} {vb bv cv ta tw u u':Value} {j:Nat} {v:Value} (h:EN S vb bv cv ta tw u j v) (h6:j ≠ 6) (h7:j ≠ 7) (h9:j ≠ 9) (h11:j ≠ 11) (h13:j ≠ 13):EN S vb bv cv ta tw u' j v:=by
 match j with
 | 0 | 1 | 2 | 3 | 4 | 8=>exact h
 | 5 | 10 | 12=>trivial
 | 6=>omega
 | 7=>omega
 | 9=>omega
 | 11=>omega
 | 13=>omega
 | j + 14=>trivial
def LVok (W:World) (lv:Value) (L:List Od):Prop:=RdR Od.vs 6 W lv L∧SlOk lv
def Dst (L:List Od) (u v:Value):Prop:=∀ lv tw ev c8,u = .tuple #[lv,tw,ev]→v = .pointer (some ⟨c8,0,none⟩)→L ≠ []→lv.ownBlock ≠ some c8
structure RN (S:Nat) (vb bv cv ta tw:Value) (twl:List Value) (L:List Od) (n2:Nat) (base:World) (x:List Bool) (f:Nat→Value) (W:World):Prop where
 bel:Below base.heap.size base W
 e:∀ j,x[j]? = some true→EN S vb bv cv ta tw (f 5) j (f j)
 m5:x[5]? = some true→∃ lv ev,f 5 = .tuple #[lv,tw,ev]∧LVok W lv L∧∃ a c,ev = .slice a n2 c
 m10:x[10]? = some true→∃ c8,f 10 = .pointer (some ⟨c8,0,none⟩)∧base.heap.size ≤ c8∧c8 < W.heap.size∧W.there c8 0 6∧(x[12]? = some true→W.rangeAt c8 0 twl)
 ap:x[5]? = some true→x[10]? = some true→Dst L (f 5) (f 10)
def RNA (F:(Nat→Value)→Act) (S:Nat) (vb bv cv ta tw:Value) (twl:List Value) (L:List Od) (n2:Nat) (base:World) (x:List Bool) (A:Act) (W:World):Prop:=∃ f,A = F f∧RN S vb bv cv ta tw twl L n2 base x f W
theorem tup3 {a b c a' b' c':Value} (h:Value.tuple #[a,b,c] = .tuple #[a',b',c']):a = a'∧b = b'∧c = c':=by
 have:=congrArg Array.toList (Value.tuple.inj h)
 simpa using this
theorem rd_block {W:World} {v:Value} {L:List Od} (h:RdR Od.vs 6 W v L) (hne:L ≠ []):∃ b,v.ownBlock = some b∧b < W.heap.size:=by
 obtain ⟨a,c,rfl,_,hc⟩:=h
 obtain ⟨b,off,rfl,hb,_⟩:=hc hne
 exact ⟨b,rfl,hb⟩
theorem rd_setC {W:World} {v:Value} {L:List Od} {c8 o:Nat} {vs:List Value} (h:RdR Od.vs 6 W v L) (hne:L ≠ []→v.ownBlock ≠ some c8):RdR Od.vs 6 (W.setCells c8 o vs) v L:=by
 obtain ⟨a,c,rfl,h1,hc⟩:=h
 refine ⟨a,c,rfl,h1,fun hl=>?_⟩
 obtain ⟨b,off,rfl,hb,hr⟩:=hc hl
 have hbc:c8 ≠ b:=fun e=>hne hl (by rw [e]; rfl)
 exact ⟨b,off,rfl,by rw [zS]; exact hb,fun i c hi=>zcd (hr i c hi) hbc⟩
section
variable {S:Nat} {vb bv cv ta tw:Value} {twl:List Value} {L:List Od} {n2:Nat} {base W W':World} {x:List Bool} {f:Nat→Value}
theorem rn_grow (h:RN S vb bv cv ta tw twl L n2 base x f W) (hb:Below W.heap.size W W'):RN S vb bv cv ta tw twl L n2 base x f W' :=
 ⟨h.bel.trans (hb.mono h.bel.size),h.e,fun h5=>by
  obtain ⟨lv,ev,h1,h2,h3⟩:=h.m5 h5
  exact ⟨lv,ev,h1,⟨zl h2.1 hb (Nat.le_refl _),h2.2⟩,h3⟩,fun h10=>by
  obtain ⟨c8,h1,h2,h3,h4,h5⟩:=h.m10 h10
  exact ⟨c8,h1,h2,Nat.lt_of_lt_of_le h3 hb.size,zf h4 hb h3,fun h12=>zb (h5 h12) hb h3⟩,h.ap⟩
theorem zbX (h:RN S vb bv cv ta tw twl L n2 base x f W) (i:Nat) (u:Value) (h5:i ≠ 5) (h10:i ≠ 10) (h12:i ≠ 12) (hu:EN S vb bv cv ta tw (f 5) i u):RN S vb bv cv ta tw twl L n2 base (x.set i true) (upd f i u) W:=by
 refine ⟨h.bel,fun j hj=>?_,?_,?_,?_⟩
 ·rw [zq f u (show 5 ≠ i from fun e=>h5 e.symm)]
  by_cases hji:j = i
  ·subst hji; rw [zp]; exact hu
  ·rw [zq _ _ hji]
   rw [gq (fun e=>hji e.symm)] at hj
   exact h.e j hj
 ·rw [gq h5,zq f u (show 5 ≠ i from fun e=>h5 e.symm)]; exact h.m5
 ·rw [gq h10,gq h12,zq f u (show 10 ≠ i from fun e=>h10 e.symm)]; exact h.m10
 ·rw [gq h5,gq h10,zq f u (show 5 ≠ i from fun e=>h5 e.symm),zq f u (show 10 ≠ i from fun e=>h10 e.symm)]; exact h.ap
theorem rn_5 (h:RN S vb bv cv ta tw twl L n2 base x f W) (hb:Below W.heap.size W W') {lv ev:Value} (hl:LVok W' lv L) (he:∃ a c,ev = .slice a n2 c) (hno:∀ j,(j = 6 ∨ j = 7 ∨ j = 9 ∨ j = 11 ∨ j = 13)→x[j]? ≠ some true)
  (hap:∀ c8,base.heap.size ≤ c8→c8 < W.heap.size→L ≠ []→lv.ownBlock ≠ some c8):RN S vb bv cv ta tw twl L n2 base (x.set 5 true) (upd f 5 (.tuple #[lv,tw,ev])) W':=by
 have hg:=rn_grow h hb
 refine ⟨hg.bel,fun j hj=>?_,fun _=>⟨lv,ev,zp _ _ _,hl,he⟩,?_,?_⟩
 ·by_cases hji:j = 5
  ·subst hji; trivial
  ·rw [gq (fun e=>hji e.symm)] at hj
   rw [zq _ _ hji]
   refine en_any (hg.e j hj) ?_ ?_ ?_ ?_ ?_ <;> intro e <;> exact hno j (by omega) hj
 ·rw [gq (by omega),gq (by omega),zq _ _ (by omega)]; exact hg.m10
 ·intro _ h10
  rw [gq (by omega)] at h10
  rw [zp,zq _ _ (by omega)]
  obtain ⟨c8,h1,h2,h3,_⟩:=h.m10 h10
  intro lv' tw' ev' c8' e1 e2 hne
  rw [h1] at e2
  simp only [Value.pointer.injEq,Option.some.injEq,Addr.mk.injEq,and_true] at e2
  obtain rfl:c8 = c8':=e2
  have e1:lv = lv':=(tup3 e1).1
  rw [← e1]
  exact hap c8 h2 h3 hne
theorem rn_10 (h:RN S vb bv cv ta tw twl L n2 base x f W) (h12:x[12]? ≠ some true) {o:Obj} (ht:(W.alloc o).there W.heap.size 0 6):RN S vb bv cv ta tw twl L n2 base (x.set 10 true) (upd f 10 (.pointer (some ⟨W.heap.size,0,none⟩))) (W.alloc o):=by
 have hg:=rn_grow h ((Below.refl W.heap.size W).alloc (Nat.le_refl _) o)
 refine ⟨hg.bel,fun j hj=>?_,?_,fun _=>⟨W.heap.size,zp _ _ _,h.bel.size,by rw [ze]; omega,ht,fun e=>absurd (by rwa [gq (by omega)] at e) h12⟩,?_⟩
 ·rw [zq _ _ (by omega)]
  by_cases hji:j = 10
  ·subst hji; trivial
  ·rw [gq (fun e=>hji e.symm)] at hj
   rw [zq _ _ hji]; exact hg.e j hj
 ·rw [gq (by omega),zq _ _ (by omega)]; exact hg.m5
 ·intro h5 _
  rw [gq (by omega)] at h5
  rw [zp,zq _ _ (by omega)]
  obtain ⟨lv,ev,h1,h2,_⟩:=h.m5 h5
  intro lv' tw' ev' c8' e1 e2 hne e3
  rw [h1] at e1
  simp only [Value.pointer.injEq,Option.some.injEq,Addr.mk.injEq,and_true] at e2
  have e1:lv = lv':=(tup3 e1).1
  obtain ⟨b,hb1,hb2⟩:=rd_block h2.1 hne
  rw [← e1,hb1] at e3
  simp only [Option.some.injEq] at e3
  omega
theorem rn_12 (h:RN S vb bv cv ta tw twl L n2 base x f W) (h5:x[5]? = some true) (h10:x[10]? = some true) {c8:Nat} (hc:f 10 = .pointer (some ⟨c8,0,none⟩)) (hl:twl.length = 6) (hx:x[12]? = some false):RN S vb bv cv ta tw twl L n2 base (x.set 12 true) f (W.setCells c8 0 twl):=by
 obtain ⟨c',h1,h2,h3,h4,_⟩:=h.m10 h10
 rw [hc] at h1
 simp only [Value.pointer.injEq,Option.some.injEq,Addr.mk.injEq,and_true] at h1
 subst h1
 obtain ⟨lv,ev,e1,e2,e3⟩:=h.m5 h5
 have hd:=h.ap h5 h10 lv tw ev c8 e1 hc
 refine ⟨zm _ h2 _ _ _ h.bel,fun j hj=>?_,fun _=>⟨lv,ev,e1,⟨rd_setC e2.1 hd,e2.2⟩,e3⟩,fun _=>⟨c8,hc,h2,by rw [zS]; exact h3,World.there_setCells h4 _ _ _,fun _=>World.rangeAt_setCells_same W c8 0 _ (fun j hj=>h4 j (by omega))⟩,?_⟩
 ·by_cases hji:j = 12
  ·subst hji; trivial
  ·rw [gq (fun e=>hji e.symm)] at hj; exact h.e j hj
 ·intro _ _; exact h.ap h5 h10
end
structure R9 (C:Nat→Value→Prop) (B0:World) (L:List Od) (t:Od) (x:List Bool) (f:Nat→Value) (W:World):Prop where
 bel:Below B0.heap.size B0 W
 c:∀ j,x[j]? = some true→C j (f j)
 m13:x[13]? = some true→x[15]? = some false→ORow W B0.heap.size (f 13) []
 m15:x[15]? = some true→x[18]? = some false→ORow W B0.heap.size (f 15) L
 m17:x[17]? = some true→x[18]? = some false→∃ b,f 17 = .slice (some ⟨b,0,none⟩) 1 1∧b < W.heap.size∧B0.heap.size ≤ b∧W.rangeAt b 0 t.vs∧(x[13]? = some true→x[15]? = some false→(f 13).ownBlock ≠ some b)
 m18:x[18]? = some true→ORow W B0.heap.size (f 18) (L ++ [t])
def R9A (F:(Nat→Value)→Act) (C:Nat→Value→Prop) (B0:World) (L:List Od) (t:Od) (x:List Bool) (A:Act) (W:World):Prop:=∃ f,A = F f∧R9 C B0 L t x f W
section
variable {C:Nat→Value→Prop} {B0 W W':World} {L:List Od} {t:Od} {x:List Bool} {f:Nat→Value}
theorem r9_grow (h:R9 C B0 L t x f W) (hb:Below W.heap.size W W'):R9 C B0 L t x f W' :=
 ⟨h.bel.trans (hb.mono h.bel.size),h.c,fun a b=>zk (h.m13 a b) hb,fun a b=>zk (h.m15 a b) hb,fun a b=>by
  obtain ⟨b',h1,h2,h3,h4,h5⟩:=h.m17 a b
  exact ⟨b',h1,Nat.lt_of_lt_of_le h2 hb.size,h3,zb h4 hb h2,h5⟩,fun a=>zk (h.m18 a) hb⟩
theorem zaO (h:R9 C B0 L t x f W) (i:Nat) (v:Value) (hv:C i v) (h13:i ≠ 13) (h15:i ≠ 15) (h17:i ≠ 17) (h18:i ≠ 18):R9 C B0 L t (x.set i true) (upd f i v) W:=by
 refine ⟨h.bel,zv h.c hv,?_,?_,?_,?_⟩ <;> simp only [gq h13,gq h15,gq h17,gq h18,zq f v h13.symm,zq f v h15.symm,zq f v h17.symm,zq f v h18.symm]
 ·exact h.m13
 ·exact h.m15
 ·exact h.m17
 ·exact h.m18
theorem r9_13 (h:R9 C B0 L t x f W) (h13:x[13]? = some false) (hc:∀ v,C 13 v):R9 C B0 L t (x.set 13 true) (upd f 13 (.slice (some ⟨W.heap.size,0,none⟩) 0 0)) (W.alloc (Obj.cells #[] 78)):=by
 have hg:=r9_grow h ((Below.refl W.heap.size W).alloc (Nat.le_refl _) (Obj.cells #[] 78))
 refine ⟨hg.bel,zv hg.c (hc _),?_,?_,?_,?_⟩
 ·intro _ _; rw [zp]; exact World.ownsRow_made W #[] 0 h.bel.size (by decide) rfl
 ·rw [gq (by decide),gq (by decide),zq _ _ (by decide)]; exact hg.m15
 ·intro h17 h18
  rw [gq (by decide)] at h17 h18
  obtain ⟨b,h1,h2,h3,h4,h5⟩:=hg.m17 h17 h18
  obtain ⟨b',e1,e2,_⟩:=h.m17 h17 h18
  rw [h1] at e1
  simp only [Value.slice.injEq,Option.some.injEq,Addr.mk.injEq,and_true] at e1
  subst e1
  refine ⟨b,by rw [zq _ _ (by decide)]; exact h1,h2,h3,h4,fun _ _ e=>?_⟩
  rw [zp] at e
  simp [Value.ownBlock] at e
  omega
 ·rw [gq (by decide),zq _ _ (by decide)]; exact hg.m18
theorem r9_15 (h:R9 C B0 L t x f W) (h13:x[13]? = some true) (h15:x[15]? = some false) (h18:x[18]? = some false) (hc:∀ v,C 15 v) {v':Value} (ho:ORow W' B0.heap.size v' L) (hg:W.grownBy W' (f 13).ownBlock):R9 C B0 L t (x.set 15 true) (upd f 15 v') W':=by
 refine ⟨h.bel.grown hg h.bel.size (fun k hk=>((h.m13 h13 h15).lt k hk).1),zv h.c (hc _),?_,?_,?_,?_⟩
 ·intro _ e; rw [gqs h15] at e; cases e
 ·intro _ _; rw [zp]; exact ho
 ·intro h17 _
  rw [gq (by decide)] at h17
  obtain ⟨b,h1,h2,h3,h4,h5⟩:=h.m17 h17 h18
  refine ⟨b,by rw [zq _ _ (by decide)]; exact h1,Nat.lt_of_lt_of_le h2 hg.size,h3,zu h4 hg h2 (fun e=>h5 h13 h15 e.symm),fun _ e=>?_⟩
  rw [gqs h15] at e; cases e
 ·intro e; rw [gq (by decide),h18] at e; cases e
theorem r9_17 (h:R9 C B0 L t x f W) (h17:x[17]? = some false) (h18:x[18]? = some false) (hc:∀ v,C 17 v):R9 C B0 L t (x.set 17 true) (upd f 17 (.slice (some ⟨W.heap.size,0,none⟩) 1 1)) (W.alloc (Obj.cells t.vs.toArray 78)):=by
 have hg:=r9_grow h ((Below.refl W.heap.size W).alloc (Nat.le_refl _) (Obj.cells t.vs.toArray 78))
 refine ⟨hg.bel,zv hg.c (hc _),?_,?_,?_,?_⟩
 ·rw [gq (by decide),gq (by decide),zq _ _ (by decide)]; exact hg.m13
 ·rw [gq (by decide),gq (by decide),zq _ _ (by decide)]; exact hg.m15
 ·intro _ _
  refine ⟨W.heap.size,zp _ _ _,by rw [ze]; omega,h.bel.size,zh W t.vs _,fun h13 h15 e=>?_⟩
  rw [gq (by decide)] at h13 h15
  rw [zq _ _ (by decide)] at e
  have:=((h.m13 h13 h15).lt _ e).2
  omega
 ·rw [gq (by decide),zq _ _ (by decide)]; exact hg.m18
theorem r9_18 (h:R9 C B0 L t x f W) (h15:x[15]? = some true) (h18:x[18]? = some false) (hc:∀ v,C 18 v) {v':Value} (ho:ORow W' B0.heap.size v' (L ++ [t])) (hg:W.grownBy W' (f 15).ownBlock):R9 C B0 L t (x.set 18 true) (upd f 18 v') W':=by
 refine ⟨h.bel.grown hg h.bel.size (fun k hk=>((h.m15 h15 h18).lt k hk).1),zv h.c (hc _),?_,?_,?_,?_⟩
 ·intro _ e; rw [gq (by decide)] at e; rw [e] at h15; cases h15
 ·intro _ e; rw [gqs h18] at e; cases e
 ·intro _ e; rw [gqs h18] at e; cases e
 ·intro _; rw [zp]; exact ho
end
def C9 (S c8:Nat) (ty left:Int) (lv:Value) (n1:Nat) (ta:Value) (N:Int):Nat→Value→Prop
 | 0,v=>v = .pointer (some ⟨S + 1,2,none⟩)
 | 1,v=>v = .int .i64 ty
 | 2,v=>v = .bool true
 | 3,v=>v = .bool true
 | 4,v=>v = .pointer (some ⟨c8,3,none⟩)
 | 5,v=>v = .int .i64 left
 | 6,v=>v = .bool true
 | 7,v=>v = .bool true
 | 8,v=>v = .bool true
 | 9,v=>v = lv
 | 10,v=>v = .int .i64 n1
 | 11,v=>v = .bool false
 | 12,v=>v = .bool false
 | 14,v=>v = lv
 | 16,v=>v = ta
 | 19,v=>v = .int .i64 N
 | 20,v=>v = .bool (decide (8 < N))
 | 21,v=>v = .bool (decide (8 < N))
 | 22,v=>v = .bool (decide (8 < N))
 | _,_=>True
set_option maxRecDepth 100000 in
set_option maxHeartbeats 12800000 in
theorem l04New_any (next:Int) (vb:Value) (l:List Od) (c:Cm) (w:World) (hr:RdR Od.vs 6 w vb l) (hs:SlOk vb) (hg:GoodL l) (hsd:∀ x ∈ l,x.side = 1 ∨ x.side = 2) (ht:c.g.size ≤ maxLen) :
  Calls Tryz.prog 58 #[.agg #[.int .i64 next,vb],cmV c] w fun e w'=>e = .returned (.int .i64 (newR next l c))∧Below w.heap.size w w':=by
 have HR:=hide hr
 have HG:=hide hg
 have HSL:=hide hs
 have HSD:=hide hsd
 have HTA:=hide (fun W=>l03Tag_any c.g W ht)
 have HZR:=hide (fun W=>l04Zero_any c.p W)
 have HTK:=hide (fun W=>l01Ticks_any c.p W)
 obtain ⟨a,cap,rfl,hlen,hc⟩:=hr
 obtain ⟨kk,s,ty,li,qt,ii,pr,tg⟩:=c
 unfold cmV
 simp only at HTA HZR HTK ⊢
 clear hc hg hs hsd hlen ht
 have hs1:(w.alloc (Obj.cells #[.int .i64 next,.slice a l.length cap] 46)).heap.size = w.heap.size + 1:=ze _ _
 have hs2:((w.alloc (Obj.cells #[.int .i64 next,.slice a l.length cap] 46)).alloc (Obj.cells #[.int .i64 kk,.int .i64 s,.int .i64 ty,.int .i64 li,.int .i64 qt,.int .i64 ii,.float .f64 pr,.string tg] 39)).heap.size = w.heap.size + 1 + 1:=by rw [ze,hs1]
 have r1:=zh w [.int .i64 next,.slice a l.length cap] 46
 have r2:=zh (w.alloc (Obj.cells #[.int .i64 next,.slice a l.length cap] 46)) [.int .i64 kk,.int .i64 s,.int .i64 ty,.int .i64 li,.int .i64 qt,.int .i64 ii,.float .f64 pr,.string tg] 39
 rw [hs1] at r2
 have b12:Below (w.heap.size + 1) (w.alloc (Obj.cells #[.int .i64 next,.slice a l.length cap] 46)) ((w.alloc (Obj.cells #[.int .i64 next,.slice a l.length cap] 46)).alloc (Obj.cells #[.int .i64 kk,.int .i64 s,.int .i64 ty,.int .i64 li,.int .i64 qt,.int .i64 ii,.float .f64 pr,.string tg] 39)):=(Below.refl _ _).alloc (by rw [hs1]; omega) _
 have HB2:Hid (Below w.heap.size w ((w.alloc (Obj.cells #[.int .i64 next,.slice a l.length cap] 46)).alloc (Obj.cells #[.int .i64 kk,.int .i64 s,.int .i64 ty,.int .i64 li,.int .i64 qt,.int .i64 ii,.float .f64 pr,.string tg] 39))):=((Below.refl _ _).alloc (Nat.le_refl _) _).alloc (by rw [hs1]; omega) _
 have HX:Hid (_∧_):=⟨zb r1 b12 (by omega),r2⟩
 have HLT:Hid (w.heap.size + 1 < ((w.alloc (Obj.cells #[.int .i64 next,.slice a l.length cap] 46)).alloc (Obj.cells #[.int .i64 kk,.int .i64 s,.int .i64 ty,.int .i64 li,.int .i64 qt,.int .i64 ii,.float .f64 pr,.string tg] 39)).heap.size):=by show _ < _; omega
 clear hs1 hs2 r1 r2 b12
 go_enter Tryz.func58,Tryz.ntmps58
 refine wp_seq_k fun K hK=>?_
 have HK1:=hide hK
 clear hK
 go_wp2_with fail
 refine za HK1 _ _ ?_
 clear HK1
 generalize ((w.alloc (Obj.cells #[.int .i64 next,.slice a l.length cap] 46)).alloc (Obj.cells #[.int .i64 kk,.int .i64 s,.int .i64 ty,.int .i64 li,.int .i64 qt,.int .i64 ii,.float .f64 pr,.string tg] 39)) = X2 at HB2 HX HLT ⊢
 have HX:Hid (X2.rangeAt w.heap.size 0 [.int .i64 next,.slice a l.length cap]∧X2.rangeAt (w.heap.size + 1) 0 [.int .i64 kk,.int .i64 s,.int .i64 ty,.int .i64 li,.int .i64 qt,.int .i64 ii,.float .f64 pr,.string tg]):=za HX
 have o1:X2.cell? ⟨w.heap.size + 1,1,none⟩ = some (.int .i64 s):=(za HX).2 1 _ rfl
 have o2:X2.cell? ⟨w.heap.size + 1,2,none⟩ = some (.int .i64 ty):=(za HX).2 2 _ rfl
 have o3:X2.cell? ⟨w.heap.size + 1,3,none⟩ = some (.int .i64 li):=(za HX).2 3 _ rfl
 have o4:X2.cell? ⟨w.heap.size + 1,4,none⟩ = some (.int .i64 qt):=(za HX).2 4 _ rfl
 have o6:X2.cell? ⟨w.heap.size + 1,6,none⟩ = some (.float .f64 pr):=(za HX).2 6 _ rfl
 have o7:X2.cell? ⟨w.heap.size + 1,7,none⟩ = some (.string tg):=(za HX).2 7 _ rfl
 refine wp_seq_k fun K hK=>?_
 have HK1:=hide hK
 clear hK
 go_wp2_with (first | (go_at_call 62; refine (za HTK _).mono ?_; rintro e w' ⟨rfl,hw'⟩; rw [hw']; clear hw' w') | (go_at_call 56; refine (zbk _ _ _ _).mono ?_; rintro e w' ⟨rfl,hw'⟩; rw [hw']; clear hw' w') | (go_at_call 40; refine (zaZ _ _).mono ?_; rintro e w' ⟨rfl,hw'⟩; rw [hw']; clear hw' w') | (go_at_call 80; refine (za HZR _).mono ?_; rintro e w' ⟨rfl,hw'⟩; rw [hw']; clear hw' w') | (go_at_call 81; refine (za HTA _).mono ?_; rintro e w' ⟨rfl,hw'⟩; rw [hw']; clear hw' w'))
 refine za HK1 _ _ ?_
 clear HK1
 refine wp_seq_k fun K hK=>?_
 have HK1:=hide hK
 clear hK
 cases bs:betB s 1 2
 have HK:Hid (newR next l ⟨kk,s,ty,li,qt,ii,pr,tg⟩ = 3):=by show _ = _; simp [newR,bs]
 rotate_left
 cases bt:betB ty 1 5
 have HK:Hid (newR next l ⟨kk,s,ty,li,qt,ii,pr,tg⟩ = 4):=by show _ = _; simp [newR,bs,bt]
 rotate_left
 have HT:Hid (lifW ⟨kk,s,ty,li,qt,ii,pr,tg⟩ = false→prcB ⟨kk,s,ty,li,qt,ii,pr,tg⟩ = true→betB qt 1 1000000 = true→tagB tg = true→∀ (u5 u6 u10 u11 u12 u13 u14 u15 u16 u17 u18 u19 u20 u21 u22 u23 u24 u25 u26 u27 u28 u29 u30 u31 u32 u33 u34 u35 u36 u37 u38 u39 u40 u41 u42 u43 u44 u45 u46 u47 u48 u49 u50 u51 u52 u53 u54 u55 u56 u57 u58 u59 u60 u61 u62 u63 u64 u65 u66 u67 u68 u69 u70:Value),K { tmps:=#[.agg #[.int .i64 next,.slice a l.length cap],.agg #[.int .i64 kk,.int .i64 s,.int .i64 ty,.int .i64 li,.int .i64 qt,.int .i64 ii,.float .f64 pr,.string tg],.pointer (some ⟨w.heap.size,0,none⟩),.pointer (some ⟨w.heap.size + 1,0,none⟩),.int .i64 0,u5,u6,undef,undef,undef,u10,u11,u12,u13,u14,u15,u16,u17,u18,u19,u20,u21,u22,u23,u24,u25,u26,u27,u28,u29,u30,u31,u32,u33,u34,u35,u36,u37,u38,u39,u40,u41,u42,u43,u44,u45,u46,u47,u48,u49,u50,u51,u52,u53,u54,u55,u56,u57,u58,u59,u60,u61,u62,u63,u64,u65,u66,u67,u68,u69,u70,undef,undef,undef,undef,undef,undef,undef,undef,undef,undef,undef,undef,undef,undef,undef,undef,undef,undef,undef,undef,undef,undef,undef,undef,undef,undef,undef,undef,undef,undef,undef,undef,undef,undef,undef,undef,undef,undef,undef,undef,undef,undef,undef,undef,undef,undef,undef,undef,undef,undef,undef,undef,undef,undef,undef],defers:=[] } X2):=by
  intro hlif hprc hqty htag u5 u6 u10 u11 u12 u13 u14 u15 u16 u17 u18 u19 u20 u21 u22 u23 u24 u25 u26 u27 u28 u29 u30 u31 u32 u33 u34 u35 u36 u37 u38 u39 u40 u41 u42 u43 u44 u45 u46 u47 u48 u49 u50 u51 u52 u53 u54 u55 u56 u57 u58 u59 u60 u61 u62 u63 u64 u65 u66 u67 u68 u69 u70
  refine za HK1 _ _ ?_
  clear HK1 o1 o2 o3 o4 o6 o7
  have hside:=side_of bs
  have hqq:1 ≤ qt∧qt ≤ 1000000:=by simpa [betB] using hqty
  have HNR:Hid (newR next l ⟨kk,s,ty,li,qt,ii,pr,tg⟩ = matS next ⟨kk,s,ty,li,qt,ii,pr,tg⟩ (matL ⟨kk,s,ty,li,qt,ii,pr,tg⟩ next 21 l qt [])):=by
   show _ = _
   rw [matS_eq (za HG) (za HSD) bs hprc hqty]
   simp [newR,bs,bt,hlif,hprc,hqty,htag]
  have HMT:=hide (fun W hW=>zaH (.slice a l.length cap) l ⟨kk,s,ty,li,qt,ii,pr,tg⟩ next W hW (za HG) hside hprc (by show 0 ≤ qt; omega) hqq.2)
  have HGF:=hide (zba (c:=⟨kk,s,ty,li,qt,ii,pr,tg⟩) (id:=next) 21 l qt [] (za HG) (by omega) hqq.2)
  simp only at HMT HGF
  generalize matL ⟨kk,s,ty,li,qt,ii,pr,tg⟩ next 21 l qt [] = F at HNR HMT HGF
  generalize newR next l ⟨kk,s,ty,li,qt,ii,pr,tg⟩ = res at HNR ⊢
  have HTKR:=hide (fun W=>zaI next a l.length cap ⟨kk,s,ty,li,qt,ii,pr,tg⟩ W)
  unfold cmV at HTKR
  simp only at HTKR
  have HMS:Hid (matS next ⟨kk,s,ty,li,qt,ii,pr,tg⟩ F = if ty = 5∧0 < F.2.2.length then 11 else if ty = 4∧0 < F.2.1 then 12 else if next = 1000000 then 13
   else if zaJ ty = true then (if 0 < F.2.1 then (if F.1.length = 20 then 13 else if 8 < nlev (F.1 ++ [⟨next,s,tkS pr,F.2.1,li,tg⟩]) then 13 else 0) else 0) else 0):=rfl
  have HNR:Hid (res = _):=(za HNR).trans (za HMS)
  clear HMS hlif hprc hqty htag hqq
  generalize tkS pr = tt at HMT HTKR HNR
  obtain ⟨L,left,ts⟩:=F
  simp only at HMT HNR HGF
  refine wp_seq_k fun K hK=>?_
  have HK1:=hide hK
  clear hK
  refine zo (RNA (fun f=>{ tmps:=#[.agg #[.int .i64 next,.slice a l.length cap],.agg #[.int .i64 kk,.int .i64 s,.int .i64 ty,.int .i64 li,.int .i64 qt,.int .i64 ii,.float .f64 pr,.string tg],.pointer (some ⟨w.heap.size,0,none⟩),.pointer (some ⟨w.heap.size + 1,0,none⟩),.int .i64 0,u5,u6,f 11,f 10,f 13,u10,u11,u12,u13,u14,u15,u16,u17,u18,u19,u20,u21,u22,u23,u24,u25,u26,u27,u28,u29,u30,u31,u32,u33,u34,u35,u36,u37,u38,u39,u40,u41,u42,u43,u44,u45,u46,u47,u48,u49,u50,u51,u52,u53,u54,u55,u56,u57,u58,u59,u60,u61,u62,u63,u64,u65,u66,u67,u68,u69,u70,f 6,f 0,f 1,f 2,f 3,f 4,f 5,f 7,f 8,f 9,undef,undef,undef,undef,undef,undef,undef,undef,undef,undef,undef,undef,undef,undef,undef,undef,undef,undef,undef,undef,undef,undef,undef,undef,undef,undef,undef,undef,undef,undef,undef,undef,undef,undef,undef,undef,undef,undef,undef,undef,undef,undef,undef,undef,undef],defers:=[] }) w.heap.size (.slice a l.length cap) (.agg #[.int .i64 next,.slice a l.length cap]) (.agg #[.int .i64 kk,.int .i64 s,.int .i64 ty,.int .i64 li,.int .i64 qt,.int .i64 ii,.float .f64 pr,.string tg]) (.agg #[.int .i64 next,.int .i64 s,.int .i64 tt,.int .i64 qt,.int .i64 li,.string tg]) (.agg #[.int .i64 next,.int .i64 s,.int .i64 tt,.int .i64 left,.int .i64 li,.string tg]) [.int .i64 next,.int .i64 s,.int .i64 tt,.int .i64 left,.int .i64 li,.string tg] L ts.length X2) (by kernel_rfl) ?_ ?_ ?_
  ·exact ⟨fun j=>undef,rfl,⟨⟨rfl,rfl,rfl,Nat.le_refl _,fun _ _=>rfl⟩,fun j hj=>by rw [List.getElem?_replicate] at hj; split at hj <;> simp at hj,by simp,by simp,by simp⟩⟩
  ·rintro x A V ⟨f,rfl,hR⟩ hx hrd
   have hallx:=zac hrd hx (by kernel_rfl)
   obtain ⟨lv,ev,e5,hlv,ae,ce,hev⟩:=hR.m5 (hallx 5 (by simp))
   obtain ⟨c8,e10,hc0,hc1,-,hcr⟩:=hR.m10 (hallx 10 (by simp))
   obtain ⟨lv',ev',e11,e11'⟩:=hR.e 11 (hallx 11 (by simp))
   obtain ⟨lv'',ev'',e13,e13'⟩:=hR.e 13 (hallx 13 (by simp))
   have HC8:=hide (hcr (hallx 12 (by simp)))
   rw [e5] at e11 e13
   have q1:lv = lv':=(tup3 e11).1
   have q2:ev = ev'':=(tup3 e13).2.2
   rw [← q1] at e11'
   rw [← q2,hev] at e13'
   have HLV:=hide hlv
   have HBV:=hide ((za HB2).trans (hR.bel.mono (za HB2).size))
   have HXV:Hid (V.rangeAt w.heap.size 0 [.int .i64 next,.slice a l.length cap]∧V.rangeAt (w.heap.size + 1) 0 [.int .i64 kk,.int .i64 s,.int .i64 ty,.int .i64 li,.int .i64 qt,.int .i64 ii,.float .f64 pr,.string tg]):=⟨zb (za HX).1 hR.bel (by have:=za HLT; omega),zb (za HX).2 hR.bel (za HLT)⟩
   have hVS:w.heap.size + 1 < V.heap.size:=Nat.lt_of_lt_of_le (za HLT) hR.bel.size
   refine za HK1 _ _ ?_
   clear HK1
   simp only [e10,e11',e13']
   generalize f 6 = u71
   generalize f 0 = u72
   generalize f 1 = u73
   generalize f 2 = u74
   generalize f 3 = u75
   generalize f 4 = u76
   generalize f 5 = u77
   generalize f 7 = u78
   generalize f 8 = u79
   generalize f 9 = u80
   clear hR hallx e5 e10 e11 e13 e11' e13' q1 q2 hcr hrd hx hlv hev HMT HTKR HX HB2 HLT
   obtain ⟨⟨al,cal,hle,hll,hlc⟩,hsl⟩:=za HLV
   have HRL:Hid (RdR Od.vs 6 V (.slice al L.length cal) L):=by rw [← hle]; exact (za HLV).1
   have HSV:Hid (SlOk (.slice al L.length cal)):=by rw [← hle]; exact hsl
   subst hle
   clear hlc hsl hll HLV
   have k0:V.cell? ⟨w.heap.size,0,none⟩ = some (.int .i64 next):=(za HXV).1 0 _ rfl
   have o2:V.cell? ⟨w.heap.size + 1,2,none⟩ = some (.int .i64 ty):=(za HXV).2 2 _ rfl
   have c3:V.cell? ⟨c8,3,none⟩ = some (.int .i64 left):=za HC8 3 _ rfl
   have h20:L.length ≤ 20:=(za HGF).1.len
   refine wp_seq_k fun K hK=>?_
   have HK1:=hide hK
   clear hK
   have HT2:Hid (¬ (ty = 5∧0 < ts.length)→¬ (ty = 4∧0 < left)→next ≠ 1000000→∀ (u5 u6 u10 u11 u12 u13 u14 u15 u16 u17 u18 u19 u20 u21 u22 u23 u24 u25 u26 u27 u28 u29 u30 u31 u32 u33 u34 u35 u36 u37 u38 u39 u40 u41 u42 u43 u44 u45 u46 u47 u48 u49 u50 u51 u52 u53 u54 u55 u56 u57 u58 u59 u60 u61 u62 u63 u64 u65 u66 u67 u68 u69 u70 u71 u72 u73 u74 u75 u76 u77 u78 u79 u80 u81 u82 u83 u84 u85 u86 u87 u88 u89 u90 u91 u92 u93 u94 u95 u96 u97 u98 u99 u100 u101 u102:Value),K { tmps:=#[.agg #[.int .i64 next,.slice a l.length cap],.agg #[.int .i64 kk,.int .i64 s,.int .i64 ty,.int .i64 li,.int .i64 qt,.int .i64 ii,.float .f64 pr,.string tg],.pointer (some ⟨w.heap.size,0,none⟩),.pointer (some ⟨w.heap.size + 1,0,none⟩),.int .i64 0,u5,u6,.slice al L.length cal,.pointer (some ⟨c8,0,none⟩),.slice ae ts.length ce,u10,u11,u12,u13,u14,u15,u16,u17,u18,u19,u20,u21,u22,u23,u24,u25,u26,u27,u28,u29,u30,u31,u32,u33,u34,u35,u36,u37,u38,u39,u40,u41,u42,u43,u44,u45,u46,u47,u48,u49,u50,u51,u52,u53,u54,u55,u56,u57,u58,u59,u60,u61,u62,u63,u64,u65,u66,u67,u68,u69,u70,u71,u72,u73,u74,u75,u76,u77,u78,u79,u80,u81,u82,u83,u84,u85,u86,u87,u88,u89,u90,u91,u92,u93,u94,u95,u96,u97,u98,u99,u100,u101,u102,undef,undef,undef,undef,undef,undef,undef,undef,undef,undef,undef,undef,undef,undef,undef,undef,undef,undef,undef,undef,undef,undef,undef],defers:=[] } V):=by
    intro g5 g4 gn u5 u6 u10 u11 u12 u13 u14 u15 u16 u17 u18 u19 u20 u21 u22 u23 u24 u25 u26 u27 u28 u29 u30 u31 u32 u33 u34 u35 u36 u37 u38 u39 u40 u41 u42 u43 u44 u45 u46 u47 u48 u49 u50 u51 u52 u53 u54 u55 u56 u57 u58 u59 u60 u61 u62 u63 u64 u65 u66 u67 u68 u69 u70 u71 u72 u73 u74 u75 u76 u77 u78 u79 u80 u81 u82 u83 u84 u85 u86 u87 u88 u89 u90 u91 u92 u93 u94 u95 u96 u97 u98 u99 u100 u101 u102
    have HRS:Hid (res = if zaJ ty = true then (if 0 < left then (if L.length = 20 then 13 else if 8 < nlev (L ++ [⟨next,s,tt,left,li,tg⟩]) then 13 else 0) else 0) else 0):=by
     have:=za HNR
     rw [if_neg g5,if_neg g4,if_neg gn] at this
     exact this
    refine za HK1 _ _ ?_
    clear HK1 g5 g4 gn HNR k0
    have HCEL:Hid (∀ w':World,V.grownBy w' none→w'.cell? ⟨w.heap.size + 1,2,none⟩ = some (.int .i64 ty)∧w'.cell? ⟨c8,3,none⟩ = some (.int .i64 left)):=fun w' h'=>⟨zu (za HXV).2 h' hVS (by simp) 2 _ rfl,zu (za HC8) h' hc1 (by simp) 3 _ rfl⟩
    have HRB:=hide (fun W=>zaZ ty W)
    cases brs:zaJ ty
    ·have HQ0:Hid (res = 0):=(za HRS).trans (by rw [brs]; rfl)
     rw [brs] at HRB
     go_wp2_with fail
     go_quiet ((go_at_call 40; refine Calls.quiet_of_same (za HRB _)))
     go_wp2_with fail
     go_ret
     exact ⟨zr (za HQ0).symm,zai (za HBV) _⟩
    rw [brs] at HRB
    by_cases hlf:0 < left
    ·by_cases hl20:L.length = 20
     ·have HQ0:Hid (res = 13):=(za HRS).trans (by rw [if_pos brs,if_pos hlf,if_pos hl20])
      have hl20':(L.length:Int) = 20:=by omega
      have hb20:((L.length:Int) == 20) = true:=by simpa using hl20'
      have hlf':decide (0 < left) = true:=by simpa using hlf
      clear hl20 hl20'
      go_wp2_with fail
      go_quiet ((go_at_call 40; refine Calls.quiet_of_same (za HRB _)))
      go_wp2_with fail
      go_ret
      exact ⟨zr (za HQ0).symm,zai (za HBV) _⟩
     ·have HQ0:Hid (res = if decide (8 < ((nlev (L ++ [⟨next,s,tt,left,li,tg⟩]):Nat):Int)) = true then 13 else 0):=(za HRS).trans (by
       rw [if_pos brs,if_pos hlf,if_neg hl20]
       by_cases h8:8 < nlev (L ++ [⟨next,s,tt,left,li,tg⟩])
       ·rw [if_pos h8,if_pos (by simp only [decide_eq_true_eq]; omega)]
       ·rw [if_neg h8,if_neg (by simp only [decide_eq_true_eq]; omega)])
      have HLV2:=hide (fun (W:World) (v:Value) (hW:RdR Od.vs 6 W v (L ++ [⟨next,s,tt,left,li,tg⟩]))=>l03Levels_any v (L ++ [⟨next,s,tt,left,li,tg⟩]) W hW (by simp; omega))
      generalize ((nlev (L ++ [⟨next,s,tt,left,li,tg⟩]):Nat):Int) = N at HQ0 HLV2
      have hl20':¬ (L.length:Int) = 20:=by omega
      have hb20:((L.length:Int) == 20) = false:=by rw [beq_eq_false_iff_ne]; exact hl20'
      have hlf':decide (0 < left) = true:=by simpa using hlf
      obtain ⟨i0,hi0,hz0,hz1,hz2⟩:=info_parts Tryz.infoOrder
      clear hl20
      go_wp2_with fail
      refine zo (R9A (fun f=>{ tmps:=#[.agg #[.int .i64 next,.slice a l.length cap],.agg #[.int .i64 kk,.int .i64 s,.int .i64 ty,.int .i64 li,.int .i64 qt,.int .i64 ii,.float .f64 pr,.string tg],.pointer (some ⟨w.heap.size,0,none⟩),.pointer (some ⟨w.heap.size + 1,0,none⟩),.int .i64 0,u5,u6,.slice al L.length cal,.pointer (some ⟨c8,0,none⟩),.slice ae ts.length ce,u10,u11,u12,u13,u14,u15,u16,u17,u18,u19,u20,u21,u22,u23,u24,u25,u26,u27,u28,u29,u30,u31,u32,u33,u34,u35,u36,u37,u38,u39,u40,u41,u42,u43,u44,u45,u46,u47,u48,u49,u50,u51,u52,u53,u54,u55,u56,u57,u58,u59,u60,u61,u62,u63,u64,u65,u66,u67,u68,u69,u70,u71,u72,u73,u74,u75,u76,u77,u78,u79,u80,u81,u82,u83,u84,u85,u86,u87,u88,u89,u90,u91,u92,u93,u94,u95,u96,u97,u98,u99,u100,u101,u102,f 0,f 1,f 2,f 3,f 4,f 5,f 6,f 7,f 8,f 9,f 10,f 11,f 12,f 13,f 14,f 15,f 16,f 17,f 18,f 19,f 20,f 21,f 22],defers:=[] }) (C9 w.heap.size c8 ty left (.slice al L.length cal) L.length (.agg #[.int .i64 next,.int .i64 s,.int .i64 tt,.int .i64 left,.int .i64 li,.string tg]) N) V L ⟨next,s,tt,left,li,tg⟩) (by kernel_rfl) ?_ ?_ ?_
      ·exact ⟨fun j=>undef,rfl,⟨⟨rfl,rfl,rfl,Nat.le_refl _,fun _ _=>rfl⟩,fun j hj=>by rw [List.getElem?_replicate] at hj; split at hj <;> simp at hj,by simp,by simp,by simp,by simp⟩⟩
      ·rintro x A V' ⟨f,rfl,hR⟩ hx hrd
       have hallx:=zab hrd hx (acyc _ (by kernel_rfl))
       have e22:f 22 = .bool (decide (8 < N)):=hR.c 22 (hallx 22 (by simp))
       have HB3:=hide ((za HBV).trans (hR.bel.mono (za HBV).size))
       simp only [e22]
       clear hR hallx e22 hrd hx
       cases hd:decide (8 < N)
       ·have HQ1:Hid (res = 0):=(za HQ0).trans (by rw [hd]; rfl)
        go_wp2_with fail
        go_ret
        exact ⟨zr (za HQ1).symm,za HB3⟩
       ·have HQ1:Hid (res = 13):=(za HQ0).trans (by rw [hd]; rfl)
        go_wp2_with fail
        go_ret
        exact ⟨zr (za HQ1).symm,za HB3⟩
      ·rintro x A V' i' o' ⟨f,rfl,hR⟩ hcl hx ho hxi hall
       have HRR:=hide hR
       have o2:V'.cell? ⟨w.heap.size + 1,2,none⟩ = some (.int .i64 ty):=zb (za HXV).2 hR.bel hVS 2 _ rfl
       have HC9:=hide (zb (za HC8) hR.bel hc1)
       have c3:V'.cell? ⟨c8,3,none⟩ = some (.int .i64 left):=za HC9 3 _ rfl
       have hbel:=hide hR.bel
       clear HRS HQ0
       match i',ho with
       | 0,ho =>
        obtain rfl:=Option.some.inj ho
        clear hall hR hcl
        rw [if_pos (by rfl)]
        unfold Oper.wp
        go_simp
        exact ⟨upd f 0 (.pointer (some ⟨w.heap.size + 1,2,none⟩)),by simp [upd],zaO (za HRR) 0 _ rfl (by decide) (by decide) (by decide) (by decide)⟩
       | 1,ho =>
        obtain rfl:=Option.some.inj ho
        have g0:f 0 = .pointer (some ⟨w.heap.size + 1,2,none⟩):=hR.c 0 (hall ⟨0,.data⟩ (by simp) rfl)
        clear hall hR hcl
        rw [if_pos (by rfl)]
        unfold Oper.wp
        go_simp
        exact ⟨upd f 1 (.int .i64 ty),by simp [upd,g0],zaO (za HRR) 1 _ rfl (by decide) (by decide) (by decide) (by decide)⟩
       | 2,ho =>
        obtain rfl:=Option.some.inj ho
        have g1:f 1 = .int .i64 ty:=hR.c 1 (hall ⟨1,.data⟩ (by simp) rfl)
        clear hall hR hcl
        rw [if_pos (by rfl)]
        unfold Oper.wp
        go_simp
        refine (zaZ ty _).mono ?_
        rintro e w3 ⟨rfl,hw3⟩
        rw [hw3,brs]
        exact ⟨upd f 2 (.bool true),by simp [upd,g1],zaO (za HRR) 2 _ rfl (by decide) (by decide) (by decide) (by decide)⟩
       | 3,ho =>
        obtain rfl:=Option.some.inj ho
        have g2:f 2 = .bool true:=hR.c 2 (hall ⟨2,.data⟩ (by simp) rfl)
        clear hall hR hcl
        rw [if_pos (by rfl)]
        unfold Oper.wp
        go_simp
        exact ⟨upd f 3 (.bool true),by simp [upd,g2],zaO (za HRR) 3 _ rfl (by decide) (by decide) (by decide) (by decide)⟩
       | 4,ho =>
        obtain rfl:=Option.some.inj ho
        have g3:f 3 = .bool true:=hR.c 3 (hall ⟨3,.guard⟩ (by simp) rfl)
        clear hall hR hcl
        rw [if_pos (by simp only [g3]; rfl)]
        unfold Oper.wp
        go_simp
        exact ⟨upd f 4 (.pointer (some ⟨c8,3,none⟩)),by simp [upd,g3],zaO (za HRR) 4 _ rfl (by decide) (by decide) (by decide) (by decide)⟩
       | 5,ho =>
        obtain rfl:=Option.some.inj ho
        have g4:f 4 = .pointer (some ⟨c8,3,none⟩):=hR.c 4 (hall ⟨4,.data⟩ (by simp) rfl)
        have g3:f 3 = .bool true:=hR.c 3 (hall ⟨3,.guard⟩ (by simp) rfl)
        clear hall hR hcl
        rw [if_pos (by simp only [g3]; rfl)]
        unfold Oper.wp
        go_simp
        exact ⟨upd f 5 (.int .i64 left),by simp [upd,g4,g3],zaO (za HRR) 5 _ rfl (by decide) (by decide) (by decide) (by decide)⟩
       | 6,ho =>
        obtain rfl:=Option.some.inj ho
        have g5:f 5 = .int .i64 left:=hR.c 5 (hall ⟨5,.data⟩ (by simp) rfl)
        have g3:f 3 = .bool true:=hR.c 3 (hall ⟨3,.guard⟩ (by simp) rfl)
        clear hall hR hcl
        rw [if_pos (by simp only [g3]; rfl)]
        unfold Oper.wp
        go_simp
        exact ⟨upd f 6 (.bool true),by simp [upd,g5,g3],zaO (za HRR) 6 _ rfl (by decide) (by decide) (by decide) (by decide)⟩
       | 7,ho =>
        obtain rfl:=Option.some.inj ho
        have g3:f 3 = .bool true:=hR.c 3 (hall ⟨3,.data⟩ (by simp) rfl)
        have g6:f 6 = .bool true:=hR.c 6 (hall ⟨6,.data⟩ (by simp) rfl)
        clear hall hR hcl
        rw [if_pos (by rfl)]
        unfold Oper.wp
        go_simp
        exact ⟨upd f 7 (.bool true),by simp [upd,g3,g6],zaO (za HRR) 7 _ rfl (by decide) (by decide) (by decide) (by decide)⟩
       | 8,ho =>
        obtain rfl:=Option.some.inj ho
        have g7:f 7 = .bool true:=hR.c 7 (hall ⟨7,.data⟩ (by simp) rfl)
        clear hall hR hcl
        rw [if_pos (by rfl)]
        unfold Oper.wp
        go_simp
        exact ⟨upd f 8 (.bool true),by simp [upd,g7],zaO (za HRR) 8 _ rfl (by decide) (by decide) (by decide) (by decide)⟩
       | 9,ho =>
        obtain rfl:=Option.some.inj ho
        have g8:f 8 = .bool true:=hR.c 8 (hall ⟨8,.guard⟩ (by simp) rfl)
        clear hall hR hcl
        rw [if_pos (by simp only [g8]; rfl)]
        unfold Oper.wp
        go_simp
        exact ⟨upd f 9 (.slice al L.length cal),by simp [upd,g8],zaO (za HRR) 9 _ rfl (by decide) (by decide) (by decide) (by decide)⟩
       | 10,ho =>
        obtain rfl:=Option.some.inj ho
        have g9:f 9 = .slice al L.length cal:=hR.c 9 (hall ⟨9,.data⟩ (by simp) rfl)
        have g8:f 8 = .bool true:=hR.c 8 (hall ⟨8,.guard⟩ (by simp) rfl)
        clear hall hR hcl
        rw [if_pos (by simp only [g8]; rfl)]
        unfold Oper.wp
        go_simp
        exact ⟨upd f 10 (.int .i64 L.length),by simp [upd,g9,g8],zaO (za HRR) 10 _ rfl (by decide) (by decide) (by decide) (by decide)⟩
       | 11,ho =>
        obtain rfl:=Option.some.inj ho
        have g10:f 10 = .int .i64 L.length:=hR.c 10 (hall ⟨10,.data⟩ (by simp) rfl)
        have g8:f 8 = .bool true:=hR.c 8 (hall ⟨8,.guard⟩ (by simp) rfl)
        clear hall hR hcl
        rw [if_pos (by simp only [g8]; rfl)]
        unfold Oper.wp
        go_simp
        exact ⟨upd f 11 (.bool false),by simp [upd,g10,g8],zaO (za HRR) 11 _ rfl (by decide) (by decide) (by decide) (by decide)⟩
       | 12,ho =>
        obtain rfl:=Option.some.inj ho
        have g11:f 11 = .bool false:=hR.c 11 (hall ⟨11,.data⟩ (by simp) rfl)
        have g8:f 8 = .bool true:=hR.c 8 (hall ⟨8,.guard⟩ (by simp) rfl)
        clear hall hR hcl
        rw [if_pos (by simp only [g8]; rfl)]
        unfold Oper.wp
        go_simp
        exact ⟨upd f 12 (.bool false),by simp [upd,g11,g8],zaO (za HRR) 12 _ rfl (by decide) (by decide) (by decide) (by decide)⟩
       | 13,ho =>
        obtain rfl:=Option.some.inj ho
        have g12:f 12 = .bool false:=hR.c 12 (hall ⟨12,.guard⟩ (by simp) rfl)
        clear hall hR hcl
        rw [if_pos (by simp only [g12]; rfl)]
        unfold Oper.wp
        go_simp
        exact ⟨upd f 13 (.slice (some ⟨V'.heap.size,0,none⟩) 0 0),by simp [upd,g12],r9_13 (za HRR) hxi (fun _=>trivial)⟩
       | 14,ho =>
        obtain rfl:=Option.some.inj ho
        have g12:f 12 = .bool false:=hR.c 12 (hall ⟨12,.guard⟩ (by simp) rfl)
        clear hall hR hcl
        rw [if_pos (by simp only [g12]; rfl)]
        unfold Oper.wp
        go_simp
        exact ⟨upd f 14 (.slice al L.length cal),by simp [upd,g12],zaO (za HRR) 14 _ rfl (by decide) (by decide) (by decide) (by decide)⟩
       | 15,ho =>
        obtain rfl:=Option.some.inj ho
        have g12:f 12 = .bool false:=hR.c 12 (hall ⟨12,.guard⟩ (by simp) rfl)
        have g14:f 14 = .slice al L.length cal:=hR.c 14 (hall ⟨14,.data⟩ (by simp) rfl)
        have k13:x[13]? = some true:=hall ⟨13,.data⟩ (by simp) rfl
        have n18:x[18]? = some false:=by
         rcases zbP hx (show 18 < 23 by omega) with h | h
         ·exact h
         ·have:=hcl 18 _ rfl h ⟨15,.data⟩ (by simp) rfl
          rw [hxi] at this; cases this
        have HO13:=hide (hR.m13 k13 hxi)
        have HSRC:Hid (∀ ad,al = some ad→∀ j u,(L.flatMap Od.vs)[j]? = some u→V'.cell? (ad.add j) = some u):=fun ad had=>by
         have h:=zl (za HRL) (za hbel) (Nat.le_refl _)
         rw [had] at h
         exact rd_src h
        clear hall hR hcl
        rw [if_pos (by simp only [g12]; rfl)]
        rcases za HSV with h | ⟨ad,nn,cc,h⟩
        ·simp only [Value.slice.injEq] at h
         have hL:L = []:=List.length_eq_zero_iff.1 h.2.1
         refine zcj (.tmp 116) (.tmp 117) 44 rfl V.heap.size 78 i0 6 Tryz.underlying44 hi0 (f 13) 0 [] rfl (za HO13) (by show f 14 = _; rw [g14,h.1,h.2.1,h.2.2]) ?_
         refine ⟨upd f 15 (f 13),rfl,r9_15 (za HRR) k13 hxi n18 (fun _=>trivial) (by rw [hL]; exact za HO13) (World.grownBy.refl _ _)⟩
        ·simp only [Value.slice.injEq] at h
         refine wp_append_own V' (.tmp 116) (.tmp 117) 44 rfl V.heap.size 78 i0 _ 6 56 Tryz.underlying44 hi0 hz0 hz1 hz2 rfl (by decide) (f 13) 0 [] rfl (za HO13) ad L.length cal (L.flatMap Od.vs) (by show f 14 = _; rw [g14,h.1]) (by rw [zJ Od.len]) (za HSRC ad h.1) (zaF L) (by unfold maxLen; omega) (by omega) (za hbel).size ?_
         intro v' w' hown hgr _
         refine ⟨upd f 15 v',rfl,r9_15 (za HRR) k13 hxi n18 (fun _=>trivial) ?_ hgr⟩
         show w'.ownsRow _ _ _ _ L.length _
         simpa using hown
       | 16,ho =>
        obtain rfl:=Option.some.inj ho
        have g12:f 12 = .bool false:=hR.c 12 (hall ⟨12,.guard⟩ (by simp) rfl)
        have q0:V'.cell? ⟨c8,0,none⟩ = some (.int .i64 next):=za HC9 0 _ rfl
        have q1:V'.cell? ⟨c8,1,none⟩ = some (.int .i64 s):=za HC9 1 _ rfl
        have q2:V'.cell? ⟨c8,2,none⟩ = some (.int .i64 tt):=za HC9 2 _ rfl
        have q3:V'.cell? ⟨c8,3,none⟩ = some (.int .i64 left):=za HC9 3 _ rfl
        have q4:V'.cell? ⟨c8,4,none⟩ = some (.int .i64 li):=za HC9 4 _ rfl
        have q5:V'.cell? ⟨c8,5,none⟩ = some (.string tg):=za HC9 5 _ rfl
        clear hall hR hcl
        rw [if_pos (by simp only [g12]; rfl)]
        unfold Oper.wp
        go_simp
        exact ⟨upd f 16 (.agg #[.int .i64 next,.int .i64 s,.int .i64 tt,.int .i64 left,.int .i64 li,.string tg]),by simp [upd,g12],zaO (za HRR) 16 _ rfl (by decide) (by decide) (by decide) (by decide)⟩
       | 17,ho =>
        obtain rfl:=Option.some.inj ho
        have g12:f 12 = .bool false:=hR.c 12 (hall ⟨12,.guard⟩ (by simp) rfl)
        have g16:f 16 = .agg #[.int .i64 next,.int .i64 s,.int .i64 tt,.int .i64 left,.int .i64 li,.string tg]:=hR.c 16 (hall ⟨16,.data⟩ (by simp) rfl)
        have n18:x[18]? = some false:=by
         rcases zbP hx (show 18 < 23 by omega) with h | h
         ·exact h
         ·have:=hcl 18 _ rfl h ⟨17,.data⟩ (by simp) rfl
          rw [hxi] at this; cases this
        clear hall hR hcl
        rw [if_pos (by simp only [g12]; rfl)]
        unfold Oper.wp
        go_simp
        exact ⟨upd f 17 (.slice (some ⟨V'.heap.size,0,none⟩) 1 1),by simp [upd,g12,g16],r9_17 (za HRR) hxi n18 (fun _=>trivial)⟩
       | 18,ho =>
        obtain rfl:=Option.some.inj ho
        have g12:f 12 = .bool false:=hR.c 12 (hall ⟨12,.guard⟩ (by simp) rfl)
        have k15:x[15]? = some true:=hall ⟨15,.data⟩ (by simp) rfl
        obtain ⟨b,g17,hb1,hb2,hb3,-⟩:=hR.m17 (hall ⟨17,.data⟩ (by simp) rfl) hxi
        have HO15:=hide (hR.m15 k15 hxi)
        have HSRC:Hid (∀ j u,(Od.vs ⟨next,s,tt,left,li,tg⟩)[j]? = some u→V'.cell? ((⟨b,0,none⟩:Addr).add j) = some u):=fun j u hu=>by
         have:=hb3 j u hu
         rw [Addr.add_mid]; exact this
        clear hall hR hcl hb3
        rw [if_pos (by simp only [g12]; rfl)]
        refine wp_append_own V' (.tmp 118) (.tmp 120) 44 rfl V.heap.size 78 i0 _ 6 56 Tryz.underlying44 hi0 hz0 hz1 hz2 rfl (by decide) (f 15) L.length (L.flatMap Od.vs) rfl (za HO15) ⟨b,0,none⟩ 1 1 (Od.vs ⟨next,s,tt,left,li,tg⟩) (by show f 17 = _; exact g17) rfl (za HSRC) (one_od _) (by unfold maxLen; omega) (by omega) (za hbel).size ?_
        intro v' w' hown hgr _
        refine ⟨upd f 18 v',rfl,r9_18 (za HRR) k15 hxi (fun _=>trivial) ?_ hgr⟩
        show w'.ownsRow _ _ _ _ (L ++ [(⟨next,s,tt,left,li,tg⟩:Od)]).length _
        rw [List.length_append,List.flatMap_append]
        simpa using hown
       | 19,ho =>
        obtain rfl:=Option.some.inj ho
        have g12:f 12 = .bool false:=hR.c 12 (hall ⟨12,.guard⟩ (by simp) rfl)
        have HO18:=hide (hR.m18 (hall ⟨18,.data⟩ (by simp) rfl))
        clear hall hR hcl
        rw [if_pos (by simp only [g12]; rfl)]
        unfold Oper.wp
        go_simp
        refine (za HLV2 V' (f 18) (zM (za HO18) (by simp; omega))).mono ?_
        rintro e w4 ⟨rfl,hg4⟩
        exact ⟨upd f 19 (.int .i64 N),by simp [upd,g12],zaO (r9_grow (za HRR) (gr_below' hg4 (fun g hg=>by cases hg) (Nat.le_refl _))) 19 _ rfl (by decide) (by decide) (by decide) (by decide)⟩
       | 20,ho =>
        obtain rfl:=Option.some.inj ho
        have g19:f 19 = .int .i64 N:=hR.c 19 (hall ⟨19,.data⟩ (by simp) rfl)
        have g12:f 12 = .bool false:=hR.c 12 (hall ⟨12,.guard⟩ (by simp) rfl)
        clear hall hR hcl
        rw [if_pos (by simp only [g12]; rfl)]
        unfold Oper.wp
        go_simp
        exact ⟨upd f 20 (.bool (decide (8 < N))),by simp [upd,g19,g12],zaO (za HRR) 20 _ rfl (by decide) (by decide) (by decide) (by decide)⟩
       | 21,ho =>
        obtain rfl:=Option.some.inj ho
        have g12:f 12 = .bool false:=hR.c 12 (hall ⟨12,.data⟩ (by simp) rfl)
        have g20:f 20 = .bool (decide (8 < N)):=hR.c 20 (hall ⟨20,.data⟩ (by simp) rfl)
        have g8:f 8 = .bool true:=hR.c 8 (hall ⟨8,.guard⟩ (by simp) rfl)
        clear hall hR hcl
        rw [if_pos (by simp only [g8]; rfl)]
        unfold Oper.wp
        go_simp
        exact ⟨upd f 21 (.bool (decide (8 < N))),by simp [upd,g12,g20,g8],zaO (za HRR) 21 _ rfl (by decide) (by decide) (by decide) (by decide)⟩
       | 22,ho =>
        obtain rfl:=Option.some.inj ho
        have g8:f 8 = .bool true:=hR.c 8 (hall ⟨8,.data⟩ (by simp) rfl)
        have g21:f 21 = .bool (decide (8 < N)):=hR.c 21 (hall ⟨21,.data⟩ (by simp) rfl)
        clear hall hR hcl
        rw [if_pos (by rfl)]
        unfold Oper.wp
        go_simp
        exact ⟨upd f 22 (.bool (decide (8 < N))),by simp [upd,g8,g21],zaO (za HRR) 22 _ rfl (by decide) (by decide) (by decide) (by decide)⟩
       | n + 23,ho=>simp at ho
    ·have HQ0:Hid (res = 0):=(za HRS).trans (by rw [if_pos brs,if_neg hlf])
     have hlf':decide (0 < left) = false:=by simpa using hlf
     go_wp2_with fail
     go_quiet ((go_at_call 40; refine Calls.quiet_of_same (za HRB _)))
     go_wp2_with fail
     go_ret
     exact ⟨zr (za HQ0).symm,zai (za HBV) _⟩
   clear HK1
   have HTN:Hid (¬ (ty = 5∧0 < ts.length)→¬ (ty = 4∧0 < left)→next = 1000000→res = 13):=fun g5 g4 gn=>by
    have:=za HNR
    rw [if_neg g5,if_neg g4,if_pos gn] at this
    exact this
   by_cases h5:ty = 5
   ·by_cases hts:0 < ts.length
    ·have HQ1:Hid (res = 11):=(za HNR).trans (if_pos ⟨h5,hts⟩)
     subst h5
     have hts':(0:Int) < ts.length:=by omega
     clear hts HT2 HTN
     go_wp2_with fail
     go_ret
     exact ⟨zr (za HQ1).symm,za HBV⟩
    ·subst h5
     have g5:¬ ((5:Int) = 5∧0 < ts.length):=fun h=>hts h.2
     have g4:¬ ((5:Int) = 4∧0 < left):=fun h=>by omega
     have hts':¬ (0:Int) < ts.length:=by omega
     have htz:(ts.length:Int) = 0:=by omega
     by_cases hnx:next = 1000000
     ·have HQ1:=hide (za HTN g5 g4 hnx)
      subst hnx
      clear HT2 HTN g5 g4
      go_wp2_with fail
      go_ret
      exact ⟨zr (za HQ1).symm,za HBV⟩
     have bn:(next == 1000000) = false:=by rw [beq_eq_false_iff_ne]; exact hnx
     have HT3:=hide (za HT2 g5 g4 hnx)
     clear HT2 HTN g5 g4 hnx
     go_wp2_with fail
     exact za HT3 _ _ _ _ _ _ _ _ _ _ _ _ _ _ _ _ _ _ _ _ _ _ _ _ _ _ _ _ _ _ _ _ _ _ _ _ _ _ _ _ _ _ _ _ _ _ _ _ _ _ _ _ _ _ _ _ _ _ _ _ _ _ _ _ _ _ _ _ _ _ _ _ _ _ _ _ _ _ _ _ _ _ _ _ _ _ _ _ _ _ _ _ _ _ _
   ·have b5:(ty == 5) = false:=by rw [beq_eq_false_iff_ne]; exact h5
    have g5:¬ (ty = 5∧0 < ts.length):=fun h=>h5 h.1
    by_cases h4:ty = 4
    ·by_cases hlf:0 < left
     ·have HQ1:Hid (res = 12):=(za HNR).trans (by rw [if_neg g5,if_pos ⟨h4,hlf⟩])
      subst h4
      clear HT2 HTN h5 g5 b5
      go_wp2_with fail
      go_ret
      exact ⟨zr (za HQ1).symm,za HBV⟩
     ·subst h4
      have g4:¬ ((4:Int) = 4∧0 < left):=fun h=>hlf h.2
      by_cases hnx:next = 1000000
      ·have HQ1:=hide (za HTN g5 g4 hnx)
       subst hnx
       clear HT2 HTN g5 g4
       go_wp2_with fail
       go_ret
       exact ⟨zr (za HQ1).symm,za HBV⟩
      have bn:(next == 1000000) = false:=by rw [beq_eq_false_iff_ne]; exact hnx
      have HT3:=hide (za HT2 g5 g4 hnx)
      clear HT2 HTN g5 g4 hnx
      go_wp2_with fail
      exact za HT3 _ _ _ _ _ _ _ _ _ _ _ _ _ _ _ _ _ _ _ _ _ _ _ _ _ _ _ _ _ _ _ _ _ _ _ _ _ _ _ _ _ _ _ _ _ _ _ _ _ _ _ _ _ _ _ _ _ _ _ _ _ _ _ _ _ _ _ _ _ _ _ _ _ _ _ _ _ _ _ _ _ _ _ _ _ _ _ _ _ _ _ _ _ _ _
    ·have b4:(ty == 4) = false:=by rw [beq_eq_false_iff_ne]; exact h4
     have g4:¬ (ty = 4∧0 < left):=fun h=>h4 h.1
     by_cases hnx:next = 1000000
     ·have HQ1:=hide (za HTN g5 g4 hnx)
      subst hnx
      clear HT2 HTN g5 g4
      go_wp2_with fail
      go_ret
      exact ⟨zr (za HQ1).symm,za HBV⟩
     have bn:(next == 1000000) = false:=by rw [beq_eq_false_iff_ne]; exact hnx
     have HT3:=hide (za HT2 g5 g4 hnx)
     clear HT2 HTN g5 g4 hnx
     go_wp2_with fail
     exact za HT3 _ _ _ _ _ _ _ _ _ _ _ _ _ _ _ _ _ _ _ _ _ _ _ _ _ _ _ _ _ _ _ _ _ _ _ _ _ _ _ _ _ _ _ _ _ _ _ _ _ _ _ _ _ _ _ _ _ _ _ _ _ _ _ _ _ _ _ _ _ _ _ _ _ _ _ _ _ _ _ _ _ _ _ _ _ _ _ _ _ _ _ _ _ _ _
  ·rintro x A V i' o' ⟨f,rfl,hR⟩ hcl hx ho hxi hall
   have HRR:=hide hR
   have hbel:=hR.bel
   have hlt:=za HLT
   clear HK1
   match i',ho with
   | 0,ho =>
    obtain rfl:=Option.some.inj ho
    clear hall hR hcl
    rw [if_pos (by rfl)]
    unfold Oper.wp
    go_simp
    exact ⟨upd f 0 (.pointer (some ⟨w.heap.size,1,none⟩)),by simp [upd],zbX (za HRR) 0 _ (by decide) (by decide) (by decide) (rfl)⟩
   | 1,ho =>
    obtain rfl:=Option.some.inj ho
    have g0:f 0 = .pointer (some ⟨w.heap.size,1,none⟩):=hR.e 0 (hall ⟨0,.data⟩ (by simp) rfl)
    have z1:V.cell? ⟨w.heap.size,1,none⟩ = some (.slice a l.length cap):=zb (za HX).1 hbel (by omega) 1 _ rfl
    clear hall hR hcl
    rw [if_pos (by rfl)]
    unfold Oper.wp
    go_simp
    exact ⟨upd f 1 (.slice a l.length cap),by simp [upd,g0],zbX (za HRR) 1 _ (by decide) (by decide) (by decide) (rfl)⟩
   | 2,ho =>
    obtain rfl:=Option.some.inj ho
    have z0:V.cell? ⟨w.heap.size,0,none⟩ = some (.int .i64 next):=zb (za HX).1 hbel (by omega) 0 _ rfl
    have z1:V.cell? ⟨w.heap.size,1,none⟩ = some (.slice a l.length cap):=zb (za HX).1 hbel (by omega) 1 _ rfl
    clear hall hR hcl
    rw [if_pos (by rfl)]
    unfold Oper.wp
    go_simp
    exact ⟨upd f 2 (.agg #[.int .i64 next,.slice a l.length cap]),by simp [upd],zbX (za HRR) 2 _ (by decide) (by decide) (by decide) (rfl)⟩
   | 3,ho =>
    obtain rfl:=Option.some.inj ho
    have z0:V.cell? ⟨w.heap.size + 1,0,none⟩ = some (.int .i64 kk):=zb (za HX).2 hbel (by omega) 0 _ rfl
    have z1:V.cell? ⟨w.heap.size + 1,1,none⟩ = some (.int .i64 s):=zb (za HX).2 hbel (by omega) 1 _ rfl
    have z2:V.cell? ⟨w.heap.size + 1,2,none⟩ = some (.int .i64 ty):=zb (za HX).2 hbel (by omega) 2 _ rfl
    have z3:V.cell? ⟨w.heap.size + 1,3,none⟩ = some (.int .i64 li):=zb (za HX).2 hbel (by omega) 3 _ rfl
    have z4:V.cell? ⟨w.heap.size + 1,4,none⟩ = some (.int .i64 qt):=zb (za HX).2 hbel (by omega) 4 _ rfl
    have z5:V.cell? ⟨w.heap.size + 1,5,none⟩ = some (.int .i64 ii):=zb (za HX).2 hbel (by omega) 5 _ rfl
    have z6:V.cell? ⟨w.heap.size + 1,6,none⟩ = some (.float .f64 pr):=zb (za HX).2 hbel (by omega) 6 _ rfl
    have z7:V.cell? ⟨w.heap.size + 1,7,none⟩ = some (.string tg):=zb (za HX).2 hbel (by omega) 7 _ rfl
    clear hall hR hcl
    rw [if_pos (by rfl)]
    unfold Oper.wp
    go_simp
    exact ⟨upd f 3 (.agg #[.int .i64 kk,.int .i64 s,.int .i64 ty,.int .i64 li,.int .i64 qt,.int .i64 ii,.float .f64 pr,.string tg]),by simp [upd],zbX (za HRR) 3 _ (by decide) (by decide) (by decide) (rfl)⟩
   | 4,ho =>
    obtain rfl:=Option.some.inj ho
    have g2:f 2 = .agg #[.int .i64 next,.slice a l.length cap]:=hR.e 2 (hall ⟨2,.data⟩ (by simp) rfl)
    have g3:f 3 = .agg #[.int .i64 kk,.int .i64 s,.int .i64 ty,.int .i64 li,.int .i64 qt,.int .i64 ii,.float .f64 pr,.string tg]:=hR.e 3 (hall ⟨3,.data⟩ (by simp) rfl)
    clear hall hR hcl
    rw [if_pos (by rfl)]
    unfold Oper.wp
    go_simp
    refine (za HTKR _).mono ?_
    rintro e w4 ⟨rfl,hb4⟩
    exact ⟨upd f 4 (.agg #[.int .i64 next,.int .i64 s,.int .i64 tt,.int .i64 qt,.int .i64 li,.string tg]),by simp [upd,g2,g3],zbX (rn_grow (za HRR) hb4) 4 _ (by decide) (by decide) (by decide) rfl⟩
   | 5,ho =>
    obtain rfl:=Option.some.inj ho
    have g1:f 1 = .slice a l.length cap:=hR.e 1 (hall ⟨1,.data⟩ (by simp) rfl)
    have g4:f 4 = .agg #[.int .i64 next,.int .i64 s,.int .i64 tt,.int .i64 qt,.int .i64 li,.string tg]:=hR.e 4 (hall ⟨4,.data⟩ (by simp) rfl)
    have hno:∀ j,(j = 6 ∨ j = 7 ∨ j = 9 ∨ j = 11 ∨ j = 13)→x[j]? ≠ some true:=fun j hj e=>by
     have h6:x[6]? ≠ some true:=fun e6=>by have:=hcl 6 _ rfl e6 ⟨5,.data⟩ (by simp) rfl; rw [hxi] at this; cases this
     rcases hj with rfl | rfl | rfl | rfl | rfl
     ·exact h6 e
     ·exact h6 (hcl 7 _ rfl e ⟨6,.data⟩ (by simp) rfl)
     ·exact h6 (hcl 9 _ rfl e ⟨6,.data⟩ (by simp) rfl)
     ·exact h6 (hcl 11 _ rfl e ⟨6,.phase⟩ (by simp) rfl)
     ·exact h6 (hcl 13 _ rfl e ⟨6,.phase⟩ (by simp) rfl)
    have HNO:=hide hno
    have HRV:=hide (zl (zl (za HR) (za HB2) (Nat.le_refl _)) hbel (Nat.le_refl _))
    clear hall hR hcl hno
    rw [if_pos (by rfl)]
    unfold Oper.wp
    go_simp
    refine (za HMT V (za HRV)).mono ?_
    rintro e w4 ⟨lv,ve,rfl,hl4,he4,hb4⟩
    refine ⟨upd f 5 (.tuple #[lv,.agg #[.int .i64 next,.int .i64 s,.int .i64 tt,.int .i64 left,.int .i64 li,.string tg],ve]),by simp [upd,g1,g4],rn_5 (za HRR) hb4 ?_ ?_ (za HNO) ?_⟩
    ·rcases hl4 with ⟨rfl,hL⟩ | h
     ·simp only at hL; rw [hL]; exact ⟨zl (za HRV) hb4 (Nat.le_refl _),za HSL⟩
     ·exact ⟨zM h (by have h20:L.length ≤ 20:=(za HGF).1.len; show L.length ≤ _; omega),oRow_sl h⟩
    ·rcases he4.2 with ⟨h1,h2⟩ | ⟨g,cap',cur,h1,_⟩
     ·exact ⟨none,0,by rw [h1]; simp only at h2; rw [h2]⟩
     ·exact ⟨_,_,h1⟩
    ·intro c8 hc0 hc1 hne e
     rcases hl4 with ⟨rfl,hL⟩ | h
     ·simp only at hL
      obtain ⟨b,hb1,hb2⟩:=rd_block (za HR) (by rw [← hL]; exact hne)
      rw [hb1] at e
      simp only [Option.some.injEq] at e
      have:=(za HB2).size
      omega
     ·have:=(h.lt c8 e).1
      omega
   | 6,ho =>
    obtain rfl:=Option.some.inj ho
    clear hall hR hcl
    rw [if_pos (by rfl)]
    unfold Oper.wp
    go_simp
    exact ⟨upd f 6 (f 5),by simp [upd],zbX (za HRR) 6 _ (by decide) (by decide) (by decide) (rfl)⟩
   | 7,ho =>
    obtain rfl:=Option.some.inj ho
    obtain ⟨lv,ev,e5,-⟩:=hR.m5 (hcl 6 _ rfl (hall ⟨6,.data⟩ (by simp) rfl) ⟨5,.data⟩ (by simp) rfl)
    have g6:f 6 = f 5:=hR.e 6 (hall ⟨6,.data⟩ (by simp) rfl)
    rw [e5] at g6
    clear hall hR hcl
    rw [if_pos (by rfl)]
    unfold Oper.wp
    go_simp
    exact ⟨upd f 7 lv,by simp [upd,g6,e5],zbX (za HRR) 7 _ (by decide) (by decide) (by decide) ⟨lv,ev,e5,rfl⟩⟩
   | 8,ho =>
    obtain rfl:=Option.some.inj ho
    obtain ⟨lv,ev,e5,-⟩:=hR.m5 (hcl 6 _ rfl (hall ⟨6,.data⟩ (by simp) rfl) ⟨5,.data⟩ (by simp) rfl)
    have g6:f 6 = f 5:=hR.e 6 (hall ⟨6,.data⟩ (by simp) rfl)
    rw [e5] at g6
    clear hall hR hcl
    rw [if_pos (by rfl)]
    unfold Oper.wp
    go_simp
    exact ⟨upd f 8 (.agg #[.int .i64 next,.int .i64 s,.int .i64 tt,.int .i64 left,.int .i64 li,.string tg]),by simp [upd,g6,e5],zbX (za HRR) 8 _ (by decide) (by decide) (by decide) rfl⟩
   | 9,ho =>
    obtain rfl:=Option.some.inj ho
    obtain ⟨lv,ev,e5,-⟩:=hR.m5 (hcl 6 _ rfl (hall ⟨6,.data⟩ (by simp) rfl) ⟨5,.data⟩ (by simp) rfl)
    have g6:f 6 = f 5:=hR.e 6 (hall ⟨6,.data⟩ (by simp) rfl)
    rw [e5] at g6
    clear hall hR hcl
    rw [if_pos (by rfl)]
    unfold Oper.wp
    go_simp
    exact ⟨upd f 9 ev,by simp [upd,g6,e5],zbX (za HRR) 9 _ (by decide) (by decide) (by decide) ⟨lv,ev,e5,rfl⟩⟩
   | 10,ho =>
    obtain rfl:=Option.some.inj ho
    have n12:x[12]? ≠ some true:=fun e=>by have:=hcl 12 _ rfl e ⟨10,.data⟩ (by simp) rfl; rw [hxi] at this; cases this
    clear hall hR hcl
    rw [if_pos (by rfl)]
    unfold Oper.wp
    go_simp
    exact ⟨upd f 10 (.pointer (some ⟨V.heap.size,0,none⟩)),by simp [upd],rn_10 (za HRR) n12 (zw V [.int .i64 0,.int .i64 0,.int .i64 0,.int .i64 0,.int .i64 0,.string ⟨#[]⟩] _)⟩
   | 11,ho =>
    obtain rfl:=Option.some.inj ho
    obtain ⟨lv,ev,e5,e7⟩:=hR.e 7 (hall ⟨7,.data⟩ (by simp) rfl)
    clear hall hR hcl
    rw [if_pos (by rfl)]
    unfold Oper.wp
    go_simp
    exact ⟨upd f 11 lv,by simp [upd,e7,e5],zbX (za HRR) 11 _ (by decide) (by decide) (by decide) ⟨lv,ev,e5,rfl⟩⟩
   | 12,ho =>
    obtain rfl:=Option.some.inj ho
    have k5:x[5]? = some true:=hall ⟨5,.phase⟩ (by simp) rfl
    have k10:x[10]? = some true:=hall ⟨10,.data⟩ (by simp) rfl
    have g8:f 8 = .agg #[.int .i64 next,.int .i64 s,.int .i64 tt,.int .i64 left,.int .i64 li,.string tg]:=hR.e 8 (hall ⟨8,.data⟩ (by simp) rfl)
    obtain ⟨c8,g10,hc0,hc1,hth,-⟩:=hR.m10 k10
    obtain ⟨y0,z0,q0⟩:=zc hth (j:=0) (by omega)
    obtain ⟨y1,z1,q1⟩:=zc hth (j:=1) (by omega)
    obtain ⟨y2,z2,q2⟩:=zc hth (j:=2) (by omega)
    obtain ⟨y3,z3,q3⟩:=zc hth (j:=3) (by omega)
    obtain ⟨y4,z4,q4⟩:=zc hth (j:=4) (by omega)
    obtain ⟨y5,z5,q5⟩:=zc hth (j:=5) (by omega)
    clear hall hR hcl hth
    rw [if_pos (by rfl)]
    unfold Oper.wp
    go_simp
    exact ⟨f,by simp [g8,g10],rn_12 (za HRR) k5 k10 g10 rfl hxi⟩
   | 13,ho =>
    obtain rfl:=Option.some.inj ho
    obtain ⟨lv,ev,e5,e9⟩:=hR.e 9 (hall ⟨9,.data⟩ (by simp) rfl)
    clear hall hR hcl
    rw [if_pos (by rfl)]
    unfold Oper.wp
    go_simp
    exact ⟨upd f 13 ev,by simp [upd,e9,e5],zbX (za HRR) 13 _ (by decide) (by decide) (by decide) ⟨lv,ev,e5,rfl⟩⟩
   | n + 14,ho=>simp at ho
 clear HK1
 cases bl:betB li 0 1
 have hl:lifW ⟨kk,s,ty,li,qt,ii,pr,tg⟩ = true:=by simp [lifW,bl]
 have HK:Hid (newR next l ⟨kk,s,ty,li,qt,ii,pr,tg⟩ = 5):=by show _ = _; simp [newR,bs,bt,hl]
 clear hl
 rotate_left
 by_cases h1:li = 1
 subst h1
 cases brs:zaJ ty
 have hl:lifW ⟨kk,s,ty,1,qt,ii,pr,tg⟩ = true:=by simp [lifW,brs]
 have HK:Hid (newR next l ⟨kk,s,ty,1,qt,ii,pr,tg⟩ = 5):=by show _ = _; simp [newR,bs,bt,hl]
 clear hl
 rotate_left
 have hl:lifW ⟨kk,s,ty,1,qt,ii,pr,tg⟩ = false:=by simp [lifW,brs,bl]
 by_cases h2:ty = 2
 subst h2
 by_cases hz:fbit pr = 0
 have hp:prcB ⟨kk,s,2,1,qt,ii,pr,tg⟩ = true:=by simp [prcB,hz]
 have dz:decide (fbit pr = 0) = true:=by simpa using hz
 clear hz
 cases bq:betB qt 1 1000000
 have HK:Hid (newR next l ⟨kk,s,2,1,qt,ii,pr,tg⟩ = 7):=by show _ = _; simp [newR,bs,bt,hl,hp,bq]
 clear hl hp
 rotate_left
 cases bg:tagB tg
 have HK:Hid (newR next l ⟨kk,s,2,1,qt,ii,pr,tg⟩ = 8):=by show _ = _; simp [newR,bs,bt,hl,hp,bq,bg]
 clear hl hp
 rotate_left
 have HT2:=hide (za HT hl hp bq bg)
 clear HT hl hp
 rotate_left
 have hp:prcB ⟨kk,s,2,1,qt,ii,pr,tg⟩ = false:=by simp [prcB,hz]
 have dz:decide (fbit pr = 0) = false:=by simpa using hz
 clear hz
 have HK:Hid (newR next l ⟨kk,s,2,1,qt,ii,pr,tg⟩ = 6):=by show _ = _; simp [newR,bs,bt,hl,hp]
 clear hl hp
 rotate_left
 have b2:(ty == 2) = false:=by rw [beq_eq_false_iff_ne]; exact h2
 have b2n:(ty != 2) = true:=by simpa using h2
 cases bk:tkOk pr
 have hp:prcB ⟨kk,s,ty,1,qt,ii,pr,tg⟩ = false:=by simp [prcB,h2,bk]
 have HK:Hid (newR next l ⟨kk,s,ty,1,qt,ii,pr,tg⟩ = 6):=by show _ = _; simp [newR,bs,bt,hl,hp]
 clear hl hp h2
 rotate_left
 have hp:prcB ⟨kk,s,ty,1,qt,ii,pr,tg⟩ = true:=by simp [prcB,h2,bk]
 clear h2
 cases bq:betB qt 1 1000000
 have HK:Hid (newR next l ⟨kk,s,ty,1,qt,ii,pr,tg⟩ = 7):=by show _ = _; simp [newR,bs,bt,hl,hp,bq]
 clear hl hp
 rotate_left
 cases bg:tagB tg
 have HK:Hid (newR next l ⟨kk,s,ty,1,qt,ii,pr,tg⟩ = 8):=by show _ = _; simp [newR,bs,bt,hl,hp,bq,bg]
 clear hl hp
 rotate_left
 have HT2:=hide (za HT hl hp bq bg)
 clear HT hl hp
 rotate_left
 have hl:lifW ⟨kk,s,ty,li,qt,ii,pr,tg⟩ = false:=by simp [lifW,bl,h1]
 have b1:(li == 1) = false:=by rw [beq_eq_false_iff_ne]; exact h1
 clear h1
 by_cases h2:ty = 2
 subst h2
 by_cases hz:fbit pr = 0
 have hp:prcB ⟨kk,s,2,li,qt,ii,pr,tg⟩ = true:=by simp [prcB,hz]
 have dz:decide (fbit pr = 0) = true:=by simpa using hz
 clear hz
 cases bq:betB qt 1 1000000
 have HK:Hid (newR next l ⟨kk,s,2,li,qt,ii,pr,tg⟩ = 7):=by show _ = _; simp [newR,bs,bt,hl,hp,bq]
 clear hl hp
 rotate_left
 cases bg:tagB tg
 have HK:Hid (newR next l ⟨kk,s,2,li,qt,ii,pr,tg⟩ = 8):=by show _ = _; simp [newR,bs,bt,hl,hp,bq,bg]
 clear hl hp
 rotate_left
 have HT2:=hide (za HT hl hp bq bg)
 clear HT hl hp
 rotate_left
 have hp:prcB ⟨kk,s,2,li,qt,ii,pr,tg⟩ = false:=by simp [prcB,hz]
 have dz:decide (fbit pr = 0) = false:=by simpa using hz
 clear hz
 have HK:Hid (newR next l ⟨kk,s,2,li,qt,ii,pr,tg⟩ = 6):=by show _ = _; simp [newR,bs,bt,hl,hp]
 clear hl hp
 rotate_left
 have b2:(ty == 2) = false:=by rw [beq_eq_false_iff_ne]; exact h2
 have b2n:(ty != 2) = true:=by simpa using h2
 cases bk:tkOk pr
 have hp:prcB ⟨kk,s,ty,li,qt,ii,pr,tg⟩ = false:=by simp [prcB,h2,bk]
 have HK:Hid (newR next l ⟨kk,s,ty,li,qt,ii,pr,tg⟩ = 6):=by show _ = _; simp [newR,bs,bt,hl,hp]
 clear hl hp h2
 rotate_left
 have hp:prcB ⟨kk,s,ty,li,qt,ii,pr,tg⟩ = true:=by simp [prcB,h2,bk]
 clear h2
 cases bq:betB qt 1 1000000
 have HK:Hid (newR next l ⟨kk,s,ty,li,qt,ii,pr,tg⟩ = 7):=by show _ = _; simp [newR,bs,bt,hl,hp,bq]
 clear hl hp
 rotate_left
 cases bg:tagB tg
 have HK:Hid (newR next l ⟨kk,s,ty,li,qt,ii,pr,tg⟩ = 8):=by show _ = _; simp [newR,bs,bt,hl,hp,bq,bg]
 clear hl hp
 rotate_left
 have HT2:=hide (za HT hl hp bq bg)
 clear HT hl hp
 all_goals
  go_wp2_with (first | (go_at_call 62; refine (za HTK _).mono ?_; rintro e w' ⟨rfl,hw'⟩; rw [hw']; clear hw' w') | (go_at_call 56; refine (zbk _ _ _ _).mono ?_; rintro e w' ⟨rfl,hw'⟩; rw [hw']; clear hw' w') | (go_at_call 40; refine (zaZ _ _).mono ?_; rintro e w' ⟨rfl,hw'⟩; rw [hw']; clear hw' w') | (go_at_call 80; refine (za HZR _).mono ?_; rintro e w' ⟨rfl,hw'⟩; rw [hw']; clear hw' w') | (go_at_call 81; refine (za HTA _).mono ?_; rintro e w' ⟨rfl,hw'⟩; rw [hw']; clear hw' w'))
  first
  | exact za HT2 _ _ _ _ _ _ _ _ _ _ _ _ _ _ _ _ _ _ _ _ _ _ _ _ _ _ _ _ _ _ _ _ _ _ _ _ _ _ _ _ _ _ _ _ _ _ _ _ _ _ _ _ _ _ _ _ _ _ _ _ _ _ _
  | (go_ret; exact ⟨zr (za HK).symm,za HB2⟩)
end Go.Proofs.YtopjoogdpjaocaaGreat
