/-
  Results laid out while their values come up, in whatever order: a list of orders and a list of events. No function walked.
-/
import Derived.Test.YtbakanofkghmiaaGreatUj40
set_option linter.unusedVariables false
set_option maxHeartbeats 6400000
set_option maxRecDepth 100000
namespace Go.Proofs.YtbakanofkghmiaaGreat
open Go.RowKit
def aggL:Value→List Value
 | .agg xs=>xs.toList
 | _=>[]
def DS (S:Nat) (next:Int) (tg:List Od) (hR:List Ev):Nat→World→Value→Prop
 | 0,W,v=>ORow W S v tg∧∃ a c,v = .slice a tg.length c
 | 1,W,v=>∃ v4,v = .agg #[H next,v4]∧(∃ a c,v4 = .slice a tg.length c)∧ORow W S v4 tg
 | 2,W,v=>ERow W S v hR∧∃ a c,v = .slice a hR.length c
 | 3,W,v=>∃ b,v = .slice (some (J b 0)) 1 1∧b < W.heap.size∧S ≤ b∧W.rangeAt b 0 (hR.flatMap Ev.vs)
 | _,_,_=>True
def CX (vs:List Value) (ks:List (Nat × Nat)) (S:Nat) (next:Int) (tg:List Od) (hR:List Ev) (W:World) (j:Nat) (v:Value):Prop :=
 match ks.lookup j with
 | some d=>DS S next tg hR d W v
 | none=>∀ u,vs[j]? = some u→v = u
section
variable {vs:List Value} {ks:List (Nat × Nat)} {S R:Nat} {next:Int} {tg:List Od} {hR:List Ev} {W W':World} {j d:Nat} {v u:Value}
theorem zU (h:CX vs ks S next tg hR W j v) (hk:ks.lookup j = none) (hu:vs[j]? = some u):v = u:=by
 rw [CX,hk] at h; exact h u hu
theorem cx_sp (h:CX vs ks S next tg hR W j v) (hk:ks.lookup j = some d):DS S next tg hR d W v:=by
 rw [CX,hk] at h; exact h
theorem zY (hk:ks.lookup j = none) (hu:vs[j]? = some v):CX vs ks S next tg hR W j v:=by
 rw [CX,hk]; intro u h; rw [hu] at h; cases h; rfl
theorem bI (hk:ks.lookup j = some d) (hd:DS S next tg hR d W v):CX vs ks S next tg hR W j v:=by
 rw [CX,hk]; exact hd
theorem ds_mono (E:R < S) (O:KB R W W') (h:DS S next tg hR d W v):DS S next tg hR d W' v:=by
 match d with
 | 0=>exact ⟨bX h.1 O E,h.2⟩
 | 1=>obtain ⟨v4,G,D,h3⟩:=h; exact ⟨v4,G,D,bX h3 O E⟩
 | 2=>exact ⟨bX h.1 O E,h.2⟩
 | 3=>obtain ⟨b,G,D,h3,h4⟩:=h; exact ⟨b,G,yH D O.size,h3,kb_range O h4 (by omega)⟩
 | d + 4=>trivial
theorem cO (E:R < S):∀ W W' j v,KB R W W'→CX vs ks S next tg hR W j v→CX vs ks S next tg hR W' j v:=by
 intro W W' j v O h
 unfold CX at h ⊢
 split at h
 ·exact ds_mono E O h
 ·exact h
theorem cx_monoB (hS:0 < S):∀ W W' j v,ym W W'→CX vs ks S next tg hR W j v→CX vs ks S next tg hR W' j v:=by
 intro W W' j v O h
 unfold CX at h ⊢
 split at h
 ·exact ds_mono hS (kb_below O) h
 ·exact h
end
theorem rowE_made {B e sz n:Nat} (W:World) (xs:List Value) (hB:B ≤ W.heap.size) (hn:n ≤ maxLen) (hl:xs.length = n * sz):(W.alloc (Obj.cells xs.toArray e)).ownsRow B e sz (.slice (some (yp W 0)) n n) n xs :=
 ⟨hl,.inr ⟨W.heap.size,n,xs.toArray,rfl,hB,heap_alloc_new W _,Nat.le_refl _,hn,by simpa using hl,by simp [← hl]⟩⟩
theorem eRow_one {B:Nat} (W:World) (e:Ev) (hB:B ≤ W.heap.size):ERow (W.alloc (Obj.cells e.vs.toArray 46)) B (.slice (some (yp W 0)) 1 1) [e]:=by
 have h:=rowE_made (B:=B) (e:=46) (sz:=14) (n:=1) W e.vs hB (by decide) (by rfl)
 have e1:[e].flatMap Ev.vs = e.vs:=by simp
 show World.ownsRow _ _ _ _ _ [e].length ([e].flatMap Ev.vs)
 rw [e1]
 exact h
theorem ref_newS {next:Int} {l:List Od} {c:Cm} (h:refR next l c = 0) (hk:c.k = 1):(c.s = 1 ∨ c.s = 2)∧prcB c = true∧tagB c.g = true∧c.i = 0:=by
 have h0:=h
 have h:=ref_new h hk
 rw [newR] at h
 split at h
 ·cases h
 rename_i G
 split at h
 ·cases h
 split at h
 ·cases h
 split at h
 ·cases h
 rename_i h4
 split at h
 ·cases h
 split at h
 ·cases h
 rename_i h6
 refine ⟨side_of (by simpa using G),by simpa using h4,by simpa using h6,?_⟩
 rw [← ref_eq,refS] at h0
 split at h0
 ·cases h0
 split at h0
 ·cases h0
 rename_i hf
 simp [aH,hk] at hf
 exact hf
def RA (n:Nat) (v0:Value) (x:List Bool) (f:Nat→Value):Prop:=(x[n + 1]? = some true→f (n + 1) = f n)∧(x[n + 1]? = some false→f (n + 1) = v0)
def RYBA (qt:(Nat→Value)→Act) (C:World→Nat→Value→Prop) (n:Nat) (v0:Value) (xe:(Nat→Value)→World→Prop) (base:World) (x:List Bool) (xj:Act) (W:World):Prop:=∃ f,xj = qt f∧RY C n xe base x f W∧RA n v0 x f
theorem ryb_start {f:Nat→Value} {n k:Nat} {v0:Value} (h:f (n + 1) = v0):RA n v0 (List.replicate k false) f:=⟨fun h=>by rw [yG] at h; split at h <;> simp at h,fun _=>h⟩
theorem aJ {x:List Bool} {f:Nat→Value} {n i:Nat} {v0:Value} (v:Value) (h:RA n v0 x f) (hi:i ≠ n) (ql:i ≠ n + 1):RA n v0 (x.set i true) (upd f i v):=by
 rw [RA,gq ql,zp _ _ (fun e=>ql e.symm),zp _ _ (fun e=>hi e.symm)]; exact h
theorem ryb_write {x:List Bool} {f:Nat→Value} {n:Nat} {v0:Value} (v:Value) (h:RA n v0 x f) (hx:x[n + 1]? = some false):RA n v0 (x.set n true) (upd f n v):=by
 rw [RA,gq (by omega),zp _ _ (show n + 1 ≠ n by omega)]
 exact ⟨fun e=>(by rw [hx] at e; cases e),h.2⟩
theorem ryb_lay {x:List Bool} {f:Nat→Value} {n:Nat} {v0:Value} (hx:x[n + 1]? = some false):RA n v0 (x.set (n + 1) true) (upd f (n + 1) (f n)):=by
 rw [RA,gqs hx]
 exact ⟨fun _=>by rw [zn,zp _ _ (by omega)],fun e=>by cases e⟩
theorem row_src {B e sz n g c:Nat} {xs:List Value} {W:World} (h:W.ownsRow B e sz (.slice (some (J g 0)) n c) n xs):∀ j u,xs[j]? = some u→W.cell? (((J g 0):Addr).add j) = some u:=by
 intro j u hu
 rcases h.2 with ⟨G,_⟩ | ⟨g',A,xp,G,_,jV,_,_,oj,hx⟩
 ·cases G
 ·simp only [Value.slice.injEq,Option.some.injEq,Addr.mk.injEq,and_true,true_and] at G
  obtain ⟨rfl,-⟩:=G
  rw [Addr.add_mid,cell_of_row W g (0 + j) xp _ (0,0) jV]
  rw [← hx] at hu
  rw [List.getElem?_take] at hu
  split at hu
  ·simpa using hu
  ·cases hu
theorem take_nd {l:List Od} {j:Nat} {o:Od} (h:l[j]? = some o) (hd:o.life ≠ 1):(l.take (j + 1)).filter ndy = (l.take j).filter ndy ++ [o]:=by
 rw [List.take_add_one,h,List.filter_append]
 simp [ndy,hd]
theorem take_ny {l:List Od} {j:Nat} {o:Od} (h:l[j]? = some o) (hd:o.life = 1):(l.take (j + 1)).filter ndy = (l.take j).filter ndy:=by
 rw [List.take_add_one,h,List.filter_append]
 simp [ndy,hd]
theorem dysF_len:∀ (l:List Od) (k:Nat),(dysF l k).length = (l.filter dyB).length
 | [],_=>rfl
 | o :: r,k=>by
  rw [dysF,List.filter_cons]
  by_cases h:o.life = 1
  ·rw [if_pos h,if_pos (by simp [dyB,h])]; simp [dysF_len r]
  ·rw [if_neg h,if_neg (by simp [dyB,h])]; exact dysF_len r _
theorem cutB_tag {g:ByteArray} (h:tagB g = true):cutB g = g:=by
 simp only [tagB,xc,xd] at h
 rw [cutB,if_neg (by omega)]
structure RZ (C:Nat→Value→Prop) (B0:World) (tg:List Od) (t:Od) (x:List Bool) (f:Nat→Value) (W:World):Prop where
 bel:Below B0.heap.size B0 W
 c:∀ j,x[j]? = some true→C j (f j)
 m0:x[0]? = some true→x[2]? = some false→ORow W B0.heap.size (f 0) []
 m2:x[2]? = some true→x[5]? = some false→ORow W B0.heap.size (f 2) tg
 m4:x[4]? = some true→x[5]? = some false→∃ b,f 4 = .slice (some ⟨b,0,none⟩) 1 1∧b < W.heap.size∧B0.heap.size ≤ b∧W.rangeAt b 0 t.vs∧(x[0]? = some true→x[2]? = some false→(f 0).ownBlock ≠ some b)
 m5:x[5]? = some true→ORow W B0.heap.size (f 5) (tg ++ [t])
section
variable {C:Nat→Value→Prop} {B0 W W':World} {tg:List Od} {t:Od} {x:List Bool} {f:Nat→Value}
theorem rz_grow (h:RZ C B0 tg t x f W) (O:ym W W'):RZ C B0 tg t x f W' :=
 ⟨h.bel.trans (O.mono h.bel.size),h.c,fun a b=>zj (h.m0 a b) O,fun a b=>zj (h.m2 a b) O,fun a b=>by
  obtain ⟨b',G,D,h3,h4,h5⟩:=h.m4 a b
  exact ⟨b',G,yH D O.size,h3,zb h4 O D,h5⟩,fun a=>zj (h.m5 a) O⟩
theorem rz_val (h:RZ C B0 tg t x f W) (i:Nat) (v:Value) (hv:C i v) (hh0:i ≠ 0) (aw:i ≠ 2) (hh4:i ≠ 4) (ax:i ≠ 5):RZ C B0 tg t (x.set i true) (upd f i v) W:=by
 refine ⟨h.bel,zA h.c hv,?_,?_,?_,?_⟩ <;> simp only [gq hh0,gq aw,gq hh4,gq ax,zp f v hh0.symm,zp f v aw.symm,zp f v hh4.symm,zp f v ax.symm]
 ·exact h.m0
 ·exact h.m2
 ·exact h.m4
 ·exact h.m5
theorem rz_0 (h:RZ C B0 tg t x f W) (hh0:x[0]? = some false) (hc:∀ v,C 0 v):RZ C B0 tg t (x.set 0 true) (upd f 0 (.slice (some (yp W 0)) 0 0)) (W.alloc (N #[] 49)):=by
 have hg:=rz_grow h ((Below.refl W.heap.size W).alloc hb (N #[] 49))
 refine ⟨hg.bel,zA hg.c (hc _),?_,?_,?_,?_⟩
 ·intro _ _; rw [zn]; exact World.ownsRow_made W #[] 0 h.bel.size (by decide) rfl
 ·rw [gq (by decide),gq (by decide),zp _ _ (by decide)]; exact hg.m2
 ·intro hh4 ax
  rw [gq (by decide)] at hh4 ax
  obtain ⟨b,G,D,h3,h4,h5⟩:=hg.m4 hh4 ax
  obtain ⟨b',e1,e2,_⟩:=h.m4 hh4 ax
  rw [G] at e1
  simp only [Value.slice.injEq,Option.some.injEq,Addr.mk.injEq,and_true] at e1
  subst e1
  refine ⟨b,by rw [zp _ _ (by decide)]; exact G,D,h3,h4,fun _ _ e=>?_⟩
  rw [zn] at e
  simp [Value.ownBlock] at e
  omega
 ·rw [gq (by decide),zp _ _ (by decide)]; exact hg.m5
theorem rz_2 (h:RZ C B0 tg t x f W) (hh0:x[0]? = some true) (aw:x[2]? = some false) (ax:x[5]? = some false) (hc:∀ v,C 2 v) {v':Value} (Z:ORow W' B0.heap.size v' tg) (hg:W.grownBy W' (f 0).ownBlock):RZ C B0 tg t (x.set 2 true) (upd f 2 v') W':=by
 refine ⟨h.bel.grown hg h.bel.size (fun k hk=>((h.m0 hh0 aw).lt k hk).1),zA h.c (hc _),?_,?_,?_,?_⟩
 ·intro _ e; rw [gqs aw] at e; cases e
 ·intro _ _; rw [zn]; exact Z
 ·intro hh4 _
  rw [gq (by decide)] at hh4
  obtain ⟨b,G,D,h3,h4,h5⟩:=h.m4 hh4 ax
  refine ⟨b,by rw [zp _ _ (by decide)]; exact G,yH D hg.size,h3,zu h4 hg D (fun e=>h5 hh0 aw e.symm),fun _ e=>?_⟩
  rw [gqs aw] at e; cases e
 ·intro e; rw [gq (by decide),ax] at e; cases e
theorem rz_4 (h:RZ C B0 tg t x f W) (hh4:x[4]? = some false) (ax:x[5]? = some false) (hc:∀ v,C 4 v):RZ C B0 tg t (x.set 4 true) (upd f 4 (.slice (some (yp W 0)) 1 1)) (W.alloc (Obj.cells t.vs.toArray 49)):=by
 have hg:=rz_grow h ((Below.refl W.heap.size W).alloc hb (Obj.cells t.vs.toArray 49))
 refine ⟨hg.bel,zA hg.c (hc _),?_,?_,?_,?_⟩
 ·rw [gq (by decide),gq (by decide),zp _ _ (by decide)]; exact hg.m0
 ·rw [gq (by decide),gq (by decide),zp _ _ (by decide)]; exact hg.m2
 ·intro _ _
  refine ⟨W.heap.size,zn _ _ _,by rw [zf]; omega,h.bel.size,zg W t.vs _,fun hh0 aw e=>?_⟩
  rw [gq (by decide)] at hh0 aw
  rw [zp _ _ (by decide)] at e
  have:=((h.m0 hh0 aw).lt _ e).2
  omega
 ·rw [gq (by decide),zp _ _ (by decide)]; exact hg.m5
theorem rz_5 (h:RZ C B0 tg t x f W) (aw:x[2]? = some true) (ax:x[5]? = some false) (hc:∀ v,C 5 v) {v':Value} (Z:ORow W' B0.heap.size v' (tg ++ [t])) (hg:W.grownBy W' (f 2).ownBlock):RZ C B0 tg t (x.set 5 true) (upd f 5 v') W':=by
 refine ⟨h.bel.grown hg h.bel.size (fun k hk=>((h.m2 aw ax).lt k hk).1),zA h.c (hc _),?_,?_,?_,?_⟩
 ·intro _ e; rw [gq (by decide)] at e; rw [e] at aw; cases aw
 ·intro _ e; rw [gqs ax] at e; cases e
 ·intro _ e; rw [gqs ax] at e; cases e
 ·intro _; rw [zn]; exact Z
end
def RZBA (qt:(Nat→Value)→Act) (C:Nat→Value→Prop) (B0:World) (tg:List Od) (t:Od) (v0:Value) (x:List Bool) (xj:Act) (W:World):Prop:=∃ f,xj = qt f∧RZ C B0 tg t x f W∧RA 5 v0 x f
theorem rz_start {C:Nat→Value→Prop} {B0:World} {tg:List Od} {t:Od} {f:Nat→Value} {k:Nat}:RZ C B0 tg t (List.replicate k false) f { B0 with drawn:=B0.drawn + 1 }:=by
 have jc:∀ j,(List.replicate k false)[j]? = some true→False:=fun j K=>by rw [yG] at K; split at K <;> simp at K
 exact ⟨⟨rfl,rfl,rfl,Nat.le_refl _,fun _ _=>rfl⟩,fun j K=>(jc j K).elim,fun h=>(jc _ h).elim,fun h=>(jc _ h).elim,fun h=>(jc _ h).elim,fun h=>(jc _ h).elim⟩
def CZ (lv tv:Value):Nat→Value→Prop
 | 1,v=>v = lv
 | 3,v=>v = tv
 | _,_=>True
theorem acc_l {c:Cm} {next:Int} {qt:List Od × Int × List Ev} (hp:prcB c = true):accL c next qt = if 0 < qt.2.1∧aC c.t = true then qt.1 ++ [⟨next,c.s,tkS c.p,qt.2.1,c.l,c.g⟩] else qt.1:=by
 rw [accL]
 by_cases hr:aC c.t = true
 ·have ht:tkOk c.p = true:=by
   rw [prcB,if_neg (by intro e; rw [aC,e] at hr; simp at hr)] at hp; exact hp
  rw [tkS_ok ht]
 ·rw [if_neg (fun h=>hr h.2),if_neg (fun h=>hr h.2)]
theorem one_allE (l:List Ev):∀ u ∈ l.flatMap Ev.vs,u.oneCell' = true:=by
 intro u hu
 obtain ⟨e,_,h⟩:=List.mem_flatMap.1 hu
 exact one_ev e u h
theorem l04Step_r (next:Int) (vb:Value) (l:List Od) (c:Cm) (w:World) (qX:refR next l c ≠ 0) (hr:RdR Od.vs 6 w vb l) (hs:SlOk vb) (hg:GoodL l) (uC:∀ x ∈ l,x.side = 1 ∨ x.side = 2) (h0:0 ≤ next) (G:next ≤ 1000000) (ht:c.g.size ≤ maxLen) :
  Calls Tryz.prog 44 #[.agg #[H next,vb],cmV c] w fun e w'=>∃ vq vg,e = yl (.tuple #[.agg #[H (stN next l c),vq],vg])∧ORow w' w.heap.size vq (stL next l c)∧ERow w' w.heap.size vg (stE next l c)∧ym w w':=by
 obtain ⟨i0,uE,uF,uK,uV⟩:=info_parts Tryz.infoOrder
 obtain ⟨j0,jz,jI,kX,hy2⟩:=info_parts infoEv
 have HR:=Y hr
 have vC:=Y hs
 have HG:=Y hg
 have qw:=Y ht
 have vR:=hg.len
 have uG:Hid (0 ≤ next∧next ≤ 1000000):=⟨h0,G⟩
 have uQ:=Y (fun (W:World) hW=>dw next vb l c W hW hs hg uC ht)
 rw [ref_eq] at uQ
 have HK:=Y (@cY next l c)
 have HQ:=Y (@cJ next l c)
 have qJ:=Y (@ref_id next l c)
 have jD:=Y (@ref_newS next l c)
 have uA:=Y qX
 clear qX
 have uX:Hid (stN next l c = if refR next l c = 0∧c.k = 1 then next + 1 else next):=rfl
 have uD:=Y (stL.eq_1 next l c)
 have uW:=Y (stE.eq_1 next l c)
 have ou:=Y (fun W=>dv c W ht)
 have qO:=Y (fun (a:Option Addr) (n A:Nat) (W:World)=>di next a n A c W)
 have kb:=Y (fun (v:Value) (W:World) hr hs hp jq qU=>dh v l c next W hr hg hs hp jq qU)
 obtain ⟨a,A,rfl,vF,hc⟩:=hr
 obtain ⟨kk,s,ty,li,F,ii,pr,L⟩:=c
 generalize stN next l ⟨kk,s,ty,li,F,ii,pr,L⟩ = sN at uX ⊢
 generalize stL next l ⟨kk,s,ty,li,F,ii,pr,L⟩ = sL at uD ⊢
 generalize stE next l ⟨kk,s,ty,li,F,ii,pr,L⟩ = sE at uW ⊢
 generalize refR next l ⟨kk,s,ty,li,F,ii,pr,L⟩ = rr at uQ uX uD uW HK HQ qJ jD uA
 unfold cmV at uQ qO ⊢
 simp only at uQ uX uD uW HK HQ qJ jD ou qO kb qw uA ⊢
 have HB:=Y (box3 w [H next,.slice a l.length A] (yv kk s ty li F ii pr L) [H 0,.slice none 0 0] 28 43 28)
 clear hs hg uC h0 G ht hc vF
 go_enter Tryz.func44,Tryz.ntmps44
 refine eF fun hj xq=>?_
 go_wp2_with fail
 refine U xq _ _ ?_
 clear xq
 change Hid ((((w.alloc (N #[H next,.slice a l.length A] 28)).alloc (N (yv kk s ty li F ii pr L).toArray 43)).alloc (N #[H 0,.slice none 0 0] 28)).heap.size = w.heap.size + 3∧World.rangeAt (((w.alloc (N #[H next,.slice a l.length A] 28)).alloc (N (yv kk s ty li F ii pr L).toArray 43)).alloc (N #[H 0,.slice none 0 0] 28)) w.heap.size 0 [H next,.slice a l.length A]∧World.rangeAt (((w.alloc (N #[H next,.slice a l.length A] 28)).alloc (N (yv kk s ty li F ii pr L).toArray 43)).alloc (N #[H 0,.slice none 0 0] 28)) (w.heap.size + 1) 0 (yv kk s ty li F ii pr L)∧World.rangeAt (((w.alloc (N #[H next,.slice a l.length A] 28)).alloc (N (yv kk s ty li F ii pr L).toArray 43)).alloc (N #[H 0,.slice none 0 0] 28)) (w.heap.size + 1 + 1) 0 [H 0,.slice none 0 0]∧World.there (((w.alloc (N #[H next,.slice a l.length A] 28)).alloc (N (yv kk s ty li F ii pr L).toArray 43)).alloc (N #[H 0,.slice none 0 0] 28)) (w.heap.size + 1 + 1) 0 2∧ym w (((w.alloc (N #[H next,.slice a l.length A] 28)).alloc (N (yv kk s ty li F ii pr L).toArray 43)).alloc (N #[H 0,.slice none 0 0] 28))) at HB
 generalize (((w.alloc (N #[H next,.slice a l.length A] 28)).alloc (N (yv kk s ty li F ii pr L).toArray 43)).alloc (N #[H 0,.slice none 0 0] 28)) = xm at HB ⊢
 have xG:Hid (∀ W:World,ym xm W→W.cell? (yp w 0) = some (H next)∧W.cell? (yp w 1) = some (.slice a l.length A)∧W.cell? (J (w.heap.size + 1) 0) = some (H kk)∧W.cell? (J (w.heap.size + 1) 1) = some (H s)∧W.cell? (J (w.heap.size + 1) 2) = some (H ty)∧W.cell? (J (w.heap.size + 1) 3) = some (H li)∧W.cell? (J (w.heap.size + 1) 4) = some (H F)∧W.cell? (J (w.heap.size + 1) 5) = some (H ii)∧W.cell? (J (w.heap.size + 1) 6) = some (yi pr)∧W.cell? (J (w.heap.size + 1) 7) = some (yj L)):=fun W hW =>
  have p:=zb (U HB).2.1 hW (by have:=(U HB).1; omega)
  have q:=zb (U HB).2.2.1 hW (by have:=(U HB).1; omega)
  ⟨p 0 _ rfl,p 1 _ rfl,q 0 _ rfl,q 1 _ rfl,q 2 _ rfl,q 3 _ rfl,q 4 _ rfl,q 5 _ rfl,q 6 _ rfl,q 7 _ rfl⟩
 have vz:w.heap.size + 1 + 1 < xm.heap.size:=by have:=(U HB).1; omega
 refine wp_seq_k fun hj hK=>?_
 have HT:∀ (a6:Option Addr) (c6:Nat) (w1:World),ORow w1 xm.heap.size (.slice a6 l.length c6) l→ym xm w1→hj { tmps:=#[.agg #[H next,.slice a l.length A],.agg (yv kk s ty li F ii pr L).toArray,yn w 0,I (w.heap.size + 1) 0,I (w.heap.size + 1 + 1) 0,.slice none 0 0,.slice a6 l.length c6,M,M,M,M,M,M,M,M,M,M,M,.slice (some (yp xm 0)) 0 0,yn w 1,.slice a l.length A,.slice a6 l.length c6,M,M,M,M,M,M,M,M,M,M,M,M,M,M,M,M,M,M,M,M,M,M,M,M,M,M,M,M,M,M,M,M,M,M,M,M,M,M,M,M,M,M,M,M,M,M,M,M,M,M,M,M,M,M,M,M,M,M,M,M,M,M,M,M,M,M,M,M,M,M,M,M,M,M,M,M,M,M,M,M,M,M,M,M,M,M,M,M,M,M,M,M,M,M,M,M,M,M,M,M,M,M,M,M,M,M,M,M,M,M,M,M,M,M,M,M,M,M,M,M,M,M,M,M,M,M,M,M,M,M,M,M,M,M,M,M,M,M,M,M,M,M,M,M,M,M,M,M,M],defers:=[] } w1:=by
  intro a6 c6 w1 vZ xU
  refine hK _ _ ?_
  clear hK
  have vl:=Y vZ
  have xW:=Y xU
  clear vZ xU
  obtain ⟨z0,z1,y0,y1,y2,y3,y4,y5,y6,y7⟩:=U xG w1 (U xW)
  refine eF fun hj xq=>?_
  go_wp2_with fail
  refine (U uQ w1 (zh (U HR) ((U HB).2.2.2.2.2.trans ((U xW).mono (U HB).2.2.2.2.2.size)) hb)).mono ?_
  rintro e w2 ⟨rfl,xS⟩
  have vV:=Y (zj (U vl) xS)
  have xD:=Y (eE (U xW) xS)
  clear z0 z1 y0 y1 y2 y3 y4 y5 y6 y7 xS vl
  obtain ⟨z0,z1,y0,y1,y2,y3,y4,y5,y6,y7⟩:=U xG w2 (U xD)
  have vN:=Y (ze (U HB).2.2.2.2.1 (U xD) vz)
  have ox:w.heap.size + 1 + 1 < w2.heap.size:=yH vz (U xD).size
  have xJ:=Y ((U HB).2.2.2.2.2.trans ((U xD).mono (U HB).2.2.2.2.2.size))
  have hXw:w.heap.size ≤ xm.heap.size:=by omega
  have hX2:xm.heap.size ≤ w2.heap.size:=(U xD).size
  have oi:=hX2
  by_cases vi:rr = 0
  ·subst vi
   have pD:=U HK rfl
   rcases pD with rfl | rfl | rfl | rfl
   ·exact absurd rfl (U uA)
   ·exact absurd rfl (U uA)
   ·exact absurd rfl (U uA)
   ·exact absurd rfl (U uA)
  ·have kU:=vi
   have qI:(rr == 0) = false:=by rw [xb]; exact vi
   have uI:Hid (sN = next∧sL = l∧sE = [⟨2,⟨kk,s,ty,li,F,ii,pr,cutB L⟩,0,0,0,0,rr⟩]):=⟨by rw [U uX,if_neg (fun h=>vi h.1)],by rw [U uD,if_neg vi],by rw [U uW,if_neg vi]⟩
   clear vi kU uX uD uW HQ qJ HK jD qO kb uA
   have HZ0:=Y z0
   have HZ1:=Y z1
   have HY0:=Y y0
   have HY1:=Y y1
   have HY2:=Y y2
   have HY3:=Y y3
   have HY4:=Y y4
   have HY5:=Y y5
   have HY6:=Y y6
   have pp:=Y y7
   have hRS:w.heap.size + 1 + 1 < xm.heap.size:=vz
   go_wp2_with fail
   clear z0 z1 y0 y1 y2 y3 y4 y5 y6 y7
   refine zi (RXA (fun f=>{ tmps:=#[.agg #[H next,.slice a l.length A],.agg (yv kk s ty li F ii pr L).toArray,yn w 0,I (w.heap.size + 1) 0,I (w.heap.size + 1 + 1) 0,f 10,.slice a6 l.length c6,H rr,M,M,M,M,M,M,M,M,M,M,.slice (some (yp xm 0)) 0 0,yn w 1,.slice a l.length A,.slice a6 l.length c6,.agg #[H next,.slice a l.length A],.agg (yv kk s ty li F ii pr L).toArray,H rr,H rr,.bool (rr != 0),f 0,f 1,f 2,f 3,f 4,f 5,f 6,f 7,f 8,M,M,M,M,M,M,M,M,M,M,M,M,M,M,M,M,M,M,M,M,M,M,M,M,M,M,M,M,M,M,M,M,M,M,M,M,M,M,M,M,M,M,M,M,M,M,M,M,M,M,M,M,M,M,M,M,M,M,M,M,M,M,M,M,M,M,M,M,M,M,M,M,M,M,M,M,M,M,M,M,M,M,M,M,M,M,M,M,M,M,M,M,M,M,M,M,M,M,M,M,M,M,M,M,M,M,M,M,M,M,M,M,M,M,M,M,M,M,M,M,M,M,M,M,M,M,M,M,M,M,M,M,M,M,M],defers:=[] }) (CX [yn w 0,H next,.slice a6 l.length c6,.agg #[H next,.slice a6 l.length c6],.agg (yv kk s ty li F ii pr L).toArray,.agg (yv kk s ty li F ii pr (cutB L)).toArray,H rr,.agg (yt 2 kk s ty li F ii pr (cutB L) 0 0 0 0 rr).toArray,M,M,M] [(8,2),(9,9),(10,2)] (xm.heap.size) (next) (l) ([⟨2,⟨kk,s,ty,li,F,ii,pr,cutB L⟩,0,0,0,0,rr⟩])) (w.heap.size + 1 + 1) 2 9 (fun f=>aggL (f 3)) w2) (by kernel_rfl) ?_ ?_ ?_
   ·exact ⟨fun j=>if j = 10 then .slice none 0 0 else M,rfl,rx_start ox (U vN)⟩
   rotate_left
   ·rintro x xj V i op ⟨f,rfl,E⟩ X hx Z xu Q
    have xw:=Y E
    have xk:∀ (p:Addr) u,w2.cell? p = some u→p.block ≠ w.heap.size + 1 + 1→V.cell? p = some u:=fun p u hu hp=>kb_cell E.k hu hp
    match i,Z with
    | 0,Z =>
     obtain rfl:=ya Z
     clear Q E xk X
     rw [if_pos (by rfl)];unfold Oper.wp;go_simp
     exact ⟨upd f 0 (yn w 0),by simp [upd],zX (U xw) 0 _ (by decide) (fun _=>rfl) (zY rfl rfl)⟩
    | 1,Z =>
     obtain rfl:=ya Z
     have g0:f 0 = yn w 0:=zU (E.c 0 (yd Q 0 rfl)) rfl rfl
     have z0:=xk (yp w 0) _ (U HZ0) (show w.heap.size ≠ w.heap.size + 1 + 1 by omega)
     clear Q E xk X
     rw [if_pos (by rfl)];unfold Oper.wp;go_simp
     exact ⟨upd f 1 (H next),by simp [upd,g0],zX (U xw) 1 _ (by decide) (fun _=>rfl) (zY rfl rfl)⟩
    | 2,Z =>
     obtain rfl:=ya Z
     clear Q E xk X
     rw [if_pos (by rfl)];unfold Oper.wp;go_simp
     exact ⟨upd f 2 (.slice a6 l.length c6),by simp [upd],zX (U xw) 2 _ (by decide) (fun _=>rfl) (zY rfl rfl)⟩
    | 3,Z =>
     obtain rfl:=ya Z
     have g1:f 1 = H next:=zU (E.c 1 (yd Q 1 rfl)) rfl rfl
     have g2:f 2 = .slice a6 l.length c6:=zU (E.c 2 (yd Q 2 rfl)) rfl rfl
     have hcl0:=X
     clear Q E xk X
     rw [if_pos (by rfl)];unfold Oper.wp;go_simp
     exact ⟨upd f 3 (.agg #[H next,.slice a6 l.length c6]),by simp [upd,g1,g2],zX (U xw) 3 _ (by decide) (fun h=>by rw [zy hcl0 12 3 9 (by kernel_rfl) hx (by simp) xu] at h; cases h) (zY rfl rfl)⟩
    | 4,Z =>
     obtain rfl:=ya Z
     have y0:=xk (J (w.heap.size + 1) 0) _ (U HY0) (show w.heap.size + 1 ≠ w.heap.size + 1 + 1 by omega)
     have y1:=xk (J (w.heap.size + 1) 1) _ (U HY1) (show w.heap.size + 1 ≠ w.heap.size + 1 + 1 by omega)
     have y2:=xk (J (w.heap.size + 1) 2) _ (U HY2) (show w.heap.size + 1 ≠ w.heap.size + 1 + 1 by omega)
     have y3:=xk (J (w.heap.size + 1) 3) _ (U HY3) (show w.heap.size + 1 ≠ w.heap.size + 1 + 1 by omega)
     have y4:=xk (J (w.heap.size + 1) 4) _ (U HY4) (show w.heap.size + 1 ≠ w.heap.size + 1 + 1 by omega)
     have y5:=xk (J (w.heap.size + 1) 5) _ (U HY5) (show w.heap.size + 1 ≠ w.heap.size + 1 + 1 by omega)
     have y6:=xk (J (w.heap.size + 1) 6) _ (U HY6) (show w.heap.size + 1 ≠ w.heap.size + 1 + 1 by omega)
     have y7:=xk (J (w.heap.size + 1) 7) _ (U pp) (show w.heap.size + 1 ≠ w.heap.size + 1 + 1 by omega)
     clear Q E xk X
     rw [if_pos (by rfl)];unfold Oper.wp;go_simp
     exact ⟨upd f 4 (.agg (yv kk s ty li F ii pr L).toArray),by simp [upd],zX (U xw) 4 _ (by decide) (fun _=>rfl) (zY rfl rfl)⟩
    | 5,Z =>
     obtain rfl:=ya Z
     have g4:f 4 = .agg (yv kk s ty li F ii pr L).toArray:=zU (E.c 4 (yd Q 4 rfl)) rfl rfl
     clear Q E X xk
     rw [if_pos (by rfl)];unfold Oper.wp;go_simp
     refine (U ou V).mono ?_
     rintro e w4 ⟨rfl,xy⟩
     exact ⟨upd f 5 (.agg (yv kk s ty li F ii pr (cutB L)).toArray),by simp [upd,g4],zX (rx_grow (cO hRS) (U xw) xy) 5 _ (by decide) (fun _=>rfl) (zY rfl rfl)⟩
    | 6,Z =>
     obtain rfl:=ya Z
     clear Q E xk X
     rw [if_pos (by rfl)];unfold Oper.wp;go_simp
     exact ⟨upd f 6 (H rr),by simp [upd],zX (U xw) 6 _ (by decide) (fun _=>rfl) (zY rfl rfl)⟩
    | 7,Z =>
     obtain rfl:=ya Z
     have g5:f 5 = .agg (yv kk s ty li F ii pr (cutB L)).toArray:=zU (E.c 5 (yd Q 5 rfl)) rfl rfl
     have g6:f 6 = H rr:=zU (E.c 6 (yd Q 6 rfl)) rfl rfl
     clear Q E xk X
     rw [if_pos (by rfl)];unfold Oper.wp;go_simp
     exact ⟨upd f 7 (.agg (yt 2 kk s ty li F ii pr (cutB L) 0 0 0 0 rr).toArray),by simp [upd,g5,g6],zX (U xw) 7 _ (by decide) (fun _=>rfl) (zY rfl rfl)⟩
    | 8,Z =>
     obtain rfl:=ya Z
     have g7:f 7 = .agg (yt 2 kk s ty li F ii pr (cutB L) 0 0 0 0 rr).toArray:=zU (E.c 7 (yd Q 7 rfl)) rfl rfl
     have qW:=yL oi E.k.size
     clear Q E xk X
     rw [if_pos (by rfl)];unfold Oper.wp;go_simp
     exact ⟨upd f 8 (.slice (some (yp V 0)) 1 1),by simp [upd,g7],zX (rx_grow (cO hRS) (U xw) (eB _ _)) 8 _ (by decide) (fun _=>rfl) (bI (d:=2) rfl ⟨eRow_one V ⟨2,⟨kk,s,ty,li,F,ii,pr,cutB L⟩,0,0,0,0,rr⟩ qW,_,_,rfl⟩)⟩
    | 9,Z =>
     obtain rfl:=ya Z
     have g0:f 3 = .agg #[H next,.slice a6 l.length c6]:=zU (E.c 3 (yd Q 3 rfl)) rfl rfl
     obtain ⟨y0,z0,q0⟩:=zc E.t (j:=0) (by omega)
     obtain ⟨y1,z1,q1⟩:=zc E.t (j:=1) (by omega)
     clear Q E xk X
     rw [if_pos (by rfl)];unfold Oper.wp;go_simp
     have uO:=rx_store (cO hRS) (U xw) xu (by simp [g0,aggL]) (fun _ _=>bI (d:=9) rfl trivial)
     simp only [g0,aggL] at uO
     exact ⟨f,by simp [g0],uO⟩
    | 10,Z =>
     obtain rfl:=ya Z
     have h8:=cx_sp (d:=2) (E.c 8 (yd Q 8 rfl)) rfl
     obtain ⟨a8,c8,g8⟩:=h8.2
     rw [g8] at h8
     have H8:=Y h8
     clear h8
     clear Q E xk X
     rw [if_pos (by rfl)];unfold Oper.wp;go_simp
     exact ⟨upd f 10 (f 8),by simp [upd,g8],zX (U xw) 10 _ (by decide) (fun _=>rfl) (bI (d:=2) rfl (by rw [g8]; exact U H8))⟩
    | n + 11,Z=>simp at Z
   ·rintro x xj V ⟨f,rfl,E⟩ hx xL
    have xn:=zO xL hx (by kernel_rfl)
    obtain ⟨hE8,a8,c8,e8⟩:=cx_sp (d:=2) (E.c 10 (xn 10 (by simp))) rfl
    have vk:=E.r (xn 9 (by simp))
    obtain ⟨v4,hv4,kr⟩:∃ v4,v4 = .slice a6 l.length c6∧ORow V xm.heap.size v4 l:=⟨_,rfl,bX (U vV) E.k hRS⟩
    have g3:f 3 = .agg #[H next,.slice a6 l.length c6]:=zU (E.c 3 (xn 3 (by simp))) rfl rfl
    simp only [g3,aggL] at vk
    rw [← hv4] at vk
    clear g3
    have HO:Hid (ORow V w.heap.size v4 _∧ERow V w.heap.size (.slice a8 _ c8) _):=⟨zE kr (by omega),zE (e8 ▸ hE8) (by omega)⟩
    have xr:Hid (ym w V):=⟨E.k.os.trans (U xJ).os,E.k.tape.trans (U xJ).tape,E.k.output.trans (U xJ).output,yL (U xJ).size E.k.size,fun k hk=>(E.k.block k (yH hk (U xJ).size) (by omega)).trans ((U xJ).block k hk)⟩
    have d0:V.cell? (J (w.heap.size + 1 + 1) 0) = some (H next):=vk 0 _ rfl
    have d1:V.cell? (J (w.heap.size + 1 + 1) 1) = some v4:=vk 1 _ rfl
    simp only [e8]
    generalize f 0 = w0,f 1 = w1,f 2 = w2,f 3 = w3,f 4 = w4,f 5 = w5,f 6 = w6,f 7 = w7,f 8 = w8
    clear E xn xL hx vk hE8 kr
    go_wp2_with fail
    try simp only [Exit.inBlock,Exit.then]
    refine bodyPost_ret (by simp [results,Tryz.results44,go_sem,d0,d1]; try rfl) rfl ?_
    obtain ⟨rfl,rfl,rfl⟩:=U uI
    exact ⟨_,_,rfl,(U HO).1,(U HO).2,U xr⟩
 rcases U vC with hs | ⟨ad,nn,cc,hs⟩
 ·simp only [Value.slice.injEq] at hs
  obtain ⟨rfl,pE,rfl⟩:=hs
  obtain rfl:=List.length_eq_zero_iff.1 pE
  obtain ⟨z0,z1,y0,y1,y2,y3,y4,y5,y6,y7⟩:=U xG xm (Below.refl _ _)
  have vL:=Y (World.ownsRow_made (base:=xm.heap.size) (e:=49) (size:=6) xm #[] 0 hb (by decide) rfl)
  have hzX:World.cell? (xm.alloc (N #[] 49)) (yp w 1) = some (.slice none 0 0):=(U xG _ (eB _ _)).2.1
  have kN:=Y HT
  clear HT hK
  go_wp2_with (at_builtin; go_must (refine wpList_append_own_none rfl _ _ 26 rfl xm.heap.size 49 i0 6 Tryz.underlying26 uE (.slice (some (yp xm 0)) 0 0) 0 [] rfl (U vL) rfl ?_))
  exact U kN _ _ _ (U vL) (eB _ _)
 ·simp only [Value.slice.injEq] at hs
  obtain ⟨rfl,rfl,rfl⟩:=hs
  obtain ⟨z0,z1,y0,y1,y2,y3,y4,y5,y6,y7⟩:=U xG xm (Below.refl _ _)
  have uP:Hid (ym xm (xm.alloc (N #[] 49))):=eB _ _
  have vL:=Y (World.ownsRow_made (base:=xm.heap.size) (e:=49) (size:=6) xm #[] 0 hb (by decide) rfl)
  have hzX:World.cell? (xm.alloc (N #[] 49)) (yp w 1) = some (.slice (some ad) l.length A):=(U xG _ (U uP)).2.1
  have vf:Hid (∀ j u,(l.flatMap Od.vs)[j]? = some u→World.cell? (xm.alloc (N #[] 49)) (ad.add j) = some u):=rd_src (zh (U HR) ((U HB).2.2.2.2.2.trans ((U uP).mono (U HB).2.2.2.2.2.size)) hb)
  have kN:=Y HT
  clear HT hK
  go_wp2_with (at_builtin; go_must (refine wpList_append_own _ rfl _ _ 26 rfl xm.heap.size 49 i0 _ 6 56 Tryz.underlying26 uE uF uK uV rfl (by decide) (.slice (some (yp xm 0)) 0 0) 0 [] rfl (U vL) ad l.length A (l.flatMap Od.vs) rfl (by rw [zK Od.len]) (U vf) (bi l) (by unfold maxLen; omega) (by omega) (U uP).size ?_); intro v1 w1 vd qk _; have vl:=Y vd; have kw:=Y qk; clear vd qk)
  have pX:Hid (ORow w1 xm.heap.size v1 l):=by
   show w1.ownsRow _ _ _ _ l.length _
   simpa using U vl
  obtain ⟨a6,c6,hv⟩:=zL (U pX)
  subst hv
  exact U kN _ _ _ (U pX) ((U uP).grown (U kw) (U uP).size (fun k hk=>((U vL).lt k hk).1))
end Go.Proofs.YtbakanofkghmiaaGreat
