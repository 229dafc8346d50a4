/-
  Results laid out while their values come up, in whatever order: a list of orders and a list of events. No function walked.
-/
import Derived.Test.YtbakanofkghmiaaGreatQj33
import Derived.Test.YtbakanofkghmiaaGreatQj39
set_option linter.unusedVariables false
set_option maxHeartbeats 6400000
set_option maxRecDepth 100000
namespace Go.Proofs.YtbakanofkghmiaaGreat
open Go.RowKit
def aggL:Value→List Value
 | .agg xs=>xs.toList
 | _=>[]
def DS (S:Nat) (next:Int) (qt:List Od) (eG:List Ev):Nat→World→Value→Prop
 | 0,W,v=>ORow W S v qt∧∃ a c,v = .slice a qt.length c
 | 1,W,v=>∃ v4,v = .agg #[H next,v4]∧(∃ a c,v4 = .slice a qt.length c)∧ORow W S v4 qt
 | 2,W,v=>ERow W S v eG∧∃ a c,v = .slice a eG.length c
 | 3,W,v=>∃ b,v = .slice (some (J b 0)) 1 1∧b < W.heap.size∧S ≤ b∧W.rangeAt b 0 (eG.flatMap Ev.vs)
 | _,_,_=>True
def CX (vs:List Value) (ks:List (Nat × Nat)) (S:Nat) (next:Int) (qt:List Od) (eG:List Ev) (W:World) (j:Nat) (v:Value):Prop :=
 match ks.lookup j with
 | some d=>DS S next qt eG d W v
 | none=>∀ u,vs[j]? = some u→v = u
section
variable {vs:List Value} {ks:List (Nat × Nat)} {S hj:Nat} {next:Int} {qt:List Od} {eG:List Ev} {W W':World} {j d:Nat} {v u:Value}
theorem zT (h:CX vs ks S next qt eG W j v) (hk:ks.lookup j = none) (hu:vs[j]? = some u):v = u:=by
 rw [CX,hk] at h; exact h u hu
theorem cx_sp (h:CX vs ks S next qt eG W j v) (hk:ks.lookup j = some d):DS S next qt eG d W v:=by
 rw [CX,hk] at h; exact h
theorem zX (hk:ks.lookup j = none) (hu:vs[j]? = some v):CX vs ks S next qt eG W j v:=by
 rw [CX,hk]; intro u h; rw [hu] at h; cases h; rfl
theorem bR (hk:ks.lookup j = some d) (hd:DS S next qt eG d W v):CX vs ks S next qt eG W j v:=by
 rw [CX,hk]; exact hd
theorem ds_mono (K:hj < S) (X:KB hj W W') (h:DS S next qt eG d W v):DS S next qt eG d W' v:=by
 match d with
 | 0=>exact ⟨kb_row h.1 X K,h.2⟩
 | 1=>obtain ⟨v4,Q,N,h3⟩:=h; exact ⟨v4,Q,N,kb_row h3 X K⟩
 | 2=>exact ⟨kb_row h.1 X K,h.2⟩
 | 3=>obtain ⟨b,Q,N,h3,h4⟩:=h; exact ⟨b,Q,yK N X.size,h3,kb_range X h4 (by omega)⟩
 | d + 4=>trivial
theorem cS (K:hj < S):∀ W W' j v,KB hj W W'→CX vs ks S next qt eG W j v→CX vs ks S next qt eG W' j v:=by
 intro W W' j v X h
 unfold CX at h ⊢
 split at h
 ·exact ds_mono K X h
 ·exact h
theorem cx_monoB (hS:0 < S):∀ W W' j v,yn W W'→CX vs ks S next qt eG W j v→CX vs ks S next qt eG W' j v:=by
 intro W W' j v X h
 unfold CX at h ⊢
 split at h
 ·exact ds_mono hS (kb_below X) h
 ·exact h
end
theorem rowE_made {B e sz n:Nat} (W:World) (xs:List Value) (hB:B ≤ W.heap.size) (hn:n ≤ maxLen) (hl:xs.length = n * sz):(W.alloc (Obj.cells xs.toArray e)).ownsRow B e sz (.slice (some (yq W 0)) n n) n xs :=
 ⟨hl,.inr ⟨W.heap.size,n,xs.toArray,rfl,hB,heap_alloc_new W _,Nat.le_refl _,hn,by simpa using hl,by simp [← hl]⟩⟩
theorem eRow_one {B:Nat} (W:World) (e:Ev) (hB:B ≤ W.heap.size):ERow (W.alloc (Obj.cells e.vs.toArray 46)) B (.slice (some (yq W 0)) 1 1) [e]:=by
 have h:=rowE_made (B:=B) (e:=46) (sz:=14) (n:=1) W e.vs hB (by decide) (by rfl)
 have e1:[e].flatMap Ev.vs = e.vs:=by simp
 show World.ownsRow _ _ _ _ _ [e].length ([e].flatMap Ev.vs)
 rw [e1]
 exact h
theorem ref_newS {next:Int} {l:List Od} {c:Cm} (h:refR next l c = 0) (hk:c.k = 1):(c.s = 1 ∨ c.s = 2)∧prcB c = true∧tagB c.g = true∧c.i = 0:=by
 have h0:=h
 have h:=ref_new h hk
 rw [newR] at h
 split at h
 ·cases h
 rename_i Q
 split at h
 ·cases h
 split at h
 ·cases h
 split at h
 ·cases h
 rename_i h4
 split at h
 ·cases h
 split at h
 ·cases h
 rename_i h6
 refine ⟨side_of (by simpa using Q),by simpa using h4,by simpa using h6,?_⟩
 rw [← ref_eq,refS] at h0
 split at h0
 ·cases h0
 split at h0
 ·cases h0
 rename_i hf
 simp [aR,hk] at hf
 exact hf
def RA (n:Nat) (v0:Value) (x:List Bool) (f:Nat→Value):Prop:=(x[n + 1]? = some true→f (n + 1) = f n)∧(x[n + 1]? = some false→f (n + 1) = v0)
def RYBA (ty:(Nat→Value)→Act) (C:World→Nat→Value→Prop) (n:Nat) (v0:Value) (h1:(Nat→Value)→World→Prop) (base:World) (x:List Bool) (xn:Act) (W:World):Prop:=∃ f,xn = ty f∧RY C n h1 base x f W∧RA n v0 x f
theorem ryb_start {f:Nat→Value} {n k:Nat} {v0:Value} (h:f (n + 1) = v0):RA n v0 (List.replicate k false) f:=⟨fun h=>by rw [yJ] at h; split at h <;> simp at h,fun _=>h⟩
theorem aS {x:List Bool} {f:Nat→Value} {n i:Nat} {v0:Value} (v:Value) (h:RA n v0 x f) (hi:i ≠ n) (ql:i ≠ n + 1):RA n v0 (x.set i true) (upd f i v):=by
 rw [RA,gq ql,zr _ _ (fun e=>ql e.symm),zr _ _ (fun e=>hi e.symm)]; exact h
theorem ryb_write {x:List Bool} {f:Nat→Value} {n:Nat} {v0:Value} (v:Value) (h:RA n v0 x f) (hx:x[n + 1]? = some false):RA n v0 (x.set n true) (upd f n v):=by
 rw [RA,gq (by omega),zr _ _ (show n + 1 ≠ n by omega)]
 exact ⟨fun e=>(by rw [hx] at e; cases e),h.2⟩
theorem ryb_lay {x:List Bool} {f:Nat→Value} {n:Nat} {v0:Value} (hx:x[n + 1]? = some false):RA n v0 (x.set (n + 1) true) (upd f (n + 1) (f n)):=by
 rw [RA,gqs hx]
 exact ⟨fun _=>by rw [zp,zr _ _ (by omega)],fun e=>by cases e⟩
theorem row_src {B e sz n g c:Nat} {xs:List Value} {W:World} (h:W.ownsRow B e sz (.slice (some (J g 0)) n c) n xs):∀ j u,xs[j]? = some u→W.cell? (((J g 0):Addr).add j) = some u:=by
 intro j u hu
 rcases h.2 with ⟨Q,_⟩ | ⟨g',A,xu,Q,_,kL,_,_,ow,hx⟩
 ·cases Q
 ·simp only [Value.slice.injEq,Option.some.injEq,Addr.mk.injEq,and_true,true_and] at Q
  obtain ⟨rfl,-⟩:=Q
  rw [Addr.add_mid,cell_of_row W g (0 + j) xu _ (0,0) kL]
  rw [← hx] at hu
  rw [List.getElem?_take] at hu
  split at hu
  ·simpa using hu
  ·cases hu
theorem take_nd {l:List Od} {j:Nat} {o:Od} (h:l[j]? = some o) (hd:o.life ≠ 1):(l.take (j + 1)).filter ndy = (l.take j).filter ndy ++ [o]:=by
 rw [List.take_add_one,h,List.filter_append]
 simp [ndy,hd]
theorem take_ny {l:List Od} {j:Nat} {o:Od} (h:l[j]? = some o) (hd:o.life = 1):(l.take (j + 1)).filter ndy = (l.take j).filter ndy:=by
 rw [List.take_add_one,h,List.filter_append]
 simp [ndy,hd]
theorem dysF_len:∀ (l:List Od) (k:Nat),(dysF l k).length = (l.filter dyB).length
 | [],_=>rfl
 | o :: r,k=>by
  rw [dysF,List.filter_cons]
  by_cases h:o.life = 1
  ·rw [if_pos h,if_pos (by simp [dyB,h])]; simp [dysF_len r]
  ·rw [if_neg h,if_neg (by simp [dyB,h])]; exact dysF_len r _
theorem cutB_tag {g:ByteArray} (h:tagB g = true):cutB g = g:=by
 simp only [tagB,xh,xj] at h
 rw [cutB,if_neg (by omega)]
structure RZ (C:Nat→Value→Prop) (B0:World) (qt:List Od) (t:Od) (x:List Bool) (f:Nat→Value) (W:World):Prop where
 bel:Below B0.heap.size B0 W
 c:∀ j,x[j]? = some true→C j (f j)
 m0:x[0]? = some true→x[2]? = some false→ORow W B0.heap.size (f 0) []
 m2:x[2]? = some true→x[5]? = some false→ORow W B0.heap.size (f 2) qt
 m4:x[4]? = some true→x[5]? = some false→∃ b,f 4 = .slice (some ⟨b,0,none⟩) 1 1∧b < W.heap.size∧B0.heap.size ≤ b∧W.rangeAt b 0 t.vs∧(x[0]? = some true→x[2]? = some false→(f 0).ownBlock ≠ some b)
 m5:x[5]? = some true→ORow W B0.heap.size (f 5) (qt ++ [t])
section
variable {C:Nat→Value→Prop} {B0 W W':World} {qt:List Od} {t:Od} {x:List Bool} {f:Nat→Value}
theorem rz_grow (h:RZ C B0 qt t x f W) (X:yn W W'):RZ C B0 qt t x f W' :=
 ⟨h.bel.trans (X.mono h.bel.size),h.c,fun a b=>zm (h.m0 a b) X,fun a b=>zm (h.m2 a b) X,fun a b=>by
  obtain ⟨b',Q,N,h3,h4,h5⟩:=h.m4 a b
  exact ⟨b',Q,yK N X.size,h3,zb h4 X N,h5⟩,fun a=>zm (h.m5 a) X⟩
theorem rz_val (h:RZ C B0 qt t x f W) (i:Nat) (v:Value) (hv:C i v) (hh0:i ≠ 0) (aD:i ≠ 2) (hh4:i ≠ 4) (aE:i ≠ 5):RZ C B0 qt t (x.set i true) (upd f i v) W:=by
 refine ⟨h.bel,zy h.c hv,?_,?_,?_,?_⟩ <;> simp only [gq hh0,gq aD,gq hh4,gq aE,zr f v hh0.symm,zr f v aD.symm,zr f v hh4.symm,zr f v aE.symm]
 ·exact h.m0
 ·exact h.m2
 ·exact h.m4
 ·exact h.m5
theorem rz_0 (h:RZ C B0 qt t x f W) (hh0:x[0]? = some false) (hc:∀ v,C 0 v):RZ C B0 qt t (x.set 0 true) (upd f 0 (.slice (some (yq W 0)) 0 0)) (W.alloc (E #[] 49)):=by
 have hg:=rz_grow h ((Below.refl W.heap.size W).alloc tg (E #[] 49))
 refine ⟨hg.bel,zy hg.c (hc _),?_,?_,?_,?_⟩
 ·intro _ _; rw [zp]; exact World.ownsRow_made W #[] 0 h.bel.size (by decide) rfl
 ·rw [gq (by decide),gq (by decide),zr _ _ (by decide)]; exact hg.m2
 ·intro hh4 aE
  rw [gq (by decide)] at hh4 aE
  obtain ⟨b,Q,N,h3,h4,h5⟩:=hg.m4 hh4 aE
  obtain ⟨b',e1,e2,_⟩:=h.m4 hh4 aE
  rw [Q] at e1
  simp only [Value.slice.injEq,Option.some.injEq,Addr.mk.injEq,and_true] at e1
  subst e1
  refine ⟨b,by rw [zr _ _ (by decide)]; exact Q,N,h3,h4,fun _ _ e=>?_⟩
  rw [zp] at e
  simp [Value.ownBlock] at e
  omega
 ·rw [gq (by decide),zr _ _ (by decide)]; exact hg.m5
theorem rz_2 (h:RZ C B0 qt t x f W) (hh0:x[0]? = some true) (aD:x[2]? = some false) (aE:x[5]? = some false) (hc:∀ v,C 2 v) {v':Value} (Z:ORow W' B0.heap.size v' qt) (hg:W.grownBy W' (f 0).ownBlock):RZ C B0 qt t (x.set 2 true) (upd f 2 v') W':=by
 refine ⟨h.bel.grown hg h.bel.size (fun k hk=>((h.m0 hh0 aD).lt k hk).1),zy h.c (hc _),?_,?_,?_,?_⟩
 ·intro _ e; rw [gqs aD] at e; cases e
 ·intro _ _; rw [zp]; exact Z
 ·intro hh4 _
  rw [gq (by decide)] at hh4
  obtain ⟨b,Q,N,h3,h4,h5⟩:=h.m4 hh4 aE
  refine ⟨b,by rw [zr _ _ (by decide)]; exact Q,yK N hg.size,h3,zu h4 hg N (fun e=>h5 hh0 aD e.symm),fun _ e=>?_⟩
  rw [gqs aD] at e; cases e
 ·intro e; rw [gq (by decide),aE] at e; cases e
theorem rz_4 (h:RZ C B0 qt t x f W) (hh4:x[4]? = some false) (aE:x[5]? = some false) (hc:∀ v,C 4 v):RZ C B0 qt t (x.set 4 true) (upd f 4 (.slice (some (yq W 0)) 1 1)) (W.alloc (Obj.cells t.vs.toArray 49)):=by
 have hg:=rz_grow h ((Below.refl W.heap.size W).alloc tg (Obj.cells t.vs.toArray 49))
 refine ⟨hg.bel,zy hg.c (hc _),?_,?_,?_,?_⟩
 ·rw [gq (by decide),gq (by decide),zr _ _ (by decide)]; exact hg.m0
 ·rw [gq (by decide),gq (by decide),zr _ _ (by decide)]; exact hg.m2
 ·intro _ _
  refine ⟨W.heap.size,zp _ _ _,by rw [zh]; omega,h.bel.size,zi W t.vs _,fun hh0 aD e=>?_⟩
  rw [gq (by decide)] at hh0 aD
  rw [zr _ _ (by decide)] at e
  have:=((h.m0 hh0 aD).lt _ e).2
  omega
 ·rw [gq (by decide),zr _ _ (by decide)]; exact hg.m5
theorem rz_5 (h:RZ C B0 qt t x f W) (aD:x[2]? = some true) (aE:x[5]? = some false) (hc:∀ v,C 5 v) {v':Value} (Z:ORow W' B0.heap.size v' (qt ++ [t])) (hg:W.grownBy W' (f 2).ownBlock):RZ C B0 qt t (x.set 5 true) (upd f 5 v') W':=by
 refine ⟨h.bel.grown hg h.bel.size (fun k hk=>((h.m2 aD aE).lt k hk).1),zy h.c (hc _),?_,?_,?_,?_⟩
 ·intro _ e; rw [gq (by decide)] at e; rw [e] at aD; cases aD
 ·intro _ e; rw [gqs aE] at e; cases e
 ·intro _ e; rw [gqs aE] at e; cases e
 ·intro _; rw [zp]; exact Z
end
def RZBA (ty:(Nat→Value)→Act) (C:Nat→Value→Prop) (B0:World) (qt:List Od) (t:Od) (v0:Value) (x:List Bool) (xn:Act) (W:World):Prop:=∃ f,xn = ty f∧RZ C B0 qt t x f W∧RA 5 v0 x f
theorem rz_start {C:Nat→Value→Prop} {B0:World} {qt:List Od} {t:Od} {f:Nat→Value} {k:Nat}:RZ C B0 qt t (List.replicate k false) f { B0 with drawn:=B0.drawn + 1 }:=by
 have jc:∀ j,(List.replicate k false)[j]? = some true→False:=fun j R=>by rw [yJ] at R; split at R <;> simp at R
 exact ⟨⟨rfl,rfl,rfl,Nat.le_refl _,fun _ _=>rfl⟩,fun j R=>(jc j R).elim,fun h=>(jc _ h).elim,fun h=>(jc _ h).elim,fun h=>(jc _ h).elim,fun h=>(jc _ h).elim⟩
def CZ (lv tv:Value):Nat→Value→Prop
 | 1,v=>v = lv
 | 3,v=>v = tv
 | _,_=>True
theorem acc_l {c:Cm} {next:Int} {ty:List Od × Int × List Ev} (hp:prcB c = true):accL c next ty = if 0 < ty.2.1∧aO c.t = true then ty.1 ++ [⟨next,c.s,tkS c.p,ty.2.1,c.l,c.g⟩] else ty.1:=by
 rw [accL]
 by_cases hr:aO c.t = true
 ·have ht:tkOk c.p = true:=by
   rw [prcB,if_neg (by intro e; rw [aO,e] at hr; simp at hr)] at hp; exact hp
  rw [tkS_ok ht]
 ·rw [if_neg (fun h=>hr h.2),if_neg (fun h=>hr h.2)]
theorem one_allE (l:List Ev):∀ u ∈ l.flatMap Ev.vs,u.oneCell' = true:=by
 intro u hu
 obtain ⟨e,_,h⟩:=List.mem_flatMap.1 hu
 exact one_ev e u h
theorem l04Step_r (next:Int) (vb:Value) (l:List Od) (c:Cm) (w:World) (qY:refR next l c ≠ 0) (hr:RdR Od.vs 6 w vb l) (hs:SlOk vb) (hg:GoodL l) (uJ:∀ x ∈ l,x.side = 1 ∨ x.side = 2) (h0:0 ≤ next) (Q:next ≤ 1000000) (ht:c.g.size ≤ maxLen) :
  Calls Tryz.prog 44 #[.agg #[H next,vb],cmV c] w fun e w'=>∃ vq vg,e = ym (.tuple #[.agg #[H (stN next l c),vq],vg])∧ORow w' w.heap.size vq (stL next l c)∧ERow w' w.heap.size vg (stE next l c)∧yn w w':=by
 obtain ⟨i0,uG,uF,uI,uT⟩:=info_parts Tryz.infoOrder
 obtain ⟨j0,jg,pT,hy1,hy2⟩:=info_parts infoEv
 have HR:=Y hr
 have vP:=Y hs
 have HG:=Y hg
 have qn:=Y ht
 have vN:=hg.len
 have uH:Hid (0 ≤ next∧next ≤ 1000000):=⟨h0,Q⟩
 have uR:=Y (fun (W:World) hW=>dH next vb l c W hW hs hg uJ ht)
 rw [ref_eq] at uR
 have HK:=Y (@cY next l c)
 have HQ:=Y (@cC next l c)
 have qM:=Y (@ref_id next l c)
 have jC:=Y (@ref_newS next l c)
 have uD:=Y qY
 clear qY
 have vk:Hid (stN next l c = if refR next l c = 0∧c.k = 1 then next + 1 else next):=rfl
 have uE:=Y (stL.eq_1 next l c)
 have vj:=Y (stE.eq_1 next l c)
 have oD:=Y (fun W=>dG c W ht)
 have qN:=Y (fun (a:Option Addr) (n A:Nat) (W:World)=>dm next a n A c W)
 have kh:=Y (fun (v:Value) (W:World) hr hs hp jp jq=>dl v l c next W hr hg hs hp jp jq)
 obtain ⟨a,A,rfl,vE,hc⟩:=hr
 obtain ⟨kk,s,F,li,L,ii,pr,O⟩:=c
 generalize stN next l ⟨kk,s,F,li,L,ii,pr,O⟩ = sN at vk ⊢
 generalize stL next l ⟨kk,s,F,li,L,ii,pr,O⟩ = sL at uE ⊢
 generalize stE next l ⟨kk,s,F,li,L,ii,pr,O⟩ = sE at vj ⊢
 generalize refR next l ⟨kk,s,F,li,L,ii,pr,O⟩ = rr at uR vk uE vj HK HQ qM jC uD
 unfold cmV at uR qN ⊢
 simp only at uR vk uE vj HK HQ qM jC oD qN kh qn uD ⊢
 have HB:=Y (box3 w [H next,.slice a l.length A] (yx kk s F li L ii pr O) [H 0,.slice none 0 0] 28 43 28)
 clear hs hg uJ h0 Q ht hc vE
 go_enter Tryz.func44,Tryz.ntmps44
 refine eI fun hR xv=>?_
 go_wp2_with fail
 refine U xv _ _ ?_
 clear xv
 change Hid ((((w.alloc (E #[H next,.slice a l.length A] 28)).alloc (E (yx kk s F li L ii pr O).toArray 43)).alloc (E #[H 0,.slice none 0 0] 28)).heap.size = w.heap.size + 3∧World.rangeAt (((w.alloc (E #[H next,.slice a l.length A] 28)).alloc (E (yx kk s F li L ii pr O).toArray 43)).alloc (E #[H 0,.slice none 0 0] 28)) w.heap.size 0 [H next,.slice a l.length A]∧World.rangeAt (((w.alloc (E #[H next,.slice a l.length A] 28)).alloc (E (yx kk s F li L ii pr O).toArray 43)).alloc (E #[H 0,.slice none 0 0] 28)) (w.heap.size + 1) 0 (yx kk s F li L ii pr O)∧World.rangeAt (((w.alloc (E #[H next,.slice a l.length A] 28)).alloc (E (yx kk s F li L ii pr O).toArray 43)).alloc (E #[H 0,.slice none 0 0] 28)) (w.heap.size + 1 + 1) 0 [H 0,.slice none 0 0]∧World.there (((w.alloc (E #[H next,.slice a l.length A] 28)).alloc (E (yx kk s F li L ii pr O).toArray 43)).alloc (E #[H 0,.slice none 0 0] 28)) (w.heap.size + 1 + 1) 0 2∧yn w (((w.alloc (E #[H next,.slice a l.length A] 28)).alloc (E (yx kk s F li L ii pr O).toArray 43)).alloc (E #[H 0,.slice none 0 0] 28))) at HB
 generalize (((w.alloc (E #[H next,.slice a l.length A] 28)).alloc (E (yx kk s F li L ii pr O).toArray 43)).alloc (E #[H 0,.slice none 0 0] 28)) = hb at HB ⊢
 have xM:Hid (∀ W:World,yn hb W→W.cell? (yq w 0) = some (H next)∧W.cell? (yq w 1) = some (.slice a l.length A)∧W.cell? (J (w.heap.size + 1) 0) = some (H kk)∧W.cell? (J (w.heap.size + 1) 1) = some (H s)∧W.cell? (J (w.heap.size + 1) 2) = some (H F)∧W.cell? (J (w.heap.size + 1) 3) = some (H li)∧W.cell? (J (w.heap.size + 1) 4) = some (H L)∧W.cell? (J (w.heap.size + 1) 5) = some (H ii)∧W.cell? (J (w.heap.size + 1) 6) = some (yj pr)∧W.cell? (J (w.heap.size + 1) 7) = some (yk O)):=fun W hW =>
  have p:=zb (U HB).2.1 hW (by have:=(U HB).1; omega)
  have q:=zb (U HB).2.2.1 hW (by have:=(U HB).1; omega)
  ⟨p 0 _ rfl,p 1 _ rfl,q 0 _ rfl,q 1 _ rfl,q 2 _ rfl,q 3 _ rfl,q 4 _ rfl,q 5 _ rfl,q 6 _ rfl,q 7 _ rfl⟩
 have vS:w.heap.size + 1 + 1 < hb.heap.size:=by have:=(U HB).1; omega
 refine wp_seq_k fun hR hK=>?_
 have HT:∀ (a6:Option Addr) (c6:Nat) (w1:World),ORow w1 hb.heap.size (.slice a6 l.length c6) l→yn hb w1→hR { tmps:=#[.agg #[H next,.slice a l.length A],.agg (yx kk s F li L ii pr O).toArray,yp w 0,I (w.heap.size + 1) 0,I (w.heap.size + 1 + 1) 0,.slice none 0 0,.slice a6 l.length c6,M,M,M,M,M,M,M,M,M,M,M,.slice (some (yq hb 0)) 0 0,yp w 1,.slice a l.length A,.slice a6 l.length c6,M,M,M,M,M,M,M,M,M,M,M,M,M,M,M,M,M,M,M,M,M,M,M,M,M,M,M,M,M,M,M,M,M,M,M,M,M,M,M,M,M,M,M,M,M,M,M,M,M,M,M,M,M,M,M,M,M,M,M,M,M,M,M,M,M,M,M,M,M,M,M,M,M,M,M,M,M,M,M,M,M,M,M,M,M,M,M,M,M,M,M,M,M,M,M,M,M,M,M,M,M,M,M,M,M,M,M,M,M,M,M,M,M,M,M,M,M,M,M,M,M,M,M,M,M,M,M,M,M,M,M,M,M,M,M,M,M,M,M,M,M,M,M,M,M,M,M,M,M],defers:=[] } w1:=by
  intro a6 c6 w1 vZ xV
  refine hK _ _ ?_
  clear hK
  have vn:=Y vZ
  have xU:=Y xV
  clear vZ xV
  obtain ⟨z0,z1,y0,y1,y2,y3,y4,y5,y6,y7⟩:=U xM w1 (U xU)
  refine eI fun hR xv=>?_
  go_wp2_with fail
  refine (U uR w1 (zn (U HR) ((U HB).2.2.2.2.2.trans ((U xU).mono (U HB).2.2.2.2.2.size)) tg)).mono ?_
  rintro e w2 ⟨rfl,xX⟩
  have vU:=Y (zm (U vn) xX)
  have xE:=Y (eH (U xU) xX)
  clear z0 z1 y0 y1 y2 y3 y4 y5 y6 y7 xX vn
  obtain ⟨z0,z1,y0,y1,y2,y3,y4,y5,y6,y7⟩:=U xM w2 (U xE)
  have vV:=Y (zg (U HB).2.2.2.2.1 (U xE) vS)
  have oI:w.heap.size + 1 + 1 < w2.heap.size:=yK vS (U xE).size
  have xK:=Y ((U HB).2.2.2.2.2.trans ((U xE).mono (U HB).2.2.2.2.2.size))
  have hXw:w.heap.size ≤ hb.heap.size:=by omega
  have hX2:hb.heap.size ≤ w2.heap.size:=(U xE).size
  have oq:=hX2
  by_cases vi:rr = 0
  ·subst vi
   have pK:=U HK rfl
   rcases pK with rfl | rfl | rfl | rfl
   ·exact absurd rfl (U uD)
   ·exact absurd rfl (U uD)
   ·exact absurd rfl (U uD)
   ·exact absurd rfl (U uD)
  ·have oa:=vi
   have qK:(rr == 0) = false:=by rw [xe]; exact vi
   have uK:Hid (sN = next∧sL = l∧sE = [⟨2,⟨kk,s,F,li,L,ii,pr,cutB O⟩,0,0,0,0,rr⟩]):=⟨by rw [U vk,if_neg (fun h=>vi h.1)],by rw [U uE,if_neg vi],by rw [U vj,if_neg vi]⟩
   clear vi oa vk uE vj HQ qM HK jC qN kh uD
   have HZ0:=Y z0
   have HZ1:=Y z1
   have HY0:=Y y0
   have HY1:=Y y1
   have HY2:=Y y2
   have HY3:=Y y3
   have HY4:=Y y4
   have oo:=Y y5
   have HY6:=Y y6
   have HY7:=Y y7
   have hRS:w.heap.size + 1 + 1 < hb.heap.size:=vS
   go_wp2_with fail
   clear z0 z1 y0 y1 y2 y3 y4 y5 y6 y7
   refine zj (RXA (fun f=>{ tmps:=#[.agg #[H next,.slice a l.length A],.agg (yx kk s F li L ii pr O).toArray,yp w 0,I (w.heap.size + 1) 0,I (w.heap.size + 1 + 1) 0,f 10,.slice a6 l.length c6,H rr,M,M,M,M,M,M,M,M,M,M,.slice (some (yq hb 0)) 0 0,yp w 1,.slice a l.length A,.slice a6 l.length c6,.agg #[H next,.slice a l.length A],.agg (yx kk s F li L ii pr O).toArray,H rr,H rr,.bool (rr != 0),f 0,f 1,f 2,f 3,f 4,f 5,f 6,f 7,f 8,M,M,M,M,M,M,M,M,M,M,M,M,M,M,M,M,M,M,M,M,M,M,M,M,M,M,M,M,M,M,M,M,M,M,M,M,M,M,M,M,M,M,M,M,M,M,M,M,M,M,M,M,M,M,M,M,M,M,M,M,M,M,M,M,M,M,M,M,M,M,M,M,M,M,M,M,M,M,M,M,M,M,M,M,M,M,M,M,M,M,M,M,M,M,M,M,M,M,M,M,M,M,M,M,M,M,M,M,M,M,M,M,M,M,M,M,M,M,M,M,M,M,M,M,M,M,M,M,M,M,M,M,M,M,M],defers:=[] }) (CX [yp w 0,H next,.slice a6 l.length c6,.agg #[H next,.slice a6 l.length c6],.agg (yx kk s F li L ii pr O).toArray,.agg (yx kk s F li L ii pr (cutB O)).toArray,H rr,.agg (yv 2 kk s F li L ii pr (cutB O) 0 0 0 0 rr).toArray,M,M,M] [(8,2),(9,9),(10,2)] (hb.heap.size) (next) (l) ([⟨2,⟨kk,s,F,li,L,ii,pr,cutB O⟩,0,0,0,0,rr⟩])) (w.heap.size + 1 + 1) 2 9 (fun f=>aggL (f 3)) w2) (by kernel_rfl) ?_ ?_ ?_
   ·exact ⟨fun j=>if j = 10 then .slice none 0 0 else M,rfl,rx_start oI (U vV)⟩
   rotate_left
   ·rintro x xn V i op ⟨f,rfl,K⟩ xp hx Z xz D
    have xA:=Y K
    have xo:∀ (p:Addr) u,w2.cell? p = some u→p.block ≠ w.heap.size + 1 + 1→V.cell? p = some u:=fun p u hu hp=>kb_cell K.k hu hp
    match i,Z with
    | 0,Z =>
     obtain rfl:=ya Z
     clear D K xo xp
     rw [if_pos (by rfl)];unfold Oper.wp;go_simp
     exact ⟨upd f 0 (yp w 0),by simp [upd],aP (U xA) 0 _ (by decide) (fun _=>rfl) (zX rfl rfl)⟩
    | 1,Z =>
     obtain rfl:=ya Z
     have g0:f 0 = yp w 0:=zT (K.c 0 (ye D 0 rfl)) rfl rfl
     have z0:=xo (yq w 0) _ (U HZ0) (show w.heap.size ≠ w.heap.size + 1 + 1 by omega)
     clear D K xo xp
     rw [if_pos (by rfl)];unfold Oper.wp;go_simp
     exact ⟨upd f 1 (H next),by simp [upd,g0],aP (U xA) 1 _ (by decide) (fun _=>rfl) (zX rfl rfl)⟩
    | 2,Z =>
     obtain rfl:=ya Z
     clear D K xo xp
     rw [if_pos (by rfl)];unfold Oper.wp;go_simp
     exact ⟨upd f 2 (.slice a6 l.length c6),by simp [upd],aP (U xA) 2 _ (by decide) (fun _=>rfl) (zX rfl rfl)⟩
    | 3,Z =>
     obtain rfl:=ya Z
     have g1:f 1 = H next:=zT (K.c 1 (ye D 1 rfl)) rfl rfl
     have g2:f 2 = .slice a6 l.length c6:=zT (K.c 2 (ye D 2 rfl)) rfl rfl
     have hcl0:=xp
     clear D K xo xp
     rw [if_pos (by rfl)];unfold Oper.wp;go_simp
     exact ⟨upd f 3 (.agg #[H next,.slice a6 l.length c6]),by simp [upd,g1,g2],aP (U xA) 3 _ (by decide) (fun h=>by rw [zz hcl0 12 3 9 (by kernel_rfl) hx (by simp) xz] at h; cases h) (zX rfl rfl)⟩
    | 4,Z =>
     obtain rfl:=ya Z
     have y0:=xo (J (w.heap.size + 1) 0) _ (U HY0) (show w.heap.size + 1 ≠ w.heap.size + 1 + 1 by omega)
     have y1:=xo (J (w.heap.size + 1) 1) _ (U HY1) (show w.heap.size + 1 ≠ w.heap.size + 1 + 1 by omega)
     have y2:=xo (J (w.heap.size + 1) 2) _ (U HY2) (show w.heap.size + 1 ≠ w.heap.size + 1 + 1 by omega)
     have y3:=xo (J (w.heap.size + 1) 3) _ (U HY3) (show w.heap.size + 1 ≠ w.heap.size + 1 + 1 by omega)
     have y4:=xo (J (w.heap.size + 1) 4) _ (U HY4) (show w.heap.size + 1 ≠ w.heap.size + 1 + 1 by omega)
     have y5:=xo (J (w.heap.size + 1) 5) _ (U oo) (show w.heap.size + 1 ≠ w.heap.size + 1 + 1 by omega)
     have y6:=xo (J (w.heap.size + 1) 6) _ (U HY6) (show w.heap.size + 1 ≠ w.heap.size + 1 + 1 by omega)
     have y7:=xo (J (w.heap.size + 1) 7) _ (U HY7) (show w.heap.size + 1 ≠ w.heap.size + 1 + 1 by omega)
     clear D K xo xp
     rw [if_pos (by rfl)];unfold Oper.wp;go_simp
     exact ⟨upd f 4 (.agg (yx kk s F li L ii pr O).toArray),by simp [upd],aP (U xA) 4 _ (by decide) (fun _=>rfl) (zX rfl rfl)⟩
    | 5,Z =>
     obtain rfl:=ya Z
     have g4:f 4 = .agg (yx kk s F li L ii pr O).toArray:=zT (K.c 4 (ye D 4 rfl)) rfl rfl
     clear D K xp xo
     rw [if_pos (by rfl)];unfold Oper.wp;go_simp
     refine (U oD V).mono ?_
     rintro e w4 ⟨rfl,xD⟩
     exact ⟨upd f 5 (.agg (yx kk s F li L ii pr (cutB O)).toArray),by simp [upd,g4],aP (rx_grow (cS hRS) (U xA) xD) 5 _ (by decide) (fun _=>rfl) (zX rfl rfl)⟩
    | 6,Z =>
     obtain rfl:=ya Z
     clear D K xo xp
     rw [if_pos (by rfl)];unfold Oper.wp;go_simp
     exact ⟨upd f 6 (H rr),by simp [upd],aP (U xA) 6 _ (by decide) (fun _=>rfl) (zX rfl rfl)⟩
    | 7,Z =>
     obtain rfl:=ya Z
     have g5:f 5 = .agg (yx kk s F li L ii pr (cutB O)).toArray:=zT (K.c 5 (ye D 5 rfl)) rfl rfl
     have g6:f 6 = H rr:=zT (K.c 6 (ye D 6 rfl)) rfl rfl
     clear D K xo xp
     rw [if_pos (by rfl)];unfold Oper.wp;go_simp
     exact ⟨upd f 7 (.agg (yv 2 kk s F li L ii pr (cutB O) 0 0 0 0 rr).toArray),by simp [upd,g5,g6],aP (U xA) 7 _ (by decide) (fun _=>rfl) (zX rfl rfl)⟩
    | 8,Z =>
     obtain rfl:=ya Z
     have g7:f 7 = .agg (yv 2 kk s F li L ii pr (cutB O) 0 0 0 0 rr).toArray:=zT (K.c 7 (ye D 7 rfl)) rfl rfl
     have qX:=yO oq K.k.size
     clear D K xo xp
     rw [if_pos (by rfl)];unfold Oper.wp;go_simp
     exact ⟨upd f 8 (.slice (some (yq V 0)) 1 1),by simp [upd,g7],aP (rx_grow (cS hRS) (U xA) (eE _ _)) 8 _ (by decide) (fun _=>rfl) (bR (d:=2) rfl ⟨eRow_one V ⟨2,⟨kk,s,F,li,L,ii,pr,cutB O⟩,0,0,0,0,rr⟩ qX,_,_,rfl⟩)⟩
    | 9,Z =>
     obtain rfl:=ya Z
     have g0:f 3 = .agg #[H next,.slice a6 l.length c6]:=zT (K.c 3 (ye D 3 rfl)) rfl rfl
     obtain ⟨y0,z0,q0⟩:=ze K.t (j:=0) (by omega)
     obtain ⟨y1,z1,q1⟩:=ze K.t (j:=1) (by omega)
     clear D K xo xp
     rw [if_pos (by rfl)];unfold Oper.wp;go_simp
     have qr:=rx_store (cS hRS) (U xA) xz (by simp [g0,aggL]) (fun _ _=>bR (d:=9) rfl trivial)
     simp only [g0,aggL] at qr
     exact ⟨f,by simp [g0],qr⟩
    | 10,Z =>
     obtain rfl:=ya Z
     have h8:=cx_sp (d:=2) (K.c 8 (ye D 8 rfl)) rfl
     obtain ⟨a8,c8,g8⟩:=h8.2
     rw [g8] at h8
     have H8:=Y h8
     clear h8
     clear D K xo xp
     rw [if_pos (by rfl)];unfold Oper.wp;go_simp
     exact ⟨upd f 10 (f 8),by simp [upd,g8],aP (U xA) 10 _ (by decide) (fun _=>rfl) (bR (d:=2) rfl (by rw [g8]; exact U H8))⟩
    | n + 11,Z=>simp at Z
   ·rintro x xn V ⟨f,rfl,K⟩ hx xN
    have xq:=zR xN hx (by kernel_rfl)
    obtain ⟨hE8,a8,c8,e8⟩:=cx_sp (d:=2) (K.c 10 (xq 10 (by simp))) rfl
    have vO:=K.r (xq 9 (by simp))
    obtain ⟨v4,hv4,aH⟩:∃ v4,v4 = .slice a6 l.length c6∧ORow V hb.heap.size v4 l:=⟨_,rfl,kb_row (U vU) K.k hRS⟩
    have g3:f 3 = .agg #[H next,.slice a6 l.length c6]:=zT (K.c 3 (xq 3 (by simp))) rfl rfl
    simp only [g3,aggL] at vO
    rw [← hv4] at vO
    clear g3
    have HO:Hid (ORow V w.heap.size v4 _∧ERow V w.heap.size (.slice a8 _ c8) _):=⟨zI aH (by omega),zI (e8 ▸ hE8) (by omega)⟩
    have xw:Hid (yn w V):=⟨K.k.os.trans (U xK).os,K.k.tape.trans (U xK).tape,K.k.output.trans (U xK).output,yO (U xK).size K.k.size,fun k hk=>(K.k.block k (yK hk (U xK).size) (by omega)).trans ((U xK).block k hk)⟩
    have d0:V.cell? (J (w.heap.size + 1 + 1) 0) = some (H next):=vO 0 _ rfl
    have d1:V.cell? (J (w.heap.size + 1 + 1) 1) = some v4:=vO 1 _ rfl
    simp only [e8]
    generalize f 0 = w0,f 1 = w1,f 2 = w2,f 3 = w3,f 4 = w4,f 5 = w5,f 6 = w6,f 7 = w7,f 8 = w8
    clear K xq xN hx vO hE8 aH
    go_wp2_with fail
    try simp only [Exit.inBlock,Exit.then]
    refine bodyPost_ret (by simp [results,Tryz.results44,go_sem,d0,d1]; try rfl) rfl ?_
    obtain ⟨rfl,rfl,rfl⟩:=U uK
    exact ⟨_,_,rfl,(U HO).1,(U HO).2,U xw⟩
 rcases U vP with hs | ⟨ad,nn,cc,hs⟩
 ·simp only [Value.slice.injEq] at hs
  obtain ⟨rfl,pL,rfl⟩:=hs
  obtain rfl:=List.length_eq_zero_iff.1 pL
  obtain ⟨z0,z1,y0,y1,y2,y3,y4,y5,y6,y7⟩:=U xM hb (Below.refl _ _)
  have vI:=Y (World.ownsRow_made (base:=hb.heap.size) (e:=49) (size:=6) hb #[] 0 tg (by decide) rfl)
  have hzX:World.cell? (hb.alloc (E #[] 49)) (yq w 1) = some (.slice none 0 0):=(U xM _ (eE _ _)).2.1
  have kU:=Y HT
  clear HT hK
  go_wp2_with (at_builtin; go_must (refine wpList_append_own_none rfl _ _ 26 rfl hb.heap.size 49 i0 6 Tryz.underlying26 uG (.slice (some (yq hb 0)) 0 0) 0 [] rfl (U vI) rfl ?_))
  exact U kU _ _ _ (U vI) (eE _ _)
 ·simp only [Value.slice.injEq] at hs
  obtain ⟨rfl,rfl,rfl⟩:=hs
  obtain ⟨z0,z1,y0,y1,y2,y3,y4,y5,y6,y7⟩:=U xM hb (Below.refl _ _)
  have uQ:Hid (yn hb (hb.alloc (E #[] 49))):=eE _ _
  have vI:=Y (World.ownsRow_made (base:=hb.heap.size) (e:=49) (size:=6) hb #[] 0 tg (by decide) rfl)
  have hzX:World.cell? (hb.alloc (E #[] 49)) (yq w 1) = some (.slice (some ad) l.length A):=(U xM _ (U uQ)).2.1
  have vh:Hid (∀ j u,(l.flatMap Od.vs)[j]? = some u→World.cell? (hb.alloc (E #[] 49)) (ad.add j) = some u):=rd_src (zn (U HR) ((U HB).2.2.2.2.2.trans ((U uQ).mono (U HB).2.2.2.2.2.size)) tg)
  have kU:=Y HT
  clear HT hK
  go_wp2_with (at_builtin; go_must (refine wpList_append_own _ rfl _ _ 26 rfl hb.heap.size 49 i0 _ 6 56 Tryz.underlying26 uG uF uI uT rfl (by decide) (.slice (some (yq hb 0)) 0 0) 0 [] rfl (U vI) ad l.length A (l.flatMap Od.vs) rfl (by rw [zK Od.len]) (U vh) (bB l) (by unfold maxLen; omega) (by omega) (U uQ).size ?_); intro v1 w1 vf vT _; have vn:=Y vf; have kB:=Y vT; clear vf vT)
  have ay:Hid (ORow w1 hb.heap.size v1 l):=by
   show w1.ownsRow _ _ _ _ l.length _
   simpa using U vn
  obtain ⟨a6,c6,hv⟩:=zU (U ay)
  subst hv
  exact U kU _ _ _ (U ay) ((U uQ).grown (U kB) (U uQ).size (fun k hk=>((U vI).lt k hk).1))
end Go.Proofs.YtbakanofkghmiaaGreat
