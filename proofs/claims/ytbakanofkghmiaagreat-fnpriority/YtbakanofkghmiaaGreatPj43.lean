/-
  Results laid out while their values come up, in whatever order: a list of orders and a list of events. No function walked.
-/
import Derived.Test.YtbakanofkghmiaaGreatPj42
set_option linter.unusedVariables false
set_option maxHeartbeats 6400000
set_option maxRecDepth 100000
namespace Go.Proofs.YtbakanofkghmiaaGreat
open Go.RowKit
def aggL:Value→List Value
 | .agg xs=>xs.toList
 | _=>[]
def DS (S:Nat) (next:Int) (hj:List Od) (eF:List Ev):Nat→World→Value→Prop
 | 0,W,v=>ORow W S v hj∧∃ a c,v = .slice a hj.length c
 | 1,W,v=>∃ v4,v = .agg #[H next,v4]∧(∃ a c,v4 = .slice a hj.length c)∧ORow W S v4 hj
 | 2,W,v=>ERow W S v eF∧∃ a c,v = .slice a eF.length c
 | 3,W,v=>∃ b,v = .slice (some (J b 0)) 1 1∧b < W.heap.size∧S ≤ b∧W.rangeAt b 0 (eF.flatMap Ev.vs)
 | _,_,_=>True
def CX (vs:List Value) (ks:List (Nat × Nat)) (S:Nat) (next:Int) (hj:List Od) (eF:List Ev) (W:World) (j:Nat) (v:Value):Prop :=
 match ks.lookup j with
 | some d=>DS S next hj eF d W v
 | none=>∀ u,vs[j]? = some u→v = u
section
variable {vs:List Value} {ks:List (Nat × Nat)} {S R:Nat} {next:Int} {hj:List Od} {eF:List Ev} {W W':World} {j d:Nat} {v u:Value}
theorem zV (h:CX vs ks S next hj eF W j v) (hk:ks.lookup j = none) (hu:vs[j]? = some u):v = u:=by
 rw [CX,hk] at h; exact h u hu
theorem cx_sp (h:CX vs ks S next hj eF W j v) (hk:ks.lookup j = some d):DS S next hj eF d W v:=by
 rw [CX,hk] at h; exact h
theorem zZ (hk:ks.lookup j = none) (hu:vs[j]? = some v):CX vs ks S next hj eF W j v:=by
 rw [CX,hk]; intro u h; rw [hu] at h; cases h; rfl
theorem bL (hk:ks.lookup j = some d) (hd:DS S next hj eF d W v):CX vs ks S next hj eF W j v:=by
 rw [CX,hk]; exact hd
theorem ds_mono (A:R < S) (hb:KB R W W') (h:DS S next hj eF d W v):DS S next hj eF d W' v:=by
 match d with
 | 0=>exact ⟨cw h.1 hb A,h.2⟩
 | 1=>obtain ⟨v4,z,K,h3⟩:=h; exact ⟨v4,z,K,cw h3 hb A⟩
 | 2=>exact ⟨cw h.1 hb A,h.2⟩
 | 3=>obtain ⟨b,z,K,h3,h4⟩:=h; exact ⟨b,z,yG K hb.size,h3,kb_range hb h4 (by omega)⟩
 | d + 4=>trivial
theorem cS (A:R < S):∀ W W' j v,KB R W W'→CX vs ks S next hj eF W j v→CX vs ks S next hj eF W' j v:=by
 intro W W' j v hb h
 unfold CX at h ⊢
 split at h
 ·exact ds_mono A hb h
 ·exact h
theorem cx_monoB (hS:0 < S):∀ W W' j v,yl W W'→CX vs ks S next hj eF W j v→CX vs ks S next hj eF W' j v:=by
 intro W W' j v hb h
 unfold CX at h ⊢
 split at h
 ·exact ds_mono hS (kb_below hb) h
 ·exact h
end
theorem rowE_made {B e sz n:Nat} (W:World) (xs:List Value) (hB:B ≤ W.heap.size) (hn:n ≤ maxLen) (hl:xs.length = n * sz):(W.alloc (Obj.cells xs.toArray e)).ownsRow B e sz (.slice (some (yn W 0)) n n) n xs :=
 ⟨hl,.inr ⟨W.heap.size,n,xs.toArray,rfl,hB,heap_alloc_new W _,Nat.le_refl _,hn,by simpa using hl,by simp [← hl]⟩⟩
theorem eRow_one {B:Nat} (W:World) (e:Ev) (hB:B ≤ W.heap.size):ERow (W.alloc (Obj.cells e.vs.toArray 46)) B (.slice (some (yn W 0)) 1 1) [e]:=by
 have h:=rowE_made (B:=B) (e:=46) (sz:=14) (n:=1) W e.vs hB (by decide) (by rfl)
 have e1:[e].flatMap Ev.vs = e.vs:=by simp
 show World.ownsRow _ _ _ _ _ [e].length ([e].flatMap Ev.vs)
 rw [e1]
 exact h
theorem ref_newS {next:Int} {l:List Od} {c:Cm} (h:refR next l c = 0) (hk:c.k = 1):(c.s = 1 ∨ c.s = 2)∧prcB c = true∧tagB c.g = true∧c.i = 0:=by
 have h0:=h
 have h:=ref_new h hk
 rw [newR] at h
 split at h
 ·cases h
 rename_i z
 split at h
 ·cases h
 split at h
 ·cases h
 split at h
 ·cases h
 rename_i h4
 split at h
 ·cases h
 split at h
 ·cases h
 rename_i h6
 refine ⟨side_of (by simpa using z),by simpa using h4,by simpa using h6,?_⟩
 rw [← ref_eq,refS] at h0
 split at h0
 ·cases h0
 split at h0
 ·cases h0
 rename_i hf
 simp [aE,hk] at hf
 exact hf
def RA (n:Nat) (v0:Value) (x:List Bool) (f:Nat→Value):Prop:=(x[n + 1]? = some true→f (n + 1) = f n)∧(x[n + 1]? = some false→f (n + 1) = v0)
def RYBA (xh:(Nat→Value)→Act) (C:World→Nat→Value→Prop) (n:Nat) (v0:Value) (ya:(Nat→Value)→World→Prop) (base:World) (x:List Bool) (hR:Act) (W:World):Prop:=∃ f,hR = xh f∧RY C n ya base x f W∧RA n v0 x f
theorem ryb_start {f:Nat→Value} {n k:Nat} {v0:Value} (h:f (n + 1) = v0):RA n v0 (List.replicate k false) f:=⟨fun h=>by rw [yF] at h; split at h <;> simp at h,fun _=>h⟩
theorem aG {x:List Bool} {f:Nat→Value} {n i:Nat} {v0:Value} (v:Value) (h:RA n v0 x f) (hi:i ≠ n) (qk:i ≠ n + 1):RA n v0 (x.set i true) (upd f i v):=by
 rw [RA,gq qk,zr _ _ (fun e=>qk e.symm),zr _ _ (fun e=>hi e.symm)]; exact h
theorem ryb_write {x:List Bool} {f:Nat→Value} {n:Nat} {v0:Value} (v:Value) (h:RA n v0 x f) (hx:x[n + 1]? = some false):RA n v0 (x.set n true) (upd f n v):=by
 rw [RA,gq (by omega),zr _ _ (show n + 1 ≠ n by omega)]
 exact ⟨fun e=>(by rw [hx] at e; cases e),h.2⟩
theorem ryb_lay {x:List Bool} {f:Nat→Value} {n:Nat} {v0:Value} (hx:x[n + 1]? = some false):RA n v0 (x.set (n + 1) true) (upd f (n + 1) (f n)):=by
 rw [RA,gqs hx]
 exact ⟨fun _=>by rw [zp,zr _ _ (by omega)],fun e=>by cases e⟩
theorem row_src {B e sz n g c:Nat} {xs:List Value} {W:World} (h:W.ownsRow B e sz (.slice (some (J g 0)) n c) n xs):∀ j u,xs[j]? = some u→W.cell? (((J g 0):Addr).add j) = some u:=by
 intro j u hu
 rcases h.2 with ⟨z,_⟩ | ⟨g',F,xp,z,_,kn,_,_,oS,hx⟩
 ·cases z
 ·simp only [Value.slice.injEq,Option.some.injEq,Addr.mk.injEq,and_true,true_and] at z
  obtain ⟨rfl,-⟩:=z
  rw [Addr.add_mid,cell_of_row W g (0 + j) xp _ (0,0) kn]
  rw [← hx] at hu
  rw [List.getElem?_take] at hu
  split at hu
  ·simpa using hu
  ·cases hu
theorem take_nd {l:List Od} {j:Nat} {o:Od} (h:l[j]? = some o) (hd:o.life ≠ 1):(l.take (j + 1)).filter ndy = (l.take j).filter ndy ++ [o]:=by
 rw [List.take_add_one,h,List.filter_append]
 simp [ndy,hd]
theorem take_ny {l:List Od} {j:Nat} {o:Od} (h:l[j]? = some o) (hd:o.life = 1):(l.take (j + 1)).filter ndy = (l.take j).filter ndy:=by
 rw [List.take_add_one,h,List.filter_append]
 simp [ndy,hd]
theorem dysF_len:∀ (l:List Od) (k:Nat),(dysF l k).length = (l.filter dyB).length
 | [],_=>rfl
 | o :: r,k=>by
  rw [dysF,List.filter_cons]
  by_cases h:o.life = 1
  ·rw [if_pos h,if_pos (by simp [dyB,h])]; simp [dysF_len r]
  ·rw [if_neg h,if_neg (by simp [dyB,h])]; exact dysF_len r _
theorem cutB_tag {g:ByteArray} (h:tagB g = true):cutB g = g:=by
 simp only [tagB,xb,xc] at h
 rw [cutB,if_neg (by omega)]
structure RZ (C:Nat→Value→Prop) (B0:World) (hj:List Od) (t:Od) (x:List Bool) (f:Nat→Value) (W:World):Prop where
 bel:Below B0.heap.size B0 W
 c:∀ j,x[j]? = some true→C j (f j)
 m0:x[0]? = some true→x[2]? = some false→ORow W B0.heap.size (f 0) []
 m2:x[2]? = some true→x[5]? = some false→ORow W B0.heap.size (f 2) hj
 m4:x[4]? = some true→x[5]? = some false→∃ b,f 4 = .slice (some ⟨b,0,none⟩) 1 1∧b < W.heap.size∧B0.heap.size ≤ b∧W.rangeAt b 0 t.vs∧(x[0]? = some true→x[2]? = some false→(f 0).ownBlock ≠ some b)
 m5:x[5]? = some true→ORow W B0.heap.size (f 5) (hj ++ [t])
section
variable {C:Nat→Value→Prop} {B0 W W':World} {hj:List Od} {t:Od} {x:List Bool} {f:Nat→Value}
theorem rz_grow (h:RZ C B0 hj t x f W) (hb:yl W W'):RZ C B0 hj t x f W' :=
 ⟨h.bel.trans (hb.mono h.bel.size),h.c,fun a b=>zj (h.m0 a b) hb,fun a b=>zj (h.m2 a b) hb,fun a b=>by
  obtain ⟨b',z,K,h3,h4,h5⟩:=h.m4 a b
  exact ⟨b',z,yG K hb.size,h3,zb h4 hb K,h5⟩,fun a=>zj (h.m5 a) hb⟩
theorem rz_val (h:RZ C B0 hj t x f W) (i:Nat) (v:Value) (hv:C i v) (hh0:i ≠ 0) (ai:i ≠ 2) (hh4:i ≠ 4) (ak:i ≠ 5):RZ C B0 hj t (x.set i true) (upd f i v) W:=by
 refine ⟨h.bel,zz h.c hv,?_,?_,?_,?_⟩ <;> simp only [gq hh0,gq ai,gq hh4,gq ak,zr f v hh0.symm,zr f v ai.symm,zr f v hh4.symm,zr f v ak.symm]
 ·exact h.m0
 ·exact h.m2
 ·exact h.m4
 ·exact h.m5
theorem rz_0 (h:RZ C B0 hj t x f W) (hh0:x[0]? = some false) (hc:∀ v,C 0 v):RZ C B0 hj t (x.set 0 true) (upd f 0 (.slice (some (yn W 0)) 0 0)) (W.alloc (E #[] 49)):=by
 have hg:=rz_grow h ((Below.refl W.heap.size W).alloc tg (E #[] 49))
 refine ⟨hg.bel,zz hg.c (hc _),?_,?_,?_,?_⟩
 ·intro _ _; rw [zp]; exact World.ownsRow_made W #[] 0 h.bel.size (by decide) rfl
 ·rw [gq (by decide),gq (by decide),zr _ _ (by decide)]; exact hg.m2
 ·intro hh4 ak
  rw [gq (by decide)] at hh4 ak
  obtain ⟨b,z,K,h3,h4,h5⟩:=hg.m4 hh4 ak
  obtain ⟨b',e1,e2,_⟩:=h.m4 hh4 ak
  rw [z] at e1
  simp only [Value.slice.injEq,Option.some.injEq,Addr.mk.injEq,and_true] at e1
  subst e1
  refine ⟨b,by rw [zr _ _ (by decide)]; exact z,K,h3,h4,fun _ _ e=>?_⟩
  rw [zp] at e
  simp [Value.ownBlock] at e
  omega
 ·rw [gq (by decide),zr _ _ (by decide)]; exact hg.m5
theorem rz_2 (h:RZ C B0 hj t x f W) (hh0:x[0]? = some true) (ai:x[2]? = some false) (ak:x[5]? = some false) (hc:∀ v,C 2 v) {v':Value} (Y:ORow W' B0.heap.size v' hj) (hg:W.grownBy W' (f 0).ownBlock):RZ C B0 hj t (x.set 2 true) (upd f 2 v') W':=by
 refine ⟨h.bel.grown hg h.bel.size (fun k hk=>((h.m0 hh0 ai).lt k hk).1),zz h.c (hc _),?_,?_,?_,?_⟩
 ·intro _ e; rw [gqs ai] at e; cases e
 ·intro _ _; rw [zp]; exact Y
 ·intro hh4 _
  rw [gq (by decide)] at hh4
  obtain ⟨b,z,K,h3,h4,h5⟩:=h.m4 hh4 ak
  refine ⟨b,by rw [zr _ _ (by decide)]; exact z,yG K hg.size,h3,zm h4 hg K (fun e=>h5 hh0 ai e.symm),fun _ e=>?_⟩
  rw [gqs ai] at e; cases e
 ·intro e; rw [gq (by decide),ak] at e; cases e
theorem rz_4 (h:RZ C B0 hj t x f W) (hh4:x[4]? = some false) (ak:x[5]? = some false) (hc:∀ v,C 4 v):RZ C B0 hj t (x.set 4 true) (upd f 4 (.slice (some (yn W 0)) 1 1)) (W.alloc (Obj.cells t.vs.toArray 49)):=by
 have hg:=rz_grow h ((Below.refl W.heap.size W).alloc tg (Obj.cells t.vs.toArray 49))
 refine ⟨hg.bel,zz hg.c (hc _),?_,?_,?_,?_⟩
 ·rw [gq (by decide),gq (by decide),zr _ _ (by decide)]; exact hg.m0
 ·rw [gq (by decide),gq (by decide),zr _ _ (by decide)]; exact hg.m2
 ·intro _ _
  refine ⟨W.heap.size,zp _ _ _,by rw [ze]; omega,h.bel.size,zg W t.vs _,fun hh0 ai e=>?_⟩
  rw [gq (by decide)] at hh0 ai
  rw [zr _ _ (by decide)] at e
  have:=((h.m0 hh0 ai).lt _ e).2
  omega
 ·rw [gq (by decide),zr _ _ (by decide)]; exact hg.m5
theorem rz_5 (h:RZ C B0 hj t x f W) (ai:x[2]? = some true) (ak:x[5]? = some false) (hc:∀ v,C 5 v) {v':Value} (Y:ORow W' B0.heap.size v' (hj ++ [t])) (hg:W.grownBy W' (f 2).ownBlock):RZ C B0 hj t (x.set 5 true) (upd f 5 v') W':=by
 refine ⟨h.bel.grown hg h.bel.size (fun k hk=>((h.m2 ai ak).lt k hk).1),zz h.c (hc _),?_,?_,?_,?_⟩
 ·intro _ e; rw [gq (by decide)] at e; rw [e] at ai; cases ai
 ·intro _ e; rw [gqs ak] at e; cases e
 ·intro _ e; rw [gqs ak] at e; cases e
 ·intro _; rw [zp]; exact Y
end
def RZBA (xh:(Nat→Value)→Act) (C:Nat→Value→Prop) (B0:World) (hj:List Od) (t:Od) (v0:Value) (x:List Bool) (hR:Act) (W:World):Prop:=∃ f,hR = xh f∧RZ C B0 hj t x f W∧RA 5 v0 x f
theorem rz_start {C:Nat→Value→Prop} {B0:World} {hj:List Od} {t:Od} {f:Nat→Value} {k:Nat}:RZ C B0 hj t (List.replicate k false) f { B0 with drawn:=B0.drawn + 1 }:=by
 have qS:∀ j,(List.replicate k false)[j]? = some true→False:=fun j L=>by rw [yF] at L; split at L <;> simp at L
 exact ⟨⟨rfl,rfl,rfl,Nat.le_refl _,fun _ _=>rfl⟩,fun j L=>(qS j L).elim,fun h=>(qS _ h).elim,fun h=>(qS _ h).elim,fun h=>(qS _ h).elim,fun h=>(qS _ h).elim⟩
def CZ (lv tv:Value):Nat→Value→Prop
 | 1,v=>v = lv
 | 3,v=>v = tv
 | _,_=>True
theorem acc_l {c:Cm} {next:Int} {xh:List Od × Int × List Ev} (hp:prcB c = true):accL c next xh = if 0 < xh.2.1∧ay c.t = true then xh.1 ++ [⟨next,c.s,tkS c.p,xh.2.1,c.l,c.g⟩] else xh.1:=by
 rw [accL]
 by_cases hr:ay c.t = true
 ·have ht:tkOk c.p = true:=by
   rw [prcB,if_neg (by intro e; rw [ay,e] at hr; simp at hr)] at hp; exact hp
  rw [tkS_ok ht]
 ·rw [if_neg (fun h=>hr h.2),if_neg (fun h=>hr h.2)]
theorem one_allE (l:List Ev):∀ u ∈ l.flatMap Ev.vs,u.oneCell' = true:=by
 intro u hu
 obtain ⟨e,_,h⟩:=List.mem_flatMap.1 hu
 exact one_ev e u h
theorem l04Step_r (next:Int) (vb:Value) (l:List Od) (c:Cm) (w:World) (qP:refR next l c ≠ 0) (hr:RdR Od.vs 6 w vb l) (hs:SlOk vb) (hg:GoodL l) (uu:∀ x ∈ l,x.side = 1 ∨ x.side = 2) (h0:0 ≤ next) (z:next ≤ 1000000) (ht:c.g.size ≤ maxLen) :
  Calls Tryz.prog 44 #[.agg #[H next,vb],cmV c] w fun e w'=>∃ vq vg,e = yk (.tuple #[.agg #[H (stN next l c),vq],vg])∧ORow w' w.heap.size vq (stL next l c)∧ERow w' w.heap.size vg (stE next l c)∧yl w w':=by
 obtain ⟨i0,uv,uq,uw,uM⟩:=info_parts Tryz.infoOrder
 obtain ⟨j0,jk,js,kM,hy2⟩:=info_parts infoEv
 have HR:=Q hr
 have uW:=Q hs
 have HG:=Q hg
 have qU:=Q ht
 have vG:=hg.len
 have ur:Hid (0 ≤ next∧next ≤ 1000000):=⟨h0,z⟩
 have uG:=Q (fun (W:World) hW=>dF next vb l c W hW hs hg uu ht)
 rw [ref_eq] at uG
 have HK:=Q (@de next l c)
 have HQ:=Q (@dx next l c)
 have qA:=Q (@ref_id next l c)
 have jm:=Q (@ref_newS next l c)
 have um:=Q qP
 clear qP
 have uB:Hid (stN next l c = if refR next l c = 0∧c.k = 1 then next + 1 else next):=rfl
 have uo:=Q (stL.eq_1 next l c)
 have uA:=Q (stE.eq_1 next l c)
 have oa:=Q (fun W=>dE c W ht)
 have qF:=Q (fun (a:Option Addr) (n F:Nat) (W:World)=>dn next a n F c W)
 have jJ:=Q (fun (v:Value) (W:World) hr hs hp je qy=>dm v l c next W hr hg hs hp je qy)
 obtain ⟨a,F,rfl,vy,hc⟩:=hr
 obtain ⟨kk,s,ty,li,X,ii,pr,O⟩:=c
 generalize stN next l ⟨kk,s,ty,li,X,ii,pr,O⟩ = sN at uB ⊢
 generalize stL next l ⟨kk,s,ty,li,X,ii,pr,O⟩ = sL at uo ⊢
 generalize stE next l ⟨kk,s,ty,li,X,ii,pr,O⟩ = sE at uA ⊢
 generalize refR next l ⟨kk,s,ty,li,X,ii,pr,O⟩ = rr at uG uB uo uA HK HQ qA jm um
 unfold cmV at uG qF ⊢
 simp only at uG uB uo uA HK HQ qA jm oa qF jJ qU um ⊢
 have HB:=Q (box3 w [H next,.slice a l.length F] (yu kk s ty li X ii pr O) [H 0,.slice none 0 0] 28 43 28)
 clear hs hg uu h0 z ht hc vy
 go_enter Tryz.func44,Tryz.ntmps44
 refine eH fun h2 xu=>?_
 go_wp2_with fail
 refine M xu _ _ ?_
 clear xu
 change Hid ((((w.alloc (E #[H next,.slice a l.length F] 28)).alloc (E (yu kk s ty li X ii pr O).toArray 43)).alloc (E #[H 0,.slice none 0 0] 28)).heap.size = w.heap.size + 3∧World.rangeAt (((w.alloc (E #[H next,.slice a l.length F] 28)).alloc (E (yu kk s ty li X ii pr O).toArray 43)).alloc (E #[H 0,.slice none 0 0] 28)) w.heap.size 0 [H next,.slice a l.length F]∧World.rangeAt (((w.alloc (E #[H next,.slice a l.length F] 28)).alloc (E (yu kk s ty li X ii pr O).toArray 43)).alloc (E #[H 0,.slice none 0 0] 28)) (w.heap.size + 1) 0 (yu kk s ty li X ii pr O)∧World.rangeAt (((w.alloc (E #[H next,.slice a l.length F] 28)).alloc (E (yu kk s ty li X ii pr O).toArray 43)).alloc (E #[H 0,.slice none 0 0] 28)) (w.heap.size + 1 + 1) 0 [H 0,.slice none 0 0]∧World.there (((w.alloc (E #[H next,.slice a l.length F] 28)).alloc (E (yu kk s ty li X ii pr O).toArray 43)).alloc (E #[H 0,.slice none 0 0] 28)) (w.heap.size + 1 + 1) 0 2∧yl w (((w.alloc (E #[H next,.slice a l.length F] 28)).alloc (E (yu kk s ty li X ii pr O).toArray 43)).alloc (E #[H 0,.slice none 0 0] 28))) at HB
 generalize (((w.alloc (E #[H next,.slice a l.length F] 28)).alloc (E (yu kk s ty li X ii pr O).toArray 43)).alloc (E #[H 0,.slice none 0 0] 28)) = qt at HB ⊢
 have xE:Hid (∀ W:World,yl qt W→W.cell? (yn w 0) = some (H next)∧W.cell? (yn w 1) = some (.slice a l.length F)∧W.cell? (J (w.heap.size + 1) 0) = some (H kk)∧W.cell? (J (w.heap.size + 1) 1) = some (H s)∧W.cell? (J (w.heap.size + 1) 2) = some (H ty)∧W.cell? (J (w.heap.size + 1) 3) = some (H li)∧W.cell? (J (w.heap.size + 1) 4) = some (H X)∧W.cell? (J (w.heap.size + 1) 5) = some (H ii)∧W.cell? (J (w.heap.size + 1) 6) = some (yh pr)∧W.cell? (J (w.heap.size + 1) 7) = some (yi O)):=fun W hW =>
  have p:=zb (M HB).2.1 hW (by have:=(M HB).1; omega)
  have q:=zb (M HB).2.2.1 hW (by have:=(M HB).1; omega)
  ⟨p 0 _ rfl,p 1 _ rfl,q 0 _ rfl,q 1 _ rfl,q 2 _ rfl,q 3 _ rfl,q 4 _ rfl,q 5 _ rfl,q 6 _ rfl,q 7 _ rfl⟩
 have uU:w.heap.size + 1 + 1 < qt.heap.size:=by have:=(M HB).1; omega
 refine wp_seq_k fun h2 hK=>?_
 have HT:∀ (a6:Option Addr) (c6:Nat) (w1:World),ORow w1 qt.heap.size (.slice a6 l.length c6) l→yl qt w1→h2 { tmps:=#[.agg #[H next,.slice a l.length F],.agg (yu kk s ty li X ii pr O).toArray,ym w 0,I (w.heap.size + 1) 0,I (w.heap.size + 1 + 1) 0,.slice none 0 0,.slice a6 l.length c6,Z,Z,Z,Z,Z,Z,Z,Z,Z,Z,Z,.slice (some (yn qt 0)) 0 0,ym w 1,.slice a l.length F,.slice a6 l.length c6,Z,Z,Z,Z,Z,Z,Z,Z,Z,Z,Z,Z,Z,Z,Z,Z,Z,Z,Z,Z,Z,Z,Z,Z,Z,Z,Z,Z,Z,Z,Z,Z,Z,Z,Z,Z,Z,Z,Z,Z,Z,Z,Z,Z,Z,Z,Z,Z,Z,Z,Z,Z,Z,Z,Z,Z,Z,Z,Z,Z,Z,Z,Z,Z,Z,Z,Z,Z,Z,Z,Z,Z,Z,Z,Z,Z,Z,Z,Z,Z,Z,Z,Z,Z,Z,Z,Z,Z,Z,Z,Z,Z,Z,Z,Z,Z,Z,Z,Z,Z,Z,Z,Z,Z,Z,Z,Z,Z,Z,Z,Z,Z,Z,Z,Z,Z,Z,Z,Z,Z,Z,Z,Z,Z,Z,Z,Z,Z,Z,Z,Z,Z,Z,Z,Z,Z,Z,Z,Z,Z,Z,Z,Z,Z,Z,Z,Z,Z,Z],defers:=[] } w1:=by
  intro a6 c6 w1 vV xR
  refine hK _ _ ?_
  clear hK
  have uZ:=Q vV
  have xT:=Q xR
  clear vV xR
  obtain ⟨z0,z1,y0,y1,y2,y3,y4,y5,y6,y7⟩:=M xE w1 (M xT)
  refine eH fun h2 xu=>?_
  go_wp2_with fail
  refine (M uG w1 (zh (M HR) ((M HB).2.2.2.2.2.trans ((M xT).mono (M HB).2.2.2.2.2.size)) tg)).mono ?_
  rintro e w2 ⟨rfl,ue⟩
  have vO:=Q (zj (M uZ) ue)
  have xC:=Q (eG (M xT) ue)
  clear z0 z1 y0 y1 y2 y3 y4 y5 y6 y7 ue uZ
  obtain ⟨z0,z1,y0,y1,y2,y3,y4,y5,y6,y7⟩:=M xE w2 (M xC)
  have vw:=Q (zf (M HB).2.2.2.2.1 (M xC) uU)
  have oh:w.heap.size + 1 + 1 < w2.heap.size:=yG uU (M xC).size
  have xJ:=Q ((M HB).2.2.2.2.2.trans ((M xC).mono (M HB).2.2.2.2.2.size))
  have hXw:w.heap.size ≤ qt.heap.size:=by omega
  have hX2:qt.heap.size ≤ w2.heap.size:=(M xC).size
  have kS:=hX2
  by_cases uR:rr = 0
  ·subst uR
   have pA:=M HK rfl
   rcases pA with rfl | rfl | rfl | rfl
   ·exact absurd rfl (M um)
   ·exact absurd rfl (M um)
   ·exact absurd rfl (M um)
   ·exact absurd rfl (M um)
  ·have kK:=uR
   have qz:(rr == 0) = false:=by rw [xa]; exact uR
   have ux:Hid (sN = next∧sL = l∧sE = [⟨2,⟨kk,s,ty,li,X,ii,pr,cutB O⟩,0,0,0,0,rr⟩]):=⟨by rw [M uB,if_neg (fun h=>uR h.1)],by rw [M uo,if_neg uR],by rw [M uA,if_neg uR]⟩
   clear uR kK uB uo uA HQ qA HK jm qF jJ um
   have HZ0:=Q z0
   have HZ1:=Q z1
   have HY0:=Q y0
   have HY1:=Q y1
   have HY2:=Q y2
   have HY3:=Q y3
   have HY4:=Q y4
   have HY5:=Q y5
   have HY6:=Q y6
   have HY7:=Q y7
   have hRS:w.heap.size + 1 + 1 < qt.heap.size:=uU
   go_wp2_with fail
   clear z0 z1 y0 y1 y2 y3 y4 y5 y6 y7
   refine zi (RXA (fun f=>{ tmps:=#[.agg #[H next,.slice a l.length F],.agg (yu kk s ty li X ii pr O).toArray,ym w 0,I (w.heap.size + 1) 0,I (w.heap.size + 1 + 1) 0,f 10,.slice a6 l.length c6,H rr,Z,Z,Z,Z,Z,Z,Z,Z,Z,Z,.slice (some (yn qt 0)) 0 0,ym w 1,.slice a l.length F,.slice a6 l.length c6,.agg #[H next,.slice a l.length F],.agg (yu kk s ty li X ii pr O).toArray,H rr,H rr,.bool (rr != 0),f 0,f 1,f 2,f 3,f 4,f 5,f 6,f 7,f 8,Z,Z,Z,Z,Z,Z,Z,Z,Z,Z,Z,Z,Z,Z,Z,Z,Z,Z,Z,Z,Z,Z,Z,Z,Z,Z,Z,Z,Z,Z,Z,Z,Z,Z,Z,Z,Z,Z,Z,Z,Z,Z,Z,Z,Z,Z,Z,Z,Z,Z,Z,Z,Z,Z,Z,Z,Z,Z,Z,Z,Z,Z,Z,Z,Z,Z,Z,Z,Z,Z,Z,Z,Z,Z,Z,Z,Z,Z,Z,Z,Z,Z,Z,Z,Z,Z,Z,Z,Z,Z,Z,Z,Z,Z,Z,Z,Z,Z,Z,Z,Z,Z,Z,Z,Z,Z,Z,Z,Z,Z,Z,Z,Z,Z,Z,Z,Z,Z,Z,Z,Z,Z,Z,Z,Z,Z,Z,Z,Z,Z,Z,Z,Z,Z,Z],defers:=[] }) (CX [ym w 0,H next,.slice a6 l.length c6,.agg #[H next,.slice a6 l.length c6],.agg (yu kk s ty li X ii pr O).toArray,.agg (yu kk s ty li X ii pr (cutB O)).toArray,H rr,.agg (ys 2 kk s ty li X ii pr (cutB O) 0 0 0 0 rr).toArray,Z,Z,Z] [(8,2),(9,9),(10,2)] (qt.heap.size) (next) (l) ([⟨2,⟨kk,s,ty,li,X,ii,pr,cutB O⟩,0,0,0,0,rr⟩])) (w.heap.size + 1 + 1) 2 9 (fun f=>aggL (f 3)) w2) (by kernel_rfl) ?_ ?_ ?_
   ·exact ⟨fun j=>if j = 10 then .slice none 0 0 else Z,rfl,rx_start oh (M vw)⟩
   rotate_left
   ·rintro x hR V i op ⟨f,rfl,A⟩ xk hx Y xq D
    have xv:=Q A
    have xj:∀ (p:Addr) u,w2.cell? p = some u→p.block ≠ w.heap.size + 1 + 1→V.cell? p = some u:=fun p u hu hp=>kb_cell A.k hu hp
    match i,Y with
    | 0,Y =>
     obtain rfl:=hD Y
     clear D A xj xk
     rw [if_pos (by rfl)];unfold Oper.wp;go_simp
     exact ⟨upd f 0 (ym w 0),by simp [upd],zX (M xv) 0 _ (by decide) (fun _=>rfl) (zZ rfl rfl)⟩
    | 1,Y =>
     obtain rfl:=hD Y
     have g0:f 0 = ym w 0:=zV (A.c 0 (yc D 0 rfl)) rfl rfl
     have z0:=xj (yn w 0) _ (M HZ0) (show w.heap.size ≠ w.heap.size + 1 + 1 by omega)
     clear D A xj xk
     rw [if_pos (by rfl)];unfold Oper.wp;go_simp
     exact ⟨upd f 1 (H next),by simp [upd,g0],zX (M xv) 1 _ (by decide) (fun _=>rfl) (zZ rfl rfl)⟩
    | 2,Y =>
     obtain rfl:=hD Y
     clear D A xj xk
     rw [if_pos (by rfl)];unfold Oper.wp;go_simp
     exact ⟨upd f 2 (.slice a6 l.length c6),by simp [upd],zX (M xv) 2 _ (by decide) (fun _=>rfl) (zZ rfl rfl)⟩
    | 3,Y =>
     obtain rfl:=hD Y
     have g1:f 1 = H next:=zV (A.c 1 (yc D 1 rfl)) rfl rfl
     have g2:f 2 = .slice a6 l.length c6:=zV (A.c 2 (yc D 2 rfl)) rfl rfl
     have hcl0:=xk
     clear D A xj xk
     rw [if_pos (by rfl)];unfold Oper.wp;go_simp
     exact ⟨upd f 3 (.agg #[H next,.slice a6 l.length c6]),by simp [upd,g1,g2],zX (M xv) 3 _ (by decide) (fun h=>by rw [zB hcl0 12 3 9 (by kernel_rfl) hx (by simp) xq] at h; cases h) (zZ rfl rfl)⟩
    | 4,Y =>
     obtain rfl:=hD Y
     have y0:=xj (J (w.heap.size + 1) 0) _ (M HY0) (show w.heap.size + 1 ≠ w.heap.size + 1 + 1 by omega)
     have y1:=xj (J (w.heap.size + 1) 1) _ (M HY1) (show w.heap.size + 1 ≠ w.heap.size + 1 + 1 by omega)
     have y2:=xj (J (w.heap.size + 1) 2) _ (M HY2) (show w.heap.size + 1 ≠ w.heap.size + 1 + 1 by omega)
     have y3:=xj (J (w.heap.size + 1) 3) _ (M HY3) (show w.heap.size + 1 ≠ w.heap.size + 1 + 1 by omega)
     have y4:=xj (J (w.heap.size + 1) 4) _ (M HY4) (show w.heap.size + 1 ≠ w.heap.size + 1 + 1 by omega)
     have y5:=xj (J (w.heap.size + 1) 5) _ (M HY5) (show w.heap.size + 1 ≠ w.heap.size + 1 + 1 by omega)
     have y6:=xj (J (w.heap.size + 1) 6) _ (M HY6) (show w.heap.size + 1 ≠ w.heap.size + 1 + 1 by omega)
     have y7:=xj (J (w.heap.size + 1) 7) _ (M HY7) (show w.heap.size + 1 ≠ w.heap.size + 1 + 1 by omega)
     clear D A xj xk
     rw [if_pos (by rfl)];unfold Oper.wp;go_simp
     exact ⟨upd f 4 (.agg (yu kk s ty li X ii pr O).toArray),by simp [upd],zX (M xv) 4 _ (by decide) (fun _=>rfl) (zZ rfl rfl)⟩
    | 5,Y =>
     obtain rfl:=hD Y
     have g4:f 4 = .agg (yu kk s ty li X ii pr O).toArray:=zV (A.c 4 (yc D 4 rfl)) rfl rfl
     clear D A xk xj
     rw [if_pos (by rfl)];unfold Oper.wp;go_simp
     refine (M oa V).mono ?_
     rintro e w4 ⟨rfl,xy⟩
     exact ⟨upd f 5 (.agg (yu kk s ty li X ii pr (cutB O)).toArray),by simp [upd,g4],zX (rx_grow (cS hRS) (M xv) xy) 5 _ (by decide) (fun _=>rfl) (zZ rfl rfl)⟩
    | 6,Y =>
     obtain rfl:=hD Y
     clear D A xj xk
     rw [if_pos (by rfl)];unfold Oper.wp;go_simp
     exact ⟨upd f 6 (H rr),by simp [upd],zX (M xv) 6 _ (by decide) (fun _=>rfl) (zZ rfl rfl)⟩
    | 7,Y =>
     obtain rfl:=hD Y
     have g5:f 5 = .agg (yu kk s ty li X ii pr (cutB O)).toArray:=zV (A.c 5 (yc D 5 rfl)) rfl rfl
     have g6:f 6 = H rr:=zV (A.c 6 (yc D 6 rfl)) rfl rfl
     clear D A xj xk
     rw [if_pos (by rfl)];unfold Oper.wp;go_simp
     exact ⟨upd f 7 (.agg (ys 2 kk s ty li X ii pr (cutB O) 0 0 0 0 rr).toArray),by simp [upd,g5,g6],zX (M xv) 7 _ (by decide) (fun _=>rfl) (zZ rfl rfl)⟩
    | 8,Y =>
     obtain rfl:=hD Y
     have g7:f 7 = .agg (ys 2 kk s ty li X ii pr (cutB O) 0 0 0 0 rr).toArray:=zV (A.c 7 (yc D 7 rfl)) rfl rfl
     have qO:=yK kS A.k.size
     clear D A xj xk
     rw [if_pos (by rfl)];unfold Oper.wp;go_simp
     exact ⟨upd f 8 (.slice (some (yn V 0)) 1 1),by simp [upd,g7],zX (rx_grow (cS hRS) (M xv) (eD _ _)) 8 _ (by decide) (fun _=>rfl) (bL (d:=2) rfl ⟨eRow_one V ⟨2,⟨kk,s,ty,li,X,ii,pr,cutB O⟩,0,0,0,0,rr⟩ qO,_,_,rfl⟩)⟩
    | 9,Y =>
     obtain rfl:=hD Y
     have g0:f 3 = .agg #[H next,.slice a6 l.length c6]:=zV (A.c 3 (yc D 3 rfl)) rfl rfl
     obtain ⟨y0,z0,q0⟩:=zd A.t (j:=0) (by omega)
     obtain ⟨y1,z1,q1⟩:=zd A.t (j:=1) (by omega)
     clear D A xj xk
     rw [if_pos (by rfl)];unfold Oper.wp;go_simp
     have uH:=rx_store (cS hRS) (M xv) xq (by simp [g0,aggL]) (fun _ _=>bL (d:=9) rfl trivial)
     simp only [g0,aggL] at uH
     exact ⟨f,by simp [g0],uH⟩
    | 10,Y =>
     obtain rfl:=hD Y
     have h8:=cx_sp (d:=2) (A.c 8 (yc D 8 rfl)) rfl
     obtain ⟨a8,c8,g8⟩:=h8.2
     rw [g8] at h8
     have H8:=Q h8
     clear h8
     clear D A xj xk
     rw [if_pos (by rfl)];unfold Oper.wp;go_simp
     exact ⟨upd f 10 (f 8),by simp [upd,g8],zX (M xv) 10 _ (by decide) (fun _=>rfl) (bL (d:=2) rfl (by rw [g8]; exact M H8))⟩
    | n + 11,Y=>simp at Y
   ·rintro x hR V ⟨f,rfl,A⟩ hx xK
    have xm:=zL xK hx (by kernel_rfl)
    obtain ⟨hE8,a8,c8,e8⟩:=cx_sp (d:=2) (A.c 10 (xm 10 (by simp))) rfl
    have uY:=A.r (xm 9 (by simp))
    obtain ⟨v4,hv4,ka⟩:∃ v4,v4 = .slice a6 l.length c6∧ORow V qt.heap.size v4 l:=⟨_,rfl,cw (M vO) A.k hRS⟩
    have g3:f 3 = .agg #[H next,.slice a6 l.length c6]:=zV (A.c 3 (xm 3 (by simp))) rfl rfl
    simp only [g3,aggL] at uY
    rw [← hv4] at uY
    clear g3
    have HO:Hid (ORow V w.heap.size v4 _∧ERow V w.heap.size (.slice a8 _ c8) _):=⟨zA ka (by omega),zA (e8 ▸ hE8) (by omega)⟩
    have xo:Hid (yl w V):=⟨A.k.os.trans (M xJ).os,A.k.tape.trans (M xJ).tape,A.k.output.trans (M xJ).output,yK (M xJ).size A.k.size,fun k hk=>(A.k.block k (yG hk (M xJ).size) (by omega)).trans ((M xJ).block k hk)⟩
    have d0:V.cell? (J (w.heap.size + 1 + 1) 0) = some (H next):=uY 0 _ rfl
    have d1:V.cell? (J (w.heap.size + 1 + 1) 1) = some v4:=uY 1 _ rfl
    simp only [e8]
    generalize f 0 = w0,f 1 = w1,f 2 = w2,f 3 = w3,f 4 = w4,f 5 = w5,f 6 = w6,f 7 = w7,f 8 = w8
    clear A xm xK hx uY hE8 ka
    go_wp2_with fail
    try simp only [Exit.inBlock,Exit.then]
    refine bodyPost_ret (by simp [results,Tryz.results44,go_sem,d0,d1]; try rfl) rfl ?_
    obtain ⟨rfl,rfl,rfl⟩:=M ux
    exact ⟨_,_,rfl,(M HO).1,(M HO).2,M xo⟩
 rcases M uW with hs | ⟨ad,nn,cc,hs⟩
 ·simp only [Value.slice.injEq] at hs
  obtain ⟨rfl,oT,rfl⟩:=hs
  obtain rfl:=List.length_eq_zero_iff.1 oT
  obtain ⟨z0,z1,y0,y1,y2,y3,y4,y5,y6,y7⟩:=M xE qt (Below.refl _ _)
  have vB:=Q (World.ownsRow_made (base:=qt.heap.size) (e:=49) (size:=6) qt #[] 0 tg (by decide) rfl)
  have hzX:World.cell? (qt.alloc (E #[] 49)) (yn w 1) = some (.slice none 0 0):=(M xE _ (eD _ _)).2.1
  have kD:=Q HT
  clear HT hK
  go_wp2_with (at_builtin; go_must (refine wpList_append_own_none rfl _ _ 26 rfl qt.heap.size 49 i0 6 Tryz.underlying26 uv (.slice (some (yn qt 0)) 0 0) 0 [] rfl (M vB) rfl ?_))
  exact M kD _ _ _ (M vB) (eD _ _)
 ·simp only [Value.slice.injEq] at hs
  obtain ⟨rfl,rfl,rfl⟩:=hs
  obtain ⟨z0,z1,y0,y1,y2,y3,y4,y5,y6,y7⟩:=M xE qt (Below.refl _ _)
  have uF:Hid (yl qt (qt.alloc (E #[] 49))):=eD _ _
  have vB:=Q (World.ownsRow_made (base:=qt.heap.size) (e:=49) (size:=6) qt #[] 0 tg (by decide) rfl)
  have hzX:World.cell? (qt.alloc (E #[] 49)) (yn w 1) = some (.slice (some ad) l.length F):=(M xE _ (M uF)).2.1
  have uQ:Hid (∀ j u,(l.flatMap Od.vs)[j]? = some u→World.cell? (qt.alloc (E #[] 49)) (ad.add j) = some u):=rd_src (zh (M HR) ((M HB).2.2.2.2.2.trans ((M uF).mono (M HB).2.2.2.2.2.size)) tg)
  have kD:=Q HT
  clear HT hK
  go_wp2_with (at_builtin; go_must (refine wpList_append_own _ rfl _ _ 26 rfl qt.heap.size 49 i0 _ 6 56 Tryz.underlying26 uv uq uw uM rfl (by decide) (.slice (some (yn qt 0)) 0 0) 0 [] rfl (M vB) ad l.length F (l.flatMap Od.vs) rfl (by rw [zM Od.len]) (M uQ) (bh l) (by unfold maxLen; omega) (by omega) (M uF).size ?_); intro v1 w1 uP oo _; have uZ:=Q uP; have kg:=Q oo; clear uP oo)
  have pU:Hid (ORow w1 qt.heap.size v1 l):=by
   show w1.ownsRow _ _ _ _ l.length _
   simpa using M uZ
  obtain ⟨a6,c6,hv⟩:=zO (M pU)
  subst hv
  exact M kD _ _ _ (M pU) ((M uF).grown (M kg) (M uF).size (fun k hk=>((M vB).lt k hk).1))
end Go.Proofs.YtbakanofkghmiaaGreat
