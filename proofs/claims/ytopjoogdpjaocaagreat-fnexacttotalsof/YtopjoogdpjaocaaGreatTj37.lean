/-
  Results laid out while their values come up, in whatever order: a list of orders and a list of events. No function walked.
-/
import Derived.Test.YtopjoogdpjaocaaGreatTj36
set_option linter.unusedVariables false
set_option maxHeartbeats 6400000
set_option maxRecDepth 100000
namespace Go.Proofs.YtopjoogdpjaocaaGreat
open Go.RowKit
def aggL:Value→List Value
 | .agg xs=>xs.toList
 | _=>[]
def DS (S:Nat) (next:Int) (L:List Od) (E:List Ev):Nat→World→Value→Prop
 | 0,W,v=>ORow W S v L∧∃ a c,v = .slice a L.length c
 | 1,W,v=>∃ v4,v = .agg #[.int .i64 next,v4]∧(∃ a c,v4 = .slice a L.length c)∧ORow W S v4 L
 | 2,W,v=>ERow W S v E∧∃ a c,v = .slice a E.length c
 | 3,W,v=>∃ b,v = .slice (some ⟨b,0,none⟩) 1 1∧b < W.heap.size∧S ≤ b∧W.rangeAt b 0 (E.flatMap Ev.vs)
 | _,_,_=>True
def CX (vs:List Value) (ks:List (Nat × Nat)) (S:Nat) (next:Int) (L:List Od) (E:List Ev) (W:World) (j:Nat) (v:Value):Prop :=
 match ks.lookup j with
 | some d=>DS S next L E d W v
 | none=>∀ u,vs[j]? = some u→v = u
section
variable {vs:List Value} {ks:List (Nat × Nat)} {S R:Nat} {next:Int} {L:List Od} {E:List Ev} {W W':World} {j d:Nat} {v u:Value}
theorem zQ (h:CX vs ks S next L E W j v) (hk:ks.lookup j = none) (hu:vs[j]? = some u):v = u:=by
 rw [CX,hk] at h; exact h u hu
theorem cx_sp (h:CX vs ks S next L E W j v) (hk:ks.lookup j = some d):DS S next L E d W v:=by
 rw [CX,hk] at h; exact h
theorem zT (hk:ks.lookup j = none) (hu:vs[j]? = some v):CX vs ks S next L E W j v:=by
 rw [CX,hk]; intro u h; rw [hu] at h; cases h; rfl
theorem zbQ (hk:ks.lookup j = some d) (hd:DS S next L E d W v):CX vs ks S next L E W j v:=by
 rw [CX,hk]; exact hd
theorem ds_mono (hR:R < S) (hb:KB R W W') (h:DS S next L E d W v):DS S next L E d W' v:=by
 match d with
 | 0=>exact ⟨kb_row h.1 hb hR,h.2⟩
 | 1=>obtain ⟨v4,h1,h2,h3⟩:=h; exact ⟨v4,h1,h2,kb_row h3 hb hR⟩
 | 2=>exact ⟨kb_row h.1 hb hR,h.2⟩
 | 3=>obtain ⟨b,h1,h2,h3,h4⟩:=h; exact ⟨b,h1,Nat.lt_of_lt_of_le h2 hb.size,h3,kb_range hb h4 (by omega)⟩
 | d + 4=>trivial
theorem zbS (hR:R < S):∀ W W' j v,KB R W W'→CX vs ks S next L E W j v→CX vs ks S next L E W' j v:=by
 intro W W' j v hb h
 unfold CX at h ⊢
 split at h
 ·exact ds_mono hR hb h
 ·exact h
theorem cx_monoB (hS:0 < S):∀ W W' j v,Below W.heap.size W W'→CX vs ks S next L E W j v→CX vs ks S next L E W' j v:=by
 intro W W' j v hb h
 unfold CX at h ⊢
 split at h
 ·exact ds_mono hS (kb_below hb) h
 ·exact h
end
theorem rowE_made {B e sz n:Nat} (W:World) (xs:List Value) (hB:B ≤ W.heap.size) (hn:n ≤ maxLen) (hl:xs.length = n * sz):(W.alloc (Obj.cells xs.toArray e)).ownsRow B e sz (.slice (some ⟨W.heap.size,0,none⟩) n n) n xs :=
 ⟨hl,.inr ⟨W.heap.size,n,xs.toArray,rfl,hB,heap_alloc_new W _,Nat.le_refl _,hn,by simpa using hl,by simp [← hl]⟩⟩
theorem eRow_one {B:Nat} (W:World) (e:Ev) (hB:B ≤ W.heap.size):ERow (W.alloc (Obj.cells e.vs.toArray 43)) B (.slice (some ⟨W.heap.size,0,none⟩) 1 1) [e]:=by
 have h:=rowE_made (B:=B) (e:=43) (sz:=14) (n:=1) W e.vs hB (by decide) (by rfl)
 have e1:[e].flatMap Ev.vs = e.vs:=by simp
 show World.ownsRow _ _ _ _ _ [e].length ([e].flatMap Ev.vs)
 rw [e1]
 exact h
theorem ref_newS {next:Int} {l:List Od} {c:Cm} (h:refR next l c = 0) (hk:c.k = 1):(c.s = 1 ∨ c.s = 2)∧prcB c = true∧tagB c.g = true∧c.i = 0:=by
 have h0:=h
 have h:=ref_new h hk
 rw [newR] at h
 split at h
 ·cases h
 rename_i h1
 split at h
 ·cases h
 split at h
 ·cases h
 split at h
 ·cases h
 rename_i h4
 split at h
 ·cases h
 split at h
 ·cases h
 rename_i h6
 refine ⟨side_of (by simpa using h1),by simpa using h4,by simpa using h6,?_⟩
 rw [← ref_eq,refS] at h0
 split at h0
 ·cases h0
 split at h0
 ·cases h0
 rename_i hf
 simp [zaT,hk] at hf
 exact hf
def RAo (n:Nat) (v0:Value) (x:List Bool) (f:Nat→Value):Prop:=(x[n + 1]? = some true→f (n + 1) = f n)∧(x[n + 1]? = some false→f (n + 1) = v0)
def RYBA (F:(Nat→Value)→Act) (C:World→Nat→Value→Prop) (n:Nat) (v0:Value) (Q:(Nat→Value)→World→Prop) (base:World) (x:List Bool) (A:Act) (W:World):Prop:=∃ f,A = F f∧RY C n Q base x f W∧RAo n v0 x f
theorem ryb_start {f:Nat→Value} {n k:Nat} {v0:Value} (h:f (n + 1) = v0):RAo n v0 (List.replicate k false) f:=⟨fun h=>by rw [List.getElem?_replicate] at h; split at h <;> simp at h,fun _=>h⟩
theorem zW {x:List Bool} {f:Nat→Value} {n i:Nat} {v0:Value} (v:Value) (h:RAo n v0 x f) (hi:i ≠ n) (hi':i ≠ n + 1):RAo n v0 (x.set i true) (upd f i v):=by
 rw [RAo,gq hi',zq _ _ (fun e=>hi' e.symm),zq _ _ (fun e=>hi e.symm)]; exact h
theorem ryb_write {x:List Bool} {f:Nat→Value} {n:Nat} {v0:Value} (v:Value) (h:RAo n v0 x f) (hx:x[n + 1]? = some false):RAo n v0 (x.set n true) (upd f n v):=by
 rw [RAo,gq (by omega),zq _ _ (show n + 1 ≠ n by omega)]
 exact ⟨fun e=>(by rw [hx] at e; cases e),h.2⟩
theorem ryb_lay {x:List Bool} {f:Nat→Value} {n:Nat} {v0:Value} (hx:x[n + 1]? = some false):RAo n v0 (x.set (n + 1) true) (upd f (n + 1) (f n)):=by
 rw [RAo,gqs hx]
 exact ⟨fun _=>by rw [zp,zq _ _ (by omega)],fun e=>by cases e⟩
theorem row_src {B e sz n g c:Nat} {xs:List Value} {W:World} (h:W.ownsRow B e sz (.slice (some ⟨g,0,none⟩) n c) n xs):∀ j u,xs[j]? = some u→W.cell? ((⟨g,0,none⟩:Addr).add j) = some u:=by
 intro j u hu
 rcases h.2 with ⟨h1,_⟩ | ⟨g',cap,cur,h1,_,hgg,_,_,hcs,hx⟩
 ·cases h1
 ·simp only [Value.slice.injEq,Option.some.injEq,Addr.mk.injEq,and_true,true_and] at h1
  obtain ⟨rfl,-⟩:=h1
  rw [Addr.add_mid,cell_of_row W g (0 + j) cur _ (0,0) hgg]
  rw [← hx] at hu
  rw [List.getElem?_take] at hu
  split at hu
  ·simpa using hu
  ·cases hu
theorem take_nd {l:List Od} {j:Nat} {o:Od} (h:l[j]? = some o) (hd:o.life ≠ 1):(l.take (j + 1)).filter ndy = (l.take j).filter ndy ++ [o]:=by
 rw [List.take_add_one,h,List.filter_append]
 simp [ndy,hd]
theorem take_ny {l:List Od} {j:Nat} {o:Od} (h:l[j]? = some o) (hd:o.life = 1):(l.take (j + 1)).filter ndy = (l.take j).filter ndy:=by
 rw [List.take_add_one,h,List.filter_append]
 simp [ndy,hd]
theorem dysF_lenO:∀ (l:List Od) (k:Nat),(dysF l k).length = (l.filter dyB).length
 | [],_=>rfl
 | o :: r,k=>by
  rw [dysF,List.filter_cons]
  by_cases h:o.life = 1
  ·rw [if_pos h,if_pos (by simp [dyB,h])]; simp [dysF_lenO r]
  ·rw [if_neg h,if_neg (by simp [dyB,h])]; exact dysF_lenO r _
theorem cutB_tag {g:ByteArray} (h:tagB g = true):cutB g = g:=by
 simp only [tagB,Bool.and_eq_true,decide_eq_true_eq] at h
 rw [cutB,if_neg (by omega)]
structure RZ (C:Nat→Value→Prop) (B0:World) (L:List Od) (t:Od) (x:List Bool) (f:Nat→Value) (W:World):Prop where
 bel:Below B0.heap.size B0 W
 c:∀ j,x[j]? = some true→C j (f j)
 m0:x[0]? = some true→x[2]? = some false→ORow W B0.heap.size (f 0) []
 m2:x[2]? = some true→x[5]? = some false→ORow W B0.heap.size (f 2) L
 m4:x[4]? = some true→x[5]? = some false→∃ b,f 4 = .slice (some ⟨b,0,none⟩) 1 1∧b < W.heap.size∧B0.heap.size ≤ b∧W.rangeAt b 0 t.vs∧(x[0]? = some true→x[2]? = some false→(f 0).ownBlock ≠ some b)
 m5:x[5]? = some true→ORow W B0.heap.size (f 5) (L ++ [t])
section
variable {C:Nat→Value→Prop} {B0 W W':World} {L:List Od} {t:Od} {x:List Bool} {f:Nat→Value}
theorem rz_grow (h:RZ C B0 L t x f W) (hb:Below W.heap.size W W'):RZ C B0 L t x f W' :=
 ⟨h.bel.trans (hb.mono h.bel.size),h.c,fun a b=>zk (h.m0 a b) hb,fun a b=>zk (h.m2 a b) hb,fun a b=>by
  obtain ⟨b',h1,h2,h3,h4,h5⟩:=h.m4 a b
  exact ⟨b',h1,Nat.lt_of_lt_of_le h2 hb.size,h3,zb h4 hb h2,h5⟩,fun a=>zk (h.m5 a) hb⟩
theorem rz_val (h:RZ C B0 L t x f W) (i:Nat) (v:Value) (hv:C i v) (hh0:i ≠ 0) (hh2:i ≠ 2) (hh4:i ≠ 4) (hh5:i ≠ 5):RZ C B0 L t (x.set i true) (upd f i v) W:=by
 refine ⟨h.bel,zv h.c hv,?_,?_,?_,?_⟩ <;> simp only [gq hh0,gq hh2,gq hh4,gq hh5,zq f v hh0.symm,zq f v hh2.symm,zq f v hh4.symm,zq f v hh5.symm]
 ·exact h.m0
 ·exact h.m2
 ·exact h.m4
 ·exact h.m5
theorem rz_0 (h:RZ C B0 L t x f W) (hh0:x[0]? = some false) (hc:∀ v,C 0 v):RZ C B0 L t (x.set 0 true) (upd f 0 (.slice (some ⟨W.heap.size,0,none⟩) 0 0)) (W.alloc (Obj.cells #[] 78)):=by
 have hg:=rz_grow h ((Below.refl W.heap.size W).alloc (Nat.le_refl _) (Obj.cells #[] 78))
 refine ⟨hg.bel,zv hg.c (hc _),?_,?_,?_,?_⟩
 ·intro _ _; rw [zp]; exact World.ownsRow_made W #[] 0 h.bel.size (by decide) rfl
 ·rw [gq (by decide),gq (by decide),zq _ _ (by decide)]; exact hg.m2
 ·intro hh4 hh5
  rw [gq (by decide)] at hh4 hh5
  obtain ⟨b,h1,h2,h3,h4,h5⟩:=hg.m4 hh4 hh5
  obtain ⟨b',e1,e2,_⟩:=h.m4 hh4 hh5
  rw [h1] at e1
  simp only [Value.slice.injEq,Option.some.injEq,Addr.mk.injEq,and_true] at e1
  subst e1
  refine ⟨b,by rw [zq _ _ (by decide)]; exact h1,h2,h3,h4,fun _ _ e=>?_⟩
  rw [zp] at e
  simp [Value.ownBlock] at e
  omega
 ·rw [gq (by decide),zq _ _ (by decide)]; exact hg.m5
theorem rz_2 (h:RZ C B0 L t x f W) (hh0:x[0]? = some true) (hh2:x[2]? = some false) (hh5:x[5]? = some false) (hc:∀ v,C 2 v) {v':Value} (ho:ORow W' B0.heap.size v' L) (hg:W.grownBy W' (f 0).ownBlock):RZ C B0 L t (x.set 2 true) (upd f 2 v') W':=by
 refine ⟨h.bel.grown hg h.bel.size (fun k hk=>((h.m0 hh0 hh2).lt k hk).1),zv h.c (hc _),?_,?_,?_,?_⟩
 ·intro _ e; rw [gqs hh2] at e; cases e
 ·intro _ _; rw [zp]; exact ho
 ·intro hh4 _
  rw [gq (by decide)] at hh4
  obtain ⟨b,h1,h2,h3,h4,h5⟩:=h.m4 hh4 hh5
  refine ⟨b,by rw [zq _ _ (by decide)]; exact h1,Nat.lt_of_lt_of_le h2 hg.size,h3,zu h4 hg h2 (fun e=>h5 hh0 hh2 e.symm),fun _ e=>?_⟩
  rw [gqs hh2] at e; cases e
 ·intro e; rw [gq (by decide),hh5] at e; cases e
theorem rz_4 (h:RZ C B0 L t x f W) (hh4:x[4]? = some false) (hh5:x[5]? = some false) (hc:∀ v,C 4 v):RZ C B0 L t (x.set 4 true) (upd f 4 (.slice (some ⟨W.heap.size,0,none⟩) 1 1)) (W.alloc (Obj.cells t.vs.toArray 78)):=by
 have hg:=rz_grow h ((Below.refl W.heap.size W).alloc (Nat.le_refl _) (Obj.cells t.vs.toArray 78))
 refine ⟨hg.bel,zv hg.c (hc _),?_,?_,?_,?_⟩
 ·rw [gq (by decide),gq (by decide),zq _ _ (by decide)]; exact hg.m0
 ·rw [gq (by decide),gq (by decide),zq _ _ (by decide)]; exact hg.m2
 ·intro _ _
  refine ⟨W.heap.size,zp _ _ _,by rw [ze]; omega,h.bel.size,zh W t.vs _,fun hh0 hh2 e=>?_⟩
  rw [gq (by decide)] at hh0 hh2
  rw [zq _ _ (by decide)] at e
  have:=((h.m0 hh0 hh2).lt _ e).2
  omega
 ·rw [gq (by decide),zq _ _ (by decide)]; exact hg.m5
theorem rz_5 (h:RZ C B0 L t x f W) (hh2:x[2]? = some true) (hh5:x[5]? = some false) (hc:∀ v,C 5 v) {v':Value} (ho:ORow W' B0.heap.size v' (L ++ [t])) (hg:W.grownBy W' (f 2).ownBlock):RZ C B0 L t (x.set 5 true) (upd f 5 v') W':=by
 refine ⟨h.bel.grown hg h.bel.size (fun k hk=>((h.m2 hh2 hh5).lt k hk).1),zv h.c (hc _),?_,?_,?_,?_⟩
 ·intro _ e; rw [gq (by decide)] at e; rw [e] at hh2; cases hh2
 ·intro _ e; rw [gqs hh5] at e; cases e
 ·intro _ e; rw [gqs hh5] at e; cases e
 ·intro _; rw [zp]; exact ho
end
def RZBA (F:(Nat→Value)→Act) (C:Nat→Value→Prop) (B0:World) (L:List Od) (t:Od) (v0:Value) (x:List Bool) (A:Act) (W:World):Prop:=∃ f,A = F f∧RZ C B0 L t x f W∧RAo 5 v0 x f
theorem rz_start {C:Nat→Value→Prop} {B0:World} {L:List Od} {t:Od} {f:Nat→Value} {k:Nat}:RZ C B0 L t (List.replicate k false) f { B0 with drawn:=B0.drawn + 1 }:=by
 have hno:∀ j,(List.replicate k false)[j]? = some true→False:=fun j hj=>by rw [List.getElem?_replicate] at hj; split at hj <;> simp at hj
 exact ⟨⟨rfl,rfl,rfl,Nat.le_refl _,fun _ _=>rfl⟩,fun j hj=>(hno j hj).elim,fun h=>(hno _ h).elim,fun h=>(hno _ h).elim,fun h=>(hno _ h).elim,fun h=>(hno _ h).elim⟩
def CZ (lv tv:Value):Nat→Value→Prop
 | 1,v=>v = lv
 | 3,v=>v = tv
 | _,_=>True
theorem acc_l {c:Cm} {next:Int} {F:List Od × Int × List Ev} (hp:prcB c = true):accL c next F = if 0 < F.2.1∧zaJ c.t = true then F.1 ++ [⟨next,c.s,tkS c.p,F.2.1,c.l,c.g⟩] else F.1:=by
 rw [accL]
 by_cases hr:zaJ c.t = true
 ·have ht:tkOk c.p = true:=by
   rw [prcB,if_neg (by intro e; rw [zaJ,e] at hr; simp at hr)] at hp; exact hp
  rw [tkS_ok ht]
 ·rw [if_neg (fun h=>hr h.2),if_neg (fun h=>hr h.2)]
theorem one_allE (l:List Ev):∀ u ∈ l.flatMap Ev.vs,u.oneCell' = true:=by
 intro u hu
 obtain ⟨e,_,h⟩:=List.mem_flatMap.1 hu
 exact one_ev e u h
set_option maxRecDepth 100000 in
set_option maxHeartbeats 12800000 in
theorem l04Step_r (next:Int) (vb:Value) (l:List Od) (c:Cm) (w:World) (hway:refR next l c ≠ 0) (hr:RdR Od.vs 6 w vb l) (hs:SlOk vb) (hg:GoodL l) (hsd:∀ x ∈ l,x.side = 1 ∨ x.side = 2) (h0:0 ≤ next) (h1:next ≤ 1000000) (ht:c.g.size ≤ maxLen) :
  Calls Tryz.prog 22 #[.agg #[.int .i64 next,vb],cmV c] w fun e w'=>∃ vq vg,e = .returned (.tuple #[.agg #[.int .i64 (stN next l c),vq],vg])∧ORow w' w.heap.size vq (stL next l c)∧ERow w' w.heap.size vg (stE next l c)∧Below w.heap.size w w':=by
 obtain ⟨i0,hi0,hz0,hz1,hz2⟩:=info_parts Tryz.infoOrder
 obtain ⟨j0,hj0,hy0,hy1,hy2⟩:=info_parts infoEv
 have HR:=hide hr
 have HSL:=hide hs
 have HG:=hide hg
 have HTG:=hide ht
 have hlen20:=hg.len
 have HNUM:Hid (0 ≤ next∧next ≤ 1000000):=⟨h0,h1⟩
 have HREA:=hide (fun (W:World) hW=>zaN next vb l c W hW hs hg hsd ht)
 rw [ref_eq] at HREA
 have HK:=hide (@zbG next l c)
 have HQ:=hide (@zbx next l c)
 have HID:=hide (@ref_id next l c)
 have HNS:=hide (@ref_newS next l c)
 have HWAY:=hide hway
 clear hway
 have HSN:Hid (stN next l c = if refR next l c = 0∧c.k = 1 then next + 1 else next):=rfl
 have HSLL:=hide (stL.eq_1 next l c)
 have HSE:=hide (stE.eq_1 next l c)
 have HNO:=hide (fun W=>zaM c W ht)
 have HTA:=hide (fun (a:Option Addr) (n cap:Nat) (W:World)=>zaI next a n cap c W)
 have HMT:=hide (fun (v:Value) (W:World) hr hs hp hq0 hq1=>zaH v l c next W hr hg hs hp hq0 hq1)
 obtain ⟨a,cap,rfl,hrlen,hc⟩:=hr
 obtain ⟨kk,s,ty,li,qt,ii,pr,tg⟩:=c
 generalize stN next l ⟨kk,s,ty,li,qt,ii,pr,tg⟩ = sN at HSN ⊢
 generalize stL next l ⟨kk,s,ty,li,qt,ii,pr,tg⟩ = sL at HSLL ⊢
 generalize stE next l ⟨kk,s,ty,li,qt,ii,pr,tg⟩ = sE at HSE ⊢
 generalize refR next l ⟨kk,s,ty,li,qt,ii,pr,tg⟩ = rr at HREA HSN HSLL HSE HK HQ HID HNS HWAY
 unfold cmV at HREA HTA ⊢
 simp only at HREA HSN HSLL HSE HK HQ HID HNS HNO HTA HMT HTG HWAY ⊢
 have HB:=hide (box3 w [.int .i64 next,.slice a l.length cap] [.int .i64 kk,.int .i64 s,.int .i64 ty,.int .i64 li,.int .i64 qt,.int .i64 ii,.float .f64 pr,.string tg] [.int .i64 0,.slice none 0 0] 46 39 46)
 clear hs hg hsd h0 h1 ht hc hrlen
 go_enter Tryz.func22,Tryz.ntmps22
 refine wp_seq_k fun K hK=>?_
 have HK1:=hide hK
 clear hK
 go_wp2_with fail
 refine za HK1 _ _ ?_
 clear HK1
 change Hid ((((w.alloc (Obj.cells #[.int .i64 next,.slice a l.length cap] 46)).alloc (Obj.cells #[.int .i64 kk,.int .i64 s,.int .i64 ty,.int .i64 li,.int .i64 qt,.int .i64 ii,.float .f64 pr,.string tg] 39)).alloc (Obj.cells #[.int .i64 0,.slice none 0 0] 46)).heap.size = w.heap.size + 3∧World.rangeAt (((w.alloc (Obj.cells #[.int .i64 next,.slice a l.length cap] 46)).alloc (Obj.cells #[.int .i64 kk,.int .i64 s,.int .i64 ty,.int .i64 li,.int .i64 qt,.int .i64 ii,.float .f64 pr,.string tg] 39)).alloc (Obj.cells #[.int .i64 0,.slice none 0 0] 46)) w.heap.size 0 [.int .i64 next,.slice a l.length cap]∧World.rangeAt (((w.alloc (Obj.cells #[.int .i64 next,.slice a l.length cap] 46)).alloc (Obj.cells #[.int .i64 kk,.int .i64 s,.int .i64 ty,.int .i64 li,.int .i64 qt,.int .i64 ii,.float .f64 pr,.string tg] 39)).alloc (Obj.cells #[.int .i64 0,.slice none 0 0] 46)) (w.heap.size + 1) 0 [.int .i64 kk,.int .i64 s,.int .i64 ty,.int .i64 li,.int .i64 qt,.int .i64 ii,.float .f64 pr,.string tg]∧World.rangeAt (((w.alloc (Obj.cells #[.int .i64 next,.slice a l.length cap] 46)).alloc (Obj.cells #[.int .i64 kk,.int .i64 s,.int .i64 ty,.int .i64 li,.int .i64 qt,.int .i64 ii,.float .f64 pr,.string tg] 39)).alloc (Obj.cells #[.int .i64 0,.slice none 0 0] 46)) (w.heap.size + 1 + 1) 0 [.int .i64 0,.slice none 0 0]∧World.there (((w.alloc (Obj.cells #[.int .i64 next,.slice a l.length cap] 46)).alloc (Obj.cells #[.int .i64 kk,.int .i64 s,.int .i64 ty,.int .i64 li,.int .i64 qt,.int .i64 ii,.float .f64 pr,.string tg] 39)).alloc (Obj.cells #[.int .i64 0,.slice none 0 0] 46)) (w.heap.size + 1 + 1) 0 2∧Below w.heap.size w (((w.alloc (Obj.cells #[.int .i64 next,.slice a l.length cap] 46)).alloc (Obj.cells #[.int .i64 kk,.int .i64 s,.int .i64 ty,.int .i64 li,.int .i64 qt,.int .i64 ii,.float .f64 pr,.string tg] 39)).alloc (Obj.cells #[.int .i64 0,.slice none 0 0] 46))) at HB
 generalize (((w.alloc (Obj.cells #[.int .i64 next,.slice a l.length cap] 46)).alloc (Obj.cells #[.int .i64 kk,.int .i64 s,.int .i64 ty,.int .i64 li,.int .i64 qt,.int .i64 ii,.float .f64 pr,.string tg] 39)).alloc (Obj.cells #[.int .i64 0,.slice none 0 0] 46)) = X at HB ⊢
 have HCELL:Hid (∀ W:World,Below X.heap.size X W→W.cell? ⟨w.heap.size,0,none⟩ = some (.int .i64 next)∧W.cell? ⟨w.heap.size,1,none⟩ = some (.slice a l.length cap)∧W.cell? ⟨w.heap.size + 1,0,none⟩ = some (.int .i64 kk)∧W.cell? ⟨w.heap.size + 1,1,none⟩ = some (.int .i64 s)∧W.cell? ⟨w.heap.size + 1,2,none⟩ = some (.int .i64 ty)∧W.cell? ⟨w.heap.size + 1,3,none⟩ = some (.int .i64 li)∧W.cell? ⟨w.heap.size + 1,4,none⟩ = some (.int .i64 qt)∧W.cell? ⟨w.heap.size + 1,5,none⟩ = some (.int .i64 ii)∧W.cell? ⟨w.heap.size + 1,6,none⟩ = some (.float .f64 pr)∧W.cell? ⟨w.heap.size + 1,7,none⟩ = some (.string tg)):=fun W hW =>
  have p:=zb (za HB).2.1 hW (by have:=(za HB).1; omega)
  have q:=zb (za HB).2.2.1 hW (by have:=(za HB).1; omega)
  ⟨p 0 _ rfl,p 1 _ rfl,q 0 _ rfl,q 1 _ rfl,q 2 _ rfl,q 3 _ rfl,q 4 _ rfl,q 5 _ rfl,q 6 _ rfl,q 7 _ rfl⟩
 have hRX:w.heap.size + 1 + 1 < X.heap.size:=by have:=(za HB).1; omega
 refine wp_seq_k fun K hK=>?_
 have HT:∀ (a6:Option Addr) (c6:Nat) (w1:World),ORow w1 X.heap.size (.slice a6 l.length c6) l→Below X.heap.size X w1→K { tmps:=#[.agg #[.int .i64 next,.slice a l.length cap],.agg #[.int .i64 kk,.int .i64 s,.int .i64 ty,.int .i64 li,.int .i64 qt,.int .i64 ii,.float .f64 pr,.string tg],.pointer (some ⟨w.heap.size,0,none⟩),.pointer (some ⟨w.heap.size + 1,0,none⟩),.pointer (some ⟨w.heap.size + 1 + 1,0,none⟩),.slice none 0 0,.slice a6 l.length c6,undef,undef,undef,undef,undef,undef,undef,undef,undef,undef,undef,.slice (some ⟨X.heap.size,0,none⟩) 0 0,.pointer (some ⟨w.heap.size,1,none⟩),.slice a l.length cap,.slice a6 l.length c6,undef,undef,undef,undef,undef,undef,undef,undef,undef,undef,undef,undef,undef,undef,undef,undef,undef,undef,undef,undef,undef,undef,undef,undef,undef,undef,undef,undef,undef,undef,undef,undef,undef,undef,undef,undef,undef,undef,undef,undef,undef,undef,undef,undef,undef,undef,undef,undef,undef,undef,undef,undef,undef,undef,undef,undef,undef,undef,undef,undef,undef,undef,undef,undef,undef,undef,undef,undef,undef,undef,undef,undef,undef,undef,undef,undef,undef,undef,undef,undef,undef,undef,undef,undef,undef,undef,undef,undef,undef,undef,undef,undef,undef,undef,undef,undef,undef,undef,undef,undef,undef,undef,undef,undef,undef,undef,undef,undef,undef,undef,undef,undef,undef,undef,undef,undef,undef,undef,undef,undef,undef,undef,undef,undef,undef,undef,undef,undef,undef,undef,undef,undef,undef,undef,undef,undef,undef,undef,undef,undef,undef,undef,undef,undef,undef,undef,undef,undef,undef],defers:=[] } w1:=by
  intro a6 c6 w1 ho1 hb1
  refine hK _ _ ?_
  clear hK
  have HO1:=hide ho1
  have HB1:=hide hb1
  clear ho1 hb1
  obtain ⟨z0,z1,y0,y1,y2,y3,y4,y5,y6,y7⟩:=za HCELL w1 (za HB1)
  refine wp_seq_k fun K hK=>?_
  have HK1:=hide hK
  clear hK
  go_wp2_with fail
  refine (za HREA w1 (zl (za HR) ((za HB).2.2.2.2.2.trans ((za HB1).mono (za HB).2.2.2.2.2.size)) (Nat.le_refl _))).mono ?_
  rintro e w2 ⟨rfl,hb2⟩
  have HO2:=hide (zk (za HO1) hb2)
  have HB2:=hide ((za HB1).trans (hb2.mono (za HB1).size))
  clear z0 z1 y0 y1 y2 y3 y4 y5 y6 y7 hb2 HO1
  obtain ⟨z0,z1,y0,y1,y2,y3,y4,y5,y6,y7⟩:=za HCELL w2 (za HB2)
  have HTR:=hide (zf (za HB).2.2.2.2.1 (za HB2) hRX)
  have hRb:w.heap.size + 1 + 1 < w2.heap.size:=Nat.lt_of_lt_of_le hRX (za HB2).size
  have HBW:=hide ((za HB).2.2.2.2.2.trans ((za HB2).mono (za HB).2.2.2.2.2.size))
  have hXw:w.heap.size ≤ X.heap.size:=by omega
  have hX2:X.heap.size ≤ w2.heap.size:=(za HB2).size
  have hXb:=hX2
  by_cases hrr:rr = 0
  ·subst hrr
   have hkk:=za HK rfl
   rcases hkk with rfl | rfl | rfl | rfl
   ·exact absurd rfl (za HWAY)
   ·exact absurd rfl (za HWAY)
   ·exact absurd rfl (za HWAY)
   ·exact absurd rfl (za HWAY)
  ·have hrr0:=hrr
   have hrb:(rr == 0) = false:=by rw [beq_eq_false_iff_ne]; exact hrr
   have HST:Hid (sN = next∧sL = l∧sE = [⟨2,⟨kk,s,ty,li,qt,ii,pr,cutB tg⟩,0,0,0,0,rr⟩]):=⟨by rw [za HSN,if_neg (fun h=>hrr h.1)],by rw [za HSLL,if_neg hrr],by rw [za HSE,if_neg hrr]⟩
   clear hrr hrr0 HSN HSLL HSE HQ HID HK HNS HTA HMT HWAY
   have HZ0:=hide z0
   have HZ1:=hide z1
   have HY0:=hide y0
   have HY1:=hide y1
   have HY2:=hide y2
   have HY3:=hide y3
   have HY4:=hide y4
   have HY5:=hide y5
   have HY6:=hide y6
   have HY7:=hide y7
   have hRS:w.heap.size + 1 + 1 < X.heap.size:=hRX
   go_wp2_with fail
   clear z0 z1 y0 y1 y2 y3 y4 y5 y6 y7
   refine zo (RXA (fun f=>{ tmps:=#[.agg #[.int .i64 next,.slice a l.length cap],.agg #[.int .i64 kk,.int .i64 s,.int .i64 ty,.int .i64 li,.int .i64 qt,.int .i64 ii,.float .f64 pr,.string tg],.pointer (some ⟨w.heap.size,0,none⟩),.pointer (some ⟨w.heap.size + 1,0,none⟩),.pointer (some ⟨w.heap.size + 1 + 1,0,none⟩),f 10,.slice a6 l.length c6,.int .i64 rr,undef,undef,undef,undef,undef,undef,undef,undef,undef,undef,.slice (some ⟨X.heap.size,0,none⟩) 0 0,.pointer (some ⟨w.heap.size,1,none⟩),.slice a l.length cap,.slice a6 l.length c6,.agg #[.int .i64 next,.slice a l.length cap],.agg #[.int .i64 kk,.int .i64 s,.int .i64 ty,.int .i64 li,.int .i64 qt,.int .i64 ii,.float .f64 pr,.string tg],.int .i64 rr,.int .i64 rr,.bool (rr != 0),f 0,f 1,f 2,f 3,f 4,f 5,f 6,f 7,f 8,undef,undef,undef,undef,undef,undef,undef,undef,undef,undef,undef,undef,undef,undef,undef,undef,undef,undef,undef,undef,undef,undef,undef,undef,undef,undef,undef,undef,undef,undef,undef,undef,undef,undef,undef,undef,undef,undef,undef,undef,undef,undef,undef,undef,undef,undef,undef,undef,undef,undef,undef,undef,undef,undef,undef,undef,undef,undef,undef,undef,undef,undef,undef,undef,undef,undef,undef,undef,undef,undef,undef,undef,undef,undef,undef,undef,undef,undef,undef,undef,undef,undef,undef,undef,undef,undef,undef,undef,undef,undef,undef,undef,undef,undef,undef,undef,undef,undef,undef,undef,undef,undef,undef,undef,undef,undef,undef,undef,undef,undef,undef,undef,undef,undef,undef,undef,undef,undef,undef,undef,undef,undef,undef,undef,undef,undef,undef,undef,undef,undef,undef,undef,undef,undef,undef],defers:=[] }) (CX [.pointer (some ⟨w.heap.size,0,none⟩),.int .i64 next,.slice a6 l.length c6,.agg #[.int .i64 next,.slice a6 l.length c6],.agg #[.int .i64 kk,.int .i64 s,.int .i64 ty,.int .i64 li,.int .i64 qt,.int .i64 ii,.float .f64 pr,.string tg],.agg #[.int .i64 kk,.int .i64 s,.int .i64 ty,.int .i64 li,.int .i64 qt,.int .i64 ii,.float .f64 pr,.string (cutB tg)],.int .i64 rr,.agg #[.int .i64 2,.int .i64 kk,.int .i64 s,.int .i64 ty,.int .i64 li,.int .i64 qt,.int .i64 ii,.float .f64 pr,.string (cutB tg),.int .i64 0,.int .i64 0,.int .i64 0,.int .i64 0,.int .i64 rr],undef,undef,undef] [(8,2),(9,9),(10,2)] (X.heap.size) (next) (l) ([⟨2,⟨kk,s,ty,li,qt,ii,pr,cutB tg⟩,0,0,0,0,rr⟩])) (w.heap.size + 1 + 1) 2 9 (fun f=>aggL (f 3)) w2) (by kernel_rfl) ?_ ?_ ?_
   ·exact ⟨fun j=>if j = 10 then .slice none 0 0 else undef,rfl,rx_start hRb (za HTR)⟩
   rotate_left
   ·rintro x A V i op ⟨f,rfl,hR⟩ hcl hx ho hxi hall
    have HRR:=hide hR
    have cellV:∀ (p:Addr) u,w2.cell? p = some u→p.block ≠ w.heap.size + 1 + 1→V.cell? p = some u:=fun p u hu hp=>kb_cell hR.k hu hp
    match i,ho with
    | 0,ho =>
     obtain rfl:=Option.some.inj ho
     clear hall hR cellV hcl
     rw [if_pos (by rfl)]
     unfold Oper.wp
     go_simp
     exact ⟨upd f 0 (.pointer (some ⟨w.heap.size,0,none⟩)),by simp [upd],zae (za HRR) 0 _ (by decide) (fun _=>rfl) (zT rfl rfl)⟩
    | 1,ho =>
     obtain rfl:=Option.some.inj ho
     have g0:f 0 = .pointer (some ⟨w.heap.size,0,none⟩):=zQ (hR.c 0 (hall ⟨0,.data⟩ (by simp) rfl)) rfl rfl
     have z0:=cellV ⟨w.heap.size,0,none⟩ _ (za HZ0) (show w.heap.size ≠ w.heap.size + 1 + 1 by omega)
     clear hall hR cellV hcl
     rw [if_pos (by rfl)]
     unfold Oper.wp
     go_simp
     exact ⟨upd f 1 (.int .i64 next),by simp [upd,g0],zae (za HRR) 1 _ (by decide) (fun _=>rfl) (zT rfl rfl)⟩
    | 2,ho =>
     obtain rfl:=Option.some.inj ho
     clear hall hR cellV hcl
     rw [if_pos (by rfl)]
     unfold Oper.wp
     go_simp
     exact ⟨upd f 2 (.slice a6 l.length c6),by simp [upd],zae (za HRR) 2 _ (by decide) (fun _=>rfl) (zT rfl rfl)⟩
    | 3,ho =>
     obtain rfl:=Option.some.inj ho
     have g1:f 1 = .int .i64 next:=zQ (hR.c 1 (hall ⟨1,.data⟩ (by simp) rfl)) rfl rfl
     have g2:f 2 = .slice a6 l.length c6:=zQ (hR.c 2 (hall ⟨2,.data⟩ (by simp) rfl)) rfl rfl
     have hcl0:=hcl
     clear hall hR cellV hcl
     rw [if_pos (by rfl)]
     unfold Oper.wp
     go_simp
     exact ⟨upd f 3 (.agg #[.int .i64 next,.slice a6 l.length c6]),by simp [upd,g1,g2],zae (za HRR) 3 _ (by decide) (fun h=>by rw [zx hcl0 12 3 9 (by kernel_rfl) hx (by simp) hxi] at h; cases h) (zT rfl rfl)⟩
    | 4,ho =>
     obtain rfl:=Option.some.inj ho
     have y0:=cellV ⟨w.heap.size + 1,0,none⟩ _ (za HY0) (show w.heap.size + 1 ≠ w.heap.size + 1 + 1 by omega)
     have y1:=cellV ⟨w.heap.size + 1,1,none⟩ _ (za HY1) (show w.heap.size + 1 ≠ w.heap.size + 1 + 1 by omega)
     have y2:=cellV ⟨w.heap.size + 1,2,none⟩ _ (za HY2) (show w.heap.size + 1 ≠ w.heap.size + 1 + 1 by omega)
     have y3:=cellV ⟨w.heap.size + 1,3,none⟩ _ (za HY3) (show w.heap.size + 1 ≠ w.heap.size + 1 + 1 by omega)
     have y4:=cellV ⟨w.heap.size + 1,4,none⟩ _ (za HY4) (show w.heap.size + 1 ≠ w.heap.size + 1 + 1 by omega)
     have y5:=cellV ⟨w.heap.size + 1,5,none⟩ _ (za HY5) (show w.heap.size + 1 ≠ w.heap.size + 1 + 1 by omega)
     have y6:=cellV ⟨w.heap.size + 1,6,none⟩ _ (za HY6) (show w.heap.size + 1 ≠ w.heap.size + 1 + 1 by omega)
     have y7:=cellV ⟨w.heap.size + 1,7,none⟩ _ (za HY7) (show w.heap.size + 1 ≠ w.heap.size + 1 + 1 by omega)
     clear hall hR cellV hcl
     rw [if_pos (by rfl)]
     unfold Oper.wp
     go_simp
     exact ⟨upd f 4 (.agg #[.int .i64 kk,.int .i64 s,.int .i64 ty,.int .i64 li,.int .i64 qt,.int .i64 ii,.float .f64 pr,.string tg]),by simp [upd],zae (za HRR) 4 _ (by decide) (fun _=>rfl) (zT rfl rfl)⟩
    | 5,ho =>
     obtain rfl:=Option.some.inj ho
     have g4:f 4 = .agg #[.int .i64 kk,.int .i64 s,.int .i64 ty,.int .i64 li,.int .i64 qt,.int .i64 ii,.float .f64 pr,.string tg]:=zQ (hR.c 4 (hall ⟨4,.data⟩ (by simp) rfl)) rfl rfl
     clear hall hR hcl cellV
     rw [if_pos (by rfl)]
     unfold Oper.wp
     go_simp
     refine (za HNO V).mono ?_
     rintro e w4 ⟨rfl,hb4⟩
     exact ⟨upd f 5 (.agg #[.int .i64 kk,.int .i64 s,.int .i64 ty,.int .i64 li,.int .i64 qt,.int .i64 ii,.float .f64 pr,.string (cutB tg)]),by simp [upd,g4],zae (rx_grow (zbS hRS) (za HRR) hb4) 5 _ (by decide) (fun _=>rfl) (zT rfl rfl)⟩
    | 6,ho =>
     obtain rfl:=Option.some.inj ho
     clear hall hR cellV hcl
     rw [if_pos (by rfl)]
     unfold Oper.wp
     go_simp
     exact ⟨upd f 6 (.int .i64 rr),by simp [upd],zae (za HRR) 6 _ (by decide) (fun _=>rfl) (zT rfl rfl)⟩
    | 7,ho =>
     obtain rfl:=Option.some.inj ho
     have g5:f 5 = .agg #[.int .i64 kk,.int .i64 s,.int .i64 ty,.int .i64 li,.int .i64 qt,.int .i64 ii,.float .f64 pr,.string (cutB tg)]:=zQ (hR.c 5 (hall ⟨5,.data⟩ (by simp) rfl)) rfl rfl
     have g6:f 6 = .int .i64 rr:=zQ (hR.c 6 (hall ⟨6,.data⟩ (by simp) rfl)) rfl rfl
     clear hall hR cellV hcl
     rw [if_pos (by rfl)]
     unfold Oper.wp
     go_simp
     exact ⟨upd f 7 (.agg #[.int .i64 2,.int .i64 kk,.int .i64 s,.int .i64 ty,.int .i64 li,.int .i64 qt,.int .i64 ii,.float .f64 pr,.string (cutB tg),.int .i64 0,.int .i64 0,.int .i64 0,.int .i64 0,.int .i64 rr]),by simp [upd,g5,g6],zae (za HRR) 7 _ (by decide) (fun _=>rfl) (zT rfl rfl)⟩
    | 8,ho =>
     obtain rfl:=Option.some.inj ho
     have g7:f 7 = .agg #[.int .i64 2,.int .i64 kk,.int .i64 s,.int .i64 ty,.int .i64 li,.int .i64 qt,.int .i64 ii,.float .f64 pr,.string (cutB tg),.int .i64 0,.int .i64 0,.int .i64 0,.int .i64 0,.int .i64 rr]:=zQ (hR.c 7 (hall ⟨7,.data⟩ (by simp) rfl)) rfl rfl
     have hszV:=Nat.le_trans hXb hR.k.size
     clear hall hR cellV hcl
     rw [if_pos (by rfl)]
     unfold Oper.wp
     go_simp
     exact ⟨upd f 8 (.slice (some ⟨V.heap.size,0,none⟩) 1 1),by simp [upd,g7],zae (rx_grow (zbS hRS) (za HRR) ((Below.refl _ _).alloc (Nat.le_refl _) _)) 8 _ (by decide) (fun _=>rfl) (zbQ (d:=2) rfl ⟨eRow_one V ⟨2,⟨kk,s,ty,li,qt,ii,pr,cutB tg⟩,0,0,0,0,rr⟩ hszV,_,_,rfl⟩)⟩
    | 9,ho =>
     obtain rfl:=Option.some.inj ho
     have g0:f 3 = .agg #[.int .i64 next,.slice a6 l.length c6]:=zQ (hR.c 3 (hall ⟨3,.data⟩ (by simp) rfl)) rfl rfl
     obtain ⟨y0,z0,q0⟩:=zc hR.t (j:=0) (by omega)
     obtain ⟨y1,z1,q1⟩:=zc hR.t (j:=1) (by omega)
     clear hall hR cellV hcl
     rw [if_pos (by rfl)]
     unfold Oper.wp
     go_simp
     have hst:=rx_store (zbS hRS) (za HRR) hxi (by simp [g0,aggL]) (fun _ _=>zbQ (d:=9) rfl trivial)
     simp only [g0,aggL] at hst
     exact ⟨f,by simp [g0],hst⟩
    | 10,ho =>
     obtain rfl:=Option.some.inj ho
     have h8:=cx_sp (d:=2) (hR.c 8 (hall ⟨8,.data⟩ (by simp) rfl)) rfl
     obtain ⟨a8,c8,g8⟩:=h8.2
     rw [g8] at h8
     have H8:=hide h8
     clear h8
     clear hall hR cellV hcl
     rw [if_pos (by rfl)]
     unfold Oper.wp
     go_simp
     exact ⟨upd f 10 (f 8),by simp [upd,g8],zae (za HRR) 10 _ (by decide) (fun _=>rfl) (zbQ (d:=2) rfl (by rw [g8]; exact za H8))⟩
    | n + 11,ho=>simp at ho
   ·rintro x A V ⟨f,rfl,hR⟩ hx hrd
    have hallx:=zac hrd hx (by kernel_rfl)
    obtain ⟨hE8,a8,c8,e8⟩:=cx_sp (d:=2) (hR.c 10 (hallx 10 (by simp))) rfl
    have hres:=hR.r (hallx 9 (by simp))
    obtain ⟨v4,hv4,ho4⟩:∃ v4,v4 = .slice a6 l.length c6∧ORow V X.heap.size v4 l:=⟨_,rfl,kb_row (za HO2) hR.k hRS⟩
    have g3:f 3 = .agg #[.int .i64 next,.slice a6 l.length c6]:=zQ (hR.c 3 (hallx 3 (by simp))) rfl rfl
    simp only [g3,aggL] at hres
    rw [← hv4] at hres
    clear g3
    have HO:Hid (ORow V w.heap.size v4 _∧ERow V w.heap.size (.slice a8 _ c8) _):=⟨zH ho4 (by omega),zH (e8 ▸ hE8) (by omega)⟩
    have HBV:Hid (Below w.heap.size w V):=⟨hR.k.os.trans (za HBW).os,hR.k.tape.trans (za HBW).tape,hR.k.output.trans (za HBW).output,Nat.le_trans (za HBW).size hR.k.size,fun k hk=>(hR.k.block k (Nat.lt_of_lt_of_le hk (za HBW).size) (by omega)).trans ((za HBW).block k hk)⟩
    have d0:V.cell? ⟨w.heap.size + 1 + 1,0,none⟩ = some (.int .i64 next):=hres 0 _ rfl
    have d1:V.cell? ⟨w.heap.size + 1 + 1,1,none⟩ = some v4:=hres 1 _ rfl
    simp only [e8]
    generalize f 0 = w0
    generalize f 1 = w1
    generalize f 2 = w2
    generalize f 3 = w3
    generalize f 4 = w4
    generalize f 5 = w5
    generalize f 6 = w6
    generalize f 7 = w7
    generalize f 8 = w8
    clear hR hallx hrd hx hres hE8 ho4
    go_wp2_with fail
    try simp only [Exit.inBlock,Exit.then]
    refine bodyPost_ret (by simp [results,Tryz.results22,go_sem,d0,d1]; try rfl) rfl ?_
    obtain ⟨rfl,rfl,rfl⟩:=za HST
    exact ⟨_,_,rfl,(za HO).1,(za HO).2,za HBV⟩
 rcases za HSL with hs | ⟨ad,nn,cc,hs⟩
 ·simp only [Value.slice.injEq] at hs
  obtain ⟨rfl,hl0,rfl⟩:=hs
  obtain rfl:=List.length_eq_zero_iff.1 hl0
  obtain ⟨z0,z1,y0,y1,y2,y3,y4,y5,y6,y7⟩:=za HCELL X (Below.refl _ _)
  have HO0:=hide (World.ownsRow_made (base:=X.heap.size) (e:=78) (size:=6) X #[] 0 (Nat.le_refl _) (by decide) rfl)
  have hzX:World.cell? (X.alloc (Obj.cells #[] 78)) ⟨w.heap.size,1,none⟩ = some (.slice none 0 0):=(za HCELL _ ((Below.refl _ _).alloc (Nat.le_refl _) _)).2.1
  have HT':=hide HT
  clear HT hK
  go_wp2_with (at_builtin; go_must (refine wpList_append_own_none rfl _ _ 44 rfl X.heap.size 78 i0 6 Tryz.underlying44 hi0 (.slice (some ⟨X.heap.size,0,none⟩) 0 0) 0 [] rfl (za HO0) rfl ?_))
  exact za HT' _ _ _ (za HO0) ((Below.refl _ _).alloc (Nat.le_refl _) _)
 ·simp only [Value.slice.injEq] at hs
  obtain ⟨rfl,rfl,rfl⟩:=hs
  obtain ⟨z0,z1,y0,y1,y2,y3,y4,y5,y6,y7⟩:=za HCELL X (Below.refl _ _)
  have HBX0:Hid (Below X.heap.size X (X.alloc (Obj.cells #[] 78))):=(Below.refl _ _).alloc (Nat.le_refl _) _
  have HO0:=hide (World.ownsRow_made (base:=X.heap.size) (e:=78) (size:=6) X #[] 0 (Nat.le_refl _) (by decide) rfl)
  have hzX:World.cell? (X.alloc (Obj.cells #[] 78)) ⟨w.heap.size,1,none⟩ = some (.slice (some ad) l.length cap):=(za HCELL _ (za HBX0)).2.1
  have HSRC:Hid (∀ j u,(l.flatMap Od.vs)[j]? = some u→World.cell? (X.alloc (Obj.cells #[] 78)) (ad.add j) = some u):=rd_src (zl (za HR) ((za HB).2.2.2.2.2.trans ((za HBX0).mono (za HB).2.2.2.2.2.size)) (Nat.le_refl _))
  have HT':=hide HT
  clear HT hK
  go_wp2_with (at_builtin; go_must (refine wpList_append_own _ rfl _ _ 44 rfl X.heap.size 78 i0 _ 6 56 Tryz.underlying44 hi0 hz0 hz1 hz2 rfl (by decide) (.slice (some ⟨X.heap.size,0,none⟩) 0 0) 0 [] rfl (za HO0) ad l.length cap (l.flatMap Od.vs) rfl (by rw [zJ Od.len]) (za HSRC) (zaF l) (by unfold maxLen; omega) (by omega) (za HBX0).size ?_); intro v1 w1 hown1 hg1 _; have HO1:=hide hown1; have HG1:=hide hg1; clear hown1 hg1)
  have HOO:Hid (ORow w1 X.heap.size v1 l):=by
   show w1.ownsRow _ _ _ _ l.length _
   simpa using za HO1
  obtain ⟨a6,c6,hv⟩:=zV (za HOO)
  subst hv
  exact za HT' _ _ _ (za HOO) ((za HBX0).grown (za HG1) (za HBX0).size (fun k hk=>((za HO0).lt k hk).1))
end Go.Proofs.YtopjoogdpjaocaaGreat
