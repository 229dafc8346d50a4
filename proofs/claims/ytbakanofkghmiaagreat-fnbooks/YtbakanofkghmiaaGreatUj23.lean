/-
  A command drawn out of the source: proved by walking the method.
-/
import Derived.Test.YtbakanofkghmiaaGreatUj22
set_option linter.unusedVariables false
set_option maxHeartbeats 6400000
set_option maxRecDepth 100000
namespace Go.Proofs.YtbakanofkghmiaaGreat
open Go.RowKit
def BSd (B:Nat) (W0:World) (v:Value) (l:List Int) (m0:Int) (n:Nat) (W:World):Prop:=∃ m',m' ≤ m0 + 3 * (n:Int)∧aA B W0 v l m' W
theorem cn {B:Nat} {W0 W:World} {v:Value} {l:List Int} {m0:Int} {n:Nat} (h:BSd B W0 v l m0 n W):BSd B W0 v l m0 (n + 1) W:=by
 obtain ⟨m',G,D⟩:=h
 exact ⟨m',by omega,D⟩
theorem bsd_call {B:Nat} {W0 W W':World} {v:Value} {l:List Int} {m0 m':Int} {n:Nat} (G:m' ≤ m0 + 3 * (n:Int)) (D:aA B W0 v l m' W) (h:aA B W v l (m' + 3) W'):BSd B W0 v l m0 (n + 1) W' :=
 ⟨m' + 3,by omega,h.1,aP D.2 h.2⟩
theorem bsd_alloc {B:Nat} {W0 W:World} {v:Value} {l:List Int} {m0:Int} {n:Nat} (h:BSd B W0 v l m0 n W) (o:Obj):BSd B W0 v l m0 (n + 1) (W.alloc o):=by
 obtain ⟨m',G,D⟩:=h
 exact ⟨m',by omega,ch D o⟩
structure DrP (B pt:Nat) (w:World) (v:Value) (l:List Int) (m:Int) (c:Cm) (V:World):Prop where
 dc:DrC B w.heap.size w v l m V
 r:V.rangeAt pt 0 c.vs
 t:V.there pt 0 8
 lt:pt < V.heap.size
theorem drP_more {B pt:Nat} {w V:World} {v:Value} {l:List Int} {m m':Int} {c:Cm} (h:DrP B pt w v l m c V) (hm:m ≤ m'):DrP B pt w v l m' c V :=
 ⟨⟨⟨bp h.dc.e.1 hm,h.dc.e.2⟩,h.dc.t⟩,h.r,h.t,h.lt⟩
theorem drP_step {B pt:Nat} {w V V':World} {v:Value} {l:List Int} {m m':Int} {c:Cm} (h:DrP B pt w v l m c V) (hB:B < w.heap.size) (hp:w.heap.size < pt) (hE:aA B V v l m' V'):DrP B pt w v l m' c V' :=
 ⟨bm h.dc hB hE (by have:=h.lt; omega),zu h.r hE.2 h.lt (fun e=>by have:=Option.some.inj e; omega),bw h.t hE.2 h.lt (fun e=>by have:=Option.some.inj e; omega),yH h.lt hE.2.size⟩
theorem drP_set {B pt:Nat} {w V:World} {v:Value} {l:List Int} {m:Int} {c c':Cm} (h:DrP B pt w v l m c V) (hv:l ≠ []→∃ k,v.ownBlock = some k∧k < w.heap.size) (hB:B < w.heap.size) (hp:w.heap.size < pt) (j:Nat) (u:Value) (K:j < 8) (hc:c.vs.set j u = c'.vs):DrP B pt w v l m c' (V.setCell (J pt j) u):=by
 refine ⟨⟨cM (b:=pt) (o:=j) hv h.dc.e hB (by omega) [u],yZ (vs:=[u]) h.dc.t pt j⟩,?_,yZ (vs:=[u]) h.t pt j,yH h.lt (gr_setsD pt [u] j V).size⟩
 have:=eh (v:=u) h.r (j0:=j) K
 rwa [Nat.zero_add,hc] at this
def tys8:List Value:=[H 1,H 1,H 1,H 2,H 3,H 4,H 5,H 5]
def tag3:List ByteArray:=[⟨#[]⟩,⟨#[97]⟩,⟨#[100,101,115,107,32,55]⟩]
theorem tag3_len:∀ s ∈ tag3,s.size ≤ 20:=by decide +kernel
def D10 (B S0:Nat) (Fin:Nat→World→Prop) (p:Prop) (W:World):Nat→Value→Prop
 | 0,v=>v = I B 0
 | 1,v=>∃ y:Int,v = H y
 | 2,v=>∃ y:Int,v = H y
 | 3,v=>∃ g,v = .slice (some (J g 0)) 8 8∧S0 ≤ g∧(¬ p→W.rangeAt g 0 tys8)
 | 4,v=>v = I B 0
 | 5,v=>∃ k:Nat,v = H k∧k < 8
 | 6,v=>∃ g k,v = I g k∧k < 8∧S0 ≤ g∧(¬ p→W.rangeAt g 0 tys8)
 | 7,v=>∃ y:Int,v = H y
 | 8,v=>v = I B 0
 | 9,v=>∃ y:Int,v = H y
 | 10,v=>∃ y:Int,v = H y
 | 11,v=>v = I B 0
 | 12,v=>∃ g,v = .slice (some (J g 0)) 3 3∧S0 ≤ g∧(¬ p→W.rangeAt g 0 (tag3.map .string))
 | 13,v=>∃ s,v = yj s∧s.size ≤ 20
 | 14,v=>∃ c:Cm,v = .agg c.vs.toArray∧DrOk c
 | 15,v=>∃ pt,v = I pt 0∧S0 ≤ pt∧(¬ p→pt < W.heap.size∧W.there pt 0 8)∧(p→Fin pt W)
 | _,_=>True
theorem cX {B S0:Nat} {Fin:Nat→World→Prop} {p:Prop} {W W':World} (hp:¬ p) (hB:B < S0) (hg:W.grownBy W' (some B)):∀ j v,D10 B S0 Fin p W j v→D10 B S0 Fin p W' j v:=by
 have e:∀ g (vs:List Value) (u:Value),S0 ≤ g→W.rangeAt g 0 (u :: vs)→W'.rangeAt g 0 (u :: vs):=fun g vs u h G=>zu G hg (yI W _ (G 0 _ rfl)) (fun e=>by have:=Option.some.inj e; omega)
 intro j v h
 match j with
 | 3=>obtain ⟨g,G,D,h3⟩:=h; exact ⟨g,G,D,fun q=>e g _ _ D (h3 q)⟩
 | 6=>obtain ⟨g,k,G,D,h3,h4⟩:=h; exact ⟨g,k,G,D,h3,fun q=>e g _ _ h3 (h4 q)⟩
 | 12=>obtain ⟨g,G,D,h3⟩:=h; exact ⟨g,G,D,fun q=>e g _ _ D (h3 q)⟩
 | 15=>obtain ⟨pt,G,D,h3,h4⟩:=h; exact ⟨pt,G,D,fun q=>⟨yH (h3 q).1 hg.size,bw (h3 q).2 hg (h3 q).1 (fun e=>by have:=Option.some.inj e; omega)⟩,fun q=>absurd q hp⟩
 | 0 | 1 | 2 | 4 | 5 | 7 | 8 | 9 | 10 | 11 | 13 | 14=>exact h
 | j + 16=>trivial
theorem tys8_at {W:World} {g k:Nat} (h:W.rangeAt g 0 tys8) (hk:k < 8):∃ y:Int,W.cell? (J g k) = some (H y):=by
 rcases (by omega:k = 0 ∨ k = 1 ∨ k = 2 ∨ k = 3 ∨ k = 4 ∨ k = 5 ∨ k = 6 ∨ k = 7) with rfl | rfl | rfl | rfl | rfl | rfl | rfl | rfl
 all_goals first | exact ⟨_,h 0 _ rfl⟩ | exact ⟨_,h 1 _ rfl⟩ | exact ⟨_,h 2 _ rfl⟩ | exact ⟨_,h 3 _ rfl⟩ | exact ⟨_,h 4 _ rfl⟩ | exact ⟨_,h 5 _ rfl⟩ | exact ⟨_,h 6 _ rfl⟩ | exact ⟨_,h 7 _ rfl⟩
theorem cmd_drawn (B:Nat) (v:Value) (l:List Int) (m ids:Int) (w:World) (h:Src B w v l m) (hm:m ≤ 700000000) (uE:0 ≤ ids) (oU:ids ≤ 1000) :
  Calls Tryz.prog 61 #[I B 0,H ids] w fun e w'=>∃ c:Cm,e = yl (.agg c.vs.toArray)∧DrOk c∧aA B w v l (m + 100) w':=by
 have HV:=Y (src_far h)
 have hB:=src_lt h
 have oq:Hid (DrC B w.heap.size w v l m (w.alloc (N (yv 0 0 0 0 0 0 0 ⟨#[]⟩).toArray 43))):=⟨ch (bL h) _,(bM w (yv 0 0 0 0 0 0 0 ⟨#[]⟩) 43).t⟩
 have hs0:w.heap.size < (w.alloc (N (yv 0 0 0 0 0 0 0 ⟨#[]⟩).toArray 43)).heap.size:=by simp
 clear h
 go_enter Tryz.func61,Tryz.ntmps61
 go_wp2_with fail
 generalize (w.alloc (N (yv 0 0 0 0 0 0 0 ⟨#[]⟩).toArray 43)) = W0 at oq hs0 ⊢
 refine (aQ B v l m 12 W0 (U oq).e.1 (by omega) (by omega) (by omega)).mono ?_
 rintro e W1 ⟨y,rfl,jI,kX,hE⟩
 have qY:=Y (bm (U oq) hB hE hs0)
 have xz:w.heap.size < W1.heap.size:=yH hs0 hE.2.size
 clear hE oq hs0
 by_cases e0:y = 0
 ·subst e0
  go_wp2_with fail
  refine (rawCmd_drawn B v l (m + 3) W1 (U qY).e.1 (by omega)).mono ?_
  rintro e W2 ⟨⟨y1,y2,y3,y4,y5,y6,y7,y8⟩,rfl,hy8,hE⟩
  have pe:=Y (bm (U qY) hB hE xz)
  clear hE qY xz
  unfold Cm.vs
  simp only
  have jG:=Y (U pe).t
  have uH:Hid ((W2.setCells w.heap.size 0 (yv y1 y2 y3 y4 y5 y6 y7 y8)).rangeAt w.heap.size 0 (yv y1 y2 y3 y4 y5 y6 y7 y8)):=yV _ _ _ _ (U pe).t
  have qD:Hid (aA B w v l (m + 3 + 30) (W2.setCells w.heap.size 0 (yv y1 y2 y3 y4 y5 y6 y7 y8))):=cM (U HV) (U pe).e hB hb _
  try dsimp only
  rename_i K1 py K2 qP
  refine qP _ _ ?_
  have xq:=Y py
  clear py qP
  refine wpList_store_mid rfl 43 (.tmp 4) (.tmp 11) rfl w.heap.size 0 (yv y1 y2 y3 y4 y5 y6 y7 y8).toArray rfl rfl (U jG) (by kernel_rfl) (by simp [Value.oneCell']) ?_
  change wpList _ _ _ _ _ (W2.setCells w.heap.size 0 (yv y1 y2 y3 y4 y5 y6 y7 y8))
  generalize W2.setCells w.heap.size 0 (yv y1 y2 y3 y4 y5 y6 y7 y8) = WF at uH qD ⊢
  have py:=U xq
  go_wp2_with fail
  have d0:=U uH 0 _ rfl
  have d1:=U uH 1 _ rfl
  have d2:=U uH 2 _ rfl
  have d3:=U uH 3 _ rfl
  have d4:=U uH 4 _ rfl
  have d5:=U uH 5 _ rfl
  have d6:=U uH 6 _ rfl
  have d7:=U uH 7 _ rfl
  simp only [Nat.zero_add] at d0 d1 d2 d3 d4 d5 d6 d7
  refine bodyPost_ret (by simp [results,Tryz.results61,go_sem,d0,d1,d2,d3,d4,d5,d6,d7]; try rfl) rfl ?_
  exact ⟨⟨y1,y2,y3,y4,y5,y6,y7,y8⟩,rfl,hy8,bp (U qD).1 (by omega),(U qD).2⟩
 have b0:(y == 0) = false:=by simpa using e0
 by_cases e1:y = 1
 ·subst e1
  have hwr:IntKind.i64.wrap (ids + 1) = ids + 1:=by rw [IntKind.wrap_i64]; omega
  go_wp2_with fail
  refine (aQ B v l (m + 3) (ids + 1) W1 (U qY).e.1 (by omega) (by omega) (by omega)).mono ?_
  rintro e W2 ⟨z,rfl,uF,uK,hE⟩
  have pe:=Y (bm (U qY) hB hE xz)
  have hwz:IntKind.i64.wrap (1 + z) = 1 + z:=by rw [IntKind.wrap_i64]; omega
  clear hE qY xz
  have jG:=Y (U pe).t
  have uH:Hid ((W2.setCells w.heap.size 0 (yv 2 0 0 0 0 (1 + z) 0 ⟨#[]⟩)).rangeAt w.heap.size 0 (yv 2 0 0 0 0 (1 + z) 0 ⟨#[]⟩)):=yV _ _ _ _ (U pe).t
  have qD:Hid (aA B w v l (m + 3 + 3) (W2.setCells w.heap.size 0 (yv 2 0 0 0 0 (1 + z) 0 ⟨#[]⟩))):=cM (U HV) (U pe).e hB hb _
  try dsimp only
  rename_i K1 py K2 qP
  refine qP _ _ ?_
  have xq:=Y py
  clear py qP
  refine wpList_step fun K3 vU=>?_
  have vB:=Y vU
  clear vU
  rw [if_pos (by rfl)];unfold Oper.wp;go_simp
  refine U vB _ _ ?_
  clear vB
  refine wpList_step fun K3 vU=>?_
  have vB:=Y vU
  clear vU
  rw [if_pos (by rfl)];unfold Oper.wp;go_simp
  refine U vB _ _ ?_
  clear vB
  refine wpList_store_mid rfl 43 (.tmp 4) (.tmp 19) rfl w.heap.size 0 (yv 2 0 0 0 0 (1 + z) 0 ⟨#[]⟩).toArray rfl rfl (U jG) (by kernel_rfl) (by simp [Value.oneCell']) ?_
  change wpList _ _ _ _ _ (W2.setCells w.heap.size 0 (yv 2 0 0 0 0 (1 + z) 0 ⟨#[]⟩))
  generalize W2.setCells w.heap.size 0 (yv 2 0 0 0 0 (1 + z) 0 ⟨#[]⟩) = WF at uH qD ⊢
  have py:=U xq
  go_wp2_with fail
  have d0:=U uH 0 _ rfl
  have d1:=U uH 1 _ rfl
  have d2:=U uH 2 _ rfl
  have d3:=U uH 3 _ rfl
  have d4:=U uH 4 _ rfl
  have d5:=U uH 5 _ rfl
  have d6:=U uH 6 _ rfl
  have d7:=U uH 7 _ rfl
  simp only [Nat.zero_add] at d0 d1 d2 d3 d4 d5 d6 d7
  refine bodyPost_ret (by simp [results,Tryz.results61,go_sem,d0,d1,d2,d3,d4,d5,d6,d7]; try rfl) rfl ?_
  exact ⟨⟨2,0,0,0,0,1 + z,0,⟨#[]⟩⟩,rfl,⟨by show ByteArray.size ⟨#[]⟩ ≤ 20; decide,bj (by kernel_rfl)⟩,bp (U qD).1 (by omega),(U qD).2⟩
 have b1:(y == 1) = false:=by simpa using e1
 by_cases e2:y = 2
 ·subst e2
  have hwr:IntKind.i64.wrap (ids + 1) = ids + 1:=by rw [IntKind.wrap_i64]; omega
  go_wp2_with fail
  refine (aQ B v l (m + 3) (ids + 1) W1 (U qY).e.1 (by omega) (by omega) (by omega)).mono ?_
  rintro e W2 ⟨z,rfl,uF,uK,hE⟩
  have pe:=Y (bm (U qY) hB hE xz)
  have xZ:w.heap.size < W2.heap.size:=yH xz hE.2.size
  have hwz:IntKind.i64.wrap (1 + z) = 1 + z:=by rw [IntKind.wrap_i64]; omega
  clear hE qY xz
  go_wp2_with fail
  refine (aQ B v l (m + 3 + 3) 6 W2 (U pe).e.1 (by omega) (by omega) (by omega)).mono ?_
  rintro e W3 ⟨u,rfl,hu0,hu1,hE⟩
  have HD3:=Y (bm (U pe) hB hE xZ)
  clear hE pe xZ
  have jG:=Y (U HD3).t
  have uH:Hid ((W3.setCells w.heap.size 0 (yv 3 0 0 0 u (1 + z) 0 ⟨#[]⟩)).rangeAt w.heap.size 0 (yv 3 0 0 0 u (1 + z) 0 ⟨#[]⟩)):=yV _ _ _ _ (U HD3).t
  have qD:Hid (aA B w v l (m + 3 + 3 + 3) (W3.setCells w.heap.size 0 (yv 3 0 0 0 u (1 + z) 0 ⟨#[]⟩))):=cM (U HV) (U HD3).e hB hb _
  try dsimp only
  rename_i K1 py K2 qP
  refine qP _ _ ?_
  have xq:=Y py
  clear py qP
  refine wpList_step fun K3 vU=>?_
  have vB:=Y vU
  clear vU
  rw [if_pos (by rfl)];unfold Oper.wp;go_simp
  refine U vB _ _ ?_
  clear vB
  refine wpList_store_mid rfl 43 (.tmp 4) (.tmp 29) rfl w.heap.size 0 (yv 3 0 0 0 u (1 + z) 0 ⟨#[]⟩).toArray rfl rfl (U jG) (by kernel_rfl) (by simp [Value.oneCell']) ?_
  change wpList _ _ _ _ _ (W3.setCells w.heap.size 0 (yv 3 0 0 0 u (1 + z) 0 ⟨#[]⟩))
  generalize W3.setCells w.heap.size 0 (yv 3 0 0 0 u (1 + z) 0 ⟨#[]⟩) = WF at uH qD ⊢
  have py:=U xq
  go_wp2_with fail
  have d0:=U uH 0 _ rfl
  have d1:=U uH 1 _ rfl
  have d2:=U uH 2 _ rfl
  have d3:=U uH 3 _ rfl
  have d4:=U uH 4 _ rfl
  have d5:=U uH 5 _ rfl
  have d6:=U uH 6 _ rfl
  have d7:=U uH 7 _ rfl
  simp only [Nat.zero_add] at d0 d1 d2 d3 d4 d5 d6 d7
  refine bodyPost_ret (by simp [results,Tryz.results61,go_sem,d0,d1,d2,d3,d4,d5,d6,d7]; try rfl) rfl ?_
  exact ⟨⟨3,0,0,0,u,1 + z,0,⟨#[]⟩⟩,rfl,⟨by show ByteArray.size ⟨#[]⟩ ≤ 20; decide,bj (by kernel_rfl)⟩,bp (U qD).1 (by omega),(U qD).2⟩
 have b2:(y == 2) = false:=by simpa using e2
 by_cases e3:y = 3
 ·subst e3
  have uH:Hid ((W1.setCells w.heap.size 0 (yv 4 0 0 0 0 0 0 ⟨#[]⟩)).rangeAt w.heap.size 0 (yv 4 0 0 0 0 0 0 ⟨#[]⟩)):=yV _ _ _ _ (U qY).t
  have qD:Hid (aA B w v l (m + 3) (W1.setCells w.heap.size 0 (yv 4 0 0 0 0 0 0 ⟨#[]⟩))):=cM (U HV) (U qY).e hB hb _
  try dsimp only
  repeat (first | (refine wpList_store_mid rfl 43 (.tmp 4) (.tmp 32) rfl w.heap.size 0 (yv 4 0 0 0 0 0 0 ⟨#[]⟩).toArray rfl rfl (U qY).t (by kernel_rfl) (by simp [Value.oneCell']) ?_; change wpList _ _ _ _ _ (W1.setCells w.heap.size 0 (yv 4 0 0 0 0 0 0 ⟨#[]⟩))) | go_step)
  generalize W1.setCells w.heap.size 0 (yv 4 0 0 0 0 0 0 ⟨#[]⟩) = WF at uH qD ⊢
  have d0:=U uH 0 _ rfl
  have d1:=U uH 1 _ rfl
  have d2:=U uH 2 _ rfl
  have d3:=U uH 3 _ rfl
  have d4:=U uH 4 _ rfl
  have d5:=U uH 5 _ rfl
  have d6:=U uH 6 _ rfl
  have d7:=U uH 7 _ rfl
  simp only [Nat.zero_add] at d0 d1 d2 d3 d4 d5 d6 d7
  refine bodyPost_ret (by simp [results,Tryz.results61,go_sem,d0,d1,d2,d3,d4,d5,d6,d7]; try rfl) rfl ?_
  exact ⟨⟨4,0,0,0,0,0,0,⟨#[]⟩⟩,rfl,⟨by show ByteArray.size ⟨#[]⟩ ≤ 20; decide,bj (by kernel_rfl)⟩,bp (U qD).1 (by omega),(U qD).2⟩
 have b3:(y == 3) = false:=by simpa using e3
 clear e0 e1 e2 e3
 go_wp2_with fail
 have hB1:B < W1.heap.size:=by omega
 refine zi (RS (BSd B W1 v l (m + 3)) (fun f=>{ tmps:=#[I B 0,H ids,M,M,yn w 0,f 15,I B 0,H y,.bool false,.bool false,M,M,.bool false,.bool false,M,M,M,M,M,M,.bool false,.bool false,M,M,M,M,M,M,M,M,.bool false,.bool false,M,f 0,f 1,f 2,f 3,f 4,f 5,f 6,f 7,f 8,f 9,f 10,f 11,f 12,f 13,f 14,M,M,M,M,M,M,M,M,M,M,M,M,M,M,M,M,M,M],defers:=[] }) 16 (D10 B W1.heap.size (fun pt W=>∃ c:Cm,DrOk c∧W.rangeAt pt 0 c.vs∧W.there pt 0 8∧pt < W.heap.size∧DrC B w.heap.size w v l (m + 60) W))) (by kernel_rfl) ?_ ?_ ?_
 ·exact ⟨fun j=>M,rfl,fun _=>⟨m + 3,by simp,dt (bL (U qY).e.1) 1⟩,fun j K=>by rw [yG] at K; split at K <;> simp at K⟩
 ·rintro x xj V ⟨f,rfl,-,hD⟩ hx xL
  have xn:=zW xL hx (acyc _ (by kernel_rfl))
  obtain ⟨pt,e15,hSp,-,vj⟩:=hD 15 (xn 15 (by simp))
  obtain ⟨⟨ck,cs,ct,cl,cq,ci,cp,cg⟩,hcg,hr,ht,jp,hdc⟩:=vj (xn 16 (by simp))
  have HP:Hid (DrP B pt w v l (m + 60) ⟨ck,cs,ct,cl,cq,ci,cp,cg⟩ V):=⟨hdc,hr,ht,jp⟩
  have HCG:Hid (cg.size ≤ 20):=hcg.1
  have HCP:Hid (PrW cp):=hcg.2
  have hsp:w.heap.size < pt:=yH xz hSp
  dsimp only
  simp only [e15]
  clear hD xn xL hx hr ht hdc vj e15 qY hSp jp hcg
  generalize f 0 = a0,f 1 = a1,f 2 = a2,f 3 = a3,f 4 = a4,f 5 = a5,f 6 = a6,f 7 = a7,f 8 = a8,f 9 = a9,f 10 = a10,f 11 = a11,f 12 = a12,f 13 = a13,f 14 = a14
  go_step
  go_step
  refine eF fun K2 qZ=>?_
  have HT:Hid (∀ (u48 u49 u50 u51 u52 u53 u54 u55 u56:Value) (p':Nat) (V':World),PrW p'→DrP B pt w v l (m + 63) ⟨ck,cs,ct,cl,cq,ci,p',cg⟩ V'→K2 { tmps:=#[I B 0,H ids,M,M,yn w 0,I pt 0,I B 0,H y,.bool false,.bool false,M,M,.bool false,.bool false,M,M,M,M,M,M,.bool false,.bool false,M,M,M,M,M,M,M,M,.bool false,.bool false,M,a0,a1,a2,a3,a4,a5,a6,a7,a8,a9,a10,a11,a12,a13,a14,u48,u49,u50,u51,u52,u53,u54,u55,u56,M,M,M,M,M,M,M,M,M],defers:=[] } V'):=by
   intro u48 u49 u50 u51 u52 u53 u54 u55 u56 p' V' hpw hP
   have HPW:=Y hpw
   clear hpw
   have HP1:=Y hP
   clear hP HP
   refine U qZ _ _ ?_
   clear qZ
   refine eF fun K3 vB=>?_
   have vu:Hid (∀ (u48 u49 u50 u51 u52 u53 u54 u55 u56 u57 u58 u59 u60 u61 u62 u63 u64:Value) (l':Int) (V2:World),DrP B pt w v l (m + 66) ⟨ck,cs,ct,l',cq,ci,p',cg⟩ V2→K3 { tmps:=#[I B 0,H ids,M,M,yn w 0,I pt 0,I B 0,H y,.bool false,.bool false,M,M,.bool false,.bool false,M,M,M,M,M,M,.bool false,.bool false,M,M,M,M,M,M,M,M,.bool false,.bool false,M,a0,a1,a2,a3,a4,a5,a6,a7,a8,a9,a10,a11,a12,a13,a14,u48,u49,u50,u51,u52,u53,u54,u55,u56,u57,u58,u59,u60,u61,u62,u63,u64,M],defers:=[] } V2):=by
    intro u48 u49 u50 u51 u52 u53 u54 u55 u56 u57 u58 u59 u60 u61 u62 u63 u64 l' V2 hP
    have jG:=Y hP.dc.t
    have uH:Hid ((V2.setCells w.heap.size 0 (yv ck cs ct l' cq ci p' cg)).rangeAt w.heap.size 0 (yv ck cs ct l' cq ci p' cg)):=yV _ _ _ _ hP.dc.t
    have qD:Hid (aA B w v l (m + 66) (V2.setCells w.heap.size 0 (yv ck cs ct l' cq ci p' cg))):=cM (U HV) hP.dc.e hB hb _
    obtain ⟨o0,o1,o2,o3,o4,o5,o6,o7⟩:=yB (hP.r)
    clear hP HP1
    refine U vB _ _ ?_
    clear vB
    repeat (first | (refine wpList_store_mid rfl 43 (.tmp 4) (.tmp 65) rfl w.heap.size 0 (yv ck cs ct l' cq ci p' cg).toArray rfl rfl (U jG) (by kernel_rfl) (by simp [Value.oneCell']) ?_; change wpList _ _ _ _ _ (V2.setCells w.heap.size 0 (yv ck cs ct l' cq ci p' cg))) | go_step)
    generalize V2.setCells w.heap.size 0 (yv ck cs ct l' cq ci p' cg) = WF at uH qD ⊢
    have d0:=U uH 0 _ rfl
    have d1:=U uH 1 _ rfl
    have d2:=U uH 2 _ rfl
    have d3:=U uH 3 _ rfl
    have d4:=U uH 4 _ rfl
    have d5:=U uH 5 _ rfl
    have d6:=U uH 6 _ rfl
    have d7:=U uH 7 _ rfl
    simp only [Nat.zero_add] at d0 d1 d2 d3 d4 d5 d6 d7
    refine bodyPost_ret (by simp [results,Tryz.results61,go_sem,d0,d1,d2,d3,d4,d5,d6,d7]; try rfl) rfl ?_
    exact ⟨⟨ck,cs,ct,l',cq,ci,p',cg⟩,rfl,⟨U HCG,U HPW⟩,bp (U qD).1 (by omega),(U qD).2⟩
   clear vB
   have o2:V'.cell? (J pt 2) = some (H ct):=(U HP1).r 2 _ rfl
   go_wp2_with fail
   refine (cB ct V').mono ?_
   rintro e V3 ⟨rfl,rfl⟩
   cases O:aC ct
   ·go_wp2_with fail
    exact U vu _ _ _ _ _ _ _ _ _ _ _ _ _ _ _ _ _ cl V3 (drP_more (U HP1) (by omega))
   ·go_wp2_with fail
    refine (chance_any B v l (m + 63) 3 V3 (U HP1).dc.e.1 (by omega) (by omega) (by omega)).mono ?_
    rintro e V4 ⟨b,rfl,hE⟩
    have HP4:=Y (drP_step (U HP1) hB hsp hE)
    clear hE
    cases b
    ·go_wp2_with fail
     exact U vu _ _ _ _ _ _ _ _ _ _ _ _ _ _ _ _ _ cl V4 (drP_more (U HP4) (by omega))
    ·have o3:V4.cell? (J pt 3) = some (H cl):=(U HP4).r 3 _ rfl
     have z3:V4.frozen? (J pt 3) = false:=by have:=((U HP4).t 3 (by omega)).2; rwa [Nat.zero_add] at this
     have HP5:=Y (drP_set (c':=⟨ck,cs,ct,1,cq,ci,p',cg⟩) (U HP4) (U HV) hB hsp 3 (H 1) (by omega) rfl)
     go_wp2_with fail
     exact U vu _ _ _ _ _ _ _ _ _ _ _ _ _ _ _ _ _ 1 _ (drP_more (U HP5) (by omega))
  clear qZ
  have o2:V.cell? (J pt 2) = some (H ct):=(U HP).r 2 _ rfl
  by_cases hty:ct = 2
  ·subst hty
   go_wp2_with fail
   exact U HT _ _ _ _ _ _ _ _ _ cp V (U HCP) (drP_more (U HP) (by omega))
  ·have O:(ct != 2) = true:=by simpa using hty
   go_wp2_with fail
   refine (aQ B v l (m + 60) 9 V (U HP).dc.e.1 (by omega) (by omega) (by omega)).mono ?_
   rintro e V2 ⟨y9,rfl,h90,h91,hE⟩
   obtain ⟨k9,rfl⟩:=Int.eq_ofNat_of_zero_le h90
   obtain ⟨pa,pb,pc,hpo,hpw⟩:=prO_any k9 (by omega)
   have HPW:=Y hpw
   clear hpw
   have HP2:=Y (drP_step (U HP) hB hsp hE)
   have f1:=fun W=>(hpo W).1
   have f2:=fun W=>(hpo W).2.1
   have f3:=fun W=>(hpo W).2.2
   have o6:V2.cell? (J pt 6) = some (yi cp):=(U HP2).r 6 _ rfl
   have z6:V2.frozen? (J pt 6) = false:=by have:=((U HP2).t 6 (by omega)).2; rwa [Nat.zero_add] at this
   have HP3:=Y (drP_set (c':=⟨ck,cs,ct,cl,cq,ci,pc,cg⟩) (U HP2) (U HV) hB hsp 6 (yi pc) (by omega) rfl)
   have uO:(store (J pt 6) (yi pc)).run Tryz.prog V2 = .ok () (V2.setCell (J pt 6) (yi pc)):=by rw [run_store _ _ _ _ _ rfl,o6,z6]; rfl
   clear hE hpo
   go_wp2_with fail
   exact U HT _ _ _ _ _ _ _ _ _ pc _ (U HPW) (drP_more (U HP3) (by omega))
 ·rintro x xj V j o ⟨f,rfl,jy,hD⟩ X hx Z xu Q
  have ud:=Y jy
  have HD:=Y hD
  have kk:j < 16→¬ x[16]? = some true:=fun xI h16=>by
   have e:∀ i,i < 16→x[i]? = some true:=fun i hi=>by
    rcases (by omega:i = 0 ∨ i = 1 ∨ i = 2 ∨ i = 3 ∨ i = 4 ∨ i = 5 ∨ i = 6 ∨ i = 7 ∨ i = 8 ∨ i = 9 ∨ i = 10 ∨ i = 11 ∨ i = 12 ∨ i = 13 ∨ i = 14 ∨ i = 15) with rfl | rfl | rfl | rfl | rfl | rfl | rfl | rfl | rfl | rfl | rfl | rfl | rfl | rfl | rfl | rfl
    all_goals exact X 16 _ rfl h16 ⟨_,.phase⟩ (by simp) rfl
   rw [e j xI] at xu; cases xu
  have oB:x.count true ≤ 17:=by have:=List.count_le_length (a:=true) (l:=x); rw [hx] at this; simpa using this
  clear jy X
  match j,Z with
  | 0,Z | 4,Z | 8,Z | 11,Z =>
   obtain rfl:=ya Z
   have nk:=kk (by omega)
   clear Q hD
   rw [if_pos (by rfl)];unfold Oper.wp;go_simp
   exact ⟨upd f _ (I B 0),by simp [upd],ba (U HD) (by decide) xu (fun _ _ h=>h) (cn (U ud nk)) rfl⟩
  | 1,Z =>
   obtain rfl:=ya Z
   have nk:=kk (by omega)
   have gd:f 0 = I B 0:=hD 0 (yd Q 0 rfl)
   obtain ⟨mm,pI,jT⟩:=U ud nk
   have HEE:=Y jT
   have hcnt:mm ≤ 900000000:=by omega
   clear jT
   clear Q hD
   rw [if_pos (by rfl)];unfold Oper.wp;go_simp
   refine (aQ B v l mm 2 V (U HEE).1 (by omega) (by omega) (by omega)).mono ?_
   rintro e w5 ⟨y5,rfl,-,-,qg⟩
   exact ⟨upd f 1 (H y5),by simp [upd,gd],ba (U HD) (by decide) xu (cX nk hB1 qg.2) (bsd_call pI (U HEE) qg) ⟨y5,rfl⟩⟩
  | 2,Z =>
   obtain rfl:=ya Z
   have nk:=kk (by omega)
   obtain ⟨y5,gd⟩:=hD 1 (yd Q 1 rfl)
   clear Q hD
   rw [if_pos (by rfl)];unfold Oper.wp;go_simp
   exact ⟨upd f 2 (H (IntKind.i64.wrap (1 + y5))),by simp [upd,gd],ba (U HD) (by decide) xu (fun _ _ h=>h) (cn (U ud nk)) ⟨_,rfl⟩⟩
  | 3,Z =>
   obtain rfl:=ya Z
   have nk:=kk (by omega)
   have hS:W1.heap.size ≤ V.heap.size:=by obtain ⟨mm,pI,jT⟩:=U ud nk; exact jT.2.size
   clear Q hD
   rw [if_pos (by rfl)];unfold Oper.wp;go_simp
   exact ⟨upd f 3 (.slice (some (yp V 0)) 8 8),by simp [upd],ba (U HD) (by decide) xu (cX nk hB1 (bD _ _ _)) (bsd_alloc (U ud nk) _) ⟨V.heap.size,rfl,hS,fun _=>(bM V tys8 _).r⟩⟩
  | 5,Z =>
   obtain rfl:=ya Z
   have nk:=kk (by omega)
   have gd:f 4 = I B 0:=hD 4 (yd Q 4 rfl)
   obtain ⟨mm,pI,jT⟩:=U ud nk
   have HEE:=Y jT
   have hcnt:mm ≤ 900000000:=by omega
   clear jT
   clear Q hD
   rw [if_pos (by rfl)];unfold Oper.wp;go_simp
   refine (aQ B v l mm 8 V (U HEE).1 (by omega) (by omega) (by omega)).mono ?_
   rintro e w5 ⟨y5,rfl,h50,h51,qg⟩
   obtain ⟨k5,rfl⟩:=Int.eq_ofNat_of_zero_le h50
   exact ⟨upd f 5 (H k5),by simp [upd,gd],ba (U HD) (by decide) xu (cX nk hB1 qg.2) (bsd_call pI (U HEE) qg) ⟨k5,rfl,by omega⟩⟩
  | 6,Z =>
   obtain rfl:=ya Z
   have nk:=kk (by omega)
   obtain ⟨g,g3,hSg,kF⟩:=hD 3 (yd Q 3 rfl)
   obtain ⟨k,g5,hk⟩:=hD 5 (yd Q 5 rfl)
   have HRG:=Y (kF nk)
   have hki:(k:Int) < 8:=by omega
   clear kF
   clear Q hD
   rw [if_pos (by rfl)];unfold Oper.wp;go_simp
   exact ⟨upd f 6 (I g k),by simp [upd,g3,g5],ba (U HD) (by decide) xu (fun _ _ h=>h) (cn (U ud nk)) ⟨g,k,rfl,hk,hSg,fun _=>U HRG⟩⟩
  | 7,Z =>
   obtain rfl:=ya Z
   have nk:=kk (by omega)
   obtain ⟨g,k,g6,hk,hSg,kF⟩:=hD 6 (yd Q 6 rfl)
   obtain ⟨y7,hc7⟩:=tys8_at (kF nk) hk
   clear kF
   clear Q hD
   rw [if_pos (by rfl)];unfold Oper.wp;go_simp
   exact ⟨upd f 7 (H y7),by simp [upd,g6],ba (U HD) (by decide) xu (fun _ _ h=>h) (cn (U ud nk)) ⟨_,rfl⟩⟩
  | 9,Z =>
   obtain rfl:=ya Z
   have nk:=kk (by omega)
   have gd:f 8 = I B 0:=hD 8 (yd Q 8 rfl)
   obtain ⟨mm,pI,jT⟩:=U ud nk
   have HEE:=Y jT
   have hcnt:mm ≤ 900000000:=by omega
   clear jT
   clear Q hD
   rw [if_pos (by rfl)];unfold Oper.wp;go_simp
   refine (aQ B v l mm 12 V (U HEE).1 (by omega) (by omega) (by omega)).mono ?_
   rintro e w5 ⟨y5,rfl,-,-,qg⟩
   exact ⟨upd f 9 (H y5),by simp [upd,gd],ba (U HD) (by decide) xu (cX nk hB1 qg.2) (bsd_call pI (U HEE) qg) ⟨y5,rfl⟩⟩
  | 10,Z =>
   obtain rfl:=ya Z
   have nk:=kk (by omega)
   obtain ⟨y5,gd⟩:=hD 9 (yd Q 9 rfl)
   clear Q hD
   rw [if_pos (by rfl)];unfold Oper.wp;go_simp
   exact ⟨upd f 10 (H (IntKind.i64.wrap (1 + y5))),by simp [upd,gd],ba (U HD) (by decide) xu (fun _ _ h=>h) (cn (U ud nk)) ⟨_,rfl⟩⟩
  | 12,Z =>
   obtain rfl:=ya Z
   have nk:=kk (by omega)
   have hS:W1.heap.size ≤ V.heap.size:=by obtain ⟨mm,pI,jT⟩:=U ud nk; exact jT.2.size
   clear Q hD
   rw [if_pos (by rfl)];unfold Oper.wp;go_simp
   exact ⟨upd f 12 (.slice (some (yp V 0)) 3 3),by simp [upd],ba (U HD) (by decide) xu (cX nk hB1 (bD _ _ _)) (bsd_alloc (U ud nk) _) ⟨V.heap.size,rfl,hS,fun _=>(bM V (tag3.map .string) _).r⟩⟩
  | 13,Z =>
   obtain rfl:=ya Z
   have nk:=kk (by omega)
   have gd:f 11 = I B 0:=hD 11 (yd Q 11 rfl)
   obtain ⟨g,gs,hSg,kF⟩:=hD 12 (yd Q 12 rfl)
   have HRG:=Y (kF nk)
   clear kF
   obtain ⟨mm,pI,jT⟩:=U ud nk
   have HEE:=Y jT
   have hcnt:mm ≤ 900000000:=by omega
   clear jT
   clear Q hD
   rw [if_pos (by rfl)];unfold Oper.wp;go_simp
   refine (pick_any B g 3 v l mm tag3 V (U HEE).1 (by omega) (by omega) rfl (by omega) (by omega) (fun k s hs=>by have:=U HRG k (yj s) (by rw [List.getElem?_map,hs]; rfl); rwa [Nat.zero_add] at this)).mono ?_
   rintro e w5 ⟨s5,rfl,hs5,qg⟩
   exact ⟨upd f 13 (yj s5),by simp [upd,gd,gs],ba (U HD) (by decide) xu (cX nk hB1 qg.2) (bsd_call pI (U HEE) qg) ⟨s5,rfl,tag3_len s5 hs5⟩⟩
  | 14,Z =>
   obtain rfl:=ya Z
   have nk:=kk (by omega)
   obtain ⟨y2,g2⟩:=hD 2 (yd Q 2 rfl)
   obtain ⟨y7,g7⟩:=hD 7 (yd Q 7 rfl)
   obtain ⟨az,qy⟩:=hD 10 (yd Q 10 rfl)
   obtain ⟨s13,kO,hs13⟩:=hD 13 (yd Q 13 rfl)
   clear Q hD
   rw [if_pos (by rfl)];unfold Oper.wp;go_simp
   exact ⟨upd f 14 (.agg (Cm.mk 1 y2 y7 0 az 0 0 s13).vs.toArray),by simp [upd,g2,g7,qy,kO,Cm.vs],ba (U HD) (by decide) xu (fun _ _ h=>h) (cn (U ud nk)) ⟨⟨1,y2,y7,0,az,0,0,s13⟩,rfl,hs13,bj (by kernel_rfl)⟩⟩
  | 15,Z =>
   obtain rfl:=ya Z
   have nk:=kk (by omega)
   have hS:W1.heap.size ≤ V.heap.size:=by obtain ⟨mm,pI,jT⟩:=U ud nk; exact jT.2.size
   clear Q hD
   rw [if_pos (by rfl)];unfold Oper.wp;go_simp
   exact ⟨upd f 15 (yn V 0),by simp [upd],ba (U HD) (by decide) xu (cX nk hB1 (bD _ _ _)) (bsd_alloc (U ud nk) _) ⟨V.heap.size,rfl,hS,fun _=>⟨by simp,(bM V (yv 0 0 0 0 0 0 0 ⟨#[]⟩) _).t⟩,fun q=>absurd q nk⟩⟩
  | 16,Z =>
   obtain rfl:=ya Z
   have nk0:¬ x[16]? = some true:=by rw [xu]; simp
   obtain ⟨⟨ck,cs,ct,cl,cq,ci,cp,cg⟩,km,hcg⟩:=hD 14 (yd Q 14 rfl)
   obtain ⟨pt,g15,hSp,jp,-⟩:=hD 15 (yd Q 15 rfl)
   obtain ⟨jp,qT⟩:=jp nk0
   obtain ⟨mm,pI,jT⟩:=U ud nk0
   have hsv:w.heap.size < V.heap.size:=yH xz jT.2.size
   have HDC:Hid (DrC B w.heap.size w v l (m + 60) (V.setCells pt 0 (Cm.mk ck cs ct cl cq ci cp cg).vs)):=⟨cM (U HV) ⟨bp jT.1 (by omega),aP (U qY).e.2 jT.2⟩ hB (by omega) _,yZ (bw (U qY).t jT.2 xz (fun e=>by have:=Option.some.inj e; omega)) pt 0 _⟩
   have HFI:Hid ((V.setCells pt 0 (Cm.mk ck cs ct cl cq ci cp cg).vs).rangeAt pt 0 (Cm.mk ck cs ct cl cq ci cp cg).vs∧(V.setCells pt 0 (Cm.mk ck cs ct cl cq ci cp cg).vs).there pt 0 8∧pt < (V.setCells pt 0 (Cm.mk ck cs ct cl cq ci cp cg).vs).heap.size):=⟨yV _ _ _ _ qT,yZ qT pt 0 _,yH jp (gr_setsD pt _ 0 V).size⟩
   clear Q hD jT
   rw [if_pos (by rfl)]
   refine wp_store_mid 43 (.tmp 5) (.tmp 47) rfl pt 0 (Cm.mk ck cs ct cl cq ci cp cg).vs.toArray g15 km qT (by kernel_rfl) (by simp [Value.oneCell',Cm.vs]) ?_
   refine ⟨upd f 16 M,by simp [upd,Act.put],rs_last (U HD) xu (fun j K hxj h=>?_) trivial⟩
   match j with
   | 3=>obtain ⟨g,G,D,h3⟩:=h; exact ⟨g,G,D,fun q=>absurd trivial q⟩
   | 6=>obtain ⟨g,k,G,D,h3,h4⟩:=h; exact ⟨g,k,G,D,h3,fun q=>absurd trivial q⟩
   | 12=>obtain ⟨g,G,D,h3⟩:=h; exact ⟨g,G,D,fun q=>absurd trivial q⟩
   | 15=>exact ⟨pt,g15,hSp,fun q=>absurd trivial q,fun _=>⟨⟨ck,cs,ct,cl,cq,ci,cp,cg⟩,hcg,(U HFI).1,(U HFI).2.1,(U HFI).2.2,U HDC⟩⟩
   | 16=>exact absurd rfl K
   | 0 | 1 | 2 | 4 | 5 | 7 | 8 | 9 | 10 | 11 | 13 | 14=>exact h
   | j + 17=>trivial
  | j + 17,Z=>simp at Z
end Go.Proofs.YtbakanofkghmiaaGreat
