/-
  A command drawn out of the source: proved by walking the method.
-/
import Derived.Test.YtbakanofkghmiaaGreatPj23
set_option linter.unusedVariables false
set_option maxHeartbeats 6400000
set_option maxRecDepth 100000
namespace Go.Proofs.YtbakanofkghmiaaGreat
open Go.RowKit
def BSd (B:Nat) (W0:World) (v:Value) (l:List Int) (m0:Int) (n:Nat) (W:World):Prop:=∃ m',m' ≤ m0 + 3 * (n:Int)∧ax B W0 v l m' W
theorem cC {B:Nat} {W0 W:World} {v:Value} {l:List Int} {m0:Int} {n:Nat} (h:BSd B W0 v l m0 n W):BSd B W0 v l m0 (n + 1) W:=by
 obtain ⟨m',z,K⟩:=h
 exact ⟨m',by omega,K⟩
theorem bsd_call {B:Nat} {W0 W W':World} {v:Value} {l:List Int} {m0 m':Int} {n:Nat} (z:m' ≤ m0 + 3 * (n:Int)) (K:ax B W0 v l m' W) (h:ax B W v l (m' + 3) W'):BSd B W0 v l m0 (n + 1) W' :=
 ⟨m' + 3,by omega,h.1,zQ K.2 h.2⟩
theorem bsd_alloc {B:Nat} {W0 W:World} {v:Value} {l:List Int} {m0:Int} {n:Nat} (h:BSd B W0 v l m0 n W) (o:Obj):BSd B W0 v l m0 (n + 1) (W.alloc o):=by
 obtain ⟨m',z,K⟩:=h
 exact ⟨m',by omega,cA K o⟩
structure DrP (B pt:Nat) (w:World) (v:Value) (l:List Int) (m:Int) (c:Cm) (V:World):Prop where
 dc:DrC B w.heap.size w v l m V
 r:V.rangeAt pt 0 c.vs
 t:V.there pt 0 8
 lt:pt < V.heap.size
theorem drP_more {B pt:Nat} {w V:World} {v:Value} {l:List Int} {m m':Int} {c:Cm} (h:DrP B pt w v l m c V) (hm:m ≤ m'):DrP B pt w v l m' c V :=
 ⟨⟨⟨bu h.dc.e.1 hm,h.dc.e.2⟩,h.dc.t⟩,h.r,h.t,h.lt⟩
theorem drP_step {B pt:Nat} {w V V':World} {v:Value} {l:List Int} {m m':Int} {c:Cm} (h:DrP B pt w v l m c V) (hB:B < w.heap.size) (hp:w.heap.size < pt) (hE:ax B V v l m' V'):DrP B pt w v l m' c V' :=
 ⟨bp h.dc hB hE (by have:=h.lt; omega),zm h.r hE.2 h.lt (fun e=>by have:=Option.some.inj e; omega),bC h.t hE.2 h.lt (fun e=>by have:=Option.some.inj e; omega),yG h.lt hE.2.size⟩
theorem drP_set {B pt:Nat} {w V:World} {v:Value} {l:List Int} {m:Int} {c c':Cm} (h:DrP B pt w v l m c V) (hv:l ≠ []→∃ k,v.ownBlock = some k∧k < w.heap.size) (hB:B < w.heap.size) (hp:w.heap.size < pt) (j:Nat) (u:Value) (L:j < 8) (hc:c.vs.set j u = c'.vs):DrP B pt w v l m c' (V.setCell (J pt j) u):=by
 refine ⟨⟨cQ (b:=pt) (o:=j) hv h.dc.e hB (by omega) [u],yY (vs:=[u]) h.dc.t pt j⟩,?_,yY (vs:=[u]) h.t pt j,yG h.lt (cN pt [u] j V).size⟩
 have:=dV (v:=u) h.r (j0:=j) L
 rwa [Nat.zero_add,hc] at this
def tys8:List Value:=[H 1,H 1,H 1,H 2,H 3,H 4,H 5,H 5]
def tag3:List ByteArray:=[⟨#[]⟩,⟨#[97]⟩,⟨#[100,101,115,107,32,55]⟩]
theorem tag3_len:∀ s ∈ tag3,s.size ≤ 20:=by decide +kernel
def D10 (B S0:Nat) (Fin:Nat→World→Prop) (p:Prop) (W:World):Nat→Value→Prop
 | 0,v=>v = I B 0
 | 1,v=>∃ y:Int,v = H y
 | 2,v=>∃ y:Int,v = H y
 | 3,v=>∃ g,v = .slice (some (J g 0)) 8 8∧S0 ≤ g∧(¬ p→W.rangeAt g 0 tys8)
 | 4,v=>v = I B 0
 | 5,v=>∃ k:Nat,v = H k∧k < 8
 | 6,v=>∃ g k,v = I g k∧k < 8∧S0 ≤ g∧(¬ p→W.rangeAt g 0 tys8)
 | 7,v=>∃ y:Int,v = H y
 | 8,v=>v = I B 0
 | 9,v=>∃ y:Int,v = H y
 | 10,v=>∃ y:Int,v = H y
 | 11,v=>v = I B 0
 | 12,v=>∃ g,v = .slice (some (J g 0)) 3 3∧S0 ≤ g∧(¬ p→W.rangeAt g 0 (tag3.map .string))
 | 13,v=>∃ s,v = yi s∧s.size ≤ 20
 | 14,v=>∃ c:Cm,v = .agg c.vs.toArray∧DrOk c
 | 15,v=>∃ pt,v = I pt 0∧S0 ≤ pt∧(¬ p→pt < W.heap.size∧W.there pt 0 8)∧(p→Fin pt W)
 | _,_=>True
theorem db {B S0:Nat} {Fin:Nat→World→Prop} {p:Prop} {W W':World} (hp:¬ p) (hB:B < S0) (hg:W.grownBy W' (some B)):∀ j v,D10 B S0 Fin p W j v→D10 B S0 Fin p W' j v:=by
 have e:∀ g (vs:List Value) (u:Value),S0 ≤ g→W.rangeAt g 0 (u :: vs)→W'.rangeAt g 0 (u :: vs):=fun g vs u h z=>zm z hg (yH W _ (z 0 _ rfl)) (fun e=>by have:=Option.some.inj e; omega)
 intro j v h
 match j with
 | 3=>obtain ⟨g,z,K,h3⟩:=h; exact ⟨g,z,K,fun q=>e g _ _ K (h3 q)⟩
 | 6=>obtain ⟨g,k,z,K,h3,h4⟩:=h; exact ⟨g,k,z,K,h3,fun q=>e g _ _ h3 (h4 q)⟩
 | 12=>obtain ⟨g,z,K,h3⟩:=h; exact ⟨g,z,K,fun q=>e g _ _ K (h3 q)⟩
 | 15=>obtain ⟨pt,z,K,h3,h4⟩:=h; exact ⟨pt,z,K,fun q=>⟨yG (h3 q).1 hg.size,bC (h3 q).2 hg (h3 q).1 (fun e=>by have:=Option.some.inj e; omega)⟩,fun q=>absurd q hp⟩
 | 0 | 1 | 2 | 4 | 5 | 7 | 8 | 9 | 10 | 11 | 13 | 14=>exact h
 | j + 16=>trivial
theorem tys8_at {W:World} {g k:Nat} (h:W.rangeAt g 0 tys8) (hk:k < 8):∃ y:Int,W.cell? (J g k) = some (H y):=by
 rcases (by omega:k = 0 ∨ k = 1 ∨ k = 2 ∨ k = 3 ∨ k = 4 ∨ k = 5 ∨ k = 6 ∨ k = 7) with rfl | rfl | rfl | rfl | rfl | rfl | rfl | rfl
 all_goals first | exact ⟨_,h 0 _ rfl⟩ | exact ⟨_,h 1 _ rfl⟩ | exact ⟨_,h 2 _ rfl⟩ | exact ⟨_,h 3 _ rfl⟩ | exact ⟨_,h 4 _ rfl⟩ | exact ⟨_,h 5 _ rfl⟩ | exact ⟨_,h 6 _ rfl⟩ | exact ⟨_,h 7 _ rfl⟩
theorem cmd_drawn (B:Nat) (v:Value) (l:List Int) (m ids:Int) (w:World) (h:Src B w v l m) (hm:m ≤ 700000000) (uv:0 ≤ ids) (hi1:ids ≤ 1000) :
  Calls Tryz.prog 61 #[I B 0,H ids] w fun e w'=>∃ c:Cm,e = yk (.agg c.vs.toArray)∧DrOk c∧ax B w v l (m + 100) w':=by
 have HV:=Q (src_far h)
 have hB:=src_lt h
 have jQ:Hid (DrC B w.heap.size w v l m (w.alloc (E (yu 0 0 0 0 0 0 0 ⟨#[]⟩).toArray 43))):=⟨cA (bN h) _,(aT w (yu 0 0 0 0 0 0 0 ⟨#[]⟩) 43).t⟩
 have hs0:w.heap.size < (w.alloc (E (yu 0 0 0 0 0 0 0 ⟨#[]⟩).toArray 43)).heap.size:=by simp
 clear h
 go_enter Tryz.func61,Tryz.ntmps61
 go_wp2_with fail
 generalize (w.alloc (E (yu 0 0 0 0 0 0 0 ⟨#[]⟩).toArray 43)) = W0 at jQ hs0 ⊢
 refine (aM B v l m 12 W0 (M jQ).e.1 (by omega) (by omega) (by omega)).mono ?_
 rintro e W1 ⟨y,rfl,js,kM,hE⟩
 have qm:=Q (bp (M jQ) hB hE hs0)
 have xz:w.heap.size < W1.heap.size:=yG hs0 hE.2.size
 clear hE jQ hs0
 by_cases e0:y = 0
 ·subst e0
  go_wp2_with fail
  refine (rawCmd_drawn B v l (m + 3) W1 (M qm).e.1 (by omega)).mono ?_
  rintro e W2 ⟨⟨y1,y2,y3,y4,y5,y6,y7,y8⟩,rfl,hy8,hE⟩
  have oZ:=Q (bp (M qm) hB hE xz)
  clear hE qm xz
  unfold Cm.vs
  simp only
  have jf:=Q (M oZ).t
  have uk:Hid ((W2.setCells w.heap.size 0 (yu y1 y2 y3 y4 y5 y6 y7 y8)).rangeAt w.heap.size 0 (yu y1 y2 y3 y4 y5 y6 y7 y8)):=yU _ _ _ _ (M oZ).t
  have qQ:Hid (ax B w v l (m + 3 + 30) (W2.setCells w.heap.size 0 (yu y1 y2 y3 y4 y5 y6 y7 y8))):=cQ (M HV) (M oZ).e hB tg _
  try dsimp only
  rename_i K1 pw K2 qZ
  refine qZ _ _ ?_
  have xu:=Q pw
  clear pw qZ
  refine wpList_store_mid rfl 43 (.tmp 4) (.tmp 11) rfl w.heap.size 0 (yu y1 y2 y3 y4 y5 y6 y7 y8).toArray rfl rfl (M jf) (by kernel_rfl) (by simp [Value.oneCell']) ?_
  change wpList _ _ _ _ _ (W2.setCells w.heap.size 0 (yu y1 y2 y3 y4 y5 y6 y7 y8))
  generalize W2.setCells w.heap.size 0 (yu y1 y2 y3 y4 y5 y6 y7 y8) = WF at uk qQ ⊢
  have pw:=M xu
  go_wp2_with fail
  have d0:=M uk 0 _ rfl
  have d1:=M uk 1 _ rfl
  have d2:=M uk 2 _ rfl
  have d3:=M uk 3 _ rfl
  have d4:=M uk 4 _ rfl
  have d5:=M uk 5 _ rfl
  have d6:=M uk 6 _ rfl
  have d7:=M uk 7 _ rfl
  simp only [Nat.zero_add] at d0 d1 d2 d3 d4 d5 d6 d7
  refine bodyPost_ret (by simp [results,Tryz.results61,go_sem,d0,d1,d2,d3,d4,d5,d6,d7]; try rfl) rfl ?_
  exact ⟨⟨y1,y2,y3,y4,y5,y6,y7,y8⟩,rfl,hy8,bu (M qQ).1 (by omega),(M qQ).2⟩
 have b0:(y == 0) = false:=by simpa using e0
 by_cases e1:y = 1
 ·subst e1
  have hwr:IntKind.i64.wrap (ids + 1) = ids + 1:=by rw [IntKind.wrap_i64]; omega
  go_wp2_with fail
  refine (aM B v l (m + 3) (ids + 1) W1 (M qm).e.1 (by omega) (by omega) (by omega)).mono ?_
  rintro e W2 ⟨h1,rfl,uq,uw,hE⟩
  have oZ:=Q (bp (M qm) hB hE xz)
  have hwz:IntKind.i64.wrap (1 + h1) = 1 + h1:=by rw [IntKind.wrap_i64]; omega
  clear hE qm xz
  have jf:=Q (M oZ).t
  have uk:Hid ((W2.setCells w.heap.size 0 (yu 2 0 0 0 0 (1 + h1) 0 ⟨#[]⟩)).rangeAt w.heap.size 0 (yu 2 0 0 0 0 (1 + h1) 0 ⟨#[]⟩)):=yU _ _ _ _ (M oZ).t
  have qQ:Hid (ax B w v l (m + 3 + 3) (W2.setCells w.heap.size 0 (yu 2 0 0 0 0 (1 + h1) 0 ⟨#[]⟩))):=cQ (M HV) (M oZ).e hB tg _
  try dsimp only
  rename_i K1 pw K2 qZ
  refine qZ _ _ ?_
  have xu:=Q pw
  clear pw qZ
  refine wpList_step fun K3 og=>?_
  have jI:=Q og
  clear og
  rw [if_pos (by rfl)];unfold Oper.wp;go_simp
  refine M jI _ _ ?_
  clear jI
  refine wpList_step fun K3 og=>?_
  have jI:=Q og
  clear og
  rw [if_pos (by rfl)];unfold Oper.wp;go_simp
  refine M jI _ _ ?_
  clear jI
  refine wpList_store_mid rfl 43 (.tmp 4) (.tmp 19) rfl w.heap.size 0 (yu 2 0 0 0 0 (1 + h1) 0 ⟨#[]⟩).toArray rfl rfl (M jf) (by kernel_rfl) (by simp [Value.oneCell']) ?_
  change wpList _ _ _ _ _ (W2.setCells w.heap.size 0 (yu 2 0 0 0 0 (1 + h1) 0 ⟨#[]⟩))
  generalize W2.setCells w.heap.size 0 (yu 2 0 0 0 0 (1 + h1) 0 ⟨#[]⟩) = WF at uk qQ ⊢
  have pw:=M xu
  go_wp2_with fail
  have d0:=M uk 0 _ rfl
  have d1:=M uk 1 _ rfl
  have d2:=M uk 2 _ rfl
  have d3:=M uk 3 _ rfl
  have d4:=M uk 4 _ rfl
  have d5:=M uk 5 _ rfl
  have d6:=M uk 6 _ rfl
  have d7:=M uk 7 _ rfl
  simp only [Nat.zero_add] at d0 d1 d2 d3 d4 d5 d6 d7
  refine bodyPost_ret (by simp [results,Tryz.results61,go_sem,d0,d1,d2,d3,d4,d5,d6,d7]; try rfl) rfl ?_
  exact ⟨⟨2,0,0,0,0,1 + h1,0,⟨#[]⟩⟩,rfl,⟨by show ByteArray.size ⟨#[]⟩ ≤ 20; decide,bi (by kernel_rfl)⟩,bu (M qQ).1 (by omega),(M qQ).2⟩
 have b1:(y == 1) = false:=by simpa using e1
 by_cases e2:y = 2
 ·subst e2
  have hwr:IntKind.i64.wrap (ids + 1) = ids + 1:=by rw [IntKind.wrap_i64]; omega
  go_wp2_with fail
  refine (aM B v l (m + 3) (ids + 1) W1 (M qm).e.1 (by omega) (by omega) (by omega)).mono ?_
  rintro e W2 ⟨h1,rfl,uq,uw,hE⟩
  have oZ:=Q (bp (M qm) hB hE xz)
  have xY:w.heap.size < W2.heap.size:=yG xz hE.2.size
  have hwz:IntKind.i64.wrap (1 + h1) = 1 + h1:=by rw [IntKind.wrap_i64]; omega
  clear hE qm xz
  go_wp2_with fail
  refine (aM B v l (m + 3 + 3) 6 W2 (M oZ).e.1 (by omega) (by omega) (by omega)).mono ?_
  rintro e W3 ⟨u,rfl,hu0,hu1,hE⟩
  have HD3:=Q (bp (M oZ) hB hE xY)
  clear hE oZ xY
  have jf:=Q (M HD3).t
  have uk:Hid ((W3.setCells w.heap.size 0 (yu 3 0 0 0 u (1 + h1) 0 ⟨#[]⟩)).rangeAt w.heap.size 0 (yu 3 0 0 0 u (1 + h1) 0 ⟨#[]⟩)):=yU _ _ _ _ (M HD3).t
  have qQ:Hid (ax B w v l (m + 3 + 3 + 3) (W3.setCells w.heap.size 0 (yu 3 0 0 0 u (1 + h1) 0 ⟨#[]⟩))):=cQ (M HV) (M HD3).e hB tg _
  try dsimp only
  rename_i K1 pw K2 qZ
  refine qZ _ _ ?_
  have xu:=Q pw
  clear pw qZ
  refine wpList_step fun K3 og=>?_
  have jI:=Q og
  clear og
  rw [if_pos (by rfl)];unfold Oper.wp;go_simp
  refine M jI _ _ ?_
  clear jI
  refine wpList_store_mid rfl 43 (.tmp 4) (.tmp 29) rfl w.heap.size 0 (yu 3 0 0 0 u (1 + h1) 0 ⟨#[]⟩).toArray rfl rfl (M jf) (by kernel_rfl) (by simp [Value.oneCell']) ?_
  change wpList _ _ _ _ _ (W3.setCells w.heap.size 0 (yu 3 0 0 0 u (1 + h1) 0 ⟨#[]⟩))
  generalize W3.setCells w.heap.size 0 (yu 3 0 0 0 u (1 + h1) 0 ⟨#[]⟩) = WF at uk qQ ⊢
  have pw:=M xu
  go_wp2_with fail
  have d0:=M uk 0 _ rfl
  have d1:=M uk 1 _ rfl
  have d2:=M uk 2 _ rfl
  have d3:=M uk 3 _ rfl
  have d4:=M uk 4 _ rfl
  have d5:=M uk 5 _ rfl
  have d6:=M uk 6 _ rfl
  have d7:=M uk 7 _ rfl
  simp only [Nat.zero_add] at d0 d1 d2 d3 d4 d5 d6 d7
  refine bodyPost_ret (by simp [results,Tryz.results61,go_sem,d0,d1,d2,d3,d4,d5,d6,d7]; try rfl) rfl ?_
  exact ⟨⟨3,0,0,0,u,1 + h1,0,⟨#[]⟩⟩,rfl,⟨by show ByteArray.size ⟨#[]⟩ ≤ 20; decide,bi (by kernel_rfl)⟩,bu (M qQ).1 (by omega),(M qQ).2⟩
 have b2:(y == 2) = false:=by simpa using e2
 by_cases e3:y = 3
 ·subst e3
  have uk:Hid ((W1.setCells w.heap.size 0 (yu 4 0 0 0 0 0 0 ⟨#[]⟩)).rangeAt w.heap.size 0 (yu 4 0 0 0 0 0 0 ⟨#[]⟩)):=yU _ _ _ _ (M qm).t
  have qQ:Hid (ax B w v l (m + 3) (W1.setCells w.heap.size 0 (yu 4 0 0 0 0 0 0 ⟨#[]⟩))):=cQ (M HV) (M qm).e hB tg _
  try dsimp only
  repeat (first | (refine wpList_store_mid rfl 43 (.tmp 4) (.tmp 32) rfl w.heap.size 0 (yu 4 0 0 0 0 0 0 ⟨#[]⟩).toArray rfl rfl (M qm).t (by kernel_rfl) (by simp [Value.oneCell']) ?_; change wpList _ _ _ _ _ (W1.setCells w.heap.size 0 (yu 4 0 0 0 0 0 0 ⟨#[]⟩))) | go_step)
  generalize W1.setCells w.heap.size 0 (yu 4 0 0 0 0 0 0 ⟨#[]⟩) = WF at uk qQ ⊢
  have d0:=M uk 0 _ rfl
  have d1:=M uk 1 _ rfl
  have d2:=M uk 2 _ rfl
  have d3:=M uk 3 _ rfl
  have d4:=M uk 4 _ rfl
  have d5:=M uk 5 _ rfl
  have d6:=M uk 6 _ rfl
  have d7:=M uk 7 _ rfl
  simp only [Nat.zero_add] at d0 d1 d2 d3 d4 d5 d6 d7
  refine bodyPost_ret (by simp [results,Tryz.results61,go_sem,d0,d1,d2,d3,d4,d5,d6,d7]; try rfl) rfl ?_
  exact ⟨⟨4,0,0,0,0,0,0,⟨#[]⟩⟩,rfl,⟨by show ByteArray.size ⟨#[]⟩ ≤ 20; decide,bi (by kernel_rfl)⟩,bu (M qQ).1 (by omega),(M qQ).2⟩
 have b3:(y == 3) = false:=by simpa using e3
 clear e0 e1 e2 e3
 go_wp2_with fail
 have hB1:B < W1.heap.size:=by omega
 refine zi (RS (BSd B W1 v l (m + 3)) (fun f=>{ tmps:=#[I B 0,H ids,Z,Z,ym w 0,f 15,I B 0,H y,.bool false,.bool false,Z,Z,.bool false,.bool false,Z,Z,Z,Z,Z,Z,.bool false,.bool false,Z,Z,Z,Z,Z,Z,Z,Z,.bool false,.bool false,Z,f 0,f 1,f 2,f 3,f 4,f 5,f 6,f 7,f 8,f 9,f 10,f 11,f 12,f 13,f 14,Z,Z,Z,Z,Z,Z,Z,Z,Z,Z,Z,Z,Z,Z,Z,Z,Z,Z],defers:=[] }) 16 (D10 B W1.heap.size (fun pt W=>∃ c:Cm,DrOk c∧W.rangeAt pt 0 c.vs∧W.there pt 0 8∧pt < W.heap.size∧DrC B w.heap.size w v l (m + 60) W))) (by kernel_rfl) ?_ ?_ ?_
 ·exact ⟨fun j=>Z,rfl,fun _=>⟨m + 3,by simp,dy (bN (M qm).e.1) 1⟩,fun j L=>by rw [yF] at L; split at L <;> simp at L⟩
 ·rintro x hR V ⟨f,rfl,-,U⟩ hx xK
  have xm:=aK xK hx (acyc _ (by kernel_rfl))
  obtain ⟨pt,e15,hSp,-,uX⟩:=U 15 (xm 15 (by simp))
  obtain ⟨⟨ck,cs,ct,cl,cq,ci,cp,cg⟩,hcg,hr,ht,qN,hdc⟩:=uX (xm 16 (by simp))
  have HP:Hid (DrP B pt w v l (m + 60) ⟨ck,cs,ct,cl,cq,ci,cp,cg⟩ V):=⟨hdc,hr,ht,qN⟩
  have HCG:Hid (cg.size ≤ 20):=hcg.1
  have HCP:Hid (PrW cp):=hcg.2
  have hsp:w.heap.size < pt:=yG xz hSp
  dsimp only
  simp only [e15]
  clear U xm xK hx hr ht hdc uX e15 qm hSp qN hcg
  generalize f 0 = a0,f 1 = a1,f 2 = a2,f 3 = a3,f 4 = a4,f 5 = a5,f 6 = a6,f 7 = a7,f 8 = a8,f 9 = a9,f 10 = a10,f 11 = a11,f 12 = a12,f 13 = a13,f 14 = a14
  go_step
  go_step
  refine eH fun K2 kw=>?_
  have HT:Hid (∀ (u48 u49 u50 u51 u52 u53 u54 u55 u56:Value) (p':Nat) (V':World),PrW p'→DrP B pt w v l (m + 63) ⟨ck,cs,ct,cl,cq,ci,p',cg⟩ V'→K2 { tmps:=#[I B 0,H ids,Z,Z,ym w 0,I pt 0,I B 0,H y,.bool false,.bool false,Z,Z,.bool false,.bool false,Z,Z,Z,Z,Z,Z,.bool false,.bool false,Z,Z,Z,Z,Z,Z,Z,Z,.bool false,.bool false,Z,a0,a1,a2,a3,a4,a5,a6,a7,a8,a9,a10,a11,a12,a13,a14,u48,u49,u50,u51,u52,u53,u54,u55,u56,Z,Z,Z,Z,Z,Z,Z,Z,Z],defers:=[] } V'):=by
   intro u48 u49 u50 u51 u52 u53 u54 u55 u56 p' V' hpw hP
   have HPW:=Q hpw
   clear hpw
   have HP1:=Q hP
   clear hP HP
   refine M kw _ _ ?_
   clear kw
   refine eH fun K3 jI=>?_
   have vh:Hid (∀ (u48 u49 u50 u51 u52 u53 u54 u55 u56 u57 u58 u59 u60 u61 u62 u63 u64:Value) (l':Int) (V2:World),DrP B pt w v l (m + 66) ⟨ck,cs,ct,l',cq,ci,p',cg⟩ V2→K3 { tmps:=#[I B 0,H ids,Z,Z,ym w 0,I pt 0,I B 0,H y,.bool false,.bool false,Z,Z,.bool false,.bool false,Z,Z,Z,Z,Z,Z,.bool false,.bool false,Z,Z,Z,Z,Z,Z,Z,Z,.bool false,.bool false,Z,a0,a1,a2,a3,a4,a5,a6,a7,a8,a9,a10,a11,a12,a13,a14,u48,u49,u50,u51,u52,u53,u54,u55,u56,u57,u58,u59,u60,u61,u62,u63,u64,Z],defers:=[] } V2):=by
    intro u48 u49 u50 u51 u52 u53 u54 u55 u56 u57 u58 u59 u60 u61 u62 u63 u64 l' V2 hP
    have jf:=Q hP.dc.t
    have uk:Hid ((V2.setCells w.heap.size 0 (yu ck cs ct l' cq ci p' cg)).rangeAt w.heap.size 0 (yu ck cs ct l' cq ci p' cg)):=yU _ _ _ _ hP.dc.t
    have qQ:Hid (ax B w v l (m + 66) (V2.setCells w.heap.size 0 (yu ck cs ct l' cq ci p' cg))):=cQ (M HV) hP.dc.e hB tg _
    obtain ⟨o0,o1,o2,o3,o4,o5,o6,o7⟩:=yA (hP.r)
    clear hP HP1
    refine M jI _ _ ?_
    clear jI
    repeat (first | (refine wpList_store_mid rfl 43 (.tmp 4) (.tmp 65) rfl w.heap.size 0 (yu ck cs ct l' cq ci p' cg).toArray rfl rfl (M jf) (by kernel_rfl) (by simp [Value.oneCell']) ?_; change wpList _ _ _ _ _ (V2.setCells w.heap.size 0 (yu ck cs ct l' cq ci p' cg))) | go_step)
    generalize V2.setCells w.heap.size 0 (yu ck cs ct l' cq ci p' cg) = WF at uk qQ ⊢
    have d0:=M uk 0 _ rfl
    have d1:=M uk 1 _ rfl
    have d2:=M uk 2 _ rfl
    have d3:=M uk 3 _ rfl
    have d4:=M uk 4 _ rfl
    have d5:=M uk 5 _ rfl
    have d6:=M uk 6 _ rfl
    have d7:=M uk 7 _ rfl
    simp only [Nat.zero_add] at d0 d1 d2 d3 d4 d5 d6 d7
    refine bodyPost_ret (by simp [results,Tryz.results61,go_sem,d0,d1,d2,d3,d4,d5,d6,d7]; try rfl) rfl ?_
    exact ⟨⟨ck,cs,ct,l',cq,ci,p',cg⟩,rfl,⟨M HCG,M HPW⟩,bu (M qQ).1 (by omega),(M qQ).2⟩
   clear jI
   have o2:V'.cell? (J pt 2) = some (H ct):=(M HP1).r 2 _ rfl
   go_wp2_with fail
   refine (cI ct V').mono ?_
   rintro e V3 ⟨rfl,rfl⟩
   cases hb:ay ct
   ·go_wp2_with fail
    exact M vh _ _ _ _ _ _ _ _ _ _ _ _ _ _ _ _ _ cl V3 (drP_more (M HP1) (by omega))
   ·go_wp2_with fail
    refine (chance_any B v l (m + 63) 3 V3 (M HP1).dc.e.1 (by omega) (by omega) (by omega)).mono ?_
    rintro e V4 ⟨b,rfl,hE⟩
    have HP4:=Q (drP_step (M HP1) hB hsp hE)
    clear hE
    cases b
    ·go_wp2_with fail
     exact M vh _ _ _ _ _ _ _ _ _ _ _ _ _ _ _ _ _ cl V4 (drP_more (M HP4) (by omega))
    ·have o3:V4.cell? (J pt 3) = some (H cl):=(M HP4).r 3 _ rfl
     have z3:V4.frozen? (J pt 3) = false:=by have:=((M HP4).t 3 (by omega)).2; rwa [Nat.zero_add] at this
     have HP5:=Q (drP_set (c':=⟨ck,cs,ct,1,cq,ci,p',cg⟩) (M HP4) (M HV) hB hsp 3 (H 1) (by omega) rfl)
     go_wp2_with fail
     exact M vh _ _ _ _ _ _ _ _ _ _ _ _ _ _ _ _ _ 1 _ (drP_more (M HP5) (by omega))
  clear kw
  have o2:V.cell? (J pt 2) = some (H ct):=(M HP).r 2 _ rfl
  by_cases hty:ct = 2
  ·subst hty
   go_wp2_with fail
   exact M HT _ _ _ _ _ _ _ _ _ cp V (M HCP) (drP_more (M HP) (by omega))
  ·have hb:(ct != 2) = true:=by simpa using hty
   go_wp2_with fail
   refine (aM B v l (m + 60) 9 V (M HP).dc.e.1 (by omega) (by omega) (by omega)).mono ?_
   rintro e V2 ⟨y9,rfl,h90,h91,hE⟩
   obtain ⟨k9,rfl⟩:=Int.eq_ofNat_of_zero_le h90
   obtain ⟨pa,pb,pc,hpo,hpw⟩:=prO_any k9 (by omega)
   have HPW:=Q hpw
   clear hpw
   have HP2:=Q (drP_step (M HP) hB hsp hE)
   have f1:=fun W=>(hpo W).1
   have f2:=fun W=>(hpo W).2.1
   have f3:=fun W=>(hpo W).2.2
   have o6:V2.cell? (J pt 6) = some (yh cp):=(M HP2).r 6 _ rfl
   have z6:V2.frozen? (J pt 6) = false:=by have:=((M HP2).t 6 (by omega)).2; rwa [Nat.zero_add] at this
   have HP3:=Q (drP_set (c':=⟨ck,cs,ct,cl,cq,ci,pc,cg⟩) (M HP2) (M HV) hB hsp 6 (yh pc) (by omega) rfl)
   have uH:(store (J pt 6) (yh pc)).run Tryz.prog V2 = .ok () (V2.setCell (J pt 6) (yh pc)):=by rw [run_store _ _ _ _ _ rfl,o6,z6]; rfl
   clear hE hpo
   go_wp2_with fail
   exact M HT _ _ _ _ _ _ _ _ _ pc _ (M HPW) (drP_more (M HP3) (by omega))
 ·rintro x hR V j o ⟨f,rfl,jj,U⟩ xk hx Y xq D
  have xW:=Q jj
  have HD:=Q U
  have kk:j < 16→¬ x[16]? = some true:=fun xL h16=>by
   have e:∀ i,i < 16→x[i]? = some true:=fun i hi=>by
    rcases (by omega:i = 0 ∨ i = 1 ∨ i = 2 ∨ i = 3 ∨ i = 4 ∨ i = 5 ∨ i = 6 ∨ i = 7 ∨ i = 8 ∨ i = 9 ∨ i = 10 ∨ i = 11 ∨ i = 12 ∨ i = 13 ∨ i = 14 ∨ i = 15) with rfl | rfl | rfl | rfl | rfl | rfl | rfl | rfl | rfl | rfl | rfl | rfl | rfl | rfl | rfl | rfl
    all_goals exact xk 16 _ rfl h16 ⟨_,.phase⟩ (by simp) rfl
   rw [e j xL] at xq; cases xq
  have ol:x.count true ≤ 17:=by have:=List.count_le_length (a:=true) (l:=x); rw [hx] at this; simpa using this
  clear jj xk
  match j,Y with
  | 0,Y | 4,Y | 8,Y | 11,Y =>
   obtain rfl:=hD Y
   have nk:=kk (by omega)
   clear D U
   rw [if_pos (by rfl)];unfold Oper.wp;go_simp
   exact ⟨upd f _ (I B 0),by simp [upd],aX (M HD) (by decide) xq (fun _ _ h=>h) (cC (M xW nk)) rfl⟩
  | 1,Y =>
   obtain rfl:=hD Y
   have nk:=kk (by omega)
   have gd:f 0 = I B 0:=U 0 (yc D 0 rfl)
   obtain ⟨mm,pD,jB⟩:=M xW nk
   have HEE:=Q jB
   have hcnt:mm ≤ 900000000:=by omega
   clear jB
   clear D U
   rw [if_pos (by rfl)];unfold Oper.wp;go_simp
   refine (aM B v l mm 2 V (M HEE).1 (by omega) (by omega) (by omega)).mono ?_
   rintro e w5 ⟨y5,rfl,-,-,qq⟩
   exact ⟨upd f 1 (H y5),by simp [upd,gd],aX (M HD) (by decide) xq (db nk hB1 qq.2) (bsd_call pD (M HEE) qq) ⟨y5,rfl⟩⟩
  | 2,Y =>
   obtain rfl:=hD Y
   have nk:=kk (by omega)
   obtain ⟨y5,gd⟩:=U 1 (yc D 1 rfl)
   clear D U
   rw [if_pos (by rfl)];unfold Oper.wp;go_simp
   exact ⟨upd f 2 (H (IntKind.i64.wrap (1 + y5))),by simp [upd,gd],aX (M HD) (by decide) xq (fun _ _ h=>h) (cC (M xW nk)) ⟨_,rfl⟩⟩
  | 3,Y =>
   obtain rfl:=hD Y
   have nk:=kk (by omega)
   have hS:W1.heap.size ≤ V.heap.size:=by obtain ⟨mm,pD,jB⟩:=M xW nk; exact jB.2.size
   clear D U
   rw [if_pos (by rfl)];unfold Oper.wp;go_simp
   exact ⟨upd f 3 (.slice (some (yn V 0)) 8 8),by simp [upd],aX (M HD) (by decide) xq (db nk hB1 (bG _ _ _)) (bsd_alloc (M xW nk) _) ⟨V.heap.size,rfl,hS,fun _=>(aT V tys8 _).r⟩⟩
  | 5,Y =>
   obtain rfl:=hD Y
   have nk:=kk (by omega)
   have gd:f 4 = I B 0:=U 4 (yc D 4 rfl)
   obtain ⟨mm,pD,jB⟩:=M xW nk
   have HEE:=Q jB
   have hcnt:mm ≤ 900000000:=by omega
   clear jB
   clear D U
   rw [if_pos (by rfl)];unfold Oper.wp;go_simp
   refine (aM B v l mm 8 V (M HEE).1 (by omega) (by omega) (by omega)).mono ?_
   rintro e w5 ⟨y5,rfl,h50,h51,qq⟩
   obtain ⟨k5,rfl⟩:=Int.eq_ofNat_of_zero_le h50
   exact ⟨upd f 5 (H k5),by simp [upd,gd],aX (M HD) (by decide) xq (db nk hB1 qq.2) (bsd_call pD (M HEE) qq) ⟨k5,rfl,by omega⟩⟩
  | 6,Y =>
   obtain rfl:=hD Y
   have nk:=kk (by omega)
   obtain ⟨g,g3,hSg,pG⟩:=U 3 (yc D 3 rfl)
   obtain ⟨k,g5,hk⟩:=U 5 (yc D 5 rfl)
   have HRG:=Q (pG nk)
   have hki:(k:Int) < 8:=by omega
   clear pG
   clear D U
   rw [if_pos (by rfl)];unfold Oper.wp;go_simp
   exact ⟨upd f 6 (I g k),by simp [upd,g3,g5],aX (M HD) (by decide) xq (fun _ _ h=>h) (cC (M xW nk)) ⟨g,k,rfl,hk,hSg,fun _=>M HRG⟩⟩
  | 7,Y =>
   obtain rfl:=hD Y
   have nk:=kk (by omega)
   obtain ⟨g,k,g6,hk,hSg,pG⟩:=U 6 (yc D 6 rfl)
   obtain ⟨y7,hc7⟩:=tys8_at (pG nk) hk
   clear pG
   clear D U
   rw [if_pos (by rfl)];unfold Oper.wp;go_simp
   exact ⟨upd f 7 (H y7),by simp [upd,g6],aX (M HD) (by decide) xq (fun _ _ h=>h) (cC (M xW nk)) ⟨_,rfl⟩⟩
  | 9,Y =>
   obtain rfl:=hD Y
   have nk:=kk (by omega)
   have gd:f 8 = I B 0:=U 8 (yc D 8 rfl)
   obtain ⟨mm,pD,jB⟩:=M xW nk
   have HEE:=Q jB
   have hcnt:mm ≤ 900000000:=by omega
   clear jB
   clear D U
   rw [if_pos (by rfl)];unfold Oper.wp;go_simp
   refine (aM B v l mm 12 V (M HEE).1 (by omega) (by omega) (by omega)).mono ?_
   rintro e w5 ⟨y5,rfl,-,-,qq⟩
   exact ⟨upd f 9 (H y5),by simp [upd,gd],aX (M HD) (by decide) xq (db nk hB1 qq.2) (bsd_call pD (M HEE) qq) ⟨y5,rfl⟩⟩
  | 10,Y =>
   obtain rfl:=hD Y
   have nk:=kk (by omega)
   obtain ⟨y5,gd⟩:=U 9 (yc D 9 rfl)
   clear D U
   rw [if_pos (by rfl)];unfold Oper.wp;go_simp
   exact ⟨upd f 10 (H (IntKind.i64.wrap (1 + y5))),by simp [upd,gd],aX (M HD) (by decide) xq (fun _ _ h=>h) (cC (M xW nk)) ⟨_,rfl⟩⟩
  | 12,Y =>
   obtain rfl:=hD Y
   have nk:=kk (by omega)
   have hS:W1.heap.size ≤ V.heap.size:=by obtain ⟨mm,pD,jB⟩:=M xW nk; exact jB.2.size
   clear D U
   rw [if_pos (by rfl)];unfold Oper.wp;go_simp
   exact ⟨upd f 12 (.slice (some (yn V 0)) 3 3),by simp [upd],aX (M HD) (by decide) xq (db nk hB1 (bG _ _ _)) (bsd_alloc (M xW nk) _) ⟨V.heap.size,rfl,hS,fun _=>(aT V (tag3.map .string) _).r⟩⟩
  | 13,Y =>
   obtain rfl:=hD Y
   have nk:=kk (by omega)
   have gd:f 11 = I B 0:=U 11 (yc D 11 rfl)
   obtain ⟨g,gs,hSg,pG⟩:=U 12 (yc D 12 rfl)
   have HRG:=Q (pG nk)
   clear pG
   obtain ⟨mm,pD,jB⟩:=M xW nk
   have HEE:=Q jB
   have hcnt:mm ≤ 900000000:=by omega
   clear jB
   clear D U
   rw [if_pos (by rfl)];unfold Oper.wp;go_simp
   refine (pick_any B g 3 v l mm tag3 V (M HEE).1 (by omega) (by omega) rfl (by omega) (by omega) (fun k s hs=>by have:=M HRG k (yi s) (by rw [List.getElem?_map,hs]; rfl); rwa [Nat.zero_add] at this)).mono ?_
   rintro e w5 ⟨s5,rfl,hs5,qq⟩
   exact ⟨upd f 13 (yi s5),by simp [upd,gd,gs],aX (M HD) (by decide) xq (db nk hB1 qq.2) (bsd_call pD (M HEE) qq) ⟨s5,rfl,tag3_len s5 hs5⟩⟩
  | 14,Y =>
   obtain rfl:=hD Y
   have nk:=kk (by omega)
   obtain ⟨y2,g2⟩:=U 2 (yc D 2 rfl)
   obtain ⟨y7,g7⟩:=U 7 (yc D 7 rfl)
   obtain ⟨y10,vP⟩:=U 10 (yc D 10 rfl)
   obtain ⟨s13,kE,hs13⟩:=U 13 (yc D 13 rfl)
   clear D U
   rw [if_pos (by rfl)];unfold Oper.wp;go_simp
   exact ⟨upd f 14 (.agg (Cm.mk 1 y2 y7 0 y10 0 0 s13).vs.toArray),by simp [upd,g2,g7,vP,kE,Cm.vs],aX (M HD) (by decide) xq (fun _ _ h=>h) (cC (M xW nk)) ⟨⟨1,y2,y7,0,y10,0,0,s13⟩,rfl,hs13,bi (by kernel_rfl)⟩⟩
  | 15,Y =>
   obtain rfl:=hD Y
   have nk:=kk (by omega)
   have hS:W1.heap.size ≤ V.heap.size:=by obtain ⟨mm,pD,jB⟩:=M xW nk; exact jB.2.size
   clear D U
   rw [if_pos (by rfl)];unfold Oper.wp;go_simp
   exact ⟨upd f 15 (ym V 0),by simp [upd],aX (M HD) (by decide) xq (db nk hB1 (bG _ _ _)) (bsd_alloc (M xW nk) _) ⟨V.heap.size,rfl,hS,fun _=>⟨by simp,(aT V (yu 0 0 0 0 0 0 0 ⟨#[]⟩) _).t⟩,fun q=>absurd q nk⟩⟩
  | 16,Y =>
   obtain rfl:=hD Y
   have nk0:¬ x[16]? = some true:=by rw [xq]; simp
   obtain ⟨⟨ck,cs,ct,cl,cq,ci,cp,cg⟩,jU,hcg⟩:=U 14 (yc D 14 rfl)
   obtain ⟨pt,g15,hSp,qN,-⟩:=U 15 (yc D 15 rfl)
   obtain ⟨qN,jD⟩:=qN nk0
   obtain ⟨mm,pD,jB⟩:=M xW nk0
   have hsv:w.heap.size < V.heap.size:=yG xz jB.2.size
   have HDC:Hid (DrC B w.heap.size w v l (m + 60) (V.setCells pt 0 (Cm.mk ck cs ct cl cq ci cp cg).vs)):=⟨cQ (M HV) ⟨bu jB.1 (by omega),zQ (M qm).e.2 jB.2⟩ hB (by omega) _,yY (bC (M qm).t jB.2 xz (fun e=>by have:=Option.some.inj e; omega)) pt 0 _⟩
   have HFI:Hid ((V.setCells pt 0 (Cm.mk ck cs ct cl cq ci cp cg).vs).rangeAt pt 0 (Cm.mk ck cs ct cl cq ci cp cg).vs∧(V.setCells pt 0 (Cm.mk ck cs ct cl cq ci cp cg).vs).there pt 0 8∧pt < (V.setCells pt 0 (Cm.mk ck cs ct cl cq ci cp cg).vs).heap.size):=⟨yU _ _ _ _ jD,yY jD pt 0 _,yG qN (cN pt _ 0 V).size⟩
   clear D U jB
   rw [if_pos (by rfl)]
   refine wp_store_mid 43 (.tmp 5) (.tmp 47) rfl pt 0 (Cm.mk ck cs ct cl cq ci cp cg).vs.toArray g15 jU jD (by kernel_rfl) (by simp [Value.oneCell',Cm.vs]) ?_
   refine ⟨upd f 16 Z,by simp [upd,Act.put],rs_last (M HD) xq (fun j L hxj h=>?_) trivial⟩
   match j with
   | 3=>obtain ⟨g,z,K,h3⟩:=h; exact ⟨g,z,K,fun q=>absurd trivial q⟩
   | 6=>obtain ⟨g,k,z,K,h3,h4⟩:=h; exact ⟨g,k,z,K,h3,fun q=>absurd trivial q⟩
   | 12=>obtain ⟨g,z,K,h3⟩:=h; exact ⟨g,z,K,fun q=>absurd trivial q⟩
   | 15=>exact ⟨pt,g15,hSp,fun q=>absurd trivial q,fun _=>⟨⟨ck,cs,ct,cl,cq,ci,cp,cg⟩,hcg,(M HFI).1,(M HFI).2.1,(M HFI).2.2,M HDC⟩⟩
   | 16=>exact absurd rfl L
   | 0 | 1 | 2 | 4 | 5 | 7 | 8 | 9 | 10 | 11 | 13 | 14=>exact h
   | j + 17=>trivial
  | j + 17,Y=>simp at Y
end Go.Proofs.YtbakanofkghmiaaGreat
