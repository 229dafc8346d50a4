/-
  A command drawn out of the source, exactly (but for the bits of a price that is no number): proved by walking the method.
-/
import Derived.Test.YtdliebbfcmdmaaaGreatMj32
set_option linter.unusedVariables false
set_option maxHeartbeats 6400000
set_option maxRecDepth 100000
namespace Go.Proofs.YtdliebbfcmdmaaaGreat
open Go.RowKit
def stX (s1 s2 s3 s4 s5:Sr) (x:List Bool):Sr:=if x[13]? = some true then s5 else if x[9]? = some true then s4 else if x[5]? = some true then s3 else if x[1]? = some true then s2 else s1
theorem bC {s1 s2 s3 s4 s5:Sr} {x:List Bool} {i:Nat} (Q:i ≠ 1) (N:i ≠ 5) (h3:i ≠ 9) (h4:i ≠ 13):stX s1 s2 s3 s4 s5 (x.set i true) = stX s1 s2 s3 s4 s5 x:=by
 rw [stX,stX,yW Q,yW N,yW h3,yW h4]
def RXd (S:List Bool→World→Prop) (qt:(Nat→Value)→Act) (k:Nat) (xj:Prop→World→Nat→Value→Prop) (x:List Bool) (xm:Act) (W:World):Prop :=
 ∃ f,xm = qt f∧(¬ x[k]? = some true→S x W)∧∀ j,x[j]? = some true→xj (x[k]? = some true) W j (f j)
theorem aZ {S:List Bool→World→Prop} {k:Nat} {xj:Prop→World→Nat→Value→Prop} {x:List Bool} {f:Nat→Value} {W W':World} (h:∀ j,x[j]? = some true→xj (x[k]? = some true) W j (f j)) {i:Nat} (hik:i ≠ k) (hm:∀ j v,xj (x[k]? = some true) W j v→xj (x[k]? = some true) W' j v) (hS:S (x.set i true) W') {v:Value} (hv:xj (x[k]? = some true) W' i v) :
  (¬ (x.set i true)[k]? = some true→S (x.set i true) W')∧∀ j,(x.set i true)[j]? = some true→xj ((x.set i true)[k]? = some true) W' j (upd f i v j):=by
 refine ⟨fun _=>hS,fun j R=>?_⟩
 rw [yW hik]
 by_cases hji:j = i
 ·subst hji; rw [zn]; exact hv
 ·rw [zo _ _ hji]
  rw [yW (fun e=>hji e.symm)] at R
  exact hm _ _ (h j R)
theorem rxd_last {S:List Bool→World→Prop} {k:Nat} {xj:Prop→World→Nat→Value→Prop} {x:List Bool} {f:Nat→Value} {W W':World} (h:∀ j,x[j]? = some true→xj (x[k]? = some true) W j (f j)) (hk:x[k]? = some false) (hm:∀ j,j ≠ k→x[j]? = some true→xj False W j (f j)→xj True W' j (f j)) {v:Value} (hv:xj True W' k v) :
  (¬ (x.set k true)[k]? = some true→S (x.set k true) W')∧∀ j,(x.set k true)[j]? = some true→xj ((x.set k true)[k]? = some true) W' j (upd f k v j):=by
 have e:((x.set k true)[k]? = some true) = True:=by
  rw [List.getElem?_set_self (yG.1 hk).1]; simp
 refine ⟨fun hn=>absurd (by rw [e]; trivial) hn,fun j R=>?_⟩
 rw [e]
 by_cases hji:j = k
 ·subst hji; rw [zn]; exact hv
 ·rw [zo _ _ hji]
  rw [yW (fun e=>hji e.symm)] at R
  refine hm j hji R ?_
  have:=h j R
  rw [hk] at this
  simpa using this
def D11 (B S0:Nat) (y2 y4:Int) (k3:Nat) (O:ByteArray) (Fin:Nat→World→Prop) (p:Prop) (W:World):Nat→Value→Prop
 | 0,v=>v = .pointer (some ⟨B,0,none⟩)
 | 1,v=>v = .int .i64 y2
 | 2,v=>v = .int .i64 (1 + y2)
 | 3,v=>∃ g,v = .slice (some ⟨g,0,none⟩) 8 8∧S0 ≤ g∧(¬ p→W.rangeAt g 0 (tyL.map (.int .i64)))
 | 4,v=>v = .pointer (some ⟨B,0,none⟩)
 | 5,v=>v = .int .i64 k3
 | 6,v=>∃ g,v = .pointer (some ⟨g,k3,none⟩)∧S0 ≤ g∧(¬ p→W.rangeAt g 0 (tyL.map (.int .i64)))
 | 7,v=>v = .int .i64 (tyL.getD k3 0)
 | 8,v=>v = .pointer (some ⟨B,0,none⟩)
 | 9,v=>v = .int .i64 y4
 | 10,v=>v = .int .i64 (1 + y4)
 | 11,v=>v = .pointer (some ⟨B,0,none⟩)
 | 12,v=>∃ g,v = .slice (some ⟨g,0,none⟩) 3 3∧S0 ≤ g∧(¬ p→W.rangeAt g 0 (tag3.map .string))
 | 13,v=>v = .string O
 | 14,v=>v = .agg (Cm.mk 1 (1 + y2) (tyL.getD k3 0) 0 (1 + y4) 0 0 O).vs.toArray
 | 15,v=>∃ pt,v = .pointer (some ⟨pt,0,none⟩)∧S0 ≤ pt∧(¬ p→pt < W.heap.size∧W.there pt 0 8)∧(p→Fin pt W)
 | _,_=>True
theorem cK {B S0:Nat} {y2 y4:Int} {k3:Nat} {O:ByteArray} {Fin:Nat→World→Prop} {p:Prop} {W W':World} (hp:¬ p) (hB:B < S0) (hg:W.grownBy W' (some B)):∀ j v,D11 B S0 y2 y4 k3 O Fin p W j v→D11 B S0 y2 y4 k3 O Fin p W' j v:=by
 have e:∀ g (vs:List Value) (u:Value),S0 ≤ g→W.rangeAt g 0 (u :: vs)→W'.rangeAt g 0 (u :: vs):=fun g vs u h Q=>zq Q hg (yK W _ (Q 0 _ rfl)) (fun e=>by have:=Option.some.inj e; omega)
 intro j v h
 match j with
 | 3=>obtain ⟨g,Q,N,h3⟩:=h; exact ⟨g,Q,N,fun q=>e g _ _ N (h3 q)⟩
 | 6=>obtain ⟨g,Q,h3,h4⟩:=h; exact ⟨g,Q,h3,fun q=>e g _ _ h3 (h4 q)⟩
 | 12=>obtain ⟨g,Q,N,h3⟩:=h; exact ⟨g,Q,N,fun q=>e g _ _ N (h3 q)⟩
 | 15=>obtain ⟨pt,Q,N,h3,h4⟩:=h; exact ⟨pt,Q,N,fun q=>⟨yJ (h3 q).1 hg.size,zZ (h3 q).2 hg (h3 q).1 (fun e=>by have:=Option.some.inj e; omega)⟩,fun q=>absurd q hp⟩
 | 0 | 1 | 2 | 4 | 5 | 7 | 8 | 9 | 10 | 11 | 13 | 14=>exact h
 | j + 16=>trivial
structure DrZ (B pt:Nat) (w:World) (v:Value) (l:List Int) (s:Sr) (c:Cm) (V:World):Prop where
 dc:DrY B w.heap.size w v l s V
 r:V.rangeAt pt 0 c.vs
 t:V.there pt 0 8
 lt:pt < V.heap.size
theorem drZ_step {B pt:Nat} {w V V':World} {v:Value} {l:List Int} {s s':Sr} {c:Cm} (h:DrZ B pt w v l s c V) (hB:B < w.heap.size) (hp:w.heap.size < pt) (hE:SrXE B V v l s' V'):DrZ B pt w v l s' c V' :=
 ⟨bi h.dc hB hE (by have:=h.lt; omega),zq h.r hE.2 h.lt (fun e=>by have:=Option.some.inj e; omega),zZ h.t hE.2 h.lt (fun e=>by have:=Option.some.inj e; omega),yJ h.lt hE.2.size⟩
theorem drZ_set {B pt:Nat} {w V:World} {v:Value} {l:List Int} {s:Sr} {c c':Cm} (h:DrZ B pt w v l s c V) (hv:l ≠ []→∃ k,v.ownBlock = some k∧k < w.heap.size) (hB:B < w.heap.size) (hp:w.heap.size < pt) (j:Nat) (u:Value) (R:j < 8) (hc:c.vs.set j u = c'.vs):DrZ B pt w v l s c' (V.setCell ⟨pt,j,none⟩ u):=by
 refine ⟨⟨cC (b:=pt) (o:=j) hv h.dc.e hB (by omega) [u],xb (vs:=[u]) h.dc.t pt j⟩,?_,xb (vs:=[u]) h.t pt j,yJ h.lt (gr_setsD pt [u] j V).size⟩
 have:=dR (v:=u) h.r (j0:=j) R
 rwa [Nat.zero_add,hc] at this
set_option maxRecDepth 100000 in
set_option maxHeartbeats 3200000 in
theorem cmd_ex (B:Nat) (v:Value) (l:List Int) (ids:Int) (s:Sr) (w:World) (h:SrX B w v l s) (hm:s.at_ ≤ 700000000) (uE:0 ≤ ids) (pd:ids ≤ 1000) :
  Calls Tryz.prog 11 #[.pointer (some ⟨B,0,none⟩),.int .i64 ids] w fun e w'=>∃ c:Cm,e = .returned (.agg c.vs.toArray)∧CmEq c (cmdF l ids s).1∧SrXE B w v l (cmdF l ids s).2 w':=by
 have ko:=hide (cmdF.eq_1 l ids s)
 have C0:=hide (fun W hW=>aS B v l 12 s W hW (by omega) (by omega) (by omega))
 have a0:=aC l 12 s
 obtain ⟨pO,hy1⟩:=nx_bd (l:=l) (n:=12) (s:=s) (by omega)
 try simp only at ko
 generalize nxF l 12 s = R0 at ko C0 a0 pO hy1
 obtain ⟨y,s1⟩:=R0
 simp only at ko C0 a0 pO hy1
 generalize cmdF l ids s = RES at ko ⊢
 have HV:=hide (src_far h.src)
 have hB:=bL h.src
 have ow:Hid (DrY B w.heap.size w v l s (w.alloc (Obj.cells #[.int .i64 0,.int .i64 0,.int .i64 0,.int .i64 0,.int .i64 0,.int .i64 0,.float .f64 0,.string ⟨#[]⟩] 27))):=⟨bh (bB h) _,(bG w [.int .i64 0,.int .i64 0,.int .i64 0,.int .i64 0,.int .i64 0,.int .i64 0,.float .f64 0,.string ⟨#[]⟩] 27).t⟩
 have oS:w.heap.size < (w.alloc (Obj.cells #[.int .i64 0,.int .i64 0,.int .i64 0,.int .i64 0,.int .i64 0,.int .i64 0,.float .f64 0,.string ⟨#[]⟩] 27)).heap.size:=by simp
 clear h
 go_enter Tryz.func11,Tryz.ntmps11
 go_wp2_with fail
 generalize (w.alloc (Obj.cells #[.int .i64 0,.int .i64 0,.int .i64 0,.int .i64 0,.int .i64 0,.int .i64 0,.float .f64 0,.string ⟨#[]⟩] 27)) = W0 at ow oS ⊢
 refine (U C0 W0 (U ow).e.1).mono ?_
 rintro e W1 ⟨rfl,hE⟩
 have qV:=hide (bi (U ow) hB hE oS)
 have xA:w.heap.size < W1.heap.size:=yJ oS hE.2.size
 clear hE ow oS C0
 by_cases e0:y = 0
 ·have HC0:=hide ((U ko).trans (if_pos e0))
  clear ko
  subst e0
  go_wp2_with fail
  refine (rawCmd_ex B v l s1 W1 (U qV).e.1 (by omega)).mono ?_
  rintro e W2 ⟨⟨y1,y2,y3,y4,y5,y6,y7,y8⟩,rfl,hy8,hE⟩
  rw [← U HC0] at hy8 hE
  have HY8:=hide hy8
  have pl:=hide (bi (U qV) hB hE xA)
  clear hE qV xA hy8
  unfold Cm.vs
  simp only
  have jF:=hide (U pl).t
  have uP:Hid ((W2.setCells w.heap.size 0 [.int .i64 y1,.int .i64 y2,.int .i64 y3,.int .i64 y4,.int .i64 y5,.int .i64 y6,.float .f64 y7,.string y8]).rangeAt w.heap.size 0 [.int .i64 y1,.int .i64 y2,.int .i64 y3,.int .i64 y4,.int .i64 y5,.int .i64 y6,.float .f64 y7,.string y8]):=yX _ _ _ _ (U pl).t
  have kf:Hid (SrXE B w v l RES.2 (W2.setCells w.heap.size 0 [.int .i64 y1,.int .i64 y2,.int .i64 y3,.int .i64 y4,.int .i64 y5,.int .i64 y6,.float .f64 y7,.string y8])):=cC (U HV) (U pl).e hB (Nat.le_refl _) _
  try dsimp only
  rename_i K1 pB K2 qO
  refine qO _ _ ?_
  have xu:=hide pB
  clear pB qO
  refine wpList_store_mid rfl 27 (.tmp 4) (.tmp 11) rfl w.heap.size 0 #[.int .i64 y1,.int .i64 y2,.int .i64 y3,.int .i64 y4,.int .i64 y5,.int .i64 y6,.float .f64 y7,.string y8] rfl rfl (U jF) (by kernel_rfl) (by simp [Value.oneCell']) ?_
  change wpList _ _ _ _ _ (W2.setCells w.heap.size 0 [.int .i64 y1,.int .i64 y2,.int .i64 y3,.int .i64 y4,.int .i64 y5,.int .i64 y6,.float .f64 y7,.string y8])
  generalize W2.setCells w.heap.size 0 [.int .i64 y1,.int .i64 y2,.int .i64 y3,.int .i64 y4,.int .i64 y5,.int .i64 y6,.float .f64 y7,.string y8] = WF at uP kf ⊢
  have pB:=U xu
  go_wp2_with fail
  have d0:=U uP 0 _ rfl
  have d1:=U uP 1 _ rfl
  have d2:=U uP 2 _ rfl
  have d3:=U uP 3 _ rfl
  have d4:=U uP 4 _ rfl
  have d5:=U uP 5 _ rfl
  have d6:=U uP 6 _ rfl
  have d7:=U uP 7 _ rfl
  simp only [Nat.zero_add] at d0 d1 d2 d3 d4 d5 d6 d7
  refine bodyPost_ret (by simp [results,Tryz.results11,go_sem,d0,d1,d2,d3,d4,d5,d6,d7]; try rfl) rfl ?_
  exact ⟨⟨y1,y2,y3,y4,y5,y6,y7,y8⟩,rfl,U HY8,U kf⟩
 have pT:=hide ((U ko).trans (if_neg e0))
 clear ko
 have b0:(y == 0) = false:=by simpa using e0
 have CI:=hide (fun W hW=>aS B v l (ids + 1) s1 W hW (by omega) (by omega) (by omega))
 have aI:=aC l (ids + 1) s1
 obtain ⟨uA,uC⟩:=nx_bd (l:=l) (n:=ids + 1) (s:=s1) (by omega)
 generalize nxF l (ids + 1) s1 = RI at pT CI aI uA uC
 obtain ⟨z,s2⟩:=RI
 simp only at pT CI aI uA uC
 have hwr:IntKind.i64.wrap (ids + 1) = ids + 1:=by rw [IntKind.wrap_i64]; omega
 have hwz:IntKind.i64.wrap (1 + z) = 1 + z:=by rw [IntKind.wrap_i64]; omega
 by_cases e1:y = 1
 ·have pU:=hide ((U pT).trans (if_pos e1))
  clear pT
  subst e1
  go_wp2_with fail
  refine (U CI W1 (U qV).e.1).mono ?_
  rintro e W2 ⟨rfl,hE⟩
  have pl:=hide (bi (U qV) hB hE xA)
  clear hE qV xA
  have jF:=hide (U pl).t
  have uP:Hid ((W2.setCells w.heap.size 0 [.int .i64 2,.int .i64 0,.int .i64 0,.int .i64 0,.int .i64 0,.int .i64 (1 + z),.float .f64 0,.string ⟨#[]⟩]).rangeAt w.heap.size 0 [.int .i64 2,.int .i64 0,.int .i64 0,.int .i64 0,.int .i64 0,.int .i64 (1 + z),.float .f64 0,.string ⟨#[]⟩]):=yX _ _ _ _ (U pl).t
  have kf:Hid (SrXE B w v l s2 (W2.setCells w.heap.size 0 [.int .i64 2,.int .i64 0,.int .i64 0,.int .i64 0,.int .i64 0,.int .i64 (1 + z),.float .f64 0,.string ⟨#[]⟩])):=cC (U HV) (U pl).e hB (Nat.le_refl _) _
  try dsimp only
  rename_i K1 pB K2 qO
  refine qO _ _ ?_
  have xu:=hide pB
  clear pB qO
  refine wpList_step fun K3 vT=>?_
  have vA:=hide vT
  clear vT
  rw [if_pos (by rfl)]
  unfold Oper.wp
  go_simp
  refine U vA _ _ ?_
  clear vA
  refine wpList_step fun K3 vT=>?_
  have vA:=hide vT
  clear vT
  rw [if_pos (by rfl)]
  unfold Oper.wp
  go_simp
  refine U vA _ _ ?_
  clear vA
  refine wpList_store_mid rfl 27 (.tmp 4) (.tmp 19) rfl w.heap.size 0 #[.int .i64 2,.int .i64 0,.int .i64 0,.int .i64 0,.int .i64 0,.int .i64 (1 + z),.float .f64 0,.string ⟨#[]⟩] rfl rfl (U jF) (by kernel_rfl) (by simp [Value.oneCell']) ?_
  change wpList _ _ _ _ _ (W2.setCells w.heap.size 0 [.int .i64 2,.int .i64 0,.int .i64 0,.int .i64 0,.int .i64 0,.int .i64 (1 + z),.float .f64 0,.string ⟨#[]⟩])
  generalize W2.setCells w.heap.size 0 [.int .i64 2,.int .i64 0,.int .i64 0,.int .i64 0,.int .i64 0,.int .i64 (1 + z),.float .f64 0,.string ⟨#[]⟩] = WF at uP kf ⊢
  have pB:=U xu
  go_wp2_with fail
  have d0:=U uP 0 _ rfl
  have d1:=U uP 1 _ rfl
  have d2:=U uP 2 _ rfl
  have d3:=U uP 3 _ rfl
  have d4:=U uP 4 _ rfl
  have d5:=U uP 5 _ rfl
  have d6:=U uP 6 _ rfl
  have d7:=U uP 7 _ rfl
  simp only [Nat.zero_add] at d0 d1 d2 d3 d4 d5 d6 d7
  refine bodyPost_ret (by simp [results,Tryz.results11,go_sem,d0,d1,d2,d3,d4,d5,d6,d7]; try rfl) rfl ?_
  rw [U pU]
  exact ⟨⟨2,0,0,0,0,1 + z,0,⟨#[]⟩⟩,rfl,⟨rfl,rfl,rfl,rfl,rfl,rfl,.inl rfl,rfl⟩,U kf⟩
 have pU:=hide ((U pT).trans (if_neg e1))
 clear pT
 have b1:(y == 1) = false:=by simpa using e1
 by_cases e2:y = 2
 ·have jb:=hide ((U pU).trans (if_pos e2))
  clear pU
  have C6:=hide (fun W hW=>aS B v l 6 s2 W hW (by omega) (by omega) (by omega))
  generalize nxF l 6 s2 = R6 at jb C6
  obtain ⟨u,s3⟩:=R6
  simp only at jb C6
  subst e2
  go_wp2_with fail
  refine (U CI W1 (U qV).e.1).mono ?_
  rintro e W2 ⟨rfl,hE⟩
  have pl:=hide (bi (U qV) hB hE xA)
  have uc:w.heap.size < W2.heap.size:=yJ xA hE.2.size
  clear hE qV xA
  go_wp2_with fail
  refine (U C6 W2 (U pl).e.1).mono ?_
  rintro e W3 ⟨rfl,hE⟩
  have HD3:=hide (bi (U pl) hB hE uc)
  clear hE pl uc
  have jF:=hide (U HD3).t
  have uP:Hid ((W3.setCells w.heap.size 0 [.int .i64 3,.int .i64 0,.int .i64 0,.int .i64 0,.int .i64 u,.int .i64 (1 + z),.float .f64 0,.string ⟨#[]⟩]).rangeAt w.heap.size 0 [.int .i64 3,.int .i64 0,.int .i64 0,.int .i64 0,.int .i64 u,.int .i64 (1 + z),.float .f64 0,.string ⟨#[]⟩]):=yX _ _ _ _ (U HD3).t
  have kf:Hid (SrXE B w v l s3 (W3.setCells w.heap.size 0 [.int .i64 3,.int .i64 0,.int .i64 0,.int .i64 0,.int .i64 u,.int .i64 (1 + z),.float .f64 0,.string ⟨#[]⟩])):=cC (U HV) (U HD3).e hB (Nat.le_refl _) _
  try dsimp only
  rename_i K1 pB K2 qO
  refine qO _ _ ?_
  have xu:=hide pB
  clear pB qO
  refine wpList_step fun K3 vT=>?_
  have vA:=hide vT
  clear vT
  rw [if_pos (by rfl)]
  unfold Oper.wp
  go_simp
  refine U vA _ _ ?_
  clear vA
  refine wpList_store_mid rfl 27 (.tmp 4) (.tmp 29) rfl w.heap.size 0 #[.int .i64 3,.int .i64 0,.int .i64 0,.int .i64 0,.int .i64 u,.int .i64 (1 + z),.float .f64 0,.string ⟨#[]⟩] rfl rfl (U jF) (by kernel_rfl) (by simp [Value.oneCell']) ?_
  change wpList _ _ _ _ _ (W3.setCells w.heap.size 0 [.int .i64 3,.int .i64 0,.int .i64 0,.int .i64 0,.int .i64 u,.int .i64 (1 + z),.float .f64 0,.string ⟨#[]⟩])
  generalize W3.setCells w.heap.size 0 [.int .i64 3,.int .i64 0,.int .i64 0,.int .i64 0,.int .i64 u,.int .i64 (1 + z),.float .f64 0,.string ⟨#[]⟩] = WF at uP kf ⊢
  have pB:=U xu
  go_wp2_with fail
  have d0:=U uP 0 _ rfl
  have d1:=U uP 1 _ rfl
  have d2:=U uP 2 _ rfl
  have d3:=U uP 3 _ rfl
  have d4:=U uP 4 _ rfl
  have d5:=U uP 5 _ rfl
  have d6:=U uP 6 _ rfl
  have d7:=U uP 7 _ rfl
  simp only [Nat.zero_add] at d0 d1 d2 d3 d4 d5 d6 d7
  refine bodyPost_ret (by simp [results,Tryz.results11,go_sem,d0,d1,d2,d3,d4,d5,d6,d7]; try rfl) rfl ?_
  rw [U jb]
  exact ⟨⟨3,0,0,0,u,1 + z,0,⟨#[]⟩⟩,rfl,⟨rfl,rfl,rfl,rfl,rfl,rfl,.inl rfl,rfl⟩,U kf⟩
 have jb:=hide ((U pU).trans (if_neg e2))
 clear pU
 have b2:(y == 2) = false:=by simpa using e2
 by_cases e3:y = 3
 ·have HC4:=hide ((U jb).trans (if_pos e3))
  clear jb
  subst e3
  have uP:Hid ((W1.setCells w.heap.size 0 [.int .i64 4,.int .i64 0,.int .i64 0,.int .i64 0,.int .i64 0,.int .i64 0,.float .f64 0,.string ⟨#[]⟩]).rangeAt w.heap.size 0 [.int .i64 4,.int .i64 0,.int .i64 0,.int .i64 0,.int .i64 0,.int .i64 0,.float .f64 0,.string ⟨#[]⟩]):=yX _ _ _ _ (U qV).t
  have kf:Hid (SrXE B w v l s1 (W1.setCells w.heap.size 0 [.int .i64 4,.int .i64 0,.int .i64 0,.int .i64 0,.int .i64 0,.int .i64 0,.float .f64 0,.string ⟨#[]⟩])):=cC (U HV) (U qV).e hB (Nat.le_refl _) _
  try dsimp only
  repeat (first | (refine wpList_store_mid rfl 27 (.tmp 4) (.tmp 32) rfl w.heap.size 0 #[.int .i64 4,.int .i64 0,.int .i64 0,.int .i64 0,.int .i64 0,.int .i64 0,.float .f64 0,.string ⟨#[]⟩] rfl rfl (U qV).t (by kernel_rfl) (by simp [Value.oneCell']) ?_; change wpList _ _ _ _ _ (W1.setCells w.heap.size 0 [.int .i64 4,.int .i64 0,.int .i64 0,.int .i64 0,.int .i64 0,.int .i64 0,.float .f64 0,.string ⟨#[]⟩])) | go_step)
  generalize W1.setCells w.heap.size 0 [.int .i64 4,.int .i64 0,.int .i64 0,.int .i64 0,.int .i64 0,.int .i64 0,.float .f64 0,.string ⟨#[]⟩] = WF at uP kf ⊢
  have d0:=U uP 0 _ rfl
  have d1:=U uP 1 _ rfl
  have d2:=U uP 2 _ rfl
  have d3:=U uP 3 _ rfl
  have d4:=U uP 4 _ rfl
  have d5:=U uP 5 _ rfl
  have d6:=U uP 6 _ rfl
  have d7:=U uP 7 _ rfl
  simp only [Nat.zero_add] at d0 d1 d2 d3 d4 d5 d6 d7
  refine bodyPost_ret (by simp [results,Tryz.results11,go_sem,d0,d1,d2,d3,d4,d5,d6,d7]; try rfl) rfl ?_
  rw [U HC4]
  exact ⟨⟨4,0,0,0,0,0,0,⟨#[]⟩⟩,rfl,⟨rfl,rfl,rfl,rfl,rfl,rfl,.inl rfl,rfl⟩,U kf⟩
 have HC4:=hide ((U jb).trans (if_neg e3))
 clear jb
 have b3:(y == 3) = false:=by simpa using e3
 clear e0 e1 e2 e3 CI aI uA uC hwr hwz
 have c0:=aC l 2 s1
 obtain ⟨p0,q0⟩:=nx_bd (l:=l) (n:=2) (s:=s1) (by omega)
 have K0:=hide (fun W hW=>aS B v l 2 s1 W hW (by omega) (by omega) (by omega))
 have kn:=hide ((U HC4).trans (cnF.eq_1 l s1))
 clear HC4
 try simp only at kn
 generalize nxF l 2 s1 = R0 at kn K0 c0 p0 q0
 obtain ⟨y2,s2⟩:=R0
 simp only at kn K0 c0 p0 q0
 have c1:=aC l 8 s2
 obtain ⟨p1,q1⟩:=nx_bd (l:=l) (n:=8) (s:=s2) (by omega)
 have K1:=hide (fun W hW=>aS B v l 8 s2 W hW (by omega) (by omega) (by omega))
 generalize nxF l 8 s2 = R1 at kn K1 c1 p1 q1
 obtain ⟨y3,s3⟩:=R1
 simp only at kn K1 c1 p1 q1
 have c2:=aC l 12 s3
 obtain ⟨p2,q2⟩:=nx_bd (l:=l) (n:=12) (s:=s3) (by omega)
 have K2:=hide (fun W hW=>aS B v l 12 s3 W hW (by omega) (by omega) (by omega))
 generalize nxF l 12 s3 = R2 at kn K2 c2 p2 q2
 obtain ⟨y4,s4⟩:=R2
 simp only at kn K2 c2 p2 q2
 have c3:=aC l 3 s4
 obtain ⟨p3,q3⟩:=nx_bd (l:=l) (n:=3) (s:=s4) (by omega)
 have K3:=hide (fun g W hW hg hr=>pick_ex B g 3 v l s4 tag3 W hW (by omega) hg rfl (by omega) (by omega) hr)
 have e3:((3:Nat):Int) = 3:=rfl
 rw [e3] at K3
 clear e3
 generalize nxF l 3 s4 = R3 at kn K3 c3 p3 q3
 obtain ⟨y5,s5⟩:=R3
 simp only at kn K3 c3 p3 q3
 obtain ⟨k3,rfl⟩:=Int.eq_ofNat_of_zero_le p1
 rw [Int.toNat_natCast] at kn
 generalize pM:tag3.getD y5.toNat ⟨#[]⟩ = O at kn K3
 clear pM p3 q3
 go_wp2_with fail
 have hB1:B < W1.heap.size:=by omega
 refine zh (RXd (fun x W=>SrXE B W1 v l (stX s1 s2 s3 s4 s5 x) W) (fun f=>{ tmps:=#[.pointer (some ⟨B,0,none⟩),.int .i64 ids,undef,undef,.pointer (some ⟨w.heap.size,0,none⟩),f 15,.pointer (some ⟨B,0,none⟩),.int .i64 y,.bool false,.bool false,undef,undef,.bool false,.bool false,undef,undef,undef,undef,undef,undef,.bool false,.bool false,undef,undef,undef,undef,undef,undef,undef,undef,.bool false,.bool false,undef,f 0,f 1,f 2,f 3,f 4,f 5,f 6,f 7,f 8,f 9,f 10,f 11,f 12,f 13,f 14,undef,undef,undef,undef,undef,undef,undef,undef,undef,undef,undef,undef,undef,undef,undef,undef,undef,undef],defers:=[] }) 16 (D11 B W1.heap.size y2 y4 k3 O (fun pt W=>DrZ B pt w v l s5 (Cm.mk 1 (1 + y2) (tyL.getD k3 0) 0 (1 + y4) 0 0 O) W))) (by kernel_rfl) ?_ ?_ ?_
 ·exact ⟨fun j=>undef,rfl,fun _=>srX_drew (bB (U qV).e.1) 1,fun j R=>by rw [yI] at R; split at R <;> simp at R⟩
 rotate_left
 ·rintro x xm V j o ⟨f,rfl,ju,hD⟩ xo hx Z xy D
  have uj:=hide ju
  have HD:=hide hD
  have hl:x.length = 17:=by rw [hx]; rfl
  have kk:j < 16→¬ x[16]? = some true:=fun xK h16=>by
   have e:∀ i,i < 16→x[i]? = some true:=fun i hi=>by
    rcases (by omega:i = 0 ∨ i = 1 ∨ i = 2 ∨ i = 3 ∨ i = 4 ∨ i = 5 ∨ i = 6 ∨ i = 7 ∨ i = 8 ∨ i = 9 ∨ i = 10 ∨ i = 11 ∨ i = 12 ∨ i = 13 ∨ i = 14 ∨ i = 15) with rfl | rfl | rfl | rfl | rfl | rfl | rfl | rfl | rfl | rfl | rfl | rfl | rfl | rfl | rfl | rfl
    all_goals exact xo 16 _ rfl h16 ⟨_,.phase⟩ (by simp) rfl
   rw [e j xK] at xy; cases xy
  have t51:x[5]? = some true→x[1]? = some true:=fun h=>xo 5 _ rfl h ⟨1,.chain⟩ (by simp) rfl
  have t95:x[9]? = some true→x[5]? = some true:=fun h=>xo 9 _ rfl h ⟨5,.chain⟩ (by simp) rfl
  have t139:x[13]? = some true→x[9]? = some true:=fun h=>xo 13 _ rfl h ⟨9,.chain⟩ (by simp) rfl
  have HT:Hid (_∧_∧_):=⟨t51,t95,t139⟩
  clear ju xo t51 t95 t139
  match j,Z with
  | 0,Z =>
   obtain rfl:=Option.some.inj Z
   have nk:=kk (by omega)
   clear D hD
   rw [if_pos (by rfl)]
   unfold Oper.wp
   go_simp
   exact ⟨upd f 0 (.pointer (some ⟨B,0,none⟩)),by simp [upd],aZ (S:=fun x W=>SrXE B W1 v l (stX s1 s2 s3 s4 s5 x) W) (k:=16) (i:=0) (U HD) (by decide) (fun _ _ h=>h) (by show SrXE B W1 v l (stX s1 s2 s3 s4 s5 (x.set _ true)) _; rw [bC (by decide) (by decide) (by decide) (by decide)]; exact U uj nk) rfl⟩
  | 1,Z =>
   obtain rfl:=Option.some.inj Z
   have nk:=kk (by omega)
   have gd:f 0 = .pointer (some ⟨B,0,none⟩):=hD 0 (D ⟨0,.data⟩ (by simp) rfl)
   have n1:x[1]? ≠ some true:=by rw [xy]; simp
   have n5:x[5]? ≠ some true:=fun h=>n1 ((U HT).1 h)
   have n9:x[9]? ≠ some true:=fun h=>n5 ((U HT).2.1 h)
   have ay:x[13]? ≠ some true:=fun h=>n9 ((U HT).2.2 h)
   have EO:Hid (stX s1 s2 s3 s4 s5 x = s1):=by show _ = _; rw [stX,if_neg ay,if_neg n9,if_neg n5,if_neg n1]
   have EN:Hid (stX s1 s2 s3 s4 s5 (x.set 1 true) = s2):=by show _ = _; rw [stX,if_neg (by rw [yW (by decide)]; exact ay),if_neg (by rw [yW (by decide)]; exact n9),if_neg (by rw [yW (by decide)]; exact n5),if_pos (List.getElem?_set_self (by omega))]
   have jL:SrXE B W1 v l (stX s1 s2 s3 s4 s5 x) V:=U uj nk
   rw [U EO] at jL
   have jL:=hide jL
   clear n1 n5 n9 ay
   clear D hD
   rw [if_pos (by rfl)]
   unfold Oper.wp
   go_simp
   refine (U K0 V (U jL).1).mono ?_
   rintro e w5 ⟨rfl,qN⟩
   exact ⟨upd f 1 (.int .i64 y2),by simp [upd,gd],aZ (S:=fun x W=>SrXE B W1 v l (stX s1 s2 s3 s4 s5 x) W) (k:=16) (i:=1) (U HD) (by decide) (cK nk hB1 qN.2) (by show SrXE B W1 v l (stX s1 s2 s3 s4 s5 (x.set _ true)) _; rw [U EN]; exact ⟨qN.1,zL (U jL).2 qN.2⟩) rfl⟩
  | 2,Z =>
   obtain rfl:=Option.some.inj Z
   have nk:=kk (by omega)
   have gd:f 1 = .int .i64 y2:=hD 1 (D ⟨1,.data⟩ (by simp) rfl)
   have hw:IntKind.i64.wrap (1 + y2) = 1 + y2:=by rw [IntKind.wrap_i64]; omega
   clear D hD
   rw [if_pos (by rfl)]
   unfold Oper.wp
   go_simp
   exact ⟨upd f 2 (.int .i64 (1 + y2)),by simp [upd,gd],aZ (S:=fun x W=>SrXE B W1 v l (stX s1 s2 s3 s4 s5 x) W) (k:=16) (i:=2) (U HD) (by decide) (fun _ _ h=>h) (by show SrXE B W1 v l (stX s1 s2 s3 s4 s5 (x.set _ true)) _; rw [bC (by decide) (by decide) (by decide) (by decide)]; exact U uj nk) rfl⟩
  | 3,Z =>
   obtain rfl:=Option.some.inj Z
   have nk:=kk (by omega)
   have hS:W1.heap.size ≤ V.heap.size:=(U uj nk).2.size
   clear D hD
   rw [if_pos (by rfl)]
   unfold Oper.wp
   go_simp
   exact ⟨upd f 3 (.slice (some ⟨V.heap.size,0,none⟩) 8 8),by simp [upd],aZ (S:=fun x W=>SrXE B W1 v l (stX s1 s2 s3 s4 s5 x) W) (k:=16) (i:=3) (U HD) (by decide) (cK nk hB1 (aY _ _ _)) (by show SrXE B W1 v l (stX s1 s2 s3 s4 s5 (x.set _ true)) _; rw [bC (by decide) (by decide) (by decide) (by decide)]; exact bh (U uj nk) _) ⟨V.heap.size,rfl,hS,fun _=>(bG V (tyL.map (.int .i64)) _).r⟩⟩
  | 4,Z =>
   obtain rfl:=Option.some.inj Z
   have nk:=kk (by omega)
   clear D hD
   rw [if_pos (by rfl)]
   unfold Oper.wp
   go_simp
   exact ⟨upd f 4 (.pointer (some ⟨B,0,none⟩)),by simp [upd],aZ (S:=fun x W=>SrXE B W1 v l (stX s1 s2 s3 s4 s5 x) W) (k:=16) (i:=4) (U HD) (by decide) (fun _ _ h=>h) (by show SrXE B W1 v l (stX s1 s2 s3 s4 s5 (x.set _ true)) _; rw [bC (by decide) (by decide) (by decide) (by decide)]; exact U uj nk) rfl⟩
  | 5,Z =>
   obtain rfl:=Option.some.inj Z
   have nk:=kk (by omega)
   have gd:f 4 = .pointer (some ⟨B,0,none⟩):=hD 4 (D ⟨4,.data⟩ (by simp) rfl)
   have n5:x[5]? ≠ some true:=by rw [xy]; simp
   have n9:x[9]? ≠ some true:=fun h=>n5 ((U HT).2.1 h)
   have ay:x[13]? ≠ some true:=fun h=>n9 ((U HT).2.2 h)
   have Q:x[1]? = some true:=D ⟨1,.chain⟩ (by simp) rfl
   have EO:Hid (stX s1 s2 s3 s4 s5 x = s2):=by show _ = _; rw [stX,if_neg ay,if_neg n9,if_neg n5,if_pos Q]
   have EN:Hid (stX s1 s2 s3 s4 s5 (x.set 5 true) = s3):=by show _ = _; rw [stX,if_neg (by rw [yW (by decide)]; exact ay),if_neg (by rw [yW (by decide)]; exact n9),if_pos (List.getElem?_set_self (by omega))]
   have jL:SrXE B W1 v l (stX s1 s2 s3 s4 s5 x) V:=U uj nk
   rw [U EO] at jL
   have jL:=hide jL
   clear n5 n9 ay Q
   clear D hD
   rw [if_pos (by rfl)]
   unfold Oper.wp
   go_simp
   refine (U K1 V (U jL).1).mono ?_
   rintro e w5 ⟨rfl,qN⟩
   exact ⟨upd f 5 (.int .i64 k3),by simp [upd,gd],aZ (S:=fun x W=>SrXE B W1 v l (stX s1 s2 s3 s4 s5 x) W) (k:=16) (i:=5) (U HD) (by decide) (cK nk hB1 qN.2) (by show SrXE B W1 v l (stX s1 s2 s3 s4 s5 (x.set _ true)) _; rw [U EN]; exact ⟨qN.1,zL (U jL).2 qN.2⟩) rfl⟩
  | 6,Z =>
   obtain rfl:=Option.some.inj Z
   have nk:=kk (by omega)
   obtain ⟨g,g3,hSg,jI⟩:=hD 3 (D ⟨3,.data⟩ (by simp) rfl)
   have g5:f 5 = .int .i64 k3:=hD 5 (D ⟨5,.data⟩ (by simp) rfl)
   have HRG:=hide (jI nk)
   have hki:(k3:Int) < 8:=by omega
   clear jI
   clear D hD
   rw [if_pos (by rfl)]
   unfold Oper.wp
   go_simp
   exact ⟨upd f 6 (.pointer (some ⟨g,k3,none⟩)),by simp [upd,g3,g5],aZ (S:=fun x W=>SrXE B W1 v l (stX s1 s2 s3 s4 s5 x) W) (k:=16) (i:=6) (U HD) (by decide) (fun _ _ h=>h) (by show SrXE B W1 v l (stX s1 s2 s3 s4 s5 (x.set _ true)) _; rw [bC (by decide) (by decide) (by decide) (by decide)]; exact U uj nk) ⟨g,rfl,hSg,fun _=>U HRG⟩⟩
  | 7,Z =>
   obtain rfl:=Option.some.inj Z
   have nk:=kk (by omega)
   obtain ⟨g,g6,hSg,jI⟩:=hD 6 (D ⟨6,.data⟩ (by simp) rfl)
   have hc7:V.cell? ⟨g,k3,none⟩ = some (.int .i64 (tyL.getD k3 0)):=by
    obtain ⟨t,ht⟩:∃ t,tyL[k3]? = some t:=⟨_,yH (by show k3 < 8; omega)⟩
    have:=jI nk k3 (.int .i64 t) (by rw [List.getElem?_map,ht]; rfl)
    rw [Nat.zero_add] at this
    rw [this,List.getD_eq_getElem?_getD,ht]; rfl
   clear jI
   clear D hD
   rw [if_pos (by rfl)]
   unfold Oper.wp
   go_simp
   exact ⟨upd f 7 (.int .i64 (tyL.getD k3 0)),by simp [upd,g6],aZ (S:=fun x W=>SrXE B W1 v l (stX s1 s2 s3 s4 s5 x) W) (k:=16) (i:=7) (U HD) (by decide) (fun _ _ h=>h) (by show SrXE B W1 v l (stX s1 s2 s3 s4 s5 (x.set _ true)) _; rw [bC (by decide) (by decide) (by decide) (by decide)]; exact U uj nk) rfl⟩
  | 8,Z =>
   obtain rfl:=Option.some.inj Z
   have nk:=kk (by omega)
   clear D hD
   rw [if_pos (by rfl)]
   unfold Oper.wp
   go_simp
   exact ⟨upd f 8 (.pointer (some ⟨B,0,none⟩)),by simp [upd],aZ (S:=fun x W=>SrXE B W1 v l (stX s1 s2 s3 s4 s5 x) W) (k:=16) (i:=8) (U HD) (by decide) (fun _ _ h=>h) (by show SrXE B W1 v l (stX s1 s2 s3 s4 s5 (x.set _ true)) _; rw [bC (by decide) (by decide) (by decide) (by decide)]; exact U uj nk) rfl⟩
  | 9,Z =>
   obtain rfl:=Option.some.inj Z
   have nk:=kk (by omega)
   have gd:f 8 = .pointer (some ⟨B,0,none⟩):=hD 8 (D ⟨8,.data⟩ (by simp) rfl)
   have n9:x[9]? ≠ some true:=by rw [xy]; simp
   have ay:x[13]? ≠ some true:=fun h=>n9 ((U HT).2.2 h)
   have h5:x[5]? = some true:=D ⟨5,.chain⟩ (by simp) rfl
   have EO:Hid (stX s1 s2 s3 s4 s5 x = s3):=by show _ = _; rw [stX,if_neg ay,if_neg n9,if_pos h5]
   have EN:Hid (stX s1 s2 s3 s4 s5 (x.set 9 true) = s4):=by show _ = _; rw [stX,if_neg (by rw [yW (by decide)]; exact ay),if_pos (List.getElem?_set_self (by omega))]
   have jL:SrXE B W1 v l (stX s1 s2 s3 s4 s5 x) V:=U uj nk
   rw [U EO] at jL
   have jL:=hide jL
   clear n9 ay h5
   clear D hD
   rw [if_pos (by rfl)]
   unfold Oper.wp
   go_simp
   refine (U K2 V (U jL).1).mono ?_
   rintro e w5 ⟨rfl,qN⟩
   exact ⟨upd f 9 (.int .i64 y4),by simp [upd,gd],aZ (S:=fun x W=>SrXE B W1 v l (stX s1 s2 s3 s4 s5 x) W) (k:=16) (i:=9) (U HD) (by decide) (cK nk hB1 qN.2) (by show SrXE B W1 v l (stX s1 s2 s3 s4 s5 (x.set _ true)) _; rw [U EN]; exact ⟨qN.1,zL (U jL).2 qN.2⟩) rfl⟩
  | 10,Z =>
   obtain rfl:=Option.some.inj Z
   have nk:=kk (by omega)
   have gd:f 9 = .int .i64 y4:=hD 9 (D ⟨9,.data⟩ (by simp) rfl)
   have hw:IntKind.i64.wrap (1 + y4) = 1 + y4:=by rw [IntKind.wrap_i64]; omega
   clear D hD
   rw [if_pos (by rfl)]
   unfold Oper.wp
   go_simp
   exact ⟨upd f 10 (.int .i64 (1 + y4)),by simp [upd,gd],aZ (S:=fun x W=>SrXE B W1 v l (stX s1 s2 s3 s4 s5 x) W) (k:=16) (i:=10) (U HD) (by decide) (fun _ _ h=>h) (by show SrXE B W1 v l (stX s1 s2 s3 s4 s5 (x.set _ true)) _; rw [bC (by decide) (by decide) (by decide) (by decide)]; exact U uj nk) rfl⟩
  | 11,Z =>
   obtain rfl:=Option.some.inj Z
   have nk:=kk (by omega)
   clear D hD
   rw [if_pos (by rfl)]
   unfold Oper.wp
   go_simp
   exact ⟨upd f 11 (.pointer (some ⟨B,0,none⟩)),by simp [upd],aZ (S:=fun x W=>SrXE B W1 v l (stX s1 s2 s3 s4 s5 x) W) (k:=16) (i:=11) (U HD) (by decide) (fun _ _ h=>h) (by show SrXE B W1 v l (stX s1 s2 s3 s4 s5 (x.set _ true)) _; rw [bC (by decide) (by decide) (by decide) (by decide)]; exact U uj nk) rfl⟩
  | 12,Z =>
   obtain rfl:=Option.some.inj Z
   have nk:=kk (by omega)
   have hS:W1.heap.size ≤ V.heap.size:=(U uj nk).2.size
   clear D hD
   rw [if_pos (by rfl)]
   unfold Oper.wp
   go_simp
   exact ⟨upd f 12 (.slice (some ⟨V.heap.size,0,none⟩) 3 3),by simp [upd],aZ (S:=fun x W=>SrXE B W1 v l (stX s1 s2 s3 s4 s5 x) W) (k:=16) (i:=12) (U HD) (by decide) (cK nk hB1 (aY _ _ _)) (by show SrXE B W1 v l (stX s1 s2 s3 s4 s5 (x.set _ true)) _; rw [bC (by decide) (by decide) (by decide) (by decide)]; exact bh (U uj nk) _) ⟨V.heap.size,rfl,hS,fun _=>(bG V (tag3.map .string) _).r⟩⟩
  | 13,Z =>
   obtain rfl:=Option.some.inj Z
   have nk:=kk (by omega)
   have gd:f 11 = .pointer (some ⟨B,0,none⟩):=hD 11 (D ⟨11,.data⟩ (by simp) rfl)
   obtain ⟨g,gs,hSg,jI⟩:=hD 12 (D ⟨12,.data⟩ (by simp) rfl)
   have HRG:=hide (jI nk)
   clear jI
   have ay:x[13]? ≠ some true:=by rw [xy]; simp
   have h9:x[9]? = some true:=D ⟨9,.chain⟩ (by simp) rfl
   have EO:Hid (stX s1 s2 s3 s4 s5 x = s4):=by show _ = _; rw [stX,if_neg ay,if_pos h9]
   have EN:Hid (stX s1 s2 s3 s4 s5 (x.set 13 true) = s5):=by show _ = _; rw [stX,if_pos (List.getElem?_set_self (by omega))]
   have jL:SrXE B W1 v l (stX s1 s2 s3 s4 s5 x) V:=U uj nk
   rw [U EO] at jL
   have jL:=hide jL
   clear ay h9
   clear D hD
   rw [if_pos (by rfl)]
   unfold Oper.wp
   go_simp
   refine (U K3 g V (U jL).1 (by omega) (fun k s hs=>by have:=U HRG k (.string s) (by rw [List.getElem?_map,hs]; rfl); rwa [Nat.zero_add] at this)).mono ?_
   rintro e w5 ⟨rfl,qN⟩
   exact ⟨upd f 13 (.string O),by simp [upd,gd,gs],aZ (S:=fun x W=>SrXE B W1 v l (stX s1 s2 s3 s4 s5 x) W) (k:=16) (i:=13) (U HD) (by decide) (cK nk hB1 qN.2) (by show SrXE B W1 v l (stX s1 s2 s3 s4 s5 (x.set _ true)) _; rw [U EN]; exact ⟨qN.1,zL (U jL).2 qN.2⟩) rfl⟩
  | 14,Z =>
   obtain rfl:=Option.some.inj Z
   have nk:=kk (by omega)
   have g2:f 2 = .int .i64 (1 + y2):=hD 2 (D ⟨2,.data⟩ (by simp) rfl)
   have g7:f 7 = .int .i64 (tyL.getD k3 0):=hD 7 (D ⟨7,.data⟩ (by simp) rfl)
   have qC:f 10 = .int .i64 (1 + y4):=hD 10 (D ⟨10,.data⟩ (by simp) rfl)
   have ku:f 13 = .string O:=hD 13 (D ⟨13,.data⟩ (by simp) rfl)
   clear D hD
   rw [if_pos (by rfl)]
   unfold Oper.wp
   go_simp
   exact ⟨upd f 14 (.agg (Cm.mk 1 (1 + y2) (tyL.getD k3 0) 0 (1 + y4) 0 0 O).vs.toArray),by simp [upd,g2,g7,qC,ku,Cm.vs],aZ (S:=fun x W=>SrXE B W1 v l (stX s1 s2 s3 s4 s5 x) W) (k:=16) (i:=14) (U HD) (by decide) (fun _ _ h=>h) (by show SrXE B W1 v l (stX s1 s2 s3 s4 s5 (x.set _ true)) _; rw [bC (by decide) (by decide) (by decide) (by decide)]; exact U uj nk) rfl⟩
  | 15,Z =>
   obtain rfl:=Option.some.inj Z
   have nk:=kk (by omega)
   have hS:W1.heap.size ≤ V.heap.size:=(U uj nk).2.size
   clear D hD
   rw [if_pos (by rfl)]
   unfold Oper.wp
   go_simp
   exact ⟨upd f 15 (.pointer (some ⟨V.heap.size,0,none⟩)),by simp [upd],aZ (S:=fun x W=>SrXE B W1 v l (stX s1 s2 s3 s4 s5 x) W) (k:=16) (i:=15) (U HD) (by decide) (cK nk hB1 (aY _ _ _)) (by show SrXE B W1 v l (stX s1 s2 s3 s4 s5 (x.set _ true)) _; rw [bC (by decide) (by decide) (by decide) (by decide)]; exact bh (U uj nk) _) ⟨V.heap.size,rfl,hS,fun _=>⟨by simp,(bG V [.int .i64 0,.int .i64 0,.int .i64 0,.int .i64 0,.int .i64 0,.int .i64 0,.float .f64 0,.string ⟨#[]⟩] _).t⟩,fun q=>absurd q nk⟩⟩
  | 16,Z =>
   obtain rfl:=Option.some.inj Z
   have nk0:¬ x[16]? = some true:=by rw [xy]; simp
   have kw:f 14 = .agg (Cm.mk 1 (1 + y2) (tyL.getD k3 0) 0 (1 + y4) 0 0 O).vs.toArray:=hD 14 (D ⟨14,.data⟩ (by simp) rfl)
   obtain ⟨pt,g15,hSp,jZ,-⟩:=hD 15 (D ⟨15,.data⟩ (by simp) rfl)
   obtain ⟨jZ,qS⟩:=jZ nk0
   have jr:x[13]? = some true:=D ⟨13,.phase⟩ (by simp) rfl
   have hee:SrXE B W1 v l (stX s1 s2 s3 s4 s5 x) V:=U uj nk0
   have vv:stX s1 s2 s3 s4 s5 x = s5:=by rw [stX,if_pos jr]
   rw [vv] at hee
   have HFI:Hid (DrZ B pt w v l s5 (Cm.mk 1 (1 + y2) (tyL.getD k3 0) 0 (1 + y4) 0 0 O) (V.setCells pt 0 (Cm.mk 1 (1 + y2) (tyL.getD k3 0) 0 (1 + y4) 0 0 O).vs)):=⟨⟨cC (U HV) ⟨hee.1,zL (U qV).e.2 hee.2⟩ hB (by omega) _,xb (zZ (U qV).t hee.2 xA (fun e=>by have:=Option.some.inj e; omega)) pt 0 _⟩,yX _ _ _ _ qS,xb qS pt 0 _,yJ jZ (gr_setsD pt _ 0 V).size⟩
   clear D hD hee vv
   rw [if_pos (by rfl)]
   refine wp_store_mid 27 (.tmp 5) (.tmp 47) rfl pt 0 (Cm.mk 1 (1 + y2) (tyL.getD k3 0) 0 (1 + y4) 0 0 O).vs.toArray g15 kw qS (by kernel_rfl) (by simp [Value.oneCell',Cm.vs]) ?_
   refine ⟨upd f 16 undef,by simp [upd,Act.put],rxd_last (S:=fun x W=>SrXE B W1 v l (stX s1 s2 s3 s4 s5 x) W) (k:=16) (U HD) xy (fun j R hxj h=>?_) trivial⟩
   match j with
   | 3=>obtain ⟨g,Q,N,h3⟩:=h; exact ⟨g,Q,N,fun q=>absurd trivial q⟩
   | 6=>obtain ⟨g,Q,h3,h4⟩:=h; exact ⟨g,Q,h3,fun q=>absurd trivial q⟩
   | 12=>obtain ⟨g,Q,N,h3⟩:=h; exact ⟨g,Q,N,fun q=>absurd trivial q⟩
   | 15=>exact ⟨pt,g15,hSp,fun q=>absurd trivial q,fun _=>U HFI⟩
   | 16=>exact absurd rfl R
   | 0 | 1 | 2 | 4 | 5 | 7 | 8 | 9 | 10 | 11 | 13 | 14=>exact h
   | j + 17=>trivial
  | j + 17,Z=>simp at Z
 ·rintro x xm V ⟨f,rfl,-,hD⟩ hx xP
  have xp:=zT xP hx (acyc _ (by kernel_rfl))
  obtain ⟨pt,e15,hSp,-,uU⟩:=hD 15 (xp 15 (by simp))
  have HP:=hide (uU (xp 16 (by simp)))
  have hsp:w.heap.size < pt:=yJ xA hSp
  dsimp only
  simp only [e15]
  clear hD xp xP hx uU e15 qV hSp K0 K1 K2 K3
  generalize f 0 = a0,f 1 = a1,f 2 = a2,f 3 = a3,f 4 = a4,f 5 = a5,f 6 = a6,f 7 = a7,f 8 = a8,f 9 = a9,f 10 = a10,f 11 = a11,f 12 = a12,f 13 = a13,f 14 = a14
  generalize tyL.getD k3 0 = X at HP kn
  have HCP:=hide (cpF.eq_1 l X s5)
  have b6:=cp_at l X s5
  generalize cpF l X s5 = RP at kn HCP b6
  obtain ⟨p',s6⟩:=RP
  simp only at kn b6
  have qk:=hide (clF.eq_1 l X s6)
  generalize clF l X s6 = RL at kn qk
  obtain ⟨l',s7⟩:=RL
  simp only at kn
  go_step
  go_step
  refine wp_seq_k fun K2 qO=>?_
  have kg:=hide qO
  clear qO
  have HT:Hid (∀ (u48 u49 u50 u51 u52 u53 u54 u55 u56:Value) (V':World),DrZ B pt w v l s6 ⟨1,1 + y2,X,0,1 + y4,0,p',O⟩ V'→K2 { tmps:=#[.pointer (some ⟨B,0,none⟩),.int .i64 ids,undef,undef,.pointer (some ⟨w.heap.size,0,none⟩),.pointer (some ⟨pt,0,none⟩),.pointer (some ⟨B,0,none⟩),.int .i64 y,.bool false,.bool false,undef,undef,.bool false,.bool false,undef,undef,undef,undef,undef,undef,.bool false,.bool false,undef,undef,undef,undef,undef,undef,undef,undef,.bool false,.bool false,undef,a0,a1,a2,a3,a4,a5,a6,a7,a8,a9,a10,a11,a12,a13,a14,u48,u49,u50,u51,u52,u53,u54,u55,u56,undef,undef,undef,undef,undef,undef,undef,undef,undef],defers:=[] } V'):=by
   intro u48 u49 u50 u51 u52 u53 u54 u55 u56 V' hP
   have HP1:=hide hP
   clear hP HP HCP
   refine U kg _ _ ?_
   clear kg
   refine wp_seq_k fun K3 vT=>?_
   have vA:=hide vT
   clear vT
   have vE:Hid (∀ (u48 u49 u50 u51 u52 u53 u54 u55 u56 u57 u58 u59 u60 u61 u62 u63 u64:Value) (V2:World),DrZ B pt w v l s7 ⟨1,1 + y2,X,l',1 + y4,0,p',O⟩ V2→K3 { tmps:=#[.pointer (some ⟨B,0,none⟩),.int .i64 ids,undef,undef,.pointer (some ⟨w.heap.size,0,none⟩),.pointer (some ⟨pt,0,none⟩),.pointer (some ⟨B,0,none⟩),.int .i64 y,.bool false,.bool false,undef,undef,.bool false,.bool false,undef,undef,undef,undef,undef,undef,.bool false,.bool false,undef,undef,undef,undef,undef,undef,undef,undef,.bool false,.bool false,undef,a0,a1,a2,a3,a4,a5,a6,a7,a8,a9,a10,a11,a12,a13,a14,u48,u49,u50,u51,u52,u53,u54,u55,u56,u57,u58,u59,u60,u61,u62,u63,u64,undef],defers:=[] } V2):=by
    intro u48 u49 u50 u51 u52 u53 u54 u55 u56 u57 u58 u59 u60 u61 u62 u63 u64 V2 hP
    have jF:=hide hP.dc.t
    have uP:Hid ((V2.setCells w.heap.size 0 [.int .i64 1,.int .i64 (1 + y2),.int .i64 X,.int .i64 l',.int .i64 (1 + y4),.int .i64 0,.float .f64 p',.string O]).rangeAt w.heap.size 0 [.int .i64 1,.int .i64 (1 + y2),.int .i64 X,.int .i64 l',.int .i64 (1 + y4),.int .i64 0,.float .f64 p',.string O]):=yX _ _ _ _ hP.dc.t
    have kf:Hid (SrXE B w v l s7 (V2.setCells w.heap.size 0 [.int .i64 1,.int .i64 (1 + y2),.int .i64 X,.int .i64 l',.int .i64 (1 + y4),.int .i64 0,.float .f64 p',.string O])):=cC (U HV) hP.dc.e hB (Nat.le_refl _) _
    have o0:V2.cell? ⟨pt,0,none⟩ = some (.int .i64 1):=hP.r 0 _ rfl
    have o1:V2.cell? ⟨pt,1,none⟩ = some (.int .i64 (1 + y2)):=hP.r 1 _ rfl
    have o2:V2.cell? ⟨pt,2,none⟩ = some (.int .i64 X):=hP.r 2 _ rfl
    have o3:V2.cell? ⟨pt,3,none⟩ = some (.int .i64 l'):=hP.r 3 _ rfl
    have o4:V2.cell? ⟨pt,4,none⟩ = some (.int .i64 (1 + y4)):=hP.r 4 _ rfl
    have o5:V2.cell? ⟨pt,5,none⟩ = some (.int .i64 0):=hP.r 5 _ rfl
    have o6:V2.cell? ⟨pt,6,none⟩ = some (.float .f64 p'):=hP.r 6 _ rfl
    have o7:V2.cell? ⟨pt,7,none⟩ = some (.string O):=hP.r 7 _ rfl
    clear hP HP1
    refine U vA _ _ ?_
    clear vA
    repeat (first | (refine wpList_store_mid rfl 27 (.tmp 4) (.tmp 65) rfl w.heap.size 0 #[.int .i64 1,.int .i64 (1 + y2),.int .i64 X,.int .i64 l',.int .i64 (1 + y4),.int .i64 0,.float .f64 p',.string O] rfl rfl (U jF) (by kernel_rfl) (by simp [Value.oneCell']) ?_; change wpList _ _ _ _ _ (V2.setCells w.heap.size 0 [.int .i64 1,.int .i64 (1 + y2),.int .i64 X,.int .i64 l',.int .i64 (1 + y4),.int .i64 0,.float .f64 p',.string O])) | go_step)
    generalize V2.setCells w.heap.size 0 [.int .i64 1,.int .i64 (1 + y2),.int .i64 X,.int .i64 l',.int .i64 (1 + y4),.int .i64 0,.float .f64 p',.string O] = WF at uP kf ⊢
    have d0:=U uP 0 _ rfl
    have d1:=U uP 1 _ rfl
    have d2:=U uP 2 _ rfl
    have d3:=U uP 3 _ rfl
    have d4:=U uP 4 _ rfl
    have d5:=U uP 5 _ rfl
    have d6:=U uP 6 _ rfl
    have d7:=U uP 7 _ rfl
    simp only [Nat.zero_add] at d0 d1 d2 d3 d4 d5 d6 d7
    refine bodyPost_ret (by simp [results,Tryz.results11,go_sem,d0,d1,d2,d3,d4,d5,d6,d7]; try rfl) rfl ?_
    rw [U kn]
    exact ⟨⟨1,1 + y2,X,l',1 + y4,0,p',O⟩,rfl,⟨rfl,rfl,rfl,rfl,rfl,rfl,.inl rfl,rfl⟩,U kf⟩
   clear vA
   have o2:V'.cell? ⟨pt,2,none⟩ = some (.int .i64 X):=(U HP1).r 2 _ rfl
   have CH:=hide (fun W hW=>chance_ex B v l 3 s6 W hW (by omega) (by omega) (by omega))
   generalize nxF l 3 s6 = RC at CH qk
   obtain ⟨yc,sc⟩:=RC
   simp only at CH qk
   go_wp2_with fail
   refine (cj X V').mono ?_
   rintro e V3 ⟨rfl,rfl⟩
   cases L:aA X
   ·have HE:=(U qk).trans (if_neg (by rw [L]; decide))
    obtain ⟨rfl,rfl⟩:=Prod.mk.inj HE
    clear HE qk
    go_wp2_with fail
    exact U vE _ _ _ _ _ _ _ _ _ _ _ _ _ _ _ _ _ V3 (U HP1)
   ·have HE:=(U qk).trans (if_pos L)
    obtain ⟨hl7,rfl⟩:=Prod.mk.inj HE
    have HL7:=hide hl7
    clear HE qk hl7
    go_wp2_with fail
    refine (U CH V3 (U HP1).dc.e.1).mono ?_
    rintro e V4 ⟨rfl,hE⟩
    have HP4:=hide (drZ_step (U HP1) hB hsp hE)
    clear hE
    by_cases hyc:yc = 2
    ·have hbc:(yc == 3 - 1) = true:=by rw [hyc]; rfl
     have e7:=(U HL7).trans (if_pos hyc)
     subst e7
     have o3:V4.cell? ⟨pt,3,none⟩ = some (.int .i64 0):=(U HP4).r 3 _ rfl
     have z3:V4.frozen? ⟨pt,3,none⟩ = false:=by have:=((U HP4).t 3 (by omega)).2; rwa [Nat.zero_add] at this
     have HP5:=hide (drZ_set (c':=⟨1,1 + y2,X,1,1 + y4,0,p',O⟩) (U HP4) (U HV) hB hsp 3 (.int .i64 1) (by omega) rfl)
     rw [hbc]
     clear hyc hbc HL7
     go_wp2_with fail
     exact U vE _ _ _ _ _ _ _ _ _ _ _ _ _ _ _ _ _ _ (U HP5)
    ·have hbc:(yc == 3 - 1) = false:=by simpa using hyc
     have e7:=(U HL7).trans (if_neg hyc)
     subst e7
     rw [hbc]
     clear hyc hbc HL7
     go_wp2_with fail
     exact U vE _ _ _ _ _ _ _ _ _ _ _ _ _ _ _ _ _ V4 (U HP4)
  clear kg kn
  have o2:V.cell? ⟨pt,2,none⟩ = some (.int .i64 X):=(U HP).r 2 _ rfl
  by_cases hty:X = 2
  ·have HE:=(U HCP).trans (if_pos hty)
   obtain ⟨rfl,rfl⟩:=Prod.mk.inj HE
   clear HE HCP
   subst hty
   go_wp2_with fail
   exact U HT _ _ _ _ _ _ _ _ _ V (U HP)
  ·have HE:=(U HCP).trans (if_neg hty)
   have L:(X != 2) = true:=by simpa using hty
   have CN:=hide (fun W hW=>aS B v l 9 s5 W hW (by omega) (by omega) (by omega))
   obtain ⟨h90,h91⟩:=nx_bd (l:=l) (n:=9) (s:=s5) (by omega)
   generalize nxF l 9 s5 = RN at CN HE h90 h91
   obtain ⟨y9,s9⟩:=RN
   simp only at CN HE h90 h91
   obtain ⟨k9,rfl⟩:=Int.eq_ofNat_of_zero_le h90
   rw [Int.toNat_natCast] at HE
   obtain ⟨rfl,rfl⟩:=Prod.mk.inj HE
   obtain ⟨pa,pb,hpo⟩:=prO_ex k9 (by omega)
   generalize prL.getD k9 0 = pc at hpo HT qk
   clear HE HCP hty
   go_wp2_with fail
   refine (U CN V (U HP).dc.e.1).mono ?_
   rintro e V2 ⟨rfl,hE⟩
   have HP2:=hide (drZ_step (U HP) hB hsp hE)
   have f1:=fun W=>(hpo W).1
   have f2:=fun W=>(hpo W).2.1
   have f3:=fun W=>(hpo W).2.2
   have o6:V2.cell? ⟨pt,6,none⟩ = some (.float .f64 0):=(U HP2).r 6 _ rfl
   have z6:V2.frozen? ⟨pt,6,none⟩ = false:=by have:=((U HP2).t 6 (by omega)).2; rwa [Nat.zero_add] at this
   have HP3:=hide (drZ_set (c':=⟨1,1 + y2,X,0,1 + y4,0,pc,O⟩) (U HP2) (U HV) hB hsp 6 (.float .f64 pc) (by omega) rfl)
   have vv:(store ⟨pt,6,none⟩ (.float .f64 pc)).run Tryz.prog V2 = .ok () (V2.setCell ⟨pt,6,none⟩ (.float .f64 pc)):=by rw [run_store _ _ _ _ _ rfl,o6,z6]; rfl
   clear hE hpo
   go_wp2_with fail
   exact U HT _ _ _ _ _ _ _ _ _ _ (U HP3)
end Go.Proofs.YtdliebbfcmdmaaaGreat
