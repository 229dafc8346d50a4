/-
  A command drawn out of the source, exactly (but for the bits of a price that is no number): proved by walking the method.
-/
import Derived.Test.YthhkapcbocgcoaaGreatDoorGj19
set_option linter.unusedVariables false
set_option maxHeartbeats 6400000
set_option maxRecDepth 100000
namespace Go.Proofs.YthhkapcbocgcoaaGreatDoor
open Go.RowKit
def stX (s1 s2 s3 s4 s5:Sr) (x:List Bool):Sr:=if x[13]? = some true then s5 else if x[9]? = some true then s4 else if x[5]? = some true then s3 else if x[1]? = some true then s2 else s1
theorem dK {s1 s2 s3 s4 s5:Sr} {x:List Bool} {i:Nat} (Q:i ≠ 1) (D:i ≠ 5) (X:i ≠ 9) (h4:i ≠ 13):stX s1 s2 s3 s4 s5 (x.set i true) = stX s1 s2 s3 s4 s5 x:=by
 rw [stX,stX,yX Q,yX D,yX X,yX h4]
def RXd (S:List Bool→World→Prop) (hR:(Nat→Value)→Act) (k:Nat) (h2:Prop→World→Nat→Value→Prop) (x:List Bool) (hb:Act) (W:World):Prop :=
 ∃ f,hb = hR f∧(¬ x[k]? = some true→S x W)∧∀ j,x[j]? = some true→h2 (x[k]? = some true) W j (f j)
theorem cU {S:List Bool→World→Prop} {k:Nat} {h2:Prop→World→Nat→Value→Prop} {x:List Bool} {f:Nat→Value} {W W':World} (h:∀ j,x[j]? = some true→h2 (x[k]? = some true) W j (f j)) {i:Nat} (hik:i ≠ k) (hm:∀ j v,h2 (x[k]? = some true) W j v→h2 (x[k]? = some true) W' j v) (hS:S (x.set i true) W') {v:Value} (hv:h2 (x[k]? = some true) W' i v) :
  (¬ (x.set i true)[k]? = some true→S (x.set i true) W')∧∀ j,(x.set i true)[j]? = some true→h2 ((x.set i true)[k]? = some true) W' j (upd f i v j):=by
 refine ⟨fun _=>hS,fun j hj=>?_⟩
 rw [yX hik]
 by_cases hji:j = i
 ·subst hji; rw [zt]; exact hv
 ·rw [zq _ _ hji]
  rw [yX (fun e=>hji e.symm)] at hj
  exact hm _ _ (h j hj)
theorem rxd_last {S:List Bool→World→Prop} {k:Nat} {h2:Prop→World→Nat→Value→Prop} {x:List Bool} {f:Nat→Value} {W W':World} (h:∀ j,x[j]? = some true→h2 (x[k]? = some true) W j (f j)) (E:x[k]? = some false) (hm:∀ j,j ≠ k→x[j]? = some true→h2 False W j (f j)→h2 True W' j (f j)) {v:Value} (hv:h2 True W' k v) :
  (¬ (x.set k true)[k]? = some true→S (x.set k true) W')∧∀ j,(x.set k true)[j]? = some true→h2 ((x.set k true)[k]? = some true) W' j (upd f k v j):=by
 have e:((x.set k true)[k]? = some true) = True:=by
  rw [List.getElem?_set_self (yH.1 E).1]; simp
 refine ⟨fun hn=>absurd (by rw [e]; trivial) hn,fun j hj=>?_⟩
 rw [e]
 by_cases hji:j = k
 ·subst hji; rw [zt]; exact hv
 ·rw [zq _ _ hji]
  rw [yX (fun e=>hji e.symm)] at hj
  refine hm j hji hj ?_
  have:=h j hj
  rw [E] at this
  simpa using this
def D11 (B S0:Nat) (y2 y4:Int) (k3:Nat) (tg:ByteArray) (Fin:Nat→World→Prop) (p:Prop) (W:World):Nat→Value→Prop
 | 0,v=>v = .pointer (some ⟨B,0,none⟩)
 | 1,v=>v = .int .i64 y2
 | 2,v=>v = .int .i64 (1 + y2)
 | 3,v=>∃ g,v = .slice (some ⟨g,0,none⟩) 8 8∧S0 ≤ g∧(¬ p→W.rangeAt g 0 (tyL.map (.int .i64)))
 | 4,v=>v = .pointer (some ⟨B,0,none⟩)
 | 5,v=>v = .int .i64 k3
 | 6,v=>∃ g,v = .pointer (some ⟨g,k3,none⟩)∧S0 ≤ g∧(¬ p→W.rangeAt g 0 (tyL.map (.int .i64)))
 | 7,v=>v = .int .i64 (tyL.getD k3 0)
 | 8,v=>v = .pointer (some ⟨B,0,none⟩)
 | 9,v=>v = .int .i64 y4
 | 10,v=>v = .int .i64 (1 + y4)
 | 11,v=>v = .pointer (some ⟨B,0,none⟩)
 | 12,v=>∃ g,v = .slice (some ⟨g,0,none⟩) 3 3∧S0 ≤ g∧(¬ p→W.rangeAt g 0 (tag3.map .string))
 | 13,v=>v = .string tg
 | 14,v=>v = .agg (Cm.mk 1 (1 + y2) (tyL.getD k3 0) 0 (1 + y4) 0 0 tg).vs.toArray
 | 15,v=>∃ pt,v = .pointer (some ⟨pt,0,none⟩)∧S0 ≤ pt∧(¬ p→pt < W.heap.size∧W.there pt 0 8)∧(p→Fin pt W)
 | _,_=>True
theorem ff {B S0:Nat} {y2 y4:Int} {k3:Nat} {tg:ByteArray} {Fin:Nat→World→Prop} {p:Prop} {W W':World} (hp:¬ p) (hB:B < S0) (hg:W.grownBy W' (some B)):∀ j v,D11 B S0 y2 y4 k3 tg Fin p W j v→D11 B S0 y2 y4 k3 tg Fin p W' j v:=by
 have e:∀ g (vs:List Value) (u:Value),S0 ≤ g→W.rangeAt g 0 (u :: vs)→W'.rangeAt g 0 (u :: vs):=fun g vs u h Q=>zv Q hg (yL W _ (Q 0 _ rfl)) (fun e=>by have:=Option.some.inj e; omega)
 intro j v h
 match j with
 | 3=>obtain ⟨g,Q,D,X⟩:=h; exact ⟨g,Q,D,fun q=>e g _ _ D (X q)⟩
 | 6=>obtain ⟨g,Q,X,h4⟩:=h; exact ⟨g,Q,X,fun q=>e g _ _ X (h4 q)⟩
 | 12=>obtain ⟨g,Q,D,X⟩:=h; exact ⟨g,Q,D,fun q=>e g _ _ D (X q)⟩
 | 15=>obtain ⟨pt,Q,D,X,h4⟩:=h; exact ⟨pt,Q,D,fun q=>⟨yK (X q).1 hg.size,eD (X q).2 hg (X q).1 (fun e=>by have:=Option.some.inj e; omega)⟩,fun q=>absurd q hp⟩
 | 0 | 1 | 2 | 4 | 5 | 7 | 8 | 9 | 10 | 11 | 13 | 14=>exact h
 | j + 16=>trivial
structure DrZ (B pt:Nat) (w:World) (v:Value) (l:List Int) (s:Sr) (c:Cm) (V:World):Prop where
 dc:DrY B w.heap.size w v l s V
 r:V.rangeAt pt 0 c.vs
 t:V.there pt 0 8
 lt:pt < V.heap.size
theorem drZ_step {B pt:Nat} {w V V':World} {v:Value} {l:List Int} {s s':Sr} {c:Cm} (h:DrZ B pt w v l s c V) (hB:B < w.heap.size) (hp:w.heap.size < pt) (hE:SrXE B V v l s' V'):DrZ B pt w v l s' c V' :=
 ⟨dv h.dc hB hE (by have:=h.lt; omega),zv h.r hE.2 h.lt (fun e=>by have:=Option.some.inj e; omega),eD h.t hE.2 h.lt (fun e=>by have:=Option.some.inj e; omega),yK h.lt hE.2.size⟩
theorem drZ_set {B pt:Nat} {w V:World} {v:Value} {l:List Int} {s:Sr} {c c':Cm} (h:DrZ B pt w v l s c V) (hv:l ≠ []→∃ k,v.ownBlock = some k∧k < w.heap.size) (hB:B < w.heap.size) (hp:w.heap.size < pt) (j:Nat) (u:Value) (hj:j < 8) (hc:c.vs.set j u = c'.vs):DrZ B pt w v l s c' (V.setCell ⟨pt,j,none⟩ u):=by
 refine ⟨⟨eJ (b:=pt) (o:=j) hv h.dc.e hB (by omega) [u],xc (vs:=[u]) h.dc.t pt j⟩,?_,xc (vs:=[u]) h.t pt j,yK h.lt (gr_setsD pt [u] j V).size⟩
 have:=gL (v:=u) h.r (j0:=j) hj
 rwa [Nat.zero_add,hc] at this
set_option maxRecDepth 100000 in
set_option maxHeartbeats 3200000 in
theorem cmd_ex (B:Nat) (v:Value) (l:List Int) (ids:Int) (s:Sr) (w:World) (h:SrX B w v l s) (hm:s.at_ ≤ 700000000) (uJ:0 ≤ ids) (hi1:ids ≤ 1000) :
  Calls Tryz.prog 30 #[.pointer (some ⟨B,0,none⟩),.int .i64 ids] w fun e w'=>∃ c:Cm,e = .returned (.agg c.vs.toArray)∧CmEq c (cmdF l ids s).1∧SrXE B w v l (cmdF l ids s).2 w':=by
 have HCF:=hide (cmdF.eq_1 l ids s)
 have C0:=hide (fun W hW=>cJ B v l 12 s W hW (by omega) (by omega) (by omega))
 have a0:=bU l 12 s
 obtain ⟨bh,hy1⟩:=cZ (l:=l) (n:=12) (s:=s) (by omega)
 try simp only at HCF
 generalize nxF l 12 s = R0 at HCF C0 a0 bh hy1
 obtain ⟨y,s1⟩:=R0
 simp only at HCF C0 a0 bh hy1
 generalize cmdF l ids s = RES at HCF ⊢
 have HV:=hide (src_far h.src)
 have hB:=dW h.src
 have kI:Hid (DrY B w.heap.size w v l s (w.alloc (Obj.cells #[.int .i64 0,.int .i64 0,.int .i64 0,.int .i64 0,.int .i64 0,.int .i64 0,.float .f64 0,.string ⟨#[]⟩] 33))):=⟨dO (ew h) _,(zy w [.int .i64 0,.int .i64 0,.int .i64 0,.int .i64 0,.int .i64 0,.int .i64 0,.float .f64 0,.string ⟨#[]⟩] 33).t⟩
 have qH:w.heap.size < (w.alloc (Obj.cells #[.int .i64 0,.int .i64 0,.int .i64 0,.int .i64 0,.int .i64 0,.int .i64 0,.float .f64 0,.string ⟨#[]⟩] 33)).heap.size:=by simp
 clear h
 go_enter Tryz.func30,Tryz.ntmps30
 go_wp2_with fail
 generalize (w.alloc (Obj.cells #[.int .i64 0,.int .i64 0,.int .i64 0,.int .i64 0,.int .i64 0,.int .i64 0,.float .f64 0,.string ⟨#[]⟩] 33)) = W0 at kI qH ⊢
 refine (U C0 W0 (U kI).e.1).mono ?_
 rintro e W1 ⟨rfl,hE⟩
 have qJ:=hide (dv (U kI) hB hE qH)
 have xF:w.heap.size < W1.heap.size:=yK qH hE.2.size
 clear hE kI qH C0
 by_cases e0:y = 0
 ·have HC0:=hide ((U HCF).trans (if_pos e0))
  clear HCF
  subst e0
  go_wp2_with fail
  refine (rawCmd_ex B v l s1 W1 (U qJ).e.1 (by omega)).mono ?_
  rintro e W2 ⟨⟨y1,y2,y3,y4,y5,y6,y7,y8⟩,rfl,hy8,hE⟩
  rw [← U HC0] at hy8 hE
  have HY8:=hide hy8
  have ai:=hide (dv (U qJ) hB hE xF)
  clear hE qJ xF hy8
  unfold Cm.vs
  simp only
  have aD:=hide (U ai).t
  have uw:Hid ((W2.setCells w.heap.size 0 [.int .i64 y1,.int .i64 y2,.int .i64 y3,.int .i64 y4,.int .i64 y5,.int .i64 y6,.float .f64 y7,.string y8]).rangeAt w.heap.size 0 [.int .i64 y1,.int .i64 y2,.int .i64 y3,.int .i64 y4,.int .i64 y5,.int .i64 y6,.float .f64 y7,.string y8]):=yY _ _ _ _ (U ai).t
  have oo:Hid (SrXE B w v l RES.2 (W2.setCells w.heap.size 0 [.int .i64 y1,.int .i64 y2,.int .i64 y3,.int .i64 y4,.int .i64 y5,.int .i64 y6,.float .f64 y7,.string y8])):=eJ (U HV) (U ai).e hB (Nat.le_refl _) _
  try dsimp only
  rename_i K1 aP K2 ki
  refine ki _ _ ?_
  have xK:=hide aP
  clear aP ki
  refine wpList_store_mid rfl 33 (.tmp 4) (.tmp 11) rfl w.heap.size 0 #[.int .i64 y1,.int .i64 y2,.int .i64 y3,.int .i64 y4,.int .i64 y5,.int .i64 y6,.float .f64 y7,.string y8] rfl rfl (U aD) (by kernel_rfl) (by simp [Value.oneCell']) ?_
  change wpList _ _ _ _ _ (W2.setCells w.heap.size 0 [.int .i64 y1,.int .i64 y2,.int .i64 y3,.int .i64 y4,.int .i64 y5,.int .i64 y6,.float .f64 y7,.string y8])
  generalize W2.setCells w.heap.size 0 [.int .i64 y1,.int .i64 y2,.int .i64 y3,.int .i64 y4,.int .i64 y5,.int .i64 y6,.float .f64 y7,.string y8] = WF at uw oo ⊢
  have aP:=U xK
  go_wp2_with fail
  have d0:=U uw 0 _ rfl
  have d1:=U uw 1 _ rfl
  have d2:=U uw 2 _ rfl
  have d3:=U uw 3 _ rfl
  have d4:=U uw 4 _ rfl
  have d5:=U uw 5 _ rfl
  have d6:=U uw 6 _ rfl
  have d7:=U uw 7 _ rfl
  simp only [Nat.zero_add] at d0 d1 d2 d3 d4 d5 d6 d7
  refine bodyPost_ret (by simp [results,Tryz.results30,go_sem,d0,d1,d2,d3,d4,d5,d6,d7]; try rfl) rfl ?_
  exact ⟨⟨y1,y2,y3,y4,y5,y6,y7,y8⟩,rfl,U HY8,U oo⟩
 have oW:=hide ((U HCF).trans (if_neg e0))
 clear HCF
 have b0:(y == 0) = false:=by simpa using e0
 have CI:=hide (fun W hW=>cJ B v l (ids + 1) s1 W hW (by omega) (by omega) (by omega))
 have aI:=bU l (ids + 1) s1
 obtain ⟨uD,uz⟩:=cZ (l:=l) (n:=ids + 1) (s:=s1) (by omega)
 generalize nxF l (ids + 1) s1 = RI at oW CI aI uD uz
 obtain ⟨z,s2⟩:=RI
 simp only at oW CI aI uD uz
 have bd:IntKind.i64.wrap (ids + 1) = ids + 1:=by rw [IntKind.wrap_i64]; omega
 have hwz:IntKind.i64.wrap (1 + z) = 1 + z:=by rw [IntKind.wrap_i64]; omega
 by_cases e1:y = 1
 ·have kE:=hide ((U oW).trans (if_pos e1))
  clear oW
  subst e1
  go_wp2_with fail
  refine (U CI W1 (U qJ).e.1).mono ?_
  rintro e W2 ⟨rfl,hE⟩
  have ai:=hide (dv (U qJ) hB hE xF)
  clear hE qJ xF
  have aD:=hide (U ai).t
  have uw:Hid ((W2.setCells w.heap.size 0 [.int .i64 2,.int .i64 0,.int .i64 0,.int .i64 0,.int .i64 0,.int .i64 (1 + z),.float .f64 0,.string ⟨#[]⟩]).rangeAt w.heap.size 0 [.int .i64 2,.int .i64 0,.int .i64 0,.int .i64 0,.int .i64 0,.int .i64 (1 + z),.float .f64 0,.string ⟨#[]⟩]):=yY _ _ _ _ (U ai).t
  have oo:Hid (SrXE B w v l s2 (W2.setCells w.heap.size 0 [.int .i64 2,.int .i64 0,.int .i64 0,.int .i64 0,.int .i64 0,.int .i64 (1 + z),.float .f64 0,.string ⟨#[]⟩])):=eJ (U HV) (U ai).e hB (Nat.le_refl _) _
  try dsimp only
  rename_i K1 aP K2 ki
  refine ki _ _ ?_
  have xK:=hide aP
  clear aP ki
  refine wpList_step fun K3 pl=>?_
  have ku:=hide pl
  clear pl
  rw [if_pos (by rfl)]
  unfold Oper.wp
  go_simp
  refine U ku _ _ ?_
  clear ku
  refine wpList_step fun K3 pl=>?_
  have ku:=hide pl
  clear pl
  rw [if_pos (by rfl)]
  unfold Oper.wp
  go_simp
  refine U ku _ _ ?_
  clear ku
  refine wpList_store_mid rfl 33 (.tmp 4) (.tmp 19) rfl w.heap.size 0 #[.int .i64 2,.int .i64 0,.int .i64 0,.int .i64 0,.int .i64 0,.int .i64 (1 + z),.float .f64 0,.string ⟨#[]⟩] rfl rfl (U aD) (by kernel_rfl) (by simp [Value.oneCell']) ?_
  change wpList _ _ _ _ _ (W2.setCells w.heap.size 0 [.int .i64 2,.int .i64 0,.int .i64 0,.int .i64 0,.int .i64 0,.int .i64 (1 + z),.float .f64 0,.string ⟨#[]⟩])
  generalize W2.setCells w.heap.size 0 [.int .i64 2,.int .i64 0,.int .i64 0,.int .i64 0,.int .i64 0,.int .i64 (1 + z),.float .f64 0,.string ⟨#[]⟩] = WF at uw oo ⊢
  have aP:=U xK
  go_wp2_with fail
  have d0:=U uw 0 _ rfl
  have d1:=U uw 1 _ rfl
  have d2:=U uw 2 _ rfl
  have d3:=U uw 3 _ rfl
  have d4:=U uw 4 _ rfl
  have d5:=U uw 5 _ rfl
  have d6:=U uw 6 _ rfl
  have d7:=U uw 7 _ rfl
  simp only [Nat.zero_add] at d0 d1 d2 d3 d4 d5 d6 d7
  refine bodyPost_ret (by simp [results,Tryz.results30,go_sem,d0,d1,d2,d3,d4,d5,d6,d7]; try rfl) rfl ?_
  rw [U kE]
  exact ⟨⟨2,0,0,0,0,1 + z,0,⟨#[]⟩⟩,rfl,⟨rfl,rfl,rfl,rfl,rfl,rfl,.inl rfl,rfl⟩,U oo⟩
 have kE:=hide ((U oW).trans (if_neg e1))
 clear oW
 have b1:(y == 1) = false:=by simpa using e1
 by_cases e2:y = 2
 ·have HC3:=hide ((U kE).trans (if_pos e2))
  clear kE
  have C6:=hide (fun W hW=>cJ B v l 6 s2 W hW (by omega) (by omega) (by omega))
  generalize nxF l 6 s2 = R6 at HC3 C6
  obtain ⟨u,s3⟩:=R6
  simp only at HC3 C6
  subst e2
  go_wp2_with fail
  refine (U CI W1 (U qJ).e.1).mono ?_
  rintro e W2 ⟨rfl,hE⟩
  have ai:=hide (dv (U qJ) hB hE xF)
  have ug:w.heap.size < W2.heap.size:=yK xF hE.2.size
  clear hE qJ xF
  go_wp2_with fail
  refine (U C6 W2 (U ai).e.1).mono ?_
  rintro e W3 ⟨rfl,hE⟩
  have HD3:=hide (dv (U ai) hB hE ug)
  clear hE ai ug
  have aD:=hide (U HD3).t
  have uw:Hid ((W3.setCells w.heap.size 0 [.int .i64 3,.int .i64 0,.int .i64 0,.int .i64 0,.int .i64 u,.int .i64 (1 + z),.float .f64 0,.string ⟨#[]⟩]).rangeAt w.heap.size 0 [.int .i64 3,.int .i64 0,.int .i64 0,.int .i64 0,.int .i64 u,.int .i64 (1 + z),.float .f64 0,.string ⟨#[]⟩]):=yY _ _ _ _ (U HD3).t
  have oo:Hid (SrXE B w v l s3 (W3.setCells w.heap.size 0 [.int .i64 3,.int .i64 0,.int .i64 0,.int .i64 0,.int .i64 u,.int .i64 (1 + z),.float .f64 0,.string ⟨#[]⟩])):=eJ (U HV) (U HD3).e hB (Nat.le_refl _) _
  try dsimp only
  rename_i K1 aP K2 ki
  refine ki _ _ ?_
  have xK:=hide aP
  clear aP ki
  refine wpList_step fun K3 pl=>?_
  have ku:=hide pl
  clear pl
  rw [if_pos (by rfl)]
  unfold Oper.wp
  go_simp
  refine U ku _ _ ?_
  clear ku
  refine wpList_store_mid rfl 33 (.tmp 4) (.tmp 29) rfl w.heap.size 0 #[.int .i64 3,.int .i64 0,.int .i64 0,.int .i64 0,.int .i64 u,.int .i64 (1 + z),.float .f64 0,.string ⟨#[]⟩] rfl rfl (U aD) (by kernel_rfl) (by simp [Value.oneCell']) ?_
  change wpList _ _ _ _ _ (W3.setCells w.heap.size 0 [.int .i64 3,.int .i64 0,.int .i64 0,.int .i64 0,.int .i64 u,.int .i64 (1 + z),.float .f64 0,.string ⟨#[]⟩])
  generalize W3.setCells w.heap.size 0 [.int .i64 3,.int .i64 0,.int .i64 0,.int .i64 0,.int .i64 u,.int .i64 (1 + z),.float .f64 0,.string ⟨#[]⟩] = WF at uw oo ⊢
  have aP:=U xK
  go_wp2_with fail
  have d0:=U uw 0 _ rfl
  have d1:=U uw 1 _ rfl
  have d2:=U uw 2 _ rfl
  have d3:=U uw 3 _ rfl
  have d4:=U uw 4 _ rfl
  have d5:=U uw 5 _ rfl
  have d6:=U uw 6 _ rfl
  have d7:=U uw 7 _ rfl
  simp only [Nat.zero_add] at d0 d1 d2 d3 d4 d5 d6 d7
  refine bodyPost_ret (by simp [results,Tryz.results30,go_sem,d0,d1,d2,d3,d4,d5,d6,d7]; try rfl) rfl ?_
  rw [U HC3]
  exact ⟨⟨3,0,0,0,u,1 + z,0,⟨#[]⟩⟩,rfl,⟨rfl,rfl,rfl,rfl,rfl,rfl,.inl rfl,rfl⟩,U oo⟩
 have HC3:=hide ((U kE).trans (if_neg e2))
 clear kE
 have b2:(y == 2) = false:=by simpa using e2
 by_cases e3:y = 3
 ·have HC4:=hide ((U HC3).trans (if_pos e3))
  clear HC3
  subst e3
  have uw:Hid ((W1.setCells w.heap.size 0 [.int .i64 4,.int .i64 0,.int .i64 0,.int .i64 0,.int .i64 0,.int .i64 0,.float .f64 0,.string ⟨#[]⟩]).rangeAt w.heap.size 0 [.int .i64 4,.int .i64 0,.int .i64 0,.int .i64 0,.int .i64 0,.int .i64 0,.float .f64 0,.string ⟨#[]⟩]):=yY _ _ _ _ (U qJ).t
  have oo:Hid (SrXE B w v l s1 (W1.setCells w.heap.size 0 [.int .i64 4,.int .i64 0,.int .i64 0,.int .i64 0,.int .i64 0,.int .i64 0,.float .f64 0,.string ⟨#[]⟩])):=eJ (U HV) (U qJ).e hB (Nat.le_refl _) _
  try dsimp only
  repeat (first | (refine wpList_store_mid rfl 33 (.tmp 4) (.tmp 32) rfl w.heap.size 0 #[.int .i64 4,.int .i64 0,.int .i64 0,.int .i64 0,.int .i64 0,.int .i64 0,.float .f64 0,.string ⟨#[]⟩] rfl rfl (U qJ).t (by kernel_rfl) (by simp [Value.oneCell']) ?_; change wpList _ _ _ _ _ (W1.setCells w.heap.size 0 [.int .i64 4,.int .i64 0,.int .i64 0,.int .i64 0,.int .i64 0,.int .i64 0,.float .f64 0,.string ⟨#[]⟩])) | go_step)
  generalize W1.setCells w.heap.size 0 [.int .i64 4,.int .i64 0,.int .i64 0,.int .i64 0,.int .i64 0,.int .i64 0,.float .f64 0,.string ⟨#[]⟩] = WF at uw oo ⊢
  have d0:=U uw 0 _ rfl
  have d1:=U uw 1 _ rfl
  have d2:=U uw 2 _ rfl
  have d3:=U uw 3 _ rfl
  have d4:=U uw 4 _ rfl
  have d5:=U uw 5 _ rfl
  have d6:=U uw 6 _ rfl
  have d7:=U uw 7 _ rfl
  simp only [Nat.zero_add] at d0 d1 d2 d3 d4 d5 d6 d7
  refine bodyPost_ret (by simp [results,Tryz.results30,go_sem,d0,d1,d2,d3,d4,d5,d6,d7]; try rfl) rfl ?_
  rw [U HC4]
  exact ⟨⟨4,0,0,0,0,0,0,⟨#[]⟩⟩,rfl,⟨rfl,rfl,rfl,rfl,rfl,rfl,.inl rfl,rfl⟩,U oo⟩
 have HC4:=hide ((U HC3).trans (if_neg e3))
 clear HC3
 have b3:(y == 3) = false:=by simpa using e3
 clear e0 e1 e2 e3 CI aI uD uz bd hwz
 have c0:=bU l 2 s1
 obtain ⟨p0,q0⟩:=cZ (l:=l) (n:=2) (s:=s1) (by omega)
 have K0:=hide (fun W hW=>cJ B v l 2 s1 W hW (by omega) (by omega) (by omega))
 have kG:=hide ((U HC4).trans (cnF.eq_1 l s1))
 clear HC4
 try simp only at kG
 generalize nxF l 2 s1 = R0 at kG K0 c0 p0 q0
 obtain ⟨y2,s2⟩:=R0
 simp only at kG K0 c0 p0 q0
 have c1:=bU l 8 s2
 obtain ⟨p1,q1⟩:=cZ (l:=l) (n:=8) (s:=s2) (by omega)
 have K1:=hide (fun W hW=>cJ B v l 8 s2 W hW (by omega) (by omega) (by omega))
 generalize nxF l 8 s2 = R1 at kG K1 c1 p1 q1
 obtain ⟨y3,s3⟩:=R1
 simp only at kG K1 c1 p1 q1
 have c2:=bU l 12 s3
 obtain ⟨p2,q2⟩:=cZ (l:=l) (n:=12) (s:=s3) (by omega)
 have K2:=hide (fun W hW=>cJ B v l 12 s3 W hW (by omega) (by omega) (by omega))
 generalize nxF l 12 s3 = R2 at kG K2 c2 p2 q2
 obtain ⟨y4,s4⟩:=R2
 simp only at kG K2 c2 p2 q2
 have c3:=bU l 3 s4
 obtain ⟨p3,q3⟩:=cZ (l:=l) (n:=3) (s:=s4) (by omega)
 have K3:=hide (fun g W hW hg hr=>pick_ex B g 3 v l s4 tag3 W hW (by omega) hg rfl (by omega) (by omega) hr)
 have e3:((3:Nat):Int) = 3:=rfl
 rw [e3] at K3
 clear e3
 generalize nxF l 3 s4 = R3 at kG K3 c3 p3 q3
 obtain ⟨y5,s5⟩:=R3
 simp only at kG K3 c3 p3 q3
 obtain ⟨k3,rfl⟩:=Int.eq_ofNat_of_zero_le p1
 rw [Int.toNat_natCast] at kG
 generalize htg:tag3.getD y5.toNat ⟨#[]⟩ = tg at kG K3
 clear htg p3 q3
 go_wp2_with fail
 have hB1:B < W1.heap.size:=by omega
 refine zn (RXd (fun x W=>SrXE B W1 v l (stX s1 s2 s3 s4 s5 x) W) (fun f=>{ tmps:=#[.pointer (some ⟨B,0,none⟩),.int .i64 ids,undef,undef,.pointer (some ⟨w.heap.size,0,none⟩),f 15,.pointer (some ⟨B,0,none⟩),.int .i64 y,.bool false,.bool false,undef,undef,.bool false,.bool false,undef,undef,undef,undef,undef,undef,.bool false,.bool false,undef,undef,undef,undef,undef,undef,undef,undef,.bool false,.bool false,undef,f 0,f 1,f 2,f 3,f 4,f 5,f 6,f 7,f 8,f 9,f 10,f 11,f 12,f 13,f 14,undef,undef,undef,undef,undef,undef,undef,undef,undef,undef,undef,undef,undef,undef,undef,undef,undef,undef],defers:=[] }) 16 (D11 B W1.heap.size y2 y4 k3 tg (fun pt W=>DrZ B pt w v l s5 (Cm.mk 1 (1 + y2) (tyL.getD k3 0) 0 (1 + y4) 0 0 tg) W))) (by kernel_rfl) ?_ ?_ ?_
 ·exact ⟨fun j=>undef,rfl,fun _=>srX_drew (ew (U qJ).e.1) 1,fun j hj=>by rw [yJ] at hj; split at hj <;> simp at hj⟩
 rotate_left
 ·rintro x hb V j o ⟨f,rfl,oC,hD⟩ xo hx Y xu K
  have uI:=hide oC
  have HD:=hide hD
  have hl:x.length = 17:=by rw [hx]; rfl
  have kk:j < 16→¬ x[16]? = some true:=fun xM h16=>by
   have e:∀ i,i < 16→x[i]? = some true:=fun i hi=>by
    rcases (by omega:i = 0 ∨ i = 1 ∨ i = 2 ∨ i = 3 ∨ i = 4 ∨ i = 5 ∨ i = 6 ∨ i = 7 ∨ i = 8 ∨ i = 9 ∨ i = 10 ∨ i = 11 ∨ i = 12 ∨ i = 13 ∨ i = 14 ∨ i = 15) with rfl | rfl | rfl | rfl | rfl | rfl | rfl | rfl | rfl | rfl | rfl | rfl | rfl | rfl | rfl | rfl
    all_goals exact xo 16 _ rfl h16 ⟨_,.phase⟩ (by simp) rfl
   rw [e j xM] at xu; cases xu
  have t51:x[5]? = some true→x[1]? = some true:=fun h=>xo 5 _ rfl h ⟨1,.chain⟩ (by simp) rfl
  have t95:x[9]? = some true→x[5]? = some true:=fun h=>xo 9 _ rfl h ⟨5,.chain⟩ (by simp) rfl
  have t139:x[13]? = some true→x[9]? = some true:=fun h=>xo 13 _ rfl h ⟨9,.chain⟩ (by simp) rfl
  have HT:Hid (_∧_∧_):=⟨t51,t95,t139⟩
  clear oC xo t51 t95 t139
  match j,Y with
  | 0,Y =>
   obtain rfl:=Option.some.inj Y
   have nk:=kk (by omega)
   clear K hD
   rw [if_pos (by rfl)]
   unfold Oper.wp
   go_simp
   exact ⟨upd f 0 (.pointer (some ⟨B,0,none⟩)),by simp [upd],cU (S:=fun x W=>SrXE B W1 v l (stX s1 s2 s3 s4 s5 x) W) (k:=16) (i:=0) (U HD) (by decide) (fun _ _ h=>h) (by show SrXE B W1 v l (stX s1 s2 s3 s4 s5 (x.set _ true)) _; rw [dK (by decide) (by decide) (by decide) (by decide)]; exact U uI nk) rfl⟩
  | 1,Y =>
   obtain rfl:=Option.some.inj Y
   have nk:=kk (by omega)
   have gd:f 0 = .pointer (some ⟨B,0,none⟩):=hD 0 (K ⟨0,.data⟩ (by simp) rfl)
   have n1:x[1]? ≠ some true:=by rw [xu]; simp
   have n5:x[5]? ≠ some true:=fun h=>n1 ((U HT).1 h)
   have n9:x[9]? ≠ some true:=fun h=>n5 ((U HT).2.1 h)
   have bP:x[13]? ≠ some true:=fun h=>n9 ((U HT).2.2 h)
   have EO:Hid (stX s1 s2 s3 s4 s5 x = s1):=by show _ = _; rw [stX,if_neg bP,if_neg n9,if_neg n5,if_neg n1]
   have EN:Hid (stX s1 s2 s3 s4 s5 (x.set 1 true) = s2):=by show _ = _; rw [stX,if_neg (by rw [yX (by decide)]; exact bP),if_neg (by rw [yX (by decide)]; exact n9),if_neg (by rw [yX (by decide)]; exact n5),if_pos (List.getElem?_set_self (by omega))]
   have ke:SrXE B W1 v l (stX s1 s2 s3 s4 s5 x) V:=U uI nk
   rw [U EO] at ke
   have ke:=hide ke
   clear n1 n5 n9 bP
   clear K hD
   rw [if_pos (by rfl)]
   unfold Oper.wp
   go_simp
   refine (U K0 V (U ke).1).mono ?_
   rintro e w5 ⟨rfl,aO⟩
   exact ⟨upd f 1 (.int .i64 y2),by simp [upd,gd],cU (S:=fun x W=>SrXE B W1 v l (stX s1 s2 s3 s4 s5 x) W) (k:=16) (i:=1) (U HD) (by decide) (ff nk hB1 aO.2) (by show SrXE B W1 v l (stX s1 s2 s3 s4 s5 (x.set _ true)) _; rw [U EN]; exact ⟨aO.1,zA (U ke).2 aO.2⟩) rfl⟩
  | 2,Y =>
   obtain rfl:=Option.some.inj Y
   have nk:=kk (by omega)
   have gd:f 1 = .int .i64 y2:=hD 1 (K ⟨1,.data⟩ (by simp) rfl)
   have hw:IntKind.i64.wrap (1 + y2) = 1 + y2:=by rw [IntKind.wrap_i64]; omega
   clear K hD
   rw [if_pos (by rfl)]
   unfold Oper.wp
   go_simp
   exact ⟨upd f 2 (.int .i64 (1 + y2)),by simp [upd,gd],cU (S:=fun x W=>SrXE B W1 v l (stX s1 s2 s3 s4 s5 x) W) (k:=16) (i:=2) (U HD) (by decide) (fun _ _ h=>h) (by show SrXE B W1 v l (stX s1 s2 s3 s4 s5 (x.set _ true)) _; rw [dK (by decide) (by decide) (by decide) (by decide)]; exact U uI nk) rfl⟩
  | 3,Y =>
   obtain rfl:=Option.some.inj Y
   have nk:=kk (by omega)
   have hS:W1.heap.size ≤ V.heap.size:=(U uI nk).2.size
   clear K hD
   rw [if_pos (by rfl)]
   unfold Oper.wp
   go_simp
   exact ⟨upd f 3 (.slice (some ⟨V.heap.size,0,none⟩) 8 8),by simp [upd],cU (S:=fun x W=>SrXE B W1 v l (stX s1 s2 s3 s4 s5 x) W) (k:=16) (i:=3) (U HD) (by decide) (ff nk hB1 (dF _ _ _)) (by show SrXE B W1 v l (stX s1 s2 s3 s4 s5 (x.set _ true)) _; rw [dK (by decide) (by decide) (by decide) (by decide)]; exact dO (U uI nk) _) ⟨V.heap.size,rfl,hS,fun _=>(zy V (tyL.map (.int .i64)) _).r⟩⟩
  | 4,Y =>
   obtain rfl:=Option.some.inj Y
   have nk:=kk (by omega)
   clear K hD
   rw [if_pos (by rfl)]
   unfold Oper.wp
   go_simp
   exact ⟨upd f 4 (.pointer (some ⟨B,0,none⟩)),by simp [upd],cU (S:=fun x W=>SrXE B W1 v l (stX s1 s2 s3 s4 s5 x) W) (k:=16) (i:=4) (U HD) (by decide) (fun _ _ h=>h) (by show SrXE B W1 v l (stX s1 s2 s3 s4 s5 (x.set _ true)) _; rw [dK (by decide) (by decide) (by decide) (by decide)]; exact U uI nk) rfl⟩
  | 5,Y =>
   obtain rfl:=Option.some.inj Y
   have nk:=kk (by omega)
   have gd:f 4 = .pointer (some ⟨B,0,none⟩):=hD 4 (K ⟨4,.data⟩ (by simp) rfl)
   have n5:x[5]? ≠ some true:=by rw [xu]; simp
   have n9:x[9]? ≠ some true:=fun h=>n5 ((U HT).2.1 h)
   have bP:x[13]? ≠ some true:=fun h=>n9 ((U HT).2.2 h)
   have Q:x[1]? = some true:=K ⟨1,.chain⟩ (by simp) rfl
   have EO:Hid (stX s1 s2 s3 s4 s5 x = s2):=by show _ = _; rw [stX,if_neg bP,if_neg n9,if_neg n5,if_pos Q]
   have EN:Hid (stX s1 s2 s3 s4 s5 (x.set 5 true) = s3):=by show _ = _; rw [stX,if_neg (by rw [yX (by decide)]; exact bP),if_neg (by rw [yX (by decide)]; exact n9),if_pos (List.getElem?_set_self (by omega))]
   have ke:SrXE B W1 v l (stX s1 s2 s3 s4 s5 x) V:=U uI nk
   rw [U EO] at ke
   have ke:=hide ke
   clear n5 n9 bP Q
   clear K hD
   rw [if_pos (by rfl)]
   unfold Oper.wp
   go_simp
   refine (U K1 V (U ke).1).mono ?_
   rintro e w5 ⟨rfl,aO⟩
   exact ⟨upd f 5 (.int .i64 k3),by simp [upd,gd],cU (S:=fun x W=>SrXE B W1 v l (stX s1 s2 s3 s4 s5 x) W) (k:=16) (i:=5) (U HD) (by decide) (ff nk hB1 aO.2) (by show SrXE B W1 v l (stX s1 s2 s3 s4 s5 (x.set _ true)) _; rw [U EN]; exact ⟨aO.1,zA (U ke).2 aO.2⟩) rfl⟩
  | 6,Y =>
   obtain rfl:=Option.some.inj Y
   have nk:=kk (by omega)
   obtain ⟨g,g3,hSg,aX⟩:=hD 3 (K ⟨3,.data⟩ (by simp) rfl)
   have g5:f 5 = .int .i64 k3:=hD 5 (K ⟨5,.data⟩ (by simp) rfl)
   have HRG:=hide (aX nk)
   have hki:(k3:Int) < 8:=by omega
   clear aX
   clear K hD
   rw [if_pos (by rfl)]
   unfold Oper.wp
   go_simp
   exact ⟨upd f 6 (.pointer (some ⟨g,k3,none⟩)),by simp [upd,g3,g5],cU (S:=fun x W=>SrXE B W1 v l (stX s1 s2 s3 s4 s5 x) W) (k:=16) (i:=6) (U HD) (by decide) (fun _ _ h=>h) (by show SrXE B W1 v l (stX s1 s2 s3 s4 s5 (x.set _ true)) _; rw [dK (by decide) (by decide) (by decide) (by decide)]; exact U uI nk) ⟨g,rfl,hSg,fun _=>U HRG⟩⟩
  | 7,Y =>
   obtain rfl:=Option.some.inj Y
   have nk:=kk (by omega)
   obtain ⟨g,g6,hSg,aX⟩:=hD 6 (K ⟨6,.data⟩ (by simp) rfl)
   have hc7:V.cell? ⟨g,k3,none⟩ = some (.int .i64 (tyL.getD k3 0)):=by
    obtain ⟨t,ht⟩:∃ t,tyL[k3]? = some t:=⟨_,yI (by show k3 < 8; omega)⟩
    have:=aX nk k3 (.int .i64 t) (by rw [List.getElem?_map,ht]; rfl)
    rw [Nat.zero_add] at this
    rw [this,List.getD_eq_getElem?_getD,ht]; rfl
   clear aX
   clear K hD
   rw [if_pos (by rfl)]
   unfold Oper.wp
   go_simp
   exact ⟨upd f 7 (.int .i64 (tyL.getD k3 0)),by simp [upd,g6],cU (S:=fun x W=>SrXE B W1 v l (stX s1 s2 s3 s4 s5 x) W) (k:=16) (i:=7) (U HD) (by decide) (fun _ _ h=>h) (by show SrXE B W1 v l (stX s1 s2 s3 s4 s5 (x.set _ true)) _; rw [dK (by decide) (by decide) (by decide) (by decide)]; exact U uI nk) rfl⟩
  | 8,Y =>
   obtain rfl:=Option.some.inj Y
   have nk:=kk (by omega)
   clear K hD
   rw [if_pos (by rfl)]
   unfold Oper.wp
   go_simp
   exact ⟨upd f 8 (.pointer (some ⟨B,0,none⟩)),by simp [upd],cU (S:=fun x W=>SrXE B W1 v l (stX s1 s2 s3 s4 s5 x) W) (k:=16) (i:=8) (U HD) (by decide) (fun _ _ h=>h) (by show SrXE B W1 v l (stX s1 s2 s3 s4 s5 (x.set _ true)) _; rw [dK (by decide) (by decide) (by decide) (by decide)]; exact U uI nk) rfl⟩
  | 9,Y =>
   obtain rfl:=Option.some.inj Y
   have nk:=kk (by omega)
   have gd:f 8 = .pointer (some ⟨B,0,none⟩):=hD 8 (K ⟨8,.data⟩ (by simp) rfl)
   have n9:x[9]? ≠ some true:=by rw [xu]; simp
   have bP:x[13]? ≠ some true:=fun h=>n9 ((U HT).2.2 h)
   have h5:x[5]? = some true:=K ⟨5,.chain⟩ (by simp) rfl
   have EO:Hid (stX s1 s2 s3 s4 s5 x = s3):=by show _ = _; rw [stX,if_neg bP,if_neg n9,if_pos h5]
   have EN:Hid (stX s1 s2 s3 s4 s5 (x.set 9 true) = s4):=by show _ = _; rw [stX,if_neg (by rw [yX (by decide)]; exact bP),if_pos (List.getElem?_set_self (by omega))]
   have ke:SrXE B W1 v l (stX s1 s2 s3 s4 s5 x) V:=U uI nk
   rw [U EO] at ke
   have ke:=hide ke
   clear n9 bP h5
   clear K hD
   rw [if_pos (by rfl)]
   unfold Oper.wp
   go_simp
   refine (U K2 V (U ke).1).mono ?_
   rintro e w5 ⟨rfl,aO⟩
   exact ⟨upd f 9 (.int .i64 y4),by simp [upd,gd],cU (S:=fun x W=>SrXE B W1 v l (stX s1 s2 s3 s4 s5 x) W) (k:=16) (i:=9) (U HD) (by decide) (ff nk hB1 aO.2) (by show SrXE B W1 v l (stX s1 s2 s3 s4 s5 (x.set _ true)) _; rw [U EN]; exact ⟨aO.1,zA (U ke).2 aO.2⟩) rfl⟩
  | 10,Y =>
   obtain rfl:=Option.some.inj Y
   have nk:=kk (by omega)
   have gd:f 9 = .int .i64 y4:=hD 9 (K ⟨9,.data⟩ (by simp) rfl)
   have hw:IntKind.i64.wrap (1 + y4) = 1 + y4:=by rw [IntKind.wrap_i64]; omega
   clear K hD
   rw [if_pos (by rfl)]
   unfold Oper.wp
   go_simp
   exact ⟨upd f 10 (.int .i64 (1 + y4)),by simp [upd,gd],cU (S:=fun x W=>SrXE B W1 v l (stX s1 s2 s3 s4 s5 x) W) (k:=16) (i:=10) (U HD) (by decide) (fun _ _ h=>h) (by show SrXE B W1 v l (stX s1 s2 s3 s4 s5 (x.set _ true)) _; rw [dK (by decide) (by decide) (by decide) (by decide)]; exact U uI nk) rfl⟩
  | 11,Y =>
   obtain rfl:=Option.some.inj Y
   have nk:=kk (by omega)
   clear K hD
   rw [if_pos (by rfl)]
   unfold Oper.wp
   go_simp
   exact ⟨upd f 11 (.pointer (some ⟨B,0,none⟩)),by simp [upd],cU (S:=fun x W=>SrXE B W1 v l (stX s1 s2 s3 s4 s5 x) W) (k:=16) (i:=11) (U HD) (by decide) (fun _ _ h=>h) (by show SrXE B W1 v l (stX s1 s2 s3 s4 s5 (x.set _ true)) _; rw [dK (by decide) (by decide) (by decide) (by decide)]; exact U uI nk) rfl⟩
  | 12,Y =>
   obtain rfl:=Option.some.inj Y
   have nk:=kk (by omega)
   have hS:W1.heap.size ≤ V.heap.size:=(U uI nk).2.size
   clear K hD
   rw [if_pos (by rfl)]
   unfold Oper.wp
   go_simp
   exact ⟨upd f 12 (.slice (some ⟨V.heap.size,0,none⟩) 3 3),by simp [upd],cU (S:=fun x W=>SrXE B W1 v l (stX s1 s2 s3 s4 s5 x) W) (k:=16) (i:=12) (U HD) (by decide) (ff nk hB1 (dF _ _ _)) (by show SrXE B W1 v l (stX s1 s2 s3 s4 s5 (x.set _ true)) _; rw [dK (by decide) (by decide) (by decide) (by decide)]; exact dO (U uI nk) _) ⟨V.heap.size,rfl,hS,fun _=>(zy V (tag3.map .string) _).r⟩⟩
  | 13,Y =>
   obtain rfl:=Option.some.inj Y
   have nk:=kk (by omega)
   have gd:f 11 = .pointer (some ⟨B,0,none⟩):=hD 11 (K ⟨11,.data⟩ (by simp) rfl)
   obtain ⟨g,gs,hSg,aX⟩:=hD 12 (K ⟨12,.data⟩ (by simp) rfl)
   have HRG:=hide (aX nk)
   clear aX
   have bP:x[13]? ≠ some true:=by rw [xu]; simp
   have h9:x[9]? = some true:=K ⟨9,.chain⟩ (by simp) rfl
   have EO:Hid (stX s1 s2 s3 s4 s5 x = s4):=by show _ = _; rw [stX,if_neg bP,if_pos h9]
   have EN:Hid (stX s1 s2 s3 s4 s5 (x.set 13 true) = s5):=by show _ = _; rw [stX,if_pos (List.getElem?_set_self (by omega))]
   have ke:SrXE B W1 v l (stX s1 s2 s3 s4 s5 x) V:=U uI nk
   rw [U EO] at ke
   have ke:=hide ke
   clear bP h9
   clear K hD
   rw [if_pos (by rfl)]
   unfold Oper.wp
   go_simp
   refine (U K3 g V (U ke).1 (by omega) (fun k s hs=>by have:=U HRG k (.string s) (by rw [List.getElem?_map,hs]; rfl); rwa [Nat.zero_add] at this)).mono ?_
   rintro e w5 ⟨rfl,aO⟩
   exact ⟨upd f 13 (.string tg),by simp [upd,gd,gs],cU (S:=fun x W=>SrXE B W1 v l (stX s1 s2 s3 s4 s5 x) W) (k:=16) (i:=13) (U HD) (by decide) (ff nk hB1 aO.2) (by show SrXE B W1 v l (stX s1 s2 s3 s4 s5 (x.set _ true)) _; rw [U EN]; exact ⟨aO.1,zA (U ke).2 aO.2⟩) rfl⟩
  | 14,Y =>
   obtain rfl:=Option.some.inj Y
   have nk:=kk (by omega)
   have g2:f 2 = .int .i64 (1 + y2):=hD 2 (K ⟨2,.data⟩ (by simp) rfl)
   have g7:f 7 = .int .i64 (tyL.getD k3 0):=hD 7 (K ⟨7,.data⟩ (by simp) rfl)
   have qL:f 10 = .int .i64 (1 + y4):=hD 10 (K ⟨10,.data⟩ (by simp) rfl)
   have kB:f 13 = .string tg:=hD 13 (K ⟨13,.data⟩ (by simp) rfl)
   clear K hD
   rw [if_pos (by rfl)]
   unfold Oper.wp
   go_simp
   exact ⟨upd f 14 (.agg (Cm.mk 1 (1 + y2) (tyL.getD k3 0) 0 (1 + y4) 0 0 tg).vs.toArray),by simp [upd,g2,g7,qL,kB,Cm.vs],cU (S:=fun x W=>SrXE B W1 v l (stX s1 s2 s3 s4 s5 x) W) (k:=16) (i:=14) (U HD) (by decide) (fun _ _ h=>h) (by show SrXE B W1 v l (stX s1 s2 s3 s4 s5 (x.set _ true)) _; rw [dK (by decide) (by decide) (by decide) (by decide)]; exact U uI nk) rfl⟩
  | 15,Y =>
   obtain rfl:=Option.some.inj Y
   have nk:=kk (by omega)
   have hS:W1.heap.size ≤ V.heap.size:=(U uI nk).2.size
   clear K hD
   rw [if_pos (by rfl)]
   unfold Oper.wp
   go_simp
   exact ⟨upd f 15 (.pointer (some ⟨V.heap.size,0,none⟩)),by simp [upd],cU (S:=fun x W=>SrXE B W1 v l (stX s1 s2 s3 s4 s5 x) W) (k:=16) (i:=15) (U HD) (by decide) (ff nk hB1 (dF _ _ _)) (by show SrXE B W1 v l (stX s1 s2 s3 s4 s5 (x.set _ true)) _; rw [dK (by decide) (by decide) (by decide) (by decide)]; exact dO (U uI nk) _) ⟨V.heap.size,rfl,hS,fun _=>⟨by simp,(zy V [.int .i64 0,.int .i64 0,.int .i64 0,.int .i64 0,.int .i64 0,.int .i64 0,.float .f64 0,.string ⟨#[]⟩] _).t⟩,fun q=>absurd q nk⟩⟩
  | 16,Y =>
   obtain rfl:=Option.some.inj Y
   have nk0:¬ x[16]? = some true:=by rw [xu]; simp
   have kR:f 14 = .agg (Cm.mk 1 (1 + y2) (tyL.getD k3 0) 0 (1 + y4) 0 0 tg).vs.toArray:=hD 14 (K ⟨14,.data⟩ (by simp) rfl)
   obtain ⟨pt,g15,hSp,vD,-⟩:=hD 15 (K ⟨15,.data⟩ (by simp) rfl)
   obtain ⟨vD,pR⟩:=vD nk0
   have jd:x[13]? = some true:=K ⟨13,.phase⟩ (by simp) rfl
   have hee:SrXE B W1 v l (stX s1 s2 s3 s4 s5 x) V:=U uI nk0
   have vd:stX s1 s2 s3 s4 s5 x = s5:=by rw [stX,if_pos jd]
   rw [vd] at hee
   have HFI:Hid (DrZ B pt w v l s5 (Cm.mk 1 (1 + y2) (tyL.getD k3 0) 0 (1 + y4) 0 0 tg) (V.setCells pt 0 (Cm.mk 1 (1 + y2) (tyL.getD k3 0) 0 (1 + y4) 0 0 tg).vs)):=⟨⟨eJ (U HV) ⟨hee.1,zA (U qJ).e.2 hee.2⟩ hB (by omega) _,xc (eD (U qJ).t hee.2 xF (fun e=>by have:=Option.some.inj e; omega)) pt 0 _⟩,yY _ _ _ _ pR,xc pR pt 0 _,yK vD (gr_setsD pt _ 0 V).size⟩
   clear K hD hee vd
   rw [if_pos (by rfl)]
   refine wp_store_mid 33 (.tmp 5) (.tmp 47) rfl pt 0 (Cm.mk 1 (1 + y2) (tyL.getD k3 0) 0 (1 + y4) 0 0 tg).vs.toArray g15 kR pR (by kernel_rfl) (by simp [Value.oneCell',Cm.vs]) ?_
   refine ⟨upd f 16 undef,by simp [upd,Act.put],rxd_last (S:=fun x W=>SrXE B W1 v l (stX s1 s2 s3 s4 s5 x) W) (k:=16) (U HD) xu (fun j hj hxj h=>?_) trivial⟩
   match j with
   | 3=>obtain ⟨g,Q,D,X⟩:=h; exact ⟨g,Q,D,fun q=>absurd trivial q⟩
   | 6=>obtain ⟨g,Q,X,h4⟩:=h; exact ⟨g,Q,X,fun q=>absurd trivial q⟩
   | 12=>obtain ⟨g,Q,D,X⟩:=h; exact ⟨g,Q,D,fun q=>absurd trivial q⟩
   | 15=>exact ⟨pt,g15,hSp,fun q=>absurd trivial q,fun _=>U HFI⟩
   | 16=>exact absurd rfl hj
   | 0 | 1 | 2 | 4 | 5 | 7 | 8 | 9 | 10 | 11 | 13 | 14=>exact h
   | j + 17=>trivial
  | j + 17,Y=>simp at Y
 ·rintro x hb V ⟨f,rfl,-,hD⟩ hx xN
  have xp:=zX xN hx (acyc _ (by kernel_rfl))
  obtain ⟨pt,e15,hSp,-,vU⟩:=hD 15 (xp 15 (by simp))
  have HP:=hide (vU (xp 16 (by simp)))
  have hsp:w.heap.size < pt:=yK xF hSp
  dsimp only
  simp only [e15]
  clear hD xp xN hx vU e15 qJ hSp K0 K1 K2 K3
  generalize f 0 = a0,f 1 = a1,f 2 = a2,f 3 = a3,f 4 = a4,f 5 = a5,f 6 = a6,f 7 = a7,f 8 = a8,f 9 = a9,f 10 = a10,f 11 = a11,f 12 = a12,f 13 = a13,f 14 = a14
  generalize tyL.getD k3 0 = ty at HP kG
  have HCP:=hide (cpF.eq_1 l ty s5)
  have b6:=cp_at l ty s5
  generalize cpF l ty s5 = RP at kG HCP b6
  obtain ⟨p',s6⟩:=RP
  simp only at kG b6
  have kH:=hide (clF.eq_1 l ty s6)
  generalize clF l ty s6 = RL at kG kH
  obtain ⟨l',s7⟩:=RL
  simp only at kG
  go_step
  go_step
  refine wp_seq_k fun K2 ki=>?_
  have kL:=hide ki
  clear ki
  have HT:Hid (∀ (u48 u49 u50 u51 u52 u53 u54 u55 u56:Value) (V':World),DrZ B pt w v l s6 ⟨1,1 + y2,ty,0,1 + y4,0,p',tg⟩ V'→K2 { tmps:=#[.pointer (some ⟨B,0,none⟩),.int .i64 ids,undef,undef,.pointer (some ⟨w.heap.size,0,none⟩),.pointer (some ⟨pt,0,none⟩),.pointer (some ⟨B,0,none⟩),.int .i64 y,.bool false,.bool false,undef,undef,.bool false,.bool false,undef,undef,undef,undef,undef,undef,.bool false,.bool false,undef,undef,undef,undef,undef,undef,undef,undef,.bool false,.bool false,undef,a0,a1,a2,a3,a4,a5,a6,a7,a8,a9,a10,a11,a12,a13,a14,u48,u49,u50,u51,u52,u53,u54,u55,u56,undef,undef,undef,undef,undef,undef,undef,undef,undef],defers:=[] } V'):=by
   intro u48 u49 u50 u51 u52 u53 u54 u55 u56 V' hP
   have HP1:=hide hP
   clear hP HP HCP
   refine U kL _ _ ?_
   clear kL
   refine wp_seq_k fun K3 pl=>?_
   have ku:=hide pl
   clear pl
   have vp:Hid (∀ (u48 u49 u50 u51 u52 u53 u54 u55 u56 u57 u58 u59 u60 u61 u62 u63 u64:Value) (V2:World),DrZ B pt w v l s7 ⟨1,1 + y2,ty,l',1 + y4,0,p',tg⟩ V2→K3 { tmps:=#[.pointer (some ⟨B,0,none⟩),.int .i64 ids,undef,undef,.pointer (some ⟨w.heap.size,0,none⟩),.pointer (some ⟨pt,0,none⟩),.pointer (some ⟨B,0,none⟩),.int .i64 y,.bool false,.bool false,undef,undef,.bool false,.bool false,undef,undef,undef,undef,undef,undef,.bool false,.bool false,undef,undef,undef,undef,undef,undef,undef,undef,.bool false,.bool false,undef,a0,a1,a2,a3,a4,a5,a6,a7,a8,a9,a10,a11,a12,a13,a14,u48,u49,u50,u51,u52,u53,u54,u55,u56,u57,u58,u59,u60,u61,u62,u63,u64,undef],defers:=[] } V2):=by
    intro u48 u49 u50 u51 u52 u53 u54 u55 u56 u57 u58 u59 u60 u61 u62 u63 u64 V2 hP
    have aD:=hide hP.dc.t
    have uw:Hid ((V2.setCells w.heap.size 0 [.int .i64 1,.int .i64 (1 + y2),.int .i64 ty,.int .i64 l',.int .i64 (1 + y4),.int .i64 0,.float .f64 p',.string tg]).rangeAt w.heap.size 0 [.int .i64 1,.int .i64 (1 + y2),.int .i64 ty,.int .i64 l',.int .i64 (1 + y4),.int .i64 0,.float .f64 p',.string tg]):=yY _ _ _ _ hP.dc.t
    have oo:Hid (SrXE B w v l s7 (V2.setCells w.heap.size 0 [.int .i64 1,.int .i64 (1 + y2),.int .i64 ty,.int .i64 l',.int .i64 (1 + y4),.int .i64 0,.float .f64 p',.string tg])):=eJ (U HV) hP.dc.e hB (Nat.le_refl _) _
    have o0:V2.cell? ⟨pt,0,none⟩ = some (.int .i64 1):=hP.r 0 _ rfl
    have o1:V2.cell? ⟨pt,1,none⟩ = some (.int .i64 (1 + y2)):=hP.r 1 _ rfl
    have o2:V2.cell? ⟨pt,2,none⟩ = some (.int .i64 ty):=hP.r 2 _ rfl
    have o3:V2.cell? ⟨pt,3,none⟩ = some (.int .i64 l'):=hP.r 3 _ rfl
    have o4:V2.cell? ⟨pt,4,none⟩ = some (.int .i64 (1 + y4)):=hP.r 4 _ rfl
    have o5:V2.cell? ⟨pt,5,none⟩ = some (.int .i64 0):=hP.r 5 _ rfl
    have o6:V2.cell? ⟨pt,6,none⟩ = some (.float .f64 p'):=hP.r 6 _ rfl
    have o7:V2.cell? ⟨pt,7,none⟩ = some (.string tg):=hP.r 7 _ rfl
    clear hP HP1
    refine U ku _ _ ?_
    clear ku
    repeat (first | (refine wpList_store_mid rfl 33 (.tmp 4) (.tmp 65) rfl w.heap.size 0 #[.int .i64 1,.int .i64 (1 + y2),.int .i64 ty,.int .i64 l',.int .i64 (1 + y4),.int .i64 0,.float .f64 p',.string tg] rfl rfl (U aD) (by kernel_rfl) (by simp [Value.oneCell']) ?_; change wpList _ _ _ _ _ (V2.setCells w.heap.size 0 [.int .i64 1,.int .i64 (1 + y2),.int .i64 ty,.int .i64 l',.int .i64 (1 + y4),.int .i64 0,.float .f64 p',.string tg])) | go_step)
    generalize V2.setCells w.heap.size 0 [.int .i64 1,.int .i64 (1 + y2),.int .i64 ty,.int .i64 l',.int .i64 (1 + y4),.int .i64 0,.float .f64 p',.string tg] = WF at uw oo ⊢
    have d0:=U uw 0 _ rfl
    have d1:=U uw 1 _ rfl
    have d2:=U uw 2 _ rfl
    have d3:=U uw 3 _ rfl
    have d4:=U uw 4 _ rfl
    have d5:=U uw 5 _ rfl
    have d6:=U uw 6 _ rfl
    have d7:=U uw 7 _ rfl
    simp only [Nat.zero_add] at d0 d1 d2 d3 d4 d5 d6 d7
    refine bodyPost_ret (by simp [results,Tryz.results30,go_sem,d0,d1,d2,d3,d4,d5,d6,d7]; try rfl) rfl ?_
    rw [U kG]
    exact ⟨⟨1,1 + y2,ty,l',1 + y4,0,p',tg⟩,rfl,⟨rfl,rfl,rfl,rfl,rfl,rfl,.inl rfl,rfl⟩,U oo⟩
   clear ku
   have o2:V'.cell? ⟨pt,2,none⟩ = some (.int .i64 ty):=(U HP1).r 2 _ rfl
   have CH:=hide (fun W hW=>chance_ex B v l 3 s6 W hW (by omega) (by omega) (by omega))
   generalize nxF l 3 s6 = RC at CH kH
   obtain ⟨yc,sc⟩:=RC
   simp only at CH kH
   go_wp2_with fail
   refine (eB ty V').mono ?_
   rintro e V3 ⟨rfl,rfl⟩
   cases A:bR ty
   ·have HE:=(U kH).trans (if_neg (by rw [A]; decide))
    obtain ⟨rfl,rfl⟩:=Prod.mk.inj HE
    clear HE kH
    go_wp2_with fail
    exact U vp _ _ _ _ _ _ _ _ _ _ _ _ _ _ _ _ _ V3 (U HP1)
   ·have HE:=(U kH).trans (if_pos A)
    obtain ⟨hl7,rfl⟩:=Prod.mk.inj HE
    have HL7:=hide hl7
    clear HE kH hl7
    go_wp2_with fail
    refine (U CH V3 (U HP1).dc.e.1).mono ?_
    rintro e V4 ⟨rfl,hE⟩
    have HP4:=hide (drZ_step (U HP1) hB hsp hE)
    clear hE
    by_cases hyc:yc = 2
    ·have hbc:(yc == 3 - 1) = true:=by rw [hyc]; rfl
     have e7:=(U HL7).trans (if_pos hyc)
     subst e7
     have o3:V4.cell? ⟨pt,3,none⟩ = some (.int .i64 0):=(U HP4).r 3 _ rfl
     have z3:V4.frozen? ⟨pt,3,none⟩ = false:=by have:=((U HP4).t 3 (by omega)).2; rwa [Nat.zero_add] at this
     have HP5:=hide (drZ_set (c':=⟨1,1 + y2,ty,1,1 + y4,0,p',tg⟩) (U HP4) (U HV) hB hsp 3 (.int .i64 1) (by omega) rfl)
     rw [hbc]
     clear hyc hbc HL7
     go_wp2_with fail
     exact U vp _ _ _ _ _ _ _ _ _ _ _ _ _ _ _ _ _ _ (U HP5)
    ·have hbc:(yc == 3 - 1) = false:=by simpa using hyc
     have e7:=(U HL7).trans (if_neg hyc)
     subst e7
     rw [hbc]
     clear hyc hbc HL7
     go_wp2_with fail
     exact U vp _ _ _ _ _ _ _ _ _ _ _ _ _ _ _ _ _ V4 (U HP4)
  clear kL kG
  have o2:V.cell? ⟨pt,2,none⟩ = some (.int .i64 ty):=(U HP).r 2 _ rfl
  by_cases hty:ty = 2
  ·have HE:=(U HCP).trans (if_pos hty)
   obtain ⟨rfl,rfl⟩:=Prod.mk.inj HE
   clear HE HCP
   subst hty
   go_wp2_with fail
   exact U HT _ _ _ _ _ _ _ _ _ V (U HP)
  ·have HE:=(U HCP).trans (if_neg hty)
   have A:(ty != 2) = true:=by simpa using hty
   have CN:=hide (fun W hW=>cJ B v l 9 s5 W hW (by omega) (by omega) (by omega))
   obtain ⟨h90,h91⟩:=cZ (l:=l) (n:=9) (s:=s5) (by omega)
   generalize nxF l 9 s5 = RN at CN HE h90 h91
   obtain ⟨y9,s9⟩:=RN
   simp only at CN HE h90 h91
   obtain ⟨k9,rfl⟩:=Int.eq_ofNat_of_zero_le h90
   rw [Int.toNat_natCast] at HE
   obtain ⟨rfl,rfl⟩:=Prod.mk.inj HE
   obtain ⟨pa,pb,hpo⟩:=prO_ex k9 (by omega)
   generalize prL.getD k9 0 = pc at hpo HT kH
   clear HE HCP hty
   go_wp2_with fail
   refine (U CN V (U HP).dc.e.1).mono ?_
   rintro e V2 ⟨rfl,hE⟩
   have HP2:=hide (drZ_step (U HP) hB hsp hE)
   have f1:=fun W=>(hpo W).1
   have f2:=fun W=>(hpo W).2.1
   have f3:=fun W=>(hpo W).2.2
   have o6:V2.cell? ⟨pt,6,none⟩ = some (.float .f64 0):=(U HP2).r 6 _ rfl
   have z6:V2.frozen? ⟨pt,6,none⟩ = false:=by have:=((U HP2).t 6 (by omega)).2; rwa [Nat.zero_add] at this
   have HP3:=hide (drZ_set (c':=⟨1,1 + y2,ty,0,1 + y4,0,pc,tg⟩) (U HP2) (U HV) hB hsp 6 (.float .f64 pc) (by omega) rfl)
   have vd:(store ⟨pt,6,none⟩ (.float .f64 pc)).run Tryz.prog V2 = .ok () (V2.setCell ⟨pt,6,none⟩ (.float .f64 pc)):=by rw [run_store _ _ _ _ _ rfl,o6,z6]; rfl
   clear hE hpo
   go_wp2_with fail
   exact U HT _ _ _ _ _ _ _ _ _ _ (U HP3)
end Go.Proofs.YthhkapcbocgcoaaGreatDoor
