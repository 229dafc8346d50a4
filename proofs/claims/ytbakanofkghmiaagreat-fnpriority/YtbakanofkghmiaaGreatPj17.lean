/-
  What is left of the taker laid behind the others, by the program: proved by walking the method.
-/
import Derived.Test.YtbakanofkghmiaaGreatPj16
set_option linter.unusedVariables false
set_option maxHeartbeats 6400000
set_option maxRecDepth 100000
namespace Go.Proofs.YtbakanofkghmiaaGreat
open Go.RowKit
theorem one_od (o:Od):∀ u ∈ o.vs,u.oneCell' = true:=by
 intro u hu
 simp [Od.vs] at hu
 rcases hu with rfl | rfl | rfl | rfl | rfl | rfl <;> rfl
def DR (N B:Nat) (W0:World) (vq:Value) (l:List Od) (t:Od) (p q:Prop) (V:World):Nat→Value→Prop
 | 0,v=>v = I N 0
 | 1,v=>v = I N 0
 | 2,v=>v = I N 0
 | 3,v=>v = I N 0
 | 4,v=>v = I N 1
 | 5,v=>v = vq
 | 6,v=>v = I N 0
 | 7,v=>v = I N 0
 | 8,v=>v = I N 2
 | 9,v=>v = .agg (yt t.id t.side t.ticks t.left t.life t.tag).toArray
 | 10,v=>∃ s,v = .slice (some (J s 0)) 1 1∧(¬ p→∀ j u,t.vs[j]? = some u→V.cell? (((J s 0):Addr).add j) = some u)
 | 11,v=>∃ a c,v = .slice a (l.length + 1) c∧p∧(¬ q→ORow V B v (l ++ [t])∧W0.grownBy V vq.ownBlock)∧(q→V.cell? (J N 1) = some v∧ORow V B v (l ++ [t])∧TookAt N 0 vq.ownBlock W0 V)
 | 12,v=>v = I N 0
 | 13,v=>v = I N 0
 | 14,v=>v = I N 1
 | _,_=>True
section
variable {N B:Nat} {W0 V V':World} {vq:Value} {l:List Od} {t:Od} {p q:Prop}
theorem dr_alloc {o:Obj} (hp:¬ p):∀ j v,DR N B W0 vq l t p q V j v→DR N B W0 vq l t p q (V.alloc o) j v:=by
 intro j v h
 match j with
 | 0 | 1 | 2 | 3 | 4 | 5 | 6 | 7 | 8 | 9 | 12 | 13 | 14=>exact h
 | 10 =>
  obtain ⟨s,z,K⟩:=h
  exact ⟨s,z,fun hp j u hu=>(yS _ _ _ (yH V _ (K hp j u hu))).trans (K hp j u hu)⟩
 | 11=>obtain ⟨_,_,_,K,_⟩:=h; exact absurd K hp
 | j + 15=>trivial
theorem dr_one:∀ j v,j ≠ 11→DR N B W0 vq l t False False V j v→DR N B W0 vq l t True False V' j v:=by
 intro j v L h
 match j with
 | 0 | 1 | 2 | 3 | 4 | 5 | 6 | 7 | 8 | 9 | 12 | 13 | 14=>exact h
 | 10 =>
  obtain ⟨s,z,K⟩:=h
  exact ⟨s,z,fun hp=>absurd trivial hp⟩
 | 11=>exact absurd rfl L
 | j + 15=>trivial
theorem dr_two {v:Value}:∀ j,j ≠ 15→DR N B W0 vq l t True False V j v→(j = 11→DR N B W0 vq l t True True V' 11 v)→DR N B W0 vq l t True True V' j v:=by
 intro j L h uL
 match j with
 | 0 | 1 | 2 | 3 | 4 | 5 | 6 | 7 | 8 | 9 | 12 | 13 | 14=>exact h
 | 10 =>
  obtain ⟨s,z,K⟩:=h
  exact ⟨s,z,fun hp=>absurd trivial hp⟩
 | 11=>exact uL rfl
 | j + 15=>trivial
end
theorem matS_took {N B:Nat} {W w':World} {next:Int} {vq uV:Value} {l l':List Od} {t:Od} {vt:Value} {ts:List Ev} (h:MatS N B W next vq l t vt ts) (ht:TookAt N 0 vq.ownBlock W w') (hc:w'.cell? (J N 1) = some uV) (Y:ORow w' B uV l'):MatS N B w' next uV l' t vt ts:=by
 have xn:∀ j,j ≠ 1→w'.cell? (J N j) = W.cell? (J N j):=fun j z=>ht.cell j (by omega)
 refine ⟨?_,fun j L=>⟨?_,?_⟩,Y,aR h.erow ht h.nt (zD h.erow h.orow (by decide)),by obtain ⟨xp,hc⟩:=h.box; exact ht.kind _ _ _ hc,yK h.le ht.size⟩
 ·intro j u L
  by_cases z:j = 1
  ·subst z; cases L; exact hc
  ·rw [Nat.zero_add,xn j z]
   have:W.cell? (J N (0 + j)) = some u:=h.cells j u (by
    rcases j with _ | _ | j
    ·exact L
    ·exact absurd rfl z
    ·exact L)
   rwa [Nat.zero_add] at this
 ·by_cases z:j = 1
  ·subst z; rw [Nat.zero_add,hc]; rfl
  ·rw [Nat.zero_add,xn j z]; have:=(h.there j L).1; rwa [Nat.zero_add] at this
 ·rw [Nat.zero_add,ht.frozen]; have:=(h.there j L).2; rwa [Nat.zero_add] at this
theorem rest_any (N B:Nat) (next:Int) (vq:Value) (l:List Od) (t:Od) (vt:Value) (ts:List Ev) (w:World) (h:MatS N B w next vq l t vt ts) (hn:l.length ≤ 1000) :
  Calls Tryz.prog 115 #[I N 0] w fun e w'=>∃ uV,e = yk (.tuple #[])∧MatS N B w' next uV (l ++ [t]) t vt ts∧KeptBut N B w w':=by
 have HM:=Q h
 have qr:=h.lt
 have oL:=h.le
 have qx:=h.nq
 have uE:=Q h.box
 have jw:=Q h.orow
 have hM:=Q h.cells
 have qa:Hid (w.cell? (J N 1) = some vq):=M hM 1 _ rfl
 have pN:Hid (w.frozen? (J N 1) = false):=by have:=(h.there 1 (by omega)).2; rwa [Nat.zero_add] at this
 clear h
 obtain ⟨i0,uv,uq,uw,uM⟩:=info_parts Tryz.infoOrder
 go_enter Tryz.func115,Tryz.ntmps115
 go_wp2_with fail
 refine zi (RT (fun V=>yl w V) (fun f=>{ tmps:=#[I N 0,Z,f 0,f 1,f 2,f 3,f 4,f 5,f 6,f 7,f 8,f 9,f 10,f 11,f 12,f 13,f 14],defers:=[] }) 11 15 (DR N B w vq l t)) (by kernel_rfl) ?_ ?_ ?_
 ·exact ⟨fun _=>Z,rfl,fun _=>⟨rfl,rfl,rfl,Nat.le_refl _,fun _ _=>rfl⟩,fun j L=>by rw [yF] at L; split at L <;> simp at L⟩
 ·rintro x hR V ⟨f,rfl,-,U⟩ hx xK
  have xm:=aK xK hx (acyc _ (by kernel_rfl))
  have oD:x[11]? = some true:=xm 11 (by simp)
  have k15:x[15]? = some true:=xm 15 (by simp)
  obtain ⟨va,vc,-,-,-,uX⟩:=U 11 oD
  obtain ⟨q1,q2,q3⟩:=uX k15
  have vd:Hid (_∧_∧_):=⟨q1,q2,q3⟩
  clear U xm xK hx oD k15 uX q1 q2 q3
  dsimp only
  go_wp2_with fail
  go_end0
  exact ⟨_,rfl,matS_took (M HM) (M vd).2.2 (M vd).1 (M vd).2.1,cK (M vd).2.2 oL (fun g hg=>((M jw).lt g hg).1)⟩
 ·rintro x hR V i op ⟨f,rfl,jj,U⟩ xk hx Y xq D
  have xW:=Q jj
  have HD:=Q U
  have xj:∀ b o u,w.cell? (J b o) = some u→¬ x[11]? = some true→V.cell? (J b o) = some u:=fun b o u hu hn11=>((M xW hn11).cell (p:=(J b o)) (yH w _ hu)).trans hu
  have pJ:i < 11→0 < i→¬ x[11]? = some true:=fun xL vW uL=>by
   have h5:=yd xk 11 rfl uL 5 rfl
   have vL:=yd xk 11 rfl uL 10 rfl
   have h4:=yd xk 5 rfl h5 4 rfl
   have h9:=yd xk 10 rfl vL 9 rfl
   have h3:=yd xk 4 rfl h4 3 rfl
   have h8:=yd xk 9 rfl h9 8 rfl
   have K:=yd xk 3 rfl h3 2 rfl
   have h7:=yd xk 8 rfl h8 7 rfl
   have z:=yd xk 2 rfl K 1 rfl
   have h6:=yd xk 7 rfl h7 6 rfl
   have ub:∀ j,0 < j→j < 11→x[j]? = some true:=fun j jk L=>by
    rcases (by omega:j = 1 ∨ j = 2 ∨ j = 3 ∨ j = 4 ∨ j = 5 ∨ j = 6 ∨ j = 7 ∨ j = 8 ∨ j = 9 ∨ j = 10) with rfl | rfl | rfl | rfl | rfl | rfl | rfl | rfl | rfl | rfl <;> assumption
   rw [ub i vW xL] at xq; cases xq
  have n15':i < 15→¬ x[15]? = some true:=fun xL vl=>by
   have qY:=yd xk 15 rfl vl 14 rfl
   have uL:=yd xk 15 rfl vl 11 rfl
   have jA:=yd xk 14 rfl qY 13 rfl
   have h5:=yd xk 11 rfl uL 5 rfl
   have vL:=yd xk 11 rfl uL 10 rfl
   have qp:=yd xk 13 rfl jA 12 rfl
   have h4:=yd xk 5 rfl h5 4 rfl
   have h9:=yd xk 10 rfl vL 9 rfl
   have h0:=yd xk 12 rfl qp 0 rfl
   have h3:=yd xk 4 rfl h4 3 rfl
   have h8:=yd xk 9 rfl h9 8 rfl
   have K:=yd xk 3 rfl h3 2 rfl
   have h7:=yd xk 8 rfl h8 7 rfl
   have z:=yd xk 2 rfl K 1 rfl
   have h6:=yd xk 7 rfl h7 6 rfl
   have ub:∀ j,j < 15→x[j]? = some true:=fun j L=>by
    rcases (by omega:j = 0 ∨ j = 1 ∨ j = 2 ∨ j = 3 ∨ j = 4 ∨ j = 5 ∨ j = 6 ∨ j = 7 ∨ j = 8 ∨ j = 9 ∨ j = 10 ∨ j = 11 ∨ j = 12 ∨ j = 13 ∨ j = 14) with rfl | rfl | rfl | rfl | rfl | rfl | rfl | rfl | rfl | rfl | rfl | rfl | rfl | rfl | rfl <;> assumption
   rw [ub i xL] at xq; cases xq
  clear xk jj
  match i,Y with
  | 0,Y | 1,Y | 6,Y =>
   obtain rfl:=hD Y
   clear D U
   rw [if_pos (by rfl)];unfold Oper.wp;go_simp
   exact ⟨upd f _ (I N 0),by simp [upd],zy (M HD) (by decide) (by decide) (fun _ _ h=>h) (M xW) rfl⟩
  | 2,Y =>
   obtain rfl:=hD Y
   have g:f 1 = I N 0:=U 1 (yc D 1 rfl)
   clear D U
   rw [if_pos (by rfl)];unfold Oper.wp;go_simp
   exact ⟨upd f 2 (I N 0),by simp [upd,g],zy (M HD) (by decide) (by decide) (fun _ _ h=>h) (M xW) rfl⟩
  | 3,Y =>
   obtain rfl:=hD Y
   have g:f 2 = I N 0:=U 2 (yc D 2 rfl)
   clear D U
   rw [if_pos (by rfl)];unfold Oper.wp;go_simp
   exact ⟨upd f 3 (I N 0),by simp [upd,g],zy (M HD) (by decide) (by decide) (fun _ _ h=>h) (M xW) rfl⟩
  | 4,Y =>
   obtain rfl:=hD Y
   have g:f 3 = I N 0:=U 3 (yc D 3 rfl)
   clear D U
   rw [if_pos (by rfl)];unfold Oper.wp;go_simp
   exact ⟨upd f 4 (I N 1),by simp [upd,g],zy (M HD) (by decide) (by decide) (fun _ _ h=>h) (M xW) rfl⟩
  | 5,Y =>
   obtain rfl:=hD Y
   have g:f 4 = I N 1:=U 4 (yc D 4 rfl)
   have ql:=pJ (by omega) (by omega)
   have y1:=xj N 1 _ (M qa) ql
   clear D U
   rw [if_pos (by rfl)];unfold Oper.wp;go_simp
   exact ⟨upd f 5 (vq),by simp [upd,g],zy (M HD) (by decide) (by decide) (fun _ _ h=>h) (M xW) rfl⟩
  | 7,Y =>
   obtain rfl:=hD Y
   have g:f 6 = I N 0:=U 6 (yc D 6 rfl)
   clear D U
   rw [if_pos (by rfl)];unfold Oper.wp;go_simp
   exact ⟨upd f 7 (I N 0),by simp [upd,g],zy (M HD) (by decide) (by decide) (fun _ _ h=>h) (M xW) rfl⟩
  | 8,Y =>
   obtain rfl:=hD Y
   have g:f 7 = I N 0:=U 7 (yc D 7 rfl)
   clear D U
   rw [if_pos (by rfl)];unfold Oper.wp;go_simp
   exact ⟨upd f 8 (I N 2),by simp [upd,g],zy (M HD) (by decide) (by decide) (fun _ _ h=>h) (M xW) rfl⟩
  | 9,Y =>
   obtain rfl:=hD Y
   have g:f 8 = I N 2:=U 8 (yc D 8 rfl)
   have ql:=pJ (by omega) (by omega)
   have y2:=xj N 2 _ (M hM 2 _ rfl) ql
   have y3:=xj N 3 _ (M hM 3 _ rfl) ql
   have y4:=xj N 4 _ (M hM 4 _ rfl) ql
   have y5:=xj N 5 _ (M hM 5 _ rfl) ql
   have y6:=xj N 6 _ (M hM 6 _ rfl) ql
   have y7:=xj N 7 _ (M hM 7 _ rfl) ql
   clear D U
   rw [if_pos (by rfl)];unfold Oper.wp;go_simp
   exact ⟨upd f 9 (.agg (yt t.id t.side t.ticks t.left t.life t.tag).toArray),by simp [upd,g],zy (M HD) (by decide) (by decide) (fun _ _ h=>h) (M xW) rfl⟩
  | 10,Y =>
   obtain rfl:=hD Y
   have g:f 9 = .agg (yt t.id t.side t.ticks t.left t.life t.tag).toArray:=U 9 (yc D 9 rfl)
   have ql:=pJ (by omega) (by omega)
   have xZ:=M xW ql
   clear D U
   rw [if_pos (by rfl)];unfold Oper.wp;go_simp
   refine ⟨upd f 10 (.slice (some (yn V 0)) 1 1),by simp [upd,g],zy (M HD) (by decide) (by decide) (dr_alloc ql) (fun _=>xZ.alloc xZ.size _) ⟨V.heap.size,rfl,fun _=>?_⟩⟩
   exact fun j u h=>bQ V t.vs 49 j u h
  | 11,Y =>
   obtain rfl:=hD Y
   have g5:f 5 = vq:=U 5 (yc D 5 rfl)
   obtain ⟨s,vP,oS⟩:=U 10 (yc D 10 rfl)
   have ql:¬ x[11]? = some true:=by rw [xq]; simp
   have n15:=n15' (by omega)
   have xZ:=M xW ql
   have uD:ORow V B vq l:=zj (M jw) xZ
   rw [if_pos (by rfl)]
   refine wp_append_own V (.tmp 7) (.tmp 12) 26 rfl B 49 i0 _ 6 56 Tryz.underlying26 uv uq uw uM rfl (by decide) vq l.length (l.flatMap Od.vs) g5 uD (J s 0) 1 1 t.vs vP rfl (oS ql) (one_od t) (by unfold maxLen; omega) (by omega) (by have:=xZ.size; omega) ?_
   intro v' w' xN ut _
   obtain ⟨ga,gc,rfl⟩:=dO xN (by omega)
   refine ⟨upd f 11 (.slice (some (J ga 0)) (l.length + 1) gc),rfl,rt_one (by decide) (M HD) xq n15 (fun j v L h=>dr_one j v L h) ⟨some (J ga 0),gc,rfl,trivial,fun _=>⟨?_,?_⟩,fun h=>h.elim⟩⟩
   ·show World.ownsRow _ _ _ _ _ (l ++ [t]).length _
    rw [yM,List.flatMap_append]; simpa using xN
   ·exact (zU xZ tg).trans ut
  | 12,Y =>
   obtain rfl:=hD Y
   have g:f 0 = I N 0:=U 0 (yc D 0 rfl)
   clear D U
   rw [if_pos (by rfl)];unfold Oper.wp;go_simp
   exact ⟨upd f 12 (I N 0),by simp [upd,g],zy (M HD) (by decide) (by decide) (fun _ _ h=>h) (M xW) rfl⟩
  | 13,Y =>
   obtain rfl:=hD Y
   have g:f 12 = I N 0:=U 12 (yc D 12 rfl)
   clear D U
   rw [if_pos (by rfl)];unfold Oper.wp;go_simp
   exact ⟨upd f 13 (I N 0),by simp [upd,g],zy (M HD) (by decide) (by decide) (fun _ _ h=>h) (M xW) rfl⟩
  | 14,Y =>
   obtain rfl:=hD Y
   have g:f 13 = I N 0:=U 13 (yc D 13 rfl)
   clear D U
   rw [if_pos (by rfl)];unfold Oper.wp;go_simp
   exact ⟨upd f 14 (I N 1),by simp [upd,g],zy (M HD) (by decide) (by decide) (fun _ _ h=>h) (M xW) rfl⟩
  | 15,Y =>
   obtain rfl:=hD Y
   have jU:f 14 = I N 1:=U 14 (yc D 14 rfl)
   have oD:x[11]? = some true:=D ⟨11,.data⟩ (by simp) rfl
   have n15:¬ x[15]? = some true:=by rw [xq]; simp
   obtain ⟨ga,gc,vr,-,hfa,-⟩:=U 11 oD
   obtain ⟨jC,ut⟩:=hfa n15
   have qK:some N ≠ vq.ownBlock:=qx
   have y1:=ut.cell (M qa) qK
   have f1:V.frozen? (J N 1) = false:=(World.frozen?_of_block (a:=(J N 1)) (ut.block N (by omega) qK)).trans (M pN)
   have jt:=Q (vr ▸ jC)
   have oY:Hid (∃ xp,V.heap[N]? = some (.cells xp 157 (0,0))):=by obtain ⟨xp,hc⟩:=M uE; exact ⟨xp,(ut.block N (by omega) qK).trans hc⟩
   have pQ:=Q ut
   clear D U jC ut hfa
   rw [if_pos (by rfl)];unfold Oper.wp;go_simp
   refine ⟨upd f 15 Z,by simp [upd,jU,vr],rt_two (by decide) (M HD) oD xq (fun j L hxj h=>dr_two j L h (fun hj11=>?_)) trivial⟩
   subst hj11
   obtain ⟨-,-,-,-,-,-⟩:=h
   refine ⟨ga,gc,vr,trivial,fun h=>absurd trivial h,fun _=>?_⟩
   rw [vr]
   refine ⟨yJ _ _ _ y1,zw (M jt) (zo (M jt) (M oY) (by decide)) 1 _,?_⟩
   exact bU (bD (M pQ) (by omega) qK) (df (o:=0) _ _)
  | i + 16,Y=>simp at Y
def aZ (l:List Od):Bool:=if 20 < l.length then true else decide (8 < ((aB true 1 (zn l 1)).length:Int) + (aB false 2 (zn l 2)).length)
def DF (N:Nat) (BV:Value) (q1 q2:List Od) (mb:Int) (p:Prop) (W:World):Nat→Value→Prop
 | 0,v=>v = I N 0
 | 1,v=>v = I N 0
 | 2,v=>v = I N 0
 | 3,v=>v = BV
 | 4,v=>∃ b,v = aU b∧Tb W b q1
 | 5,v=>v = I N 0
 | 6,v=>v = I N 0
 | 7,v=>v = I N 0
 | 8,v=>v = BV
 | 9,v=>∃ b,v = aV b∧Ts W b q2
 | 10,v=>v = H mb
 | 11,v=>v = .bool (decide (8 < mb))
 | 12,v=>v = .bool (decide (8 < mb))
 | _,_=>True
theorem df_mono {N:Nat} {BV:Value} {q1 q2:List Od} {mb:Int}:∀ p W W' j v,yl W W'→DF N BV q1 q2 mb p W j v→DF N BV q1 q2 mb p W' j v:=by
 intro p W W' j v hb h
 match j with
 | 0 | 1 | 2 | 3 | 5 | 6 | 7 | 8 | 10 | 11 | 12=>exact h
 | 4=>obtain ⟨b,z,K⟩:=h; exact ⟨b,z,zt K (hb.block _ (zJ K))⟩
 | 9=>obtain ⟨b,z,K⟩:=h; exact ⟨b,z,zt K (hb.block _ (zJ K))⟩
 | n + 13=>trivial
theorem isTooFull_any (N B:Nat) (next:Int) (vq:Value) (l:List Od) (t:Od) (vt:Value) (ts:List Ev) (w:World) (h:MatS N B w next vq l t vt ts) (hm:l.length ≤ 1000) (hl:∀ o' ∈ l,0 ≤ o'.left∧o'.left ≤ 1000000) :
  Calls Tryz.prog 165 #[I N 0] w fun e w'=>e = yk (.bool (aZ l))∧yl w w':=by
 have qr:=h.lt
 have oL:=h.le
 have HR:=Q (zT h.orow (by omega))
 obtain ⟨a,F,rfl,_,_⟩:=zT h.orow (by omega)
 have HM:=Q h.cells
 have z0:w.cell? (J N 0) = some (H next):=h.cells 0 _ rfl
 have z1:w.cell? (J N 1) = some (.slice a l.length F):=h.cells 1 _ rfl
 have HLB:=Q hl
 clear h hl
 go_enter Tryz.func165,Tryz.ntmps165
 by_cases h20:20 < l.length
 ·have h20':(20:Int) < l.length:=by omega
  have HF:Hid (aZ l = true):=if_pos h20
  clear h20
  go_wp2_with fail
  go_ret
  exact ⟨zl (M HF).symm,Below.refl _ _⟩
 have h20':¬ (20:Int) < l.length:=by omega
 have hn:l.length ≤ 20:=by omega
 have n1:(zn l 1).length ≤ 20:=yK (List.length_filter_le _ _) hn
 have n2:(zn l 2).length ≤ 20:=yK (List.length_filter_le _ _) hn
 generalize hN:((aB true 1 (zn l 1)).length:Int) + (aB false 2 (zn l 2)).length = mb
 have HF:Hid (aZ l = decide (8 < mb)):=by show _ = _; rw [aZ,if_neg h20,hN]
 have HNN:=Q hN
 clear hN h20
 go_wp2_with fail
 clear z0 z1
 refine zi (RG w (fun f=>{ tmps:=#[I N 0,Z,f 12,I N 0,I N 0,I N 0,I N 1,.slice a l.length F,H l.length,.bool false,f 0,f 1,f 2,f 3,f 4,f 5,f 6,f 7,f 8,f 9,f 10,f 11],defers:=[] }) 99 (DF N (.agg #[H next,.slice a l.length F]) (zn l 1) (zn l 2) mb)) (by kernel_rfl) ?_ ?_ ?_
 ·exact ⟨fun j=>if j = 12 then .bool false else Z,rfl,⟨rfl,rfl,rfl,Nat.le_refl _,fun _ _=>rfl⟩,fun j L=>by rw [yF] at L; split at L <;> simp at L⟩
 ·rintro x hR V ⟨f,rfl,xe,U⟩ hx xK
  have xm:=aK xK hx (acyc _ (by kernel_rfl))
  have e12:f 12 = .bool (decide (8 < mb)):=U 12 (xm 12 (by simp))
  have xo:=Q xe
  simp only [e12]
  clear U xm e12 xK hx xe
  go_wp2_with fail
  go_ret
  exact ⟨zl (M HF).symm,M xo⟩
 ·rintro x hR V i o ⟨f,rfl,xe,U⟩ xk hx Y xq D
  clear xk
  have xo:=Q xe
  have HD:=Q U
  have z0:=zb (M HM) xe qr 0 _ rfl
  have z1:=zb (M HM) xe qr 1 _ rfl
  rw [Nat.zero_add] at z0 z1
  have qC:=Q (zh (M HR) xe tg)
  match i,Y with
  | 0,Y | 5,Y =>
   obtain rfl:=hD Y
   clear D U xe
   rw [if_pos (by rfl)];unfold Oper.wp;go_simp
   exact ⟨upd f _ (I N 0),by simp [upd],zc (M xo) (M HD) (by decide) rfl⟩
  | 1,Y =>
   obtain rfl:=hD Y
   have g:f 0 = I N 0:=U 0 (yc D 0 rfl)
   clear D U xe
   rw [if_pos (by rfl)];unfold Oper.wp;go_simp
   exact ⟨upd f 1 (I N 0),by simp [upd,g],zc (M xo) (M HD) (by decide) rfl⟩
  | 2,Y =>
   obtain rfl:=hD Y
   have g:f 1 = I N 0:=U 1 (yc D 1 rfl)
   clear D U xe
   rw [if_pos (by rfl)];unfold Oper.wp;go_simp
   exact ⟨upd f 2 (I N 0),by simp [upd,g],zc (M xo) (M HD) (by decide) rfl⟩
  | 3,Y =>
   obtain rfl:=hD Y
   have g:f 2 = I N 0:=U 2 (yc D 2 rfl)
   clear D U xe
   rw [if_pos (by rfl)];unfold Oper.wp;go_simp
   exact ⟨upd f 3 (.agg #[H next,.slice a l.length F]),by simp [upd,g],zc (M xo) (M HD) (by decide) rfl⟩
  | 4,Y =>
   obtain rfl:=hD Y
   have g:f 3 = .agg #[H next,.slice a l.length F]:=U 3 (yc D 3 rfl)
   clear D U xe
   rw [if_pos (by rfl)];unfold Oper.wp;go_simp
   refine (eg next _ l V (M qC) hn (M HLB)).mono ?_
   rintro e w4 ⟨b,rfl,ht,qI,xy⟩
   exact ⟨upd f 4 (aU b),by simp [upd,g],bP df_mono (M xo) (M HD) xy (by decide) ⟨b,rfl,ht⟩⟩
  | 6,Y =>
   obtain rfl:=hD Y
   have g:f 5 = I N 0:=U 5 (yc D 5 rfl)
   clear D U xe
   rw [if_pos (by rfl)];unfold Oper.wp;go_simp
   exact ⟨upd f 6 (I N 0),by simp [upd,g],zc (M xo) (M HD) (by decide) rfl⟩
  | 7,Y =>
   obtain rfl:=hD Y
   have g:f 6 = I N 0:=U 6 (yc D 6 rfl)
   clear D U xe
   rw [if_pos (by rfl)];unfold Oper.wp;go_simp
   exact ⟨upd f 7 (I N 0),by simp [upd,g],zc (M xo) (M HD) (by decide) rfl⟩
  | 8,Y =>
   obtain rfl:=hD Y
   have g:f 7 = I N 0:=U 7 (yc D 7 rfl)
   clear D U xe
   rw [if_pos (by rfl)];unfold Oper.wp;go_simp
   exact ⟨upd f 8 (.agg #[H next,.slice a l.length F]),by simp [upd,g],zc (M xo) (M HD) (by decide) rfl⟩
  | 9,Y =>
   obtain rfl:=hD Y
   have g:f 8 = .agg #[H next,.slice a l.length F]:=U 8 (yc D 8 rfl)
   clear D U xe
   rw [if_pos (by rfl)];unfold Oper.wp;go_simp
   refine (dY next 2 (by omega) _ l V (M qC) hn (M HLB)).mono ?_
   rintro e w4 ⟨b,rfl,ht,qI,xy⟩
   exact ⟨upd f 9 (aV b),by simp [upd,g],bP df_mono (M xo) (M HD) xy (by decide) ⟨b,rfl,ht⟩⟩
  | 10,Y =>
   obtain rfl:=hD Y
   obtain ⟨b1,g4,t4⟩:=U 4 (yc D 4 rfl)
   obtain ⟨b2,g9,t9⟩:=U 9 (yc D 9 rfl)
   have HT4:=Q t4
   have HT9:=Q t9
   clear D U xe t4 t9
   rw [if_pos (by rfl)];unfold Oper.wp;go_simp
   refine (ey b1 b2 1 2 (zn l 1) (zn l 2) V (M HT4) (M HT9) n1 n2).mono ?_
   rw [M HNN]
   rintro e w4 ⟨rfl,xy⟩
   exact ⟨upd f 10 (H mb),by simp [upd,g4,g9],bP df_mono (M xo) (M HD) xy (by decide) rfl⟩
  | 11,Y =>
   obtain rfl:=hD Y
   have g:f 10 = H mb:=U 10 (yc D 10 rfl)
   clear D U xe
   rw [if_pos (by rfl)];unfold Oper.wp;go_simp
   exact ⟨upd f 11 (.bool (decide (8 < mb))),by simp [upd,g],zc (M xo) (M HD) (by decide) rfl⟩
  | 12,Y =>
   obtain rfl:=hD Y
   have g:f 11 = .bool (decide (8 < mb)):=U 11 (yc D 11 rfl)
   clear D U xe
   rw [if_pos (by rfl)];unfold Oper.wp;go_simp
   exact ⟨upd f 12 (.bool (decide (8 < mb))),by simp [upd,g],zc (M xo) (M HD) (by decide) rfl⟩
  | n + 13,Y=>simp at Y
end Go.Proofs.YtbakanofkghmiaaGreat
