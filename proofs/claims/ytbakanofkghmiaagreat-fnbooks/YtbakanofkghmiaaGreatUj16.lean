/-
  What is left of the taker laid behind the others, by the program: proved by walking the method.
-/
import Derived.Test.YtbakanofkghmiaaGreatUj15
set_option linter.unusedVariables false
set_option maxHeartbeats 6400000
set_option maxRecDepth 100000
namespace Go.Proofs.YtbakanofkghmiaaGreat
open Go.RowKit
theorem one_od (o:Od):∀ u ∈ o.vs,u.oneCell' = true:=by
 intro u hu
 simp [Od.vs] at hu
 rcases hu with rfl | rfl | rfl | rfl | rfl | rfl <;> rfl
def DR (mb B:Nat) (W0:World) (vq:Value) (l:List Od) (t:Od) (p q:Prop) (V:World):Nat→Value→Prop
 | 0,v=>v = I mb 0
 | 1,v=>v = I mb 0
 | 2,v=>v = I mb 0
 | 3,v=>v = I mb 0
 | 4,v=>v = I mb 1
 | 5,v=>v = vq
 | 6,v=>v = I mb 0
 | 7,v=>v = I mb 0
 | 8,v=>v = I mb 2
 | 9,v=>v = .agg (yu t.id t.side t.ticks t.left t.life t.tag).toArray
 | 10,v=>∃ s,v = .slice (some (J s 0)) 1 1∧(¬ p→∀ j u,t.vs[j]? = some u→V.cell? (((J s 0):Addr).add j) = some u)
 | 11,v=>∃ a c,v = .slice a (l.length + 1) c∧p∧(¬ q→ORow V B v (l ++ [t])∧W0.grownBy V vq.ownBlock)∧(q→V.cell? (J mb 1) = some v∧ORow V B v (l ++ [t])∧TookAt mb 0 vq.ownBlock W0 V)
 | 12,v=>v = I mb 0
 | 13,v=>v = I mb 0
 | 14,v=>v = I mb 1
 | _,_=>True
section
variable {mb B:Nat} {W0 V V':World} {vq:Value} {l:List Od} {t:Od} {p q:Prop}
theorem dr_alloc {o:Obj} (hp:¬ p):∀ j v,DR mb B W0 vq l t p q V j v→DR mb B W0 vq l t p q (V.alloc o) j v:=by
 intro j v h
 match j with
 | 0 | 1 | 2 | 3 | 4 | 5 | 6 | 7 | 8 | 9 | 12 | 13 | 14=>exact h
 | 10 =>
  obtain ⟨s,G,D⟩:=h
  exact ⟨s,G,fun hp j u hu=>(yT _ _ _ (yI V _ (D hp j u hu))).trans (D hp j u hu)⟩
 | 11=>obtain ⟨_,_,_,D,_⟩:=h; exact absurd D hp
 | j + 15=>trivial
theorem dr_one:∀ j v,j ≠ 11→DR mb B W0 vq l t False False V j v→DR mb B W0 vq l t True False V' j v:=by
 intro j v K h
 match j with
 | 0 | 1 | 2 | 3 | 4 | 5 | 6 | 7 | 8 | 9 | 12 | 13 | 14=>exact h
 | 10 =>
  obtain ⟨s,G,D⟩:=h
  exact ⟨s,G,fun hp=>absurd trivial hp⟩
 | 11=>exact absurd rfl K
 | j + 15=>trivial
theorem dr_two {v:Value}:∀ j,j ≠ 15→DR mb B W0 vq l t True False V j v→(j = 11→DR mb B W0 vq l t True True V' 11 v)→DR mb B W0 vq l t True True V' j v:=by
 intro j K h uY
 match j with
 | 0 | 1 | 2 | 3 | 4 | 5 | 6 | 7 | 8 | 9 | 12 | 13 | 14=>exact h
 | 10 =>
  obtain ⟨s,G,D⟩:=h
  exact ⟨s,G,fun hp=>absurd trivial hp⟩
 | 11=>exact uY rfl
 | j + 15=>trivial
end
theorem matS_took {mb B:Nat} {W w':World} {next:Int} {vq vw:Value} {l l':List Od} {t:Od} {vt:Value} {ts:List Ev} (h:MatS mb B W next vq l t vt ts) (ht:TookAt mb 0 vq.ownBlock W w') (hc:w'.cell? (J mb 1) = some vw) (Z:ORow w' B vw l'):MatS mb B w' next vw l' t vt ts:=by
 have xo:∀ j,j ≠ 1→w'.cell? (J mb j) = W.cell? (J mb j):=fun j G=>ht.cell j (by omega)
 refine ⟨?_,fun j K=>⟨?_,?_⟩,Z,aW h.erow ht h.nt (zC h.erow h.orow (by decide)),by obtain ⟨xp,hc⟩:=h.box; exact ht.kind _ _ _ hc,yL h.le ht.size⟩
 ·intro j u K
  by_cases G:j = 1
  ·subst G; cases K; exact hc
  ·rw [Nat.zero_add,xo j G]
   have:W.cell? (J mb (0 + j)) = some u:=h.cells j u (by
    rcases j with _ | _ | j
    ·exact K
    ·exact absurd rfl G
    ·exact K)
   rwa [Nat.zero_add] at this
 ·by_cases G:j = 1
  ·subst G; rw [Nat.zero_add,hc]; rfl
  ·rw [Nat.zero_add,xo j G]; have:=(h.there j K).1; rwa [Nat.zero_add] at this
 ·rw [Nat.zero_add,ht.frozen]; have:=(h.there j K).2; rwa [Nat.zero_add] at this
theorem rest_any (mb B:Nat) (next:Int) (vq:Value) (l:List Od) (t:Od) (vt:Value) (ts:List Ev) (w:World) (h:MatS mb B w next vq l t vt ts) (hn:l.length ≤ 1000) :
  Calls Tryz.prog 115 #[I mb 0] w fun e w'=>∃ vw,e = yl (.tuple #[])∧MatS mb B w' next vw (l ++ [t]) t vt ts∧KeptBut mb B w w':=by
 have HM:=Y h
 have qB:=h.lt
 have px:=h.le
 have qH:=h.nq
 have uy:=Y h.box
 have jP:=Y h.orow
 have hM:=Y h.cells
 have vS:Hid (w.cell? (J mb 1) = some vq):=U hM 1 _ rfl
 have qK:Hid (w.frozen? (J mb 1) = false):=by have:=(h.there 1 (by omega)).2; rwa [Nat.zero_add] at this
 clear h
 obtain ⟨i0,uE,uF,uK,uV⟩:=info_parts Tryz.infoOrder
 go_enter Tryz.func115,Tryz.ntmps115
 go_wp2_with fail
 refine zi (RT (fun V=>ym w V) (fun f=>{ tmps:=#[I mb 0,M,f 0,f 1,f 2,f 3,f 4,f 5,f 6,f 7,f 8,f 9,f 10,f 11,f 12,f 13,f 14],defers:=[] }) 11 15 (DR mb B w vq l t)) (by kernel_rfl) ?_ ?_ ?_
 ·exact ⟨fun _=>M,rfl,fun _=>⟨rfl,rfl,rfl,Nat.le_refl _,fun _ _=>rfl⟩,fun j K=>by rw [yG] at K; split at K <;> simp at K⟩
 ·rintro x xj V ⟨f,rfl,-,hD⟩ hx xL
  have xn:=zW xL hx (acyc _ (by kernel_rfl))
  have oM:x[11]? = some true:=xn 11 (by simp)
  have k15:x[15]? = some true:=xn 15 (by simp)
  obtain ⟨va,vc,-,-,-,vj⟩:=hD 11 oM
  obtain ⟨q1,q2,q3⟩:=vj k15
  have vr:Hid (_∧_∧_):=⟨q1,q2,q3⟩
  clear hD xn xL hx oM k15 vj q1 q2 q3
  dsimp only
  go_wp2_with fail
  go_end0
  exact ⟨_,rfl,matS_took (U HM) (U vr).2.2 (U vr).1 (U vr).2.1,cD (U vr).2.2 px (fun g hg=>((U jP).lt g hg).1)⟩
 ·rintro x xj V i op ⟨f,rfl,jy,hD⟩ X hx Z xu Q
  have ud:=Y jy
  have HD:=Y hD
  have xk:∀ b o u,w.cell? (J b o) = some u→¬ x[11]? = some true→V.cell? (J b o) = some u:=fun b o u hu hn11=>((U ud hn11).cell (p:=(J b o)) (yI w _ hu)).trans hu
  have pQ:i < 11→0 < i→¬ x[11]? = some true:=fun xI qm uY=>by
   have h5:=ye X 11 rfl uY 5 rfl
   have vT:=ye X 11 rfl uY 10 rfl
   have h4:=ye X 5 rfl h5 4 rfl
   have h9:=ye X 10 rfl vT 9 rfl
   have h3:=ye X 4 rfl h4 3 rfl
   have h8:=ye X 9 rfl h9 8 rfl
   have D:=ye X 3 rfl h3 2 rfl
   have h7:=ye X 8 rfl h8 7 rfl
   have G:=ye X 2 rfl D 1 rfl
   have h6:=ye X 7 rfl h7 6 rfl
   have uk:∀ j,0 < j→j < 11→x[j]? = some true:=fun j jz K=>by
    rcases (by omega:j = 1 ∨ j = 2 ∨ j = 3 ∨ j = 4 ∨ j = 5 ∨ j = 6 ∨ j = 7 ∨ j = 8 ∨ j = 9 ∨ j = 10) with rfl | rfl | rfl | rfl | rfl | rfl | rfl | rfl | rfl | rfl <;> assumption
   rw [uk i qm xI] at xu; cases xu
  have n15':i < 15→¬ x[15]? = some true:=fun xI vy=>by
   have jk:=ye X 15 rfl vy 14 rfl
   have uY:=ye X 15 rfl vy 11 rfl
   have jS:=ye X 14 rfl jk 13 rfl
   have h5:=ye X 11 rfl uY 5 rfl
   have vT:=ye X 11 rfl uY 10 rfl
   have qA:=ye X 13 rfl jS 12 rfl
   have h4:=ye X 5 rfl h5 4 rfl
   have h9:=ye X 10 rfl vT 9 rfl
   have h0:=ye X 12 rfl qA 0 rfl
   have h3:=ye X 4 rfl h4 3 rfl
   have h8:=ye X 9 rfl h9 8 rfl
   have D:=ye X 3 rfl h3 2 rfl
   have h7:=ye X 8 rfl h8 7 rfl
   have G:=ye X 2 rfl D 1 rfl
   have h6:=ye X 7 rfl h7 6 rfl
   have uk:∀ j,j < 15→x[j]? = some true:=fun j K=>by
    rcases (by omega:j = 0 ∨ j = 1 ∨ j = 2 ∨ j = 3 ∨ j = 4 ∨ j = 5 ∨ j = 6 ∨ j = 7 ∨ j = 8 ∨ j = 9 ∨ j = 10 ∨ j = 11 ∨ j = 12 ∨ j = 13 ∨ j = 14) with rfl | rfl | rfl | rfl | rfl | rfl | rfl | rfl | rfl | rfl | rfl | rfl | rfl | rfl | rfl <;> assumption
   rw [uk i xI] at xu; cases xu
  clear X jy
  match i,Z with
  | 0,Z | 1,Z | 6,Z =>
   obtain rfl:=ya Z
   clear Q hD
   rw [if_pos (by rfl)];unfold Oper.wp;go_simp
   exact ⟨upd f _ (I mb 0),by simp [upd],zx (U HD) (by decide) (by decide) (fun _ _ h=>h) (U ud) rfl⟩
  | 2,Z =>
   obtain rfl:=ya Z
   have g:f 1 = I mb 0:=hD 1 (yd Q 1 rfl)
   clear Q hD
   rw [if_pos (by rfl)];unfold Oper.wp;go_simp
   exact ⟨upd f 2 (I mb 0),by simp [upd,g],zx (U HD) (by decide) (by decide) (fun _ _ h=>h) (U ud) rfl⟩
  | 3,Z =>
   obtain rfl:=ya Z
   have g:f 2 = I mb 0:=hD 2 (yd Q 2 rfl)
   clear Q hD
   rw [if_pos (by rfl)];unfold Oper.wp;go_simp
   exact ⟨upd f 3 (I mb 0),by simp [upd,g],zx (U HD) (by decide) (by decide) (fun _ _ h=>h) (U ud) rfl⟩
  | 4,Z =>
   obtain rfl:=ya Z
   have g:f 3 = I mb 0:=hD 3 (yd Q 3 rfl)
   clear Q hD
   rw [if_pos (by rfl)];unfold Oper.wp;go_simp
   exact ⟨upd f 4 (I mb 1),by simp [upd,g],zx (U HD) (by decide) (by decide) (fun _ _ h=>h) (U ud) rfl⟩
  | 5,Z =>
   obtain rfl:=ya Z
   have g:f 4 = I mb 1:=hD 4 (yd Q 4 rfl)
   have qv:=pQ (by omega) (by omega)
   have y1:=xk mb 1 _ (U vS) qv
   clear Q hD
   rw [if_pos (by rfl)];unfold Oper.wp;go_simp
   exact ⟨upd f 5 (vq),by simp [upd,g],zx (U HD) (by decide) (by decide) (fun _ _ h=>h) (U ud) rfl⟩
  | 7,Z =>
   obtain rfl:=ya Z
   have g:f 6 = I mb 0:=hD 6 (yd Q 6 rfl)
   clear Q hD
   rw [if_pos (by rfl)];unfold Oper.wp;go_simp
   exact ⟨upd f 7 (I mb 0),by simp [upd,g],zx (U HD) (by decide) (by decide) (fun _ _ h=>h) (U ud) rfl⟩
  | 8,Z =>
   obtain rfl:=ya Z
   have g:f 7 = I mb 0:=hD 7 (yd Q 7 rfl)
   clear Q hD
   rw [if_pos (by rfl)];unfold Oper.wp;go_simp
   exact ⟨upd f 8 (I mb 2),by simp [upd,g],zx (U HD) (by decide) (by decide) (fun _ _ h=>h) (U ud) rfl⟩
  | 9,Z =>
   obtain rfl:=ya Z
   have g:f 8 = I mb 2:=hD 8 (yd Q 8 rfl)
   have qv:=pQ (by omega) (by omega)
   have y2:=xk mb 2 _ (U hM 2 _ rfl) qv
   have y3:=xk mb 3 _ (U hM 3 _ rfl) qv
   have y4:=xk mb 4 _ (U hM 4 _ rfl) qv
   have y5:=xk mb 5 _ (U hM 5 _ rfl) qv
   have y6:=xk mb 6 _ (U hM 6 _ rfl) qv
   have y7:=xk mb 7 _ (U hM 7 _ rfl) qv
   clear Q hD
   rw [if_pos (by rfl)];unfold Oper.wp;go_simp
   exact ⟨upd f 9 (.agg (yu t.id t.side t.ticks t.left t.life t.tag).toArray),by simp [upd,g],zx (U HD) (by decide) (by decide) (fun _ _ h=>h) (U ud) rfl⟩
  | 10,Z =>
   obtain rfl:=ya Z
   have g:f 9 = .agg (yu t.id t.side t.ticks t.left t.life t.tag).toArray:=hD 9 (yd Q 9 rfl)
   have qv:=pQ (by omega) (by omega)
   have xV:=U ud qv
   clear Q hD
   rw [if_pos (by rfl)];unfold Oper.wp;go_simp
   refine ⟨upd f 10 (.slice (some (yp V 0)) 1 1),by simp [upd,g],zx (U HD) (by decide) (by decide) (dr_alloc qv) (fun _=>xV.alloc xV.size _) ⟨V.heap.size,rfl,fun _=>?_⟩⟩
   exact fun j u h=>bW V t.vs 49 j u h
  | 11,Z =>
   obtain rfl:=ya Z
   have g5:f 5 = vq:=hD 5 (yd Q 5 rfl)
   obtain ⟨s,qy,oj⟩:=hD 10 (yd Q 10 rfl)
   have qv:¬ x[11]? = some true:=by rw [xu]; simp
   have n15:=n15' (by omega)
   have xV:=U ud qv
   have uU:ORow V B vq l:=zj (U jP) xV
   rw [if_pos (by rfl)]
   refine wp_append_own V (.tmp 7) (.tmp 12) 26 rfl B 49 i0 _ 6 56 Tryz.underlying26 uE uF uK uV rfl (by decide) vq l.length (l.flatMap Od.vs) g5 uU (J s 0) 1 1 t.vs qy rfl (oj qv) (one_od t) (by unfold maxLen; omega) (by omega) (by have:=xV.size; omega) ?_
   intro v' w' xN uc _
   obtain ⟨ga,gc,rfl⟩:=dL xN (by omega)
   refine ⟨upd f 11 (.slice (some (J ga 0)) (l.length + 1) gc),rfl,rt_one (by decide) (U HD) xu n15 (fun j v K h=>dr_one j v K h) ⟨some (J ga 0),gc,rfl,trivial,fun _=>⟨?_,?_⟩,fun h=>h.elim⟩⟩
   ·show World.ownsRow _ _ _ _ _ (l ++ [t]).length _
    rw [yN,List.flatMap_append]; simpa using xN
   ·exact (aO xV hb).trans uc
  | 12,Z =>
   obtain rfl:=ya Z
   have g:f 0 = I mb 0:=hD 0 (yd Q 0 rfl)
   clear Q hD
   rw [if_pos (by rfl)];unfold Oper.wp;go_simp
   exact ⟨upd f 12 (I mb 0),by simp [upd,g],zx (U HD) (by decide) (by decide) (fun _ _ h=>h) (U ud) rfl⟩
  | 13,Z =>
   obtain rfl:=ya Z
   have g:f 12 = I mb 0:=hD 12 (yd Q 12 rfl)
   clear Q hD
   rw [if_pos (by rfl)];unfold Oper.wp;go_simp
   exact ⟨upd f 13 (I mb 0),by simp [upd,g],zx (U HD) (by decide) (by decide) (fun _ _ h=>h) (U ud) rfl⟩
  | 14,Z =>
   obtain rfl:=ya Z
   have g:f 13 = I mb 0:=hD 13 (yd Q 13 rfl)
   clear Q hD
   rw [if_pos (by rfl)];unfold Oper.wp;go_simp
   exact ⟨upd f 14 (I mb 1),by simp [upd,g],zx (U HD) (by decide) (by decide) (fun _ _ h=>h) (U ud) rfl⟩
  | 15,Z =>
   obtain rfl:=ya Z
   have km:f 14 = I mb 1:=hD 14 (yd Q 14 rfl)
   have oM:x[11]? = some true:=Q ⟨11,.data⟩ (by simp) rfl
   have n15:¬ x[15]? = some true:=by rw [xu]; simp
   obtain ⟨ga,gc,vI,-,hfa,-⟩:=hD 11 oM
   obtain ⟨jU,uc⟩:=hfa n15
   have qR:some mb ≠ vq.ownBlock:=qH
   have y1:=uc.cell (U vS) qR
   have f1:V.frozen? (J mb 1) = false:=(World.frozen?_of_block (a:=(J mb 1)) (uc.block mb (by omega) qR)).trans (U qK)
   have jK:=Y (vI ▸ jU)
   have pd:Hid (∃ xp,V.heap[mb]? = some (.cells xp 157 (0,0))):=by obtain ⟨xp,hc⟩:=U uy; exact ⟨xp,(uc.block mb (by omega) qR).trans hc⟩
   have oa:=Y uc
   clear Q hD jU uc hfa
   rw [if_pos (by rfl)];unfold Oper.wp;go_simp
   refine ⟨upd f 15 M,by simp [upd,km,vI],rt_two (by decide) (U HD) oM xu (fun j K hxj h=>dr_two j K h (fun hj11=>?_)) trivial⟩
   subst hj11
   obtain ⟨-,-,-,-,-,-⟩:=h
   refine ⟨ga,gc,vI,trivial,fun h=>absurd trivial h,fun _=>?_⟩
   rw [vI]
   refine ⟨yK _ _ _ y1,zw (U jK) (zl (U jK) (U pd) (by decide)) 1 _,?_⟩
   exact bQ (bz (U oa) (by omega) qR) (cZ (o:=0) _ _)
  | i + 16,Z=>simp at Z
def aV (l:List Od):Bool:=if 20 < l.length then true else decide (8 < ((aE true 1 (zo l 1)).length:Int) + (aE false 2 (zo l 2)).length)
def DF (mb:Nat) (BV:Value) (q1 q2:List Od) (eD:Int) (p:Prop) (W:World):Nat→Value→Prop
 | 0,v=>v = I mb 0
 | 1,v=>v = I mb 0
 | 2,v=>v = I mb 0
 | 3,v=>v = BV
 | 4,v=>∃ b,v = bd b∧Tb W b q1
 | 5,v=>v = I mb 0
 | 6,v=>v = I mb 0
 | 7,v=>v = I mb 0
 | 8,v=>v = BV
 | 9,v=>∃ b,v = bh b∧Ts W b q2
 | 10,v=>v = H eD
 | 11,v=>v = .bool (decide (8 < eD))
 | 12,v=>v = .bool (decide (8 < eD))
 | _,_=>True
theorem df_mono {mb:Nat} {BV:Value} {q1 q2:List Od} {eD:Int}:∀ p W W' j v,ym W W'→DF mb BV q1 q2 eD p W j v→DF mb BV q1 q2 eD p W' j v:=by
 intro p W W' j v O h
 match j with
 | 0 | 1 | 2 | 3 | 5 | 6 | 7 | 8 | 10 | 11 | 12=>exact h
 | 4=>obtain ⟨b,G,D⟩:=h; exact ⟨b,G,zr D (O.block _ (zJ D))⟩
 | 9=>obtain ⟨b,G,D⟩:=h; exact ⟨b,G,zr D (O.block _ (zJ D))⟩
 | n + 13=>trivial
theorem isTooFull_any (mb B:Nat) (next:Int) (vq:Value) (l:List Od) (t:Od) (vt:Value) (ts:List Ev) (w:World) (h:MatS mb B w next vq l t vt ts) (hm:l.length ≤ 1000) (hl:∀ o' ∈ l,0 ≤ o'.left∧o'.left ≤ 1000000) :
  Calls Tryz.prog 165 #[I mb 0] w fun e w'=>e = yl (.bool (aV l))∧ym w w':=by
 have qB:=h.lt
 have px:=h.le
 have HR:=Y (zR h.orow (by omega))
 obtain ⟨a,A,rfl,_,_⟩:=zR h.orow (by omega)
 have HM:=Y h.cells
 have z0:w.cell? (J mb 0) = some (H next):=h.cells 0 _ rfl
 have z1:w.cell? (J mb 1) = some (.slice a l.length A):=h.cells 1 _ rfl
 have HLB:=Y hl
 clear h hl
 go_enter Tryz.func165,Tryz.ntmps165
 by_cases h20:20 < l.length
 ·have h20':(20:Int) < l.length:=by omega
  have HF:Hid (aV l = true):=if_pos h20
  clear h20
  go_wp2_with fail
  go_ret
  exact ⟨zq (U HF).symm,Below.refl _ _⟩
 have h20':¬ (20:Int) < l.length:=by omega
 have hn:l.length ≤ 20:=by omega
 have n1:(zo l 1).length ≤ 20:=yL (List.length_filter_le _ _) hn
 have n2:(zo l 2).length ≤ 20:=yL (List.length_filter_le _ _) hn
 generalize hN:((aE true 1 (zo l 1)).length:Int) + (aE false 2 (zo l 2)).length = eD
 have HF:Hid (aV l = decide (8 < eD)):=by show _ = _; rw [aV,if_neg h20,hN]
 have HNN:=Y hN
 clear hN h20
 go_wp2_with fail
 clear z0 z1
 refine zi (RG w (fun f=>{ tmps:=#[I mb 0,M,f 12,I mb 0,I mb 0,I mb 0,I mb 1,.slice a l.length A,H l.length,.bool false,f 0,f 1,f 2,f 3,f 4,f 5,f 6,f 7,f 8,f 9,f 10,f 11],defers:=[] }) 99 (DF mb (.agg #[H next,.slice a l.length A]) (zo l 1) (zo l 2) eD)) (by kernel_rfl) ?_ ?_ ?_
 ·exact ⟨fun j=>if j = 12 then .bool false else M,rfl,⟨rfl,rfl,rfl,Nat.le_refl _,fun _ _=>rfl⟩,fun j K=>by rw [yG] at K; split at K <;> simp at K⟩
 ·rintro x xj V ⟨f,rfl,xh,hD⟩ hx xL
  have xn:=zW xL hx (acyc _ (by kernel_rfl))
  have ak:f 12 = .bool (decide (8 < eD)):=hD 12 (xn 12 (by simp))
  have xr:=Y xh
  simp only [ak]
  clear hD xn ak xL hx xh
  go_wp2_with fail
  go_ret
  exact ⟨zq (U HF).symm,U xr⟩
 ·rintro x xj V i o ⟨f,rfl,xh,hD⟩ X hx Z xu Q
  clear X
  have xr:=Y xh
  have HD:=Y hD
  have z0:=zb (U HM) xh qB 0 _ rfl
  have z1:=zb (U HM) xh qB 1 _ rfl
  rw [Nat.zero_add] at z0 z1
  have qM:=Y (zh (U HR) xh hb)
  match i,Z with
  | 0,Z | 5,Z =>
   obtain rfl:=ya Z
   clear Q hD xh
   rw [if_pos (by rfl)];unfold Oper.wp;go_simp
   exact ⟨upd f _ (I mb 0),by simp [upd],zd (U xr) (U HD) (by decide) rfl⟩
  | 1,Z =>
   obtain rfl:=ya Z
   have g:f 0 = I mb 0:=hD 0 (yd Q 0 rfl)
   clear Q hD xh
   rw [if_pos (by rfl)];unfold Oper.wp;go_simp
   exact ⟨upd f 1 (I mb 0),by simp [upd,g],zd (U xr) (U HD) (by decide) rfl⟩
  | 2,Z =>
   obtain rfl:=ya Z
   have g:f 1 = I mb 0:=hD 1 (yd Q 1 rfl)
   clear Q hD xh
   rw [if_pos (by rfl)];unfold Oper.wp;go_simp
   exact ⟨upd f 2 (I mb 0),by simp [upd,g],zd (U xr) (U HD) (by decide) rfl⟩
  | 3,Z =>
   obtain rfl:=ya Z
   have g:f 2 = I mb 0:=hD 2 (yd Q 2 rfl)
   clear Q hD xh
   rw [if_pos (by rfl)];unfold Oper.wp;go_simp
   exact ⟨upd f 3 (.agg #[H next,.slice a l.length A]),by simp [upd,g],zd (U xr) (U HD) (by decide) rfl⟩
  | 4,Z =>
   obtain rfl:=ya Z
   have g:f 3 = .agg #[H next,.slice a l.length A]:=hD 3 (yd Q 3 rfl)
   clear Q hD xh
   rw [if_pos (by rfl)];unfold Oper.wp;go_simp
   refine (sideOf_buy next _ l V (U qM) hn (U HLB)).mono ?_
   rintro e w4 ⟨b,rfl,ht,jb,xy⟩
   exact ⟨upd f 4 (bd b),by simp [upd,g],cx df_mono (U xr) (U HD) xy (by decide) ⟨b,rfl,ht⟩⟩
  | 6,Z =>
   obtain rfl:=ya Z
   have g:f 5 = I mb 0:=hD 5 (yd Q 5 rfl)
   clear Q hD xh
   rw [if_pos (by rfl)];unfold Oper.wp;go_simp
   exact ⟨upd f 6 (I mb 0),by simp [upd,g],zd (U xr) (U HD) (by decide) rfl⟩
  | 7,Z =>
   obtain rfl:=ya Z
   have g:f 6 = I mb 0:=hD 6 (yd Q 6 rfl)
   clear Q hD xh
   rw [if_pos (by rfl)];unfold Oper.wp;go_simp
   exact ⟨upd f 7 (I mb 0),by simp [upd,g],zd (U xr) (U HD) (by decide) rfl⟩
  | 8,Z =>
   obtain rfl:=ya Z
   have g:f 7 = I mb 0:=hD 7 (yd Q 7 rfl)
   clear Q hD xh
   rw [if_pos (by rfl)];unfold Oper.wp;go_simp
   exact ⟨upd f 8 (.agg #[H next,.slice a l.length A]),by simp [upd,g],zd (U xr) (U HD) (by decide) rfl⟩
  | 9,Z =>
   obtain rfl:=ya Z
   have g:f 8 = .agg #[H next,.slice a l.length A]:=hD 8 (yd Q 8 rfl)
   clear Q hD xh
   rw [if_pos (by rfl)];unfold Oper.wp;go_simp
   refine (ep next 2 (by omega) _ l V (U qM) hn (U HLB)).mono ?_
   rintro e w4 ⟨b,rfl,ht,jb,xy⟩
   exact ⟨upd f 9 (bh b),by simp [upd,g],cx df_mono (U xr) (U HD) xy (by decide) ⟨b,rfl,ht⟩⟩
  | 10,Z =>
   obtain rfl:=ya Z
   obtain ⟨b1,g4,t4⟩:=hD 4 (yd Q 4 rfl)
   obtain ⟨b2,g9,t9⟩:=hD 9 (yd Q 9 rfl)
   have ah:=Y t4
   have HT9:=Y t9
   clear Q hD xh t4 t9
   rw [if_pos (by rfl)];unfold Oper.wp;go_simp
   refine (ey b1 b2 1 2 (zo l 1) (zo l 2) V (U ah) (U HT9) n1 n2).mono ?_
   rw [U HNN]
   rintro e w4 ⟨rfl,xy⟩
   exact ⟨upd f 10 (H eD),by simp [upd,g4,g9],cx df_mono (U xr) (U HD) xy (by decide) rfl⟩
  | 11,Z =>
   obtain rfl:=ya Z
   have g:f 10 = H eD:=hD 10 (yd Q 10 rfl)
   clear Q hD xh
   rw [if_pos (by rfl)];unfold Oper.wp;go_simp
   exact ⟨upd f 11 (.bool (decide (8 < eD))),by simp [upd,g],zd (U xr) (U HD) (by decide) rfl⟩
  | 12,Z =>
   obtain rfl:=ya Z
   have g:f 11 = .bool (decide (8 < eD)):=hD 11 (yd Q 11 rfl)
   clear Q hD xh
   rw [if_pos (by rfl)];unfold Oper.wp;go_simp
   exact ⟨upd f 12 (.bool (decide (8 < eD))),by simp [upd,g],zd (U xr) (U HD) (by decide) rfl⟩
  | n + 13,Z=>simp at Z
def aI (l:List Od) (sd:Int):Option Od:=(quOf (decide (sd = 1)) (zo l sd)).head?
def matL (c:Cm) (id:Int):Nat→List Od→Int→List Ev→List Od × Int × List Ev
 | 0,l,left,ts=>(l,left,ts)
 | n + 1,l,left,ts =>
  if 0 < left then
   match aI l (othS c.s) with
   | none=>(l,left,ts)
   | some o=>if aN c o = true then matL c id n (aB l (plc l o.id).toNat o (min left o.left)) (left - min left o.left) (ts ++ [trE id o.id (min left o.left) o.ticks]) else (l,left,ts)
  else (l,left,ts)
structure GoodL (l:List Od):Prop where
 len:l.length ≤ 20
 left:∀ o ∈ l,0 < o.left∧o.left ≤ 1000000
 rise:aK l
theorem cT {l:List Od} {sd:Int} {o:Od} (h:aI l sd = some o):o ∈ l∧o.side = sd:=by
 have G:o ∈ quOf (decide (sd = 1)) (zo l sd):=List.mem_of_head? h
 obtain ⟨k,_,D⟩:=List.mem_flatMap.1 G
 have h3:=(List.mem_filter.1 D).1
 have h4:=List.mem_filter.1 h3
 exact ⟨h4.1,by simpa using h4.2⟩
theorem rise_id {l:List Od} (hr:aK l) {i k:Nat} {o o':Od} (hi:l[i]? = some o') (hk:l[k]? = some o) (he:o'.id = o.id):i = k:=by
 obtain ⟨G,rfl⟩:=yE.1 hi
 obtain ⟨D,rfl⟩:=yE.1 hk
 rcases Nat.lt_trichotomy i k with h | h | h
 ·have:=List.pairwise_iff_getElem.1 hr i k G D h; omega
 ·exact h
 ·have:=List.pairwise_iff_getElem.1 hr k i D G h; omega
theorem plc_at {l:List Od} (hr:aK l) {k:Nat} {o:Od} (hk:l[k]? = some o):plc l o.id = k:=by
 rcases plcF_spec o.id l 0 with ⟨_,D⟩ | ⟨i,o',G,D,h3,_⟩
 ·exact absurd rfl (D o (yM hk))
 ·rw [plc,G,rise_id hr D hk h3]; congr 1; omega
theorem cG {l:List Od} (h:GoodL l) {k:Nat} {o:Od} (hk:l[k]? = some o) {qty:Int} (h0:0 ≤ qty) (G:qty ≤ o.left):GoodL (aB l k o qty)∧((aB l k o qty).length + 1 = l.length ∨ (qty < o.left∧(aB l k o qty).length = l.length)):=by
 have kg:=(yE.1 hk).1
 by_cases he:o.left = qty
 ·have e:aB l k o qty = l.take k ++ l.drop (k + 1):=if_pos he
  rw [e]
  have hs:(l.take k ++ l.drop (k + 1)).Sublist l:=by
   have:(l.take k ++ l.drop (k + 1)).Sublist (l.take k ++ l.drop k):=List.Sublist.append (List.Sublist.refl _) (by rw [drop_get hk]; exact List.sublist_cons_self _ _)
   rwa [List.take_append_drop] at this
  refine ⟨⟨yL hs.length_le h.len,fun o' vv=>h.left o' (hs.subset vv),h.rise.sublist hs⟩,.inl ?_⟩
  simp; omega
 ·have e:aB l k o qty = l.set k { o with left:=o.left - qty }:=if_neg he
  rw [e]
  have Z:=h.left o (yM hk)
  refine ⟨⟨by rw [List.length_set]; exact h.len,fun o' vv=>?_,?_⟩,.inr ⟨by omega,by rw [List.length_set]⟩⟩
  ·rcases List.mem_or_eq_of_mem_set vv with D | rfl
   ·exact h.left o' D
   ·simp only; omega
  ·refine List.pairwise_iff_getElem.2 fun i j hi K pB=>?_
   rw [List.length_set] at hi K
   have hp:=List.pairwise_iff_getElem.1 h.rise i j hi K pB
   have hko:l[k] = o:=by have:=(yE.1 hk).2; exact this
   rw [List.getElem_set,List.getElem_set]
   split <;> split
   ·omega
   ·next D _=>subst D; rw [hko] at hp; exact hp
   ·next _ D=>subst D; rw [hko] at hp; exact hp
   ·exact hp
structure MI (c:Cm) (id:Int) (qt:List Od × Int × List Ev) (l:List Od) (left:Int) (ts:List Ev):Prop where
 good:GoodL l
 l0:0 ≤ left
 l1:left ≤ 1000000
 few:ts.length ≤ 21
 some:0 < left→ts.length + l.length ≤ 20
 goal:∃ n,matL c id n l left ts = qt∧(0 < left→l.length < n)
theorem matL_end {c:Cm} {id:Int} {n:Nat} {l:List Od} {left:Int} {ts:List Ev} (h:left ≤ 0):matL c id n l left ts = (l,left,ts):=by
 cases n with
 | zero=>rfl
 | succ n=>rw [matL,if_neg (by omega)]
theorem mi_start {c:Cm} {id:Int} {l:List Od} {left:Int} (h:GoodL l) (h0:0 ≤ left) (G:left ≤ 1000000):MI c id (matL c id 21 l left []) l left [] :=
 ⟨h,h0,G,by simp,fun _=>by simpa using h.len,21,rfl,fun _=>by have:=h.len; omega⟩
theorem mi_none {c:Cm} {id:Int} {qt:List Od × Int × List Ev} {l:List Od} {left:Int} {ts:List Ev} (h:MI c id qt l left ts) (hf:aI l (othS c.s) = none):qt = (l,left,ts):=by
 obtain ⟨n,rfl,hn⟩:=h.goal
 by_cases h0:0 < left
 ·obtain ⟨m,rfl⟩:∃ m,n = m + 1:=⟨n - 1,by have:=hn h0; omega⟩
  rw [matL,if_pos h0,hf]
 ·exact matL_end (by omega)
theorem mi_stop {c:Cm} {id:Int} {qt:List Od × Int × List Ev} {l:List Od} {left:Int} {ts:List Ev} (h:MI c id qt l left ts) {o:Od} (hf:aI l (othS c.s) = some o) (hm:aN c o = false):qt = (l,left,ts):=by
 obtain ⟨n,rfl,hn⟩:=h.goal
 by_cases h0:0 < left
 ·obtain ⟨m,rfl⟩:∃ m,n = m + 1:=⟨n - 1,by have:=hn h0; omega⟩
  rw [matL,if_pos h0,hf]
  simp only [hm]
  rw [if_neg (by simp)]
 ·exact matL_end (by omega)
theorem mi_done {c:Cm} {id:Int} {qt:List Od × Int × List Ev} {l:List Od} {left:Int} {ts:List Ev} (h:MI c id qt l left ts) (h0:¬ 0 < left):qt = (l,left,ts):=by
 obtain ⟨n,rfl,hn⟩:=h.goal
 exact matL_end (by omega)
theorem mi_step {c:Cm} {id:Int} {qt:List Od × Int × List Ev} {l:List Od} {left:Int} {ts:List Ev} (h:MI c id qt l left ts) (h0:0 < left) {o:Od} (hf:aI l (othS c.s) = some o) (hm:aN c o = true) :
  ∃ k,plc l o.id = (k:Nat)∧l[k]? = some o∧MI c id qt (aB l k o (min left o.left)) (left - min left o.left) (ts ++ [trE id o.id (min left o.left) o.ticks])∧2 * (aB l k o (min left o.left)).length + (if 0 < left - min left o.left then 1 else 0) < 2 * l.length + 1:=by
 obtain ⟨uZ,_⟩:=cT hf
 obtain ⟨k,hk⟩:=List.getElem?_of_mem uZ
 have hp:=plc_at h.good.rise hk
 have Z:=h.good.left o uZ
 have G:=h.l1
 have hs:=h.some h0
 obtain ⟨hg,hl⟩:=cG h.good hk (qty:=min left o.left) (by omega) (by omega)
 obtain ⟨n,hF,hn⟩:=h.goal
 obtain ⟨m,rfl⟩:∃ m,n = m + 1:=⟨n - 1,by have:=hn h0; omega⟩
 have hn:=hn h0
 rw [matL,if_pos h0,hf] at hF
 simp only [hm,if_true] at hF
 rw [hp,Int.toNat_natCast] at hF
 refine ⟨k,hp,hk,⟨hg,by omega,by omega,?_,fun xI=>?_,m,hF,fun xI=>?_⟩,?_⟩
 ·rw [yN]; simp only [List.length_cons,List.length_nil]; omega
 ·rw [yN]; simp only [List.length_cons,List.length_nil]; omega
 ·omega
 ·split <;> omega
end Go.Proofs.YtbakanofkghmiaaGreat
