/-
  What is left of the taker laid behind the others, by the program: proved by walking the method.
-/
import Derived.Test.YtbakanofkghmiaaGreatTj16
set_option linter.unusedVariables false
set_option maxHeartbeats 6400000
set_option maxRecDepth 100000
namespace Go.Proofs.YtbakanofkghmiaaGreat
open Go.RowKit
theorem one_od (o:Od):∀ u ∈ o.vs,u.oneCell' = true:=by
 intro u hu
 simp [Od.vs] at hu
 rcases hu with rfl | rfl | rfl | rfl | rfl | rfl <;> rfl
def DR (mb B:Nat) (W0:World) (vq:Value) (l:List Od) (t:Od) (p q:Prop) (V:World):Nat→Value→Prop
 | 0,v=>v = I mb 0
 | 1,v=>v = I mb 0
 | 2,v=>v = I mb 0
 | 3,v=>v = I mb 0
 | 4,v=>v = I mb 1
 | 5,v=>v = vq
 | 6,v=>v = I mb 0
 | 7,v=>v = I mb 0
 | 8,v=>v = I mb 2
 | 9,v=>v = .agg (yu t.id t.side t.ticks t.left t.life t.tag).toArray
 | 10,v=>∃ s,v = .slice (some (J s 0)) 1 1∧(¬ p→∀ j u,t.vs[j]? = some u→V.cell? (((J s 0):Addr).add j) = some u)
 | 11,v=>∃ a c,v = .slice a (l.length + 1) c∧p∧(¬ q→ORow V B v (l ++ [t])∧W0.grownBy V vq.ownBlock)∧(q→V.cell? (J mb 1) = some v∧ORow V B v (l ++ [t])∧TookAt mb 0 vq.ownBlock W0 V)
 | 12,v=>v = I mb 0
 | 13,v=>v = I mb 0
 | 14,v=>v = I mb 1
 | _,_=>True
section
variable {mb B:Nat} {W0 V V':World} {vq:Value} {l:List Od} {t:Od} {p q:Prop}
theorem dr_alloc {o:Obj} (hp:¬ p):∀ j v,DR mb B W0 vq l t p q V j v→DR mb B W0 vq l t p q (V.alloc o) j v:=by
 intro j v h
 match j with
 | 0 | 1 | 2 | 3 | 4 | 5 | 6 | 7 | 8 | 9 | 12 | 13 | 14=>exact h
 | 10 =>
  obtain ⟨s,Q,N⟩:=h
  exact ⟨s,Q,fun hp j u hu=>(yT _ _ _ (yI V _ (N hp j u hu))).trans (N hp j u hu)⟩
 | 11=>obtain ⟨_,_,_,N,_⟩:=h; exact absurd N hp
 | j + 15=>trivial
theorem dr_one:∀ j v,j ≠ 11→DR mb B W0 vq l t False False V j v→DR mb B W0 vq l t True False V' j v:=by
 intro j v R h
 match j with
 | 0 | 1 | 2 | 3 | 4 | 5 | 6 | 7 | 8 | 9 | 12 | 13 | 14=>exact h
 | 10 =>
  obtain ⟨s,Q,N⟩:=h
  exact ⟨s,Q,fun hp=>absurd trivial hp⟩
 | 11=>exact absurd rfl R
 | j + 15=>trivial
theorem dr_two {v:Value}:∀ j,j ≠ 15→DR mb B W0 vq l t True False V j v→(j = 11→DR mb B W0 vq l t True True V' 11 v)→DR mb B W0 vq l t True True V' j v:=by
 intro j R h uS
 match j with
 | 0 | 1 | 2 | 3 | 4 | 5 | 6 | 7 | 8 | 9 | 12 | 13 | 14=>exact h
 | 10 =>
  obtain ⟨s,Q,N⟩:=h
  exact ⟨s,Q,fun hp=>absurd trivial hp⟩
 | 11=>exact uS rfl
 | j + 15=>trivial
end
theorem matS_took {mb B:Nat} {W w':World} {next:Int} {vq vl:Value} {l l':List Od} {t:Od} {vt:Value} {ts:List Ev} (h:MatS mb B W next vq l t vt ts) (ht:TookAt mb 0 vq.ownBlock W w') (hc:w'.cell? (J mb 1) = some vl) (Z:ORow w' B vl l'):MatS mb B w' next vl l' t vt ts:=by
 have xo:∀ j,j ≠ 1→w'.cell? (J mb j) = W.cell? (J mb j):=fun j Q=>ht.cell j (by omega)
 refine ⟨?_,fun j R=>⟨?_,?_⟩,Z,ak h.erow ht h.nt (zA h.erow h.orow (by decide)),by obtain ⟨xp,hc⟩:=h.box; exact ht.kind _ _ _ hc,yL h.le ht.size⟩
 ·intro j u R
  by_cases Q:j = 1
  ·subst Q; cases R; exact hc
  ·rw [Nat.zero_add,xo j Q]
   have:W.cell? (J mb (0 + j)) = some u:=h.cells j u (by
    rcases j with _ | _ | j
    ·exact R
    ·exact absurd rfl Q
    ·exact R)
   rwa [Nat.zero_add] at this
 ·by_cases Q:j = 1
  ·subst Q; rw [Nat.zero_add,hc]; rfl
  ·rw [Nat.zero_add,xo j Q]; have:=(h.there j R).1; rwa [Nat.zero_add] at this
 ·rw [Nat.zero_add,ht.frozen]; have:=(h.there j R).2; rwa [Nat.zero_add] at this
theorem rest_any (mb B:Nat) (next:Int) (vq:Value) (l:List Od) (t:Od) (vt:Value) (ts:List Ev) (w:World) (h:MatS mb B w next vq l t vt ts) (hn:l.length ≤ 1000) :
  Calls Tryz.prog 115 #[I mb 0] w fun e w'=>∃ vl,e = yl (.tuple #[])∧MatS mb B w' next vl (l ++ [t]) t vt ts∧KeptBut mb B w w':=by
 have HM:=Y h
 have qr:=h.lt
 have pe:=h.le
 have qy:=h.nq
 have uv:=Y h.box
 have jG:=Y h.orow
 have hM:=Y h.cells
 have vV:Hid (w.cell? (J mb 1) = some vq):=U hM 1 _ rfl
 have qC:Hid (w.frozen? (J mb 1) = false):=by have:=(h.there 1 (by omega)).2; rwa [Nat.zero_add] at this
 clear h
 obtain ⟨i0,uz,uA,uF,uR⟩:=info_parts Tryz.infoOrder
 go_enter Tryz.func115,Tryz.ntmps115
 go_wp2_with fail
 refine zh (RT (fun V=>ym w V) (fun f=>{ tmps:=#[I mb 0,M,f 0,f 1,f 2,f 3,f 4,f 5,f 6,f 7,f 8,f 9,f 10,f 11,f 12,f 13,f 14],defers:=[] }) 11 15 (DR mb B w vq l t)) (by kernel_rfl) ?_ ?_ ?_
 ·exact ⟨fun _=>M,rfl,fun _=>⟨rfl,rfl,rfl,Nat.le_refl _,fun _ _=>rfl⟩,fun j R=>by rw [yG] at R; split at R <;> simp at R⟩
 ·rintro x hR V ⟨f,rfl,-,X⟩ hx xM
  have xn:=zS xM hx (acyc _ (by kernel_rfl))
  have oz:x[11]? = some true:=xn 11 (by simp)
  have k15:x[15]? = some true:=xn 15 (by simp)
  obtain ⟨va,vc,-,-,-,vd⟩:=X 11 oz
  obtain ⟨q1,q2,q3⟩:=vd k15
  have vj:Hid (_∧_∧_):=⟨q1,q2,q3⟩
  clear X xn xM hx oz k15 vd q1 q2 q3
  dsimp only
  go_wp2_with fail
  go_end0
  exact ⟨_,rfl,matS_took (U HM) (U vj).2.2 (U vj).1 (U vj).2.1,bw (U vj).2.2 pe (fun g hg=>((U jG).lt g hg).1)⟩
 ·rintro x hR V i op ⟨f,rfl,jm,X⟩ L hx Z xu G
  have uf:=Y jm
  have HD:=Y X
  have xk:∀ b o u,w.cell? (J b o) = some u→¬ x[11]? = some true→V.cell? (J b o) = some u:=fun b o u hu hn11=>((U uf hn11).cell (p:=(J b o)) (yI w _ hu)).trans hu
  have pv:i < 11→0 < i→¬ x[11]? = some true:=fun xH jr uS=>by
   have h5:=ye L 11 rfl uS 5 rfl
   have vI:=ye L 11 rfl uS 10 rfl
   have h4:=ye L 5 rfl h5 4 rfl
   have h9:=ye L 10 rfl vI 9 rfl
   have h3:=ye L 4 rfl h4 3 rfl
   have h8:=ye L 9 rfl h9 8 rfl
   have N:=ye L 3 rfl h3 2 rfl
   have h7:=ye L 8 rfl h8 7 rfl
   have Q:=ye L 2 rfl N 1 rfl
   have h6:=ye L 7 rfl h7 6 rfl
   have ug:∀ j,0 < j→j < 11→x[j]? = some true:=fun j jn R=>by
    rcases (by omega:j = 1 ∨ j = 2 ∨ j = 3 ∨ j = 4 ∨ j = 5 ∨ j = 6 ∨ j = 7 ∨ j = 8 ∨ j = 9 ∨ j = 10) with rfl | rfl | rfl | rfl | rfl | rfl | rfl | rfl | rfl | rfl <;> assumption
   rw [ug i jr xH] at xu; cases xu
  have n15':i < 15→¬ x[15]? = some true:=fun xH uM=>by
   have ja:=ye L 15 rfl uM 14 rfl
   have uS:=ye L 15 rfl uM 11 rfl
   have jJ:=ye L 14 rfl ja 13 rfl
   have h5:=ye L 11 rfl uS 5 rfl
   have vI:=ye L 11 rfl uS 10 rfl
   have qq:=ye L 13 rfl jJ 12 rfl
   have h4:=ye L 5 rfl h5 4 rfl
   have h9:=ye L 10 rfl vI 9 rfl
   have h0:=ye L 12 rfl qq 0 rfl
   have h3:=ye L 4 rfl h4 3 rfl
   have h8:=ye L 9 rfl h9 8 rfl
   have N:=ye L 3 rfl h3 2 rfl
   have h7:=ye L 8 rfl h8 7 rfl
   have Q:=ye L 2 rfl N 1 rfl
   have h6:=ye L 7 rfl h7 6 rfl
   have ug:∀ j,j < 15→x[j]? = some true:=fun j R=>by
    rcases (by omega:j = 0 ∨ j = 1 ∨ j = 2 ∨ j = 3 ∨ j = 4 ∨ j = 5 ∨ j = 6 ∨ j = 7 ∨ j = 8 ∨ j = 9 ∨ j = 10 ∨ j = 11 ∨ j = 12 ∨ j = 13 ∨ j = 14) with rfl | rfl | rfl | rfl | rfl | rfl | rfl | rfl | rfl | rfl | rfl | rfl | rfl | rfl | rfl <;> assumption
   rw [ug i xH] at xu; cases xu
  clear L jm
  match i,Z with
  | 0,Z | 1,Z | 6,Z =>
   obtain rfl:=ya Z
   clear G X
   rw [if_pos (by rfl)];unfold Oper.wp;go_simp
   exact ⟨upd f _ (I mb 0),by simp [upd],zu (U HD) (by decide) (by decide) (fun _ _ h=>h) (U uf) rfl⟩
  | 2,Z =>
   obtain rfl:=ya Z
   have g:f 1 = I mb 0:=X 1 (yd G 1 rfl)
   clear G X
   rw [if_pos (by rfl)];unfold Oper.wp;go_simp
   exact ⟨upd f 2 (I mb 0),by simp [upd,g],zu (U HD) (by decide) (by decide) (fun _ _ h=>h) (U uf) rfl⟩
  | 3,Z =>
   obtain rfl:=ya Z
   have g:f 2 = I mb 0:=X 2 (yd G 2 rfl)
   clear G X
   rw [if_pos (by rfl)];unfold Oper.wp;go_simp
   exact ⟨upd f 3 (I mb 0),by simp [upd,g],zu (U HD) (by decide) (by decide) (fun _ _ h=>h) (U uf) rfl⟩
  | 4,Z =>
   obtain rfl:=ya Z
   have g:f 3 = I mb 0:=X 3 (yd G 3 rfl)
   clear G X
   rw [if_pos (by rfl)];unfold Oper.wp;go_simp
   exact ⟨upd f 4 (I mb 1),by simp [upd,g],zu (U HD) (by decide) (by decide) (fun _ _ h=>h) (U uf) rfl⟩
  | 5,Z =>
   obtain rfl:=ya Z
   have g:f 4 = I mb 1:=X 4 (yd G 4 rfl)
   have qm:=pv (by omega) (by omega)
   have y1:=xk mb 1 _ (U vV) qm
   clear G X
   rw [if_pos (by rfl)];unfold Oper.wp;go_simp
   exact ⟨upd f 5 (vq),by simp [upd,g],zu (U HD) (by decide) (by decide) (fun _ _ h=>h) (U uf) rfl⟩
  | 7,Z =>
   obtain rfl:=ya Z
   have g:f 6 = I mb 0:=X 6 (yd G 6 rfl)
   clear G X
   rw [if_pos (by rfl)];unfold Oper.wp;go_simp
   exact ⟨upd f 7 (I mb 0),by simp [upd,g],zu (U HD) (by decide) (by decide) (fun _ _ h=>h) (U uf) rfl⟩
  | 8,Z =>
   obtain rfl:=ya Z
   have g:f 7 = I mb 0:=X 7 (yd G 7 rfl)
   clear G X
   rw [if_pos (by rfl)];unfold Oper.wp;go_simp
   exact ⟨upd f 8 (I mb 2),by simp [upd,g],zu (U HD) (by decide) (by decide) (fun _ _ h=>h) (U uf) rfl⟩
  | 9,Z =>
   obtain rfl:=ya Z
   have g:f 8 = I mb 2:=X 8 (yd G 8 rfl)
   have qm:=pv (by omega) (by omega)
   have y2:=xk mb 2 _ (U hM 2 _ rfl) qm
   have y3:=xk mb 3 _ (U hM 3 _ rfl) qm
   have y4:=xk mb 4 _ (U hM 4 _ rfl) qm
   have y5:=xk mb 5 _ (U hM 5 _ rfl) qm
   have y6:=xk mb 6 _ (U hM 6 _ rfl) qm
   have y7:=xk mb 7 _ (U hM 7 _ rfl) qm
   clear G X
   rw [if_pos (by rfl)];unfold Oper.wp;go_simp
   exact ⟨upd f 9 (.agg (yu t.id t.side t.ticks t.left t.life t.tag).toArray),by simp [upd,g],zu (U HD) (by decide) (by decide) (fun _ _ h=>h) (U uf) rfl⟩
  | 10,Z =>
   obtain rfl:=ya Z
   have g:f 9 = .agg (yu t.id t.side t.ticks t.left t.life t.tag).toArray:=X 9 (yd G 9 rfl)
   have qm:=pv (by omega) (by omega)
   have xR:=U uf qm
   clear G X
   rw [if_pos (by rfl)];unfold Oper.wp;go_simp
   refine ⟨upd f 10 (.slice (some (yp V 0)) 1 1),by simp [upd,g],zu (U HD) (by decide) (by decide) (dr_alloc qm) (fun _=>xR.alloc xR.size _) ⟨V.heap.size,rfl,fun _=>?_⟩⟩
   exact fun j u h=>aY V t.vs 49 j u h
  | 11,Z =>
   obtain rfl:=ya Z
   have g5:f 5 = vq:=X 5 (yd G 5 rfl)
   obtain ⟨s,qG,kQ⟩:=X 10 (yd G 10 rfl)
   have qm:¬ x[11]? = some true:=by rw [xu]; simp
   have n15:=n15' (by omega)
   have xR:=U uf qm
   have uQ:ORow V B vq l:=zk (U jG) xR
   rw [if_pos (by rfl)]
   refine wp_append_own V (.tmp 7) (.tmp 12) 26 rfl B 49 i0 _ 6 56 Tryz.underlying26 uz uA uF uR rfl (by decide) vq l.length (l.flatMap Od.vs) g5 uQ (J s 0) 1 1 t.vs qG rfl (kQ qm) (one_od t) (by unfold maxLen; omega) (by omega) (by have:=xR.size; omega) ?_
   intro v' w' xK uh _
   obtain ⟨ga,gc,rfl⟩:=cK xK (by omega)
   refine ⟨upd f 11 (.slice (some (J ga 0)) (l.length + 1) gc),rfl,rt_one (by decide) (U HD) xu n15 (fun j v R h=>dr_one j v R h) ⟨some (J ga 0),gc,rfl,trivial,fun _=>⟨?_,?_⟩,fun h=>h.elim⟩⟩
   ·show World.ownsRow _ _ _ _ _ (l ++ [t]).length _
    rw [yN,List.flatMap_append]; simpa using xK
   ·exact (pX xR qt).trans uh
  | 12,Z =>
   obtain rfl:=ya Z
   have g:f 0 = I mb 0:=X 0 (yd G 0 rfl)
   clear G X
   rw [if_pos (by rfl)];unfold Oper.wp;go_simp
   exact ⟨upd f 12 (I mb 0),by simp [upd,g],zu (U HD) (by decide) (by decide) (fun _ _ h=>h) (U uf) rfl⟩
  | 13,Z =>
   obtain rfl:=ya Z
   have g:f 12 = I mb 0:=X 12 (yd G 12 rfl)
   clear G X
   rw [if_pos (by rfl)];unfold Oper.wp;go_simp
   exact ⟨upd f 13 (I mb 0),by simp [upd,g],zu (U HD) (by decide) (by decide) (fun _ _ h=>h) (U uf) rfl⟩
  | 14,Z =>
   obtain rfl:=ya Z
   have g:f 13 = I mb 0:=X 13 (yd G 13 rfl)
   clear G X
   rw [if_pos (by rfl)];unfold Oper.wp;go_simp
   exact ⟨upd f 14 (I mb 1),by simp [upd,g],zu (U HD) (by decide) (by decide) (fun _ _ h=>h) (U uf) rfl⟩
  | 15,Z =>
   obtain rfl:=ya Z
   have jY:f 14 = I mb 1:=X 14 (yd G 14 rfl)
   have oz:x[11]? = some true:=G ⟨11,.data⟩ (by simp) rfl
   have n15:¬ x[15]? = some true:=by rw [xu]; simp
   obtain ⟨ga,gc,vB,-,hfa,-⟩:=X 11 oz
   obtain ⟨jL,uh⟩:=hfa n15
   have qJ:some mb ≠ vq.ownBlock:=qy
   have y1:=uh.cell (U vV) qJ
   have f1:V.frozen? (J mb 1) = false:=(World.frozen?_of_block (a:=(J mb 1)) (uh.block mb (by omega) qJ)).trans (U qC)
   have jA:=Y (vB ▸ jL)
   have oO:Hid (∃ xp,V.heap[mb]? = some (.cells xp 157 (0,0))):=by obtain ⟨xp,hc⟩:=U uv; exact ⟨xp,(uh.block mb (by omega) qJ).trans hc⟩
   have oD:=Y uh
   clear G X jL uh hfa
   rw [if_pos (by rfl)];unfold Oper.wp;go_simp
   refine ⟨upd f 15 M,by simp [upd,jY,vB],rt_two (by decide) (U HD) oz xu (fun j R hxj h=>dr_two j R h (fun hj11=>?_)) trivial⟩
   subst hj11
   obtain ⟨-,-,-,-,-,-⟩:=h
   refine ⟨ga,gc,vB,trivial,fun h=>absurd trivial h,fun _=>?_⟩
   rw [vB]
   refine ⟨yK _ _ _ y1,zr (U jA) (zj (U jA) (U oO) (by decide)) 1 _,?_⟩
   exact aU (aG (U oD) (by omega) qJ) (bO (o:=0) _ _)
  | i + 16,Z=>simp at Z
def fullB (l:List Od):Bool:=if 20 < l.length then true else decide (8 < ((pU true 1 (zw l 1)).length:Int) + (pU false 2 (zw l 2)).length)
def DF (mb:Nat) (BV:Value) (q1 q2:List Od) (h2:Int) (p:Prop) (W:World):Nat→Value→Prop
 | 0,v=>v = I mb 0
 | 1,v=>v = I mb 0
 | 2,v=>v = I mb 0
 | 3,v=>v = BV
 | 4,v=>∃ b,v = aS b∧Tb W b q1
 | 5,v=>v = I mb 0
 | 6,v=>v = I mb 0
 | 7,v=>v = I mb 0
 | 8,v=>v = BV
 | 9,v=>∃ b,v = aT b∧Ts W b q2
 | 10,v=>v = H h2
 | 11,v=>v = .bool (decide (8 < h2))
 | 12,v=>v = .bool (decide (8 < h2))
 | _,_=>True
theorem df_mono {mb:Nat} {BV:Value} {q1 q2:List Od} {h2:Int}:∀ p W W' j v,ym W W'→DF mb BV q1 q2 h2 p W j v→DF mb BV q1 q2 h2 p W' j v:=by
 intro p W W' j v F h
 match j with
 | 0 | 1 | 2 | 3 | 5 | 6 | 7 | 8 | 10 | 11 | 12=>exact h
 | 4=>obtain ⟨b,Q,N⟩:=h; exact ⟨b,Q,zE N (F.block _ (au N))⟩
 | 9=>obtain ⟨b,Q,N⟩:=h; exact ⟨b,Q,zE N (F.block _ (au N))⟩
 | n + 13=>trivial
theorem isTooFull_any (mb B:Nat) (next:Int) (vq:Value) (l:List Od) (t:Od) (vt:Value) (ts:List Ev) (w:World) (h:MatS mb B w next vq l t vt ts) (hm:l.length ≤ 1000) (hl:∀ o' ∈ l,0 ≤ o'.left∧o'.left ≤ 1000000) :
  Calls Tryz.prog 165 #[I mb 0] w fun e w'=>e = yl (.bool (fullB l))∧ym w w':=by
 have qr:=h.lt
 have pe:=h.le
 have HR:=Y (zK h.orow (by omega))
 obtain ⟨a,E,rfl,_,_⟩:=zK h.orow (by omega)
 have HM:=Y h.cells
 have z0:w.cell? (J mb 0) = some (H next):=h.cells 0 _ rfl
 have z1:w.cell? (J mb 1) = some (.slice a l.length E):=h.cells 1 _ rfl
 have HLB:=Y hl
 clear h hl
 go_enter Tryz.func165,Tryz.ntmps165
 by_cases h20:20 < l.length
 ·have h20':(20:Int) < l.length:=by omega
  have HF:Hid (fullB l = true):=if_pos h20
  clear h20
  go_wp2_with fail
  go_ret
  exact ⟨zy (U HF).symm,Below.refl _ _⟩
 have h20':¬ (20:Int) < l.length:=by omega
 have hn:l.length ≤ 20:=by omega
 have n1:(zw l 1).length ≤ 20:=yL (List.length_filter_le _ _) hn
 have n2:(zw l 2).length ≤ 20:=yL (List.length_filter_le _ _) hn
 generalize hN:((pU true 1 (zw l 1)).length:Int) + (pU false 2 (zw l 2)).length = h2
 have HF:Hid (fullB l = decide (8 < h2)):=by show _ = _; rw [fullB,if_neg h20,hN]
 have HNN:=Y hN
 clear hN h20
 go_wp2_with fail
 clear z0 z1
 refine zh (RG w (fun f=>{ tmps:=#[I mb 0,M,f 12,I mb 0,I mb 0,I mb 0,I mb 1,.slice a l.length E,H l.length,.bool false,f 0,f 1,f 2,f 3,f 4,f 5,f 6,f 7,f 8,f 9,f 10,f 11],defers:=[] }) 99 (DF mb (.agg #[H next,.slice a l.length E]) (zw l 1) (zw l 2) h2)) (by kernel_rfl) ?_ ?_ ?_
 ·exact ⟨fun j=>if j = 12 then .bool false else M,rfl,⟨rfl,rfl,rfl,Nat.le_refl _,fun _ _=>rfl⟩,fun j R=>by rw [yG] at R; split at R <;> simp at R⟩
 ·rintro x hR V ⟨f,rfl,xh,X⟩ hx xM
  have xn:=zS xM hx (acyc _ (by kernel_rfl))
  have e12:f 12 = .bool (decide (8 < h2)):=X 12 (xn 12 (by simp))
  have xr:=Y xh
  simp only [e12]
  clear X xn e12 xM hx xh
  go_wp2_with fail
  go_ret
  exact ⟨zy (U HF).symm,U xr⟩
 ·rintro x hR V i o ⟨f,rfl,xh,X⟩ L hx Z xu G
  clear L
  have xr:=Y xh
  have HD:=Y X
  have z0:=zb (U HM) xh qr 0 _ rfl
  have z1:=zb (U HM) xh qr 1 _ rfl
  rw [Nat.zero_add] at z0 z1
  have qX:=Y (zl (U HR) xh qt)
  match i,Z with
  | 0,Z | 5,Z =>
   obtain rfl:=ya Z
   clear G X xh
   rw [if_pos (by rfl)];unfold Oper.wp;go_simp
   exact ⟨upd f _ (I mb 0),by simp [upd],zd (U xr) (U HD) (by decide) rfl⟩
  | 1,Z =>
   obtain rfl:=ya Z
   have g:f 0 = I mb 0:=X 0 (yd G 0 rfl)
   clear G X xh
   rw [if_pos (by rfl)];unfold Oper.wp;go_simp
   exact ⟨upd f 1 (I mb 0),by simp [upd,g],zd (U xr) (U HD) (by decide) rfl⟩
  | 2,Z =>
   obtain rfl:=ya Z
   have g:f 1 = I mb 0:=X 1 (yd G 1 rfl)
   clear G X xh
   rw [if_pos (by rfl)];unfold Oper.wp;go_simp
   exact ⟨upd f 2 (I mb 0),by simp [upd,g],zd (U xr) (U HD) (by decide) rfl⟩
  | 3,Z =>
   obtain rfl:=ya Z
   have g:f 2 = I mb 0:=X 2 (yd G 2 rfl)
   clear G X xh
   rw [if_pos (by rfl)];unfold Oper.wp;go_simp
   exact ⟨upd f 3 (.agg #[H next,.slice a l.length E]),by simp [upd,g],zd (U xr) (U HD) (by decide) rfl⟩
  | 4,Z =>
   obtain rfl:=ya Z
   have g:f 3 = .agg #[H next,.slice a l.length E]:=X 3 (yd G 3 rfl)
   clear G X xh
   rw [if_pos (by rfl)];unfold Oper.wp;go_simp
   refine (sideOf_buy next _ l V (U qX) hn (U HLB)).mono ?_
   rintro e w4 ⟨b,rfl,ht,jo,xz⟩
   exact ⟨upd f 4 (aS b),by simp [upd,g],bR df_mono (U xr) (U HD) xz (by decide) ⟨b,rfl,ht⟩⟩
  | 6,Z =>
   obtain rfl:=ya Z
   have g:f 5 = I mb 0:=X 5 (yd G 5 rfl)
   clear G X xh
   rw [if_pos (by rfl)];unfold Oper.wp;go_simp
   exact ⟨upd f 6 (I mb 0),by simp [upd,g],zd (U xr) (U HD) (by decide) rfl⟩
  | 7,Z =>
   obtain rfl:=ya Z
   have g:f 6 = I mb 0:=X 6 (yd G 6 rfl)
   clear G X xh
   rw [if_pos (by rfl)];unfold Oper.wp;go_simp
   exact ⟨upd f 7 (I mb 0),by simp [upd,g],zd (U xr) (U HD) (by decide) rfl⟩
  | 8,Z =>
   obtain rfl:=ya Z
   have g:f 7 = I mb 0:=X 7 (yd G 7 rfl)
   clear G X xh
   rw [if_pos (by rfl)];unfold Oper.wp;go_simp
   exact ⟨upd f 8 (.agg #[H next,.slice a l.length E]),by simp [upd,g],zd (U xr) (U HD) (by decide) rfl⟩
  | 9,Z =>
   obtain rfl:=ya Z
   have g:f 8 = .agg #[H next,.slice a l.length E]:=X 8 (yd G 8 rfl)
   clear G X xh
   rw [if_pos (by rfl)];unfold Oper.wp;go_simp
   refine (sideOf_sell next 2 (by omega) _ l V (U qX) hn (U HLB)).mono ?_
   rintro e w4 ⟨b,rfl,ht,jo,xz⟩
   exact ⟨upd f 9 (aT b),by simp [upd,g],bR df_mono (U xr) (U HD) xz (by decide) ⟨b,rfl,ht⟩⟩
  | 10,Z =>
   obtain rfl:=ya Z
   obtain ⟨b1,g4,t4⟩:=X 4 (yd G 4 rfl)
   obtain ⟨b2,g9,t9⟩:=X 9 (yd G 9 rfl)
   have pF:=Y t4
   have HT9:=Y t9
   clear G X xh t4 t9
   rw [if_pos (by rfl)];unfold Oper.wp;go_simp
   refine (countLevels_any b1 b2 1 2 (zw l 1) (zw l 2) V (U pF) (U HT9) n1 n2).mono ?_
   rw [U HNN]
   rintro e w4 ⟨rfl,xz⟩
   exact ⟨upd f 10 (H h2),by simp [upd,g4,g9],bR df_mono (U xr) (U HD) xz (by decide) rfl⟩
  | 11,Z =>
   obtain rfl:=ya Z
   have g:f 10 = H h2:=X 10 (yd G 10 rfl)
   clear G X xh
   rw [if_pos (by rfl)];unfold Oper.wp;go_simp
   exact ⟨upd f 11 (.bool (decide (8 < h2))),by simp [upd,g],zd (U xr) (U HD) (by decide) rfl⟩
  | 12,Z =>
   obtain rfl:=ya Z
   have g:f 11 = .bool (decide (8 < h2)):=X 11 (yd G 11 rfl)
   clear G X xh
   rw [if_pos (by rfl)];unfold Oper.wp;go_simp
   exact ⟨upd f 12 (.bool (decide (8 < h2))),by simp [upd,g],zd (U xr) (U HD) (by decide) rfl⟩
  | n + 13,Z=>simp at Z
end Go.Proofs.YtbakanofkghmiaaGreat
