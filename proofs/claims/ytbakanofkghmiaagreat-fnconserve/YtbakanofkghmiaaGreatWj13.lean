/-
  What is left of the taker laid behind the others, by the program: proved by walking the method.
-/
import Derived.Test.YtbakanofkghmiaaGreatWj12
set_option linter.unusedVariables false
set_option maxHeartbeats 6400000
set_option maxRecDepth 100000
namespace Go.Proofs.YtbakanofkghmiaaGreat
open Go.RowKit
theorem one_od (o:Od):∀ u ∈ o.vs,u.oneCell' = true:=by
 intro u hu
 simp [Od.vs] at hu
 rcases hu with rfl | rfl | rfl | rfl | rfl | rfl <;> rfl
def DR (mb B:Nat) (W0:World) (vq:Value) (l:List Od) (t:Od) (p q:Prop) (V:World):Nat→Value→Prop
 | 0,v=>v = I mb 0
 | 1,v=>v = I mb 0
 | 2,v=>v = I mb 0
 | 3,v=>v = I mb 0
 | 4,v=>v = I mb 1
 | 5,v=>v = vq
 | 6,v=>v = I mb 0
 | 7,v=>v = I mb 0
 | 8,v=>v = I mb 2
 | 9,v=>v = .agg (yv t.id t.side t.ticks t.left t.life t.tag).toArray
 | 10,v=>∃ s,v = .slice (some (J s 0)) 1 1∧(¬ p→∀ j u,t.vs[j]? = some u→V.cell? (((J s 0):Addr).add j) = some u)
 | 11,v=>∃ a c,v = .slice a (l.length + 1) c∧p∧(¬ q→ORow V B v (l ++ [t])∧W0.grownBy V vq.ownBlock)∧(q→V.cell? (J mb 1) = some v∧ORow V B v (l ++ [t])∧TookAt mb 0 vq.ownBlock W0 V)
 | 12,v=>v = I mb 0
 | 13,v=>v = I mb 0
 | 14,v=>v = I mb 1
 | _,_=>True
section
variable {mb B:Nat} {W0 V V':World} {vq:Value} {l:List Od} {t:Od} {p q:Prop}
theorem dr_alloc {o:Obj} (hp:¬ p):∀ j v,DR mb B W0 vq l t p q V j v→DR mb B W0 vq l t p q (V.alloc o) j v:=by
 intro j v h
 match j with
 | 0 | 1 | 2 | 3 | 4 | 5 | 6 | 7 | 8 | 9 | 12 | 13 | 14=>exact h
 | 10 =>
  obtain ⟨s,G,E⟩:=h
  exact ⟨s,G,fun hp j u hu=>(yV _ _ _ (yK V _ (E hp j u hu))).trans (E hp j u hu)⟩
 | 11=>obtain ⟨_,_,_,E,_⟩:=h; exact absurd E hp
 | j + 15=>trivial
theorem dr_one:∀ j v,j ≠ 11→DR mb B W0 vq l t False False V j v→DR mb B W0 vq l t True False V' j v:=by
 intro j v K h
 match j with
 | 0 | 1 | 2 | 3 | 4 | 5 | 6 | 7 | 8 | 9 | 12 | 13 | 14=>exact h
 | 10 =>
  obtain ⟨s,G,E⟩:=h
  exact ⟨s,G,fun hp=>absurd trivial hp⟩
 | 11=>exact absurd rfl K
 | j + 15=>trivial
theorem dr_two {v:Value}:∀ j,j ≠ 15→DR mb B W0 vq l t True False V j v→(j = 11→DR mb B W0 vq l t True True V' 11 v)→DR mb B W0 vq l t True True V' j v:=by
 intro j K h uX
 match j with
 | 0 | 1 | 2 | 3 | 4 | 5 | 6 | 7 | 8 | 9 | 12 | 13 | 14=>exact h
 | 10 =>
  obtain ⟨s,G,E⟩:=h
  exact ⟨s,G,fun hp=>absurd trivial hp⟩
 | 11=>exact uX rfl
 | j + 15=>trivial
end
theorem matS_took {mb B:Nat} {W w':World} {next:Int} {vq vw:Value} {l l':List Od} {t:Od} {vt:Value} {ts:List Ev} (h:MatS mb B W next vq l t vt ts) (ht:TookAt mb 0 vq.ownBlock W w') (hc:w'.cell? (J mb 1) = some vw) (Z:ORow w' B vw l'):MatS mb B w' next vw l' t vt ts:=by
 have xq:∀ j,j ≠ 1→w'.cell? (J mb j) = W.cell? (J mb j):=fun j G=>ht.cell j (by omega)
 refine ⟨?_,fun j K=>⟨?_,?_⟩,Z,br h.erow ht h.nt (zD h.erow h.orow (by decide)),by obtain ⟨xr,hc⟩:=h.box; exact ht.kind _ _ _ hc,yN h.le ht.size⟩
 ·intro j u K
  by_cases G:j = 1
  ·subst G; cases K; exact hc
  ·rw [Nat.zero_add,xq j G]
   have:W.cell? (J mb (0 + j)) = some u:=h.cells j u (by
    rcases j with _ | _ | j
    ·exact K
    ·exact absurd rfl G
    ·exact K)
   rwa [Nat.zero_add] at this
 ·by_cases G:j = 1
  ·subst G; rw [Nat.zero_add,hc]; rfl
  ·rw [Nat.zero_add,xq j G]; have:=(h.there j K).1; rwa [Nat.zero_add] at this
 ·rw [Nat.zero_add,ht.frozen]; have:=(h.there j K).2; rwa [Nat.zero_add] at this
theorem rest_any (mb B:Nat) (next:Int) (vq:Value) (l:List Od) (t:Od) (vt:Value) (ts:List Ev) (w:World) (h:MatS mb B w next vq l t vt ts) (hn:l.length ≤ 1000) :
  Calls Tryz.prog 115 #[I mb 0] w fun e w'=>∃ vw,e = ym (.tuple #[])∧MatS mb B w' next vw (l ++ [t]) t vt ts∧KeptBut mb B w w':=by
 have HM:=Y h
 have qG:=h.lt
 have pM:=h.le
 have qL:=h.nq
 have ux:=Y h.box
 have jS:=Y h.orow
 have hM:=Y h.cells
 have qa:Hid (w.cell? (J mb 1) = some vq):=U hM 1 _ rfl
 have qP:Hid (w.frozen? (J mb 1) = false):=by have:=(h.there 1 (by omega)).2; rwa [Nat.zero_add] at this
 clear h
 obtain ⟨i0,uH,uF,uJ,uQ⟩:=info_parts Tryz.infoOrder
 go_enter Tryz.func115,Tryz.ntmps115
 go_wp2_with fail
 refine zj (RT (fun V=>yn w V) (fun f=>{ tmps:=#[I mb 0,M,f 0,f 1,f 2,f 3,f 4,f 5,f 6,f 7,f 8,f 9,f 10,f 11,f 12,f 13,f 14],defers:=[] }) 11 15 (DR mb B w vq l t)) (by kernel_rfl) ?_ ?_ ?_
 ·exact ⟨fun _=>M,rfl,fun _=>⟨rfl,rfl,rfl,Nat.le_refl _,fun _ _=>rfl⟩,fun j K=>by rw [yI] at K; split at K <;> simp at K⟩
 ·rintro x xm V ⟨f,rfl,-,hD⟩ hx xP
  have xp:=zV xP hx (acyc _ (by kernel_rfl))
  have pf:x[11]? = some true:=xp 11 (by simp)
  have k15:x[15]? = some true:=xp 15 (by simp)
  obtain ⟨va,vc,-,-,-,vk⟩:=hD 11 pf
  obtain ⟨q1,q2,q3⟩:=vk k15
  have vv:Hid (_∧_∧_):=⟨q1,q2,q3⟩
  clear hD xp xP hx pf k15 vk q1 q2 q3
  dsimp only
  go_wp2_with fail
  go_end0
  exact ⟨_,rfl,matS_took (U HM) (U vv).2.2 (U vv).1 (U vv).2.1,cT (U vv).2.2 pM (fun g hg=>((U jS).lt g hg).1)⟩
 ·rintro x xm V i op ⟨f,rfl,jB,hD⟩ xo hx Z xy Q
  have ui:=Y jB
  have HD:=Y hD
  have xn:∀ b o u,w.cell? (J b o) = some u→¬ x[11]? = some true→V.cell? (J b o) = some u:=fun b o u hu hn11=>((U ui hn11).cell (p:=(J b o)) (yK w _ hu)).trans hu
  have ah:i < 11→0 < i→¬ x[11]? = some true:=fun xJ qu uX=>by
   have h5:=yf xo 11 rfl uX 5 rfl
   have vQ:=yf xo 11 rfl uX 10 rfl
   have h4:=yf xo 5 rfl h5 4 rfl
   have h9:=yf xo 10 rfl vQ 9 rfl
   have h3:=yf xo 4 rfl h4 3 rfl
   have h8:=yf xo 9 rfl h9 8 rfl
   have E:=yf xo 3 rfl h3 2 rfl
   have h7:=yf xo 8 rfl h8 7 rfl
   have G:=yf xo 2 rfl E 1 rfl
   have h6:=yf xo 7 rfl h7 6 rfl
   have uj:∀ j,0 < j→j < 11→x[j]? = some true:=fun j jj K=>by
    rcases (by omega:j = 1 ∨ j = 2 ∨ j = 3 ∨ j = 4 ∨ j = 5 ∨ j = 6 ∨ j = 7 ∨ j = 8 ∨ j = 9 ∨ j = 10) with rfl | rfl | rfl | rfl | rfl | rfl | rfl | rfl | rfl | rfl <;> assumption
   rw [uj i qu xJ] at xy; cases xy
  have n15':i < 15→¬ x[15]? = some true:=fun xJ vx=>by
   have jo:=yf xo 15 rfl vx 14 rfl
   have uX:=yf xo 15 rfl vx 11 rfl
   have jy:=yf xo 14 rfl jo 13 rfl
   have h5:=yf xo 11 rfl uX 5 rfl
   have vQ:=yf xo 11 rfl uX 10 rfl
   have qF:=yf xo 13 rfl jy 12 rfl
   have h4:=yf xo 5 rfl h5 4 rfl
   have h9:=yf xo 10 rfl vQ 9 rfl
   have h0:=yf xo 12 rfl qF 0 rfl
   have h3:=yf xo 4 rfl h4 3 rfl
   have h8:=yf xo 9 rfl h9 8 rfl
   have E:=yf xo 3 rfl h3 2 rfl
   have h7:=yf xo 8 rfl h8 7 rfl
   have G:=yf xo 2 rfl E 1 rfl
   have h6:=yf xo 7 rfl h7 6 rfl
   have uj:∀ j,j < 15→x[j]? = some true:=fun j K=>by
    rcases (by omega:j = 0 ∨ j = 1 ∨ j = 2 ∨ j = 3 ∨ j = 4 ∨ j = 5 ∨ j = 6 ∨ j = 7 ∨ j = 8 ∨ j = 9 ∨ j = 10 ∨ j = 11 ∨ j = 12 ∨ j = 13 ∨ j = 14) with rfl | rfl | rfl | rfl | rfl | rfl | rfl | rfl | rfl | rfl | rfl | rfl | rfl | rfl | rfl <;> assumption
   rw [uj i xJ] at xy; cases xy
  clear xo jB
  match i,Z with
  | 0,Z | 1,Z | 6,Z =>
   obtain rfl:=ya Z
   clear Q hD
   rw [if_pos (by rfl)];unfold Oper.wp;go_simp
   exact ⟨upd f _ (I mb 0),by simp [upd],zw (U HD) (by decide) (by decide) (fun _ _ h=>h) (U ui) rfl⟩
  | 2,Z =>
   obtain rfl:=ya Z
   have g:f 1 = I mb 0:=hD 1 (ye Q 1 rfl)
   clear Q hD
   rw [if_pos (by rfl)];unfold Oper.wp;go_simp
   exact ⟨upd f 2 (I mb 0),by simp [upd,g],zw (U HD) (by decide) (by decide) (fun _ _ h=>h) (U ui) rfl⟩
  | 3,Z =>
   obtain rfl:=ya Z
   have g:f 2 = I mb 0:=hD 2 (ye Q 2 rfl)
   clear Q hD
   rw [if_pos (by rfl)];unfold Oper.wp;go_simp
   exact ⟨upd f 3 (I mb 0),by simp [upd,g],zw (U HD) (by decide) (by decide) (fun _ _ h=>h) (U ui) rfl⟩
  | 4,Z =>
   obtain rfl:=ya Z
   have g:f 3 = I mb 0:=hD 3 (ye Q 3 rfl)
   clear Q hD
   rw [if_pos (by rfl)];unfold Oper.wp;go_simp
   exact ⟨upd f 4 (I mb 1),by simp [upd,g],zw (U HD) (by decide) (by decide) (fun _ _ h=>h) (U ui) rfl⟩
  | 5,Z =>
   obtain rfl:=ya Z
   have g:f 4 = I mb 1:=hD 4 (ye Q 4 rfl)
   have qB:=ah (by omega) (by omega)
   have y1:=xn mb 1 _ (U qa) qB
   clear Q hD
   rw [if_pos (by rfl)];unfold Oper.wp;go_simp
   exact ⟨upd f 5 (vq),by simp [upd,g],zw (U HD) (by decide) (by decide) (fun _ _ h=>h) (U ui) rfl⟩
  | 7,Z =>
   obtain rfl:=ya Z
   have g:f 6 = I mb 0:=hD 6 (ye Q 6 rfl)
   clear Q hD
   rw [if_pos (by rfl)];unfold Oper.wp;go_simp
   exact ⟨upd f 7 (I mb 0),by simp [upd,g],zw (U HD) (by decide) (by decide) (fun _ _ h=>h) (U ui) rfl⟩
  | 8,Z =>
   obtain rfl:=ya Z
   have g:f 7 = I mb 0:=hD 7 (ye Q 7 rfl)
   clear Q hD
   rw [if_pos (by rfl)];unfold Oper.wp;go_simp
   exact ⟨upd f 8 (I mb 2),by simp [upd,g],zw (U HD) (by decide) (by decide) (fun _ _ h=>h) (U ui) rfl⟩
  | 9,Z =>
   obtain rfl:=ya Z
   have g:f 8 = I mb 2:=hD 8 (ye Q 8 rfl)
   have qB:=ah (by omega) (by omega)
   have y2:=xn mb 2 _ (U hM 2 _ rfl) qB
   have y3:=xn mb 3 _ (U hM 3 _ rfl) qB
   have y4:=xn mb 4 _ (U hM 4 _ rfl) qB
   have y5:=xn mb 5 _ (U hM 5 _ rfl) qB
   have y6:=xn mb 6 _ (U hM 6 _ rfl) qB
   have y7:=xn mb 7 _ (U hM 7 _ rfl) qB
   clear Q hD
   rw [if_pos (by rfl)];unfold Oper.wp;go_simp
   exact ⟨upd f 9 (.agg (yv t.id t.side t.ticks t.left t.life t.tag).toArray),by simp [upd,g],zw (U HD) (by decide) (by decide) (fun _ _ h=>h) (U ui) rfl⟩
  | 10,Z =>
   obtain rfl:=ya Z
   have g:f 9 = .agg (yv t.id t.side t.ticks t.left t.life t.tag).toArray:=hD 9 (ye Q 9 rfl)
   have qB:=ah (by omega) (by omega)
   have xT:=U ui qB
   clear Q hD
   rw [if_pos (by rfl)];unfold Oper.wp;go_simp
   refine ⟨upd f 10 (.slice (some (yq V 0)) 1 1),by simp [upd,g],zw (U HD) (by decide) (by decide) (dr_alloc qB) (fun _=>xT.alloc xT.size _) ⟨V.heap.size,rfl,fun _=>?_⟩⟩
   exact fun j u h=>cE V t.vs 49 j u h
  | 11,Z =>
   obtain rfl:=ya Z
   have g5:f 5 = vq:=hD 5 (ye Q 5 rfl)
   obtain ⟨s,qR,ol⟩:=hD 10 (ye Q 10 rfl)
   have qB:¬ x[11]? = some true:=by rw [xy]; simp
   have n15:=n15' (by omega)
   have xT:=U ui qB
   have uU:ORow V B vq l:=zm (U jS) xT
   rw [if_pos (by rfl)]
   refine wp_append_own V (.tmp 7) (.tmp 12) 26 rfl B 49 i0 _ 6 56 Tryz.underlying26 uH uF uJ uQ rfl (by decide) vq l.length (l.flatMap Od.vs) g5 uU (J s 0) 1 1 t.vs qR rfl (ol qB) (one_od t) (by unfold maxLen; omega) (by omega) (by have:=xT.size; omega) ?_
   intro v' w' xN uk _
   obtain ⟨ga,gc,rfl⟩:=dQ xN (by omega)
   refine ⟨upd f 11 (.slice (some (J ga 0)) (l.length + 1) gc),rfl,rt_one (by decide) (U HD) xy n15 (fun j v K h=>dr_one j v K h) ⟨some (J ga 0),gc,rfl,trivial,fun _=>⟨?_,?_⟩,fun h=>h.elim⟩⟩
   ·show World.ownsRow _ _ _ _ _ (l ++ [t]).length _
    rw [yP,List.flatMap_append]; simpa using xN
   ·exact (ba xT qt).trans uk
  | 12,Z =>
   obtain rfl:=ya Z
   have g:f 0 = I mb 0:=hD 0 (ye Q 0 rfl)
   clear Q hD
   rw [if_pos (by rfl)];unfold Oper.wp;go_simp
   exact ⟨upd f 12 (I mb 0),by simp [upd,g],zw (U HD) (by decide) (by decide) (fun _ _ h=>h) (U ui) rfl⟩
  | 13,Z =>
   obtain rfl:=ya Z
   have g:f 12 = I mb 0:=hD 12 (ye Q 12 rfl)
   clear Q hD
   rw [if_pos (by rfl)];unfold Oper.wp;go_simp
   exact ⟨upd f 13 (I mb 0),by simp [upd,g],zw (U HD) (by decide) (by decide) (fun _ _ h=>h) (U ui) rfl⟩
  | 14,Z =>
   obtain rfl:=ya Z
   have g:f 13 = I mb 0:=hD 13 (ye Q 13 rfl)
   clear Q hD
   rw [if_pos (by rfl)];unfold Oper.wp;go_simp
   exact ⟨upd f 14 (I mb 1),by simp [upd,g],zw (U HD) (by decide) (by decide) (fun _ _ h=>h) (U ui) rfl⟩
  | 15,Z =>
   obtain rfl:=ya Z
   have kw:f 14 = I mb 1:=hD 14 (ye Q 14 rfl)
   have pf:x[11]? = some true:=Q ⟨11,.data⟩ (by simp) rfl
   have n15:¬ x[15]? = some true:=by rw [xy]; simp
   obtain ⟨ga,gc,vF,-,hfa,-⟩:=hD 11 pf
   obtain ⟨jV,uk⟩:=hfa n15
   have qW:some mb ≠ vq.ownBlock:=qL
   have y1:=uk.cell (U qa) qW
   have f1:V.frozen? (J mb 1) = false:=(World.frozen?_of_block (a:=(J mb 1)) (uk.block mb (by omega) qW)).trans (U qP)
   have jM:=Y (vF ▸ jV)
   have pA:Hid (∃ xr,V.heap[mb]? = some (.cells xr 157 (0,0))):=by obtain ⟨xr,hc⟩:=U ux; exact ⟨xr,(uk.block mb (by omega) qW).trans hc⟩
   have ph:=Y uk
   clear Q hD jV uk hfa
   rw [if_pos (by rfl)];unfold Oper.wp;go_simp
   refine ⟨upd f 15 M,by simp [upd,kw,vF],rt_two (by decide) (U HD) pf xy (fun j K hxj h=>dr_two j K h (fun hj11=>?_)) trivial⟩
   subst hj11
   obtain ⟨-,-,-,-,-,-⟩:=h
   refine ⟨ga,gc,vF,trivial,fun h=>absurd trivial h,fun _=>?_⟩
   rw [vF]
   refine ⟨yM _ _ _ y1,zu (U jM) (zl (U jM) (U pA) (by decide)) 1 _,?_⟩
   exact cy (bL (U ph) (by omega) qW) (dj (o:=0) _ _)
  | i + 16,Z=>simp at Z
def bp (l:List Od):Bool:=if 20 < l.length then true else decide (8 < ((aW true 1 (zx l 1)).length:Int) + (aW false 2 (zx l 2)).length)
def DF (mb:Nat) (BV:Value) (q1 q2:List Od) (N:Int) (p:Prop) (W:World):Nat→Value→Prop
 | 0,v=>v = I mb 0
 | 1,v=>v = I mb 0
 | 2,v=>v = I mb 0
 | 3,v=>v = BV
 | 4,v=>∃ b,v = ch b∧Tb W b q1
 | 5,v=>v = I mb 0
 | 6,v=>v = I mb 0
 | 7,v=>v = I mb 0
 | 8,v=>v = BV
 | 9,v=>∃ b,v = cj b∧Ts W b q2
 | 10,v=>v = H N
 | 11,v=>v = .bool (decide (8 < N))
 | 12,v=>v = .bool (decide (8 < N))
 | _,_=>True
theorem df_mono {mb:Nat} {BV:Value} {q1 q2:List Od} {N:Int}:∀ p W W' j v,yn W W'→DF mb BV q1 q2 N p W j v→DF mb BV q1 q2 N p W' j v:=by
 intro p W W' j v F h
 match j with
 | 0 | 1 | 2 | 3 | 5 | 6 | 7 | 8 | 10 | 11 | 12=>exact h
 | 4=>obtain ⟨b,G,E⟩:=h; exact ⟨b,G,zG E (F.block _ (bz E))⟩
 | 9=>obtain ⟨b,G,E⟩:=h; exact ⟨b,G,zG E (F.block _ (bz E))⟩
 | n + 13=>trivial
theorem isTooFull_any (mb B:Nat) (next:Int) (vq:Value) (l:List Od) (t:Od) (vt:Value) (ts:List Ev) (w:World) (h:MatS mb B w next vq l t vt ts) (hm:l.length ≤ 1000) (hl:∀ o' ∈ l,0 ≤ o'.left∧o'.left ≤ 1000000) :
  Calls Tryz.prog 165 #[I mb 0] w fun e w'=>e = ym (.bool (bp l))∧yn w w':=by
 have qG:=h.lt
 have pM:=h.le
 have HR:=Y (zN h.orow (by omega))
 obtain ⟨a,A,rfl,_,_⟩:=zN h.orow (by omega)
 have HM:=Y h.cells
 have z0:w.cell? (J mb 0) = some (H next):=h.cells 0 _ rfl
 have z1:w.cell? (J mb 1) = some (.slice a l.length A):=h.cells 1 _ rfl
 have HLB:=Y hl
 clear h hl
 go_enter Tryz.func165,Tryz.ntmps165
 by_cases h20:20 < l.length
 ·have h20':(20:Int) < l.length:=by omega
  have HF:Hid (bp l = true):=if_pos h20
  clear h20
  go_wp2_with fail
  go_ret
  exact ⟨zB (U HF).symm,Below.refl _ _⟩
 have h20':¬ (20:Int) < l.length:=by omega
 have hn:l.length ≤ 20:=by omega
 have n1:(zx l 1).length ≤ 20:=yN (List.length_filter_le _ _) hn
 have n2:(zx l 2).length ≤ 20:=yN (List.length_filter_le _ _) hn
 generalize hN:((aW true 1 (zx l 1)).length:Int) + (aW false 2 (zx l 2)).length = N
 have HF:Hid (bp l = decide (8 < N)):=by show _ = _; rw [bp,if_neg h20,hN]
 have HNN:=Y hN
 clear hN h20
 go_wp2_with fail
 clear z0 z1
 refine zj (RG w (fun f=>{ tmps:=#[I mb 0,M,f 12,I mb 0,I mb 0,I mb 0,I mb 1,.slice a l.length A,H l.length,.bool false,f 0,f 1,f 2,f 3,f 4,f 5,f 6,f 7,f 8,f 9,f 10,f 11],defers:=[] }) 99 (DF mb (.agg #[H next,.slice a l.length A]) (zx l 1) (zx l 2) N)) (by kernel_rfl) ?_ ?_ ?_
 ·exact ⟨fun j=>if j = 12 then .bool false else M,rfl,⟨rfl,rfl,rfl,Nat.le_refl _,fun _ _=>rfl⟩,fun j K=>by rw [yI] at K; split at K <;> simp at K⟩
 ·rintro x xm V ⟨f,rfl,xk,hD⟩ hx xP
  have xp:=zV xP hx (acyc _ (by kernel_rfl))
  have e12:f 12 = .bool (decide (8 < N)):=hD 12 (xp 12 (by simp))
  have xv:=Y xk
  simp only [e12]
  clear hD xp e12 xP hx xk
  go_wp2_with fail
  go_ret
  exact ⟨zB (U HF).symm,U xv⟩
 ·rintro x xm V i o ⟨f,rfl,xk,hD⟩ xo hx Z xy Q
  clear xo
  have xv:=Y xk
  have HD:=Y hD
  have z0:=zb (U HM) xk qG 0 _ rfl
  have z1:=zb (U HM) xk qG 1 _ rfl
  rw [Nat.zero_add] at z0 z1
  have jl:=Y (zn (U HR) xk qt)
  match i,Z with
  | 0,Z | 5,Z =>
   obtain rfl:=ya Z
   clear Q hD xk
   rw [if_pos (by rfl)];unfold Oper.wp;go_simp
   exact ⟨upd f _ (I mb 0),by simp [upd],zf (U xv) (U HD) (by decide) rfl⟩
  | 1,Z =>
   obtain rfl:=ya Z
   have g:f 0 = I mb 0:=hD 0 (ye Q 0 rfl)
   clear Q hD xk
   rw [if_pos (by rfl)];unfold Oper.wp;go_simp
   exact ⟨upd f 1 (I mb 0),by simp [upd,g],zf (U xv) (U HD) (by decide) rfl⟩
  | 2,Z =>
   obtain rfl:=ya Z
   have g:f 1 = I mb 0:=hD 1 (ye Q 1 rfl)
   clear Q hD xk
   rw [if_pos (by rfl)];unfold Oper.wp;go_simp
   exact ⟨upd f 2 (I mb 0),by simp [upd,g],zf (U xv) (U HD) (by decide) rfl⟩
  | 3,Z =>
   obtain rfl:=ya Z
   have g:f 2 = I mb 0:=hD 2 (ye Q 2 rfl)
   clear Q hD xk
   rw [if_pos (by rfl)];unfold Oper.wp;go_simp
   exact ⟨upd f 3 (.agg #[H next,.slice a l.length A]),by simp [upd,g],zf (U xv) (U HD) (by decide) rfl⟩
  | 4,Z =>
   obtain rfl:=ya Z
   have g:f 3 = .agg #[H next,.slice a l.length A]:=hD 3 (ye Q 3 rfl)
   clear Q hD xk
   rw [if_pos (by rfl)];unfold Oper.wp;go_simp
   refine (sideOf_buy next _ l V (U jl) hn (U HLB)).mono ?_
   rintro e w4 ⟨b,rfl,ht,kl,xC⟩
   exact ⟨upd f 4 (ch b),by simp [upd,g],dl df_mono (U xv) (U HD) xC (by decide) ⟨b,rfl,ht⟩⟩
  | 6,Z =>
   obtain rfl:=ya Z
   have g:f 5 = I mb 0:=hD 5 (ye Q 5 rfl)
   clear Q hD xk
   rw [if_pos (by rfl)];unfold Oper.wp;go_simp
   exact ⟨upd f 6 (I mb 0),by simp [upd,g],zf (U xv) (U HD) (by decide) rfl⟩
  | 7,Z =>
   obtain rfl:=ya Z
   have g:f 6 = I mb 0:=hD 6 (ye Q 6 rfl)
   clear Q hD xk
   rw [if_pos (by rfl)];unfold Oper.wp;go_simp
   exact ⟨upd f 7 (I mb 0),by simp [upd,g],zf (U xv) (U HD) (by decide) rfl⟩
  | 8,Z =>
   obtain rfl:=ya Z
   have g:f 7 = I mb 0:=hD 7 (ye Q 7 rfl)
   clear Q hD xk
   rw [if_pos (by rfl)];unfold Oper.wp;go_simp
   exact ⟨upd f 8 (.agg #[H next,.slice a l.length A]),by simp [upd,g],zf (U xv) (U HD) (by decide) rfl⟩
  | 9,Z =>
   obtain rfl:=ya Z
   have g:f 8 = .agg #[H next,.slice a l.length A]:=hD 8 (ye Q 8 rfl)
   clear Q hD xk
   rw [if_pos (by rfl)];unfold Oper.wp;go_simp
   refine (sideOf_sell next 2 (by omega) _ l V (U jl) hn (U HLB)).mono ?_
   rintro e w4 ⟨b,rfl,ht,kl,xC⟩
   exact ⟨upd f 9 (cj b),by simp [upd,g],dl df_mono (U xv) (U HD) xC (by decide) ⟨b,rfl,ht⟩⟩
  | 10,Z =>
   obtain rfl:=ya Z
   obtain ⟨b1,g4,t4⟩:=hD 4 (ye Q 4 rfl)
   obtain ⟨b2,g9,t9⟩:=hD 9 (ye Q 9 rfl)
   have aC:=Y t4
   have HT9:=Y t9
   clear Q hD xk t4 t9
   rw [if_pos (by rfl)];unfold Oper.wp;go_simp
   refine (countLevels_any b1 b2 1 2 (zx l 1) (zx l 2) V (U aC) (U HT9) n1 n2).mono ?_
   rw [U HNN]
   rintro e w4 ⟨rfl,xC⟩
   exact ⟨upd f 10 (H N),by simp [upd,g4,g9],dl df_mono (U xv) (U HD) xC (by decide) rfl⟩
  | 11,Z =>
   obtain rfl:=ya Z
   have g:f 10 = H N:=hD 10 (ye Q 10 rfl)
   clear Q hD xk
   rw [if_pos (by rfl)];unfold Oper.wp;go_simp
   exact ⟨upd f 11 (.bool (decide (8 < N))),by simp [upd,g],zf (U xv) (U HD) (by decide) rfl⟩
  | 12,Z =>
   obtain rfl:=ya Z
   have g:f 11 = .bool (decide (8 < N)):=hD 11 (ye Q 11 rfl)
   clear Q hD xk
   rw [if_pos (by rfl)];unfold Oper.wp;go_simp
   exact ⟨upd f 12 (.bool (decide (8 < N))),by simp [upd,g],zf (U xv) (U HD) (by decide) rfl⟩
  | n + 13,Z=>simp at Z
def aU (l:List Od) (sd:Int):Option Od:=(quOf (decide (sd = 1)) (zx l sd)).head?
def matL (c:Cm) (id:Int):Nat→List Od→Int→List Ev→List Od × Int × List Ev
 | 0,l,left,ts=>(l,left,ts)
 | n + 1,l,left,ts =>
  if 0 < left then
   match aU l (othS c.s) with
   | none=>(l,left,ts)
   | some o=>if aZ c o = true then matL c id n (aN l (plc l o.id).toNat o (min left o.left)) (left - min left o.left) (ts ++ [trE id o.id (min left o.left) o.ticks]) else (l,left,ts)
  else (l,left,ts)
structure GoodL (l:List Od):Prop where
 len:l.length ≤ 20
 left:∀ o ∈ l,0 < o.left∧o.left ≤ 1000000
 rise:aV l
theorem dd {l:List Od} {sd:Int} {o:Od} (h:aU l sd = some o):o ∈ l∧o.side = sd:=by
 have G:o ∈ quOf (decide (sd = 1)) (zx l sd):=List.mem_of_head? h
 obtain ⟨k,_,E⟩:=List.mem_flatMap.1 G
 have h3:=(List.mem_filter.1 E).1
 have h4:=List.mem_filter.1 h3
 exact ⟨h4.1,by simpa using h4.2⟩
theorem rise_id {l:List Od} (hr:aV l) {i k:Nat} {o o':Od} (hi:l[i]? = some o') (hk:l[k]? = some o) (he:o'.id = o.id):i = k:=by
 obtain ⟨G,rfl⟩:=yG.1 hi
 obtain ⟨E,rfl⟩:=yG.1 hk
 rcases Nat.lt_trichotomy i k with h | h | h
 ·have:=List.pairwise_iff_getElem.1 hr i k G E h; omega
 ·exact h
 ·have:=List.pairwise_iff_getElem.1 hr k i E G h; omega
theorem plc_at {l:List Od} (hr:aV l) {k:Nat} {o:Od} (hk:l[k]? = some o):plc l o.id = k:=by
 rcases plcF_spec o.id l 0 with ⟨_,E⟩ | ⟨i,o',G,E,h3,_⟩
 ·exact absurd rfl (E o (yO hk))
 ·rw [plc,G,rise_id hr E hk h3]; congr 1; omega
theorem cJ {l:List Od} (h:GoodL l) {k:Nat} {o:Od} (hk:l[k]? = some o) {qty:Int} (h0:0 ≤ qty) (G:qty ≤ o.left):GoodL (aN l k o qty)∧((aN l k o qty).length + 1 = l.length ∨ (qty < o.left∧(aN l k o qty).length = l.length)):=by
 have kI:=(yG.1 hk).1
 by_cases he:o.left = qty
 ·have e:aN l k o qty = l.take k ++ l.drop (k + 1):=if_pos he
  rw [e]
  have hs:(l.take k ++ l.drop (k + 1)).Sublist l:=by
   have:(l.take k ++ l.drop (k + 1)).Sublist (l.take k ++ l.drop k):=List.Sublist.append (List.Sublist.refl _) (by rw [drop_get hk]; exact List.sublist_cons_self _ _)
   rwa [List.take_append_drop] at this
  refine ⟨⟨yN hs.length_le h.len,fun o' vB=>h.left o' (hs.subset vB),h.rise.sublist hs⟩,.inl ?_⟩
  simp; omega
 ·have e:aN l k o qty = l.set k { o with left:=o.left - qty }:=if_neg he
  rw [e]
  have Z:=h.left o (yO hk)
  refine ⟨⟨by rw [List.length_set]; exact h.len,fun o' vB=>?_,?_⟩,.inr ⟨by omega,by rw [List.length_set]⟩⟩
  ·rcases List.mem_or_eq_of_mem_set vB with E | rfl
   ·exact h.left o' E
   ·simp only; omega
  ·refine List.pairwise_iff_getElem.2 fun i j hi K kV=>?_
   rw [List.length_set] at hi K
   have hp:=List.pairwise_iff_getElem.1 h.rise i j hi K kV
   have hko:l[k] = o:=by have:=(yG.1 hk).2; exact this
   rw [List.getElem_set,List.getElem_set]
   split <;> split
   ·omega
   ·next E _=>subst E; rw [hko] at hp; exact hp
   ·next _ E=>subst E; rw [hko] at hp; exact hp
   ·exact hp
structure MI (c:Cm) (id:Int) (hb:List Od × Int × List Ev) (l:List Od) (left:Int) (ts:List Ev):Prop where
 good:GoodL l
 l0:0 ≤ left
 l1:left ≤ 1000000
 few:ts.length ≤ 21
 some:0 < left→ts.length + l.length ≤ 20
 goal:∃ n,matL c id n l left ts = hb∧(0 < left→l.length < n)
theorem matL_end {c:Cm} {id:Int} {n:Nat} {l:List Od} {left:Int} {ts:List Ev} (h:left ≤ 0):matL c id n l left ts = (l,left,ts):=by
 cases n with
 | zero=>rfl
 | succ n=>rw [matL,if_neg (by omega)]
theorem mi_start {c:Cm} {id:Int} {l:List Od} {left:Int} (h:GoodL l) (h0:0 ≤ left) (G:left ≤ 1000000):MI c id (matL c id 21 l left []) l left [] :=
 ⟨h,h0,G,by simp,fun _=>by simpa using h.len,21,rfl,fun _=>by have:=h.len; omega⟩
theorem mi_none {c:Cm} {id:Int} {hb:List Od × Int × List Ev} {l:List Od} {left:Int} {ts:List Ev} (h:MI c id hb l left ts) (hf:aU l (othS c.s) = none):hb = (l,left,ts):=by
 obtain ⟨n,rfl,hn⟩:=h.goal
 by_cases h0:0 < left
 ·obtain ⟨m,rfl⟩:∃ m,n = m + 1:=⟨n - 1,by have:=hn h0; omega⟩
  rw [matL,if_pos h0,hf]
 ·exact matL_end (by omega)
theorem mi_stop {c:Cm} {id:Int} {hb:List Od × Int × List Ev} {l:List Od} {left:Int} {ts:List Ev} (h:MI c id hb l left ts) {o:Od} (hf:aU l (othS c.s) = some o) (hm:aZ c o = false):hb = (l,left,ts):=by
 obtain ⟨n,rfl,hn⟩:=h.goal
 by_cases h0:0 < left
 ·obtain ⟨m,rfl⟩:∃ m,n = m + 1:=⟨n - 1,by have:=hn h0; omega⟩
  rw [matL,if_pos h0,hf]
  simp only [hm]
  rw [if_neg (by simp)]
 ·exact matL_end (by omega)
theorem mi_done {c:Cm} {id:Int} {hb:List Od × Int × List Ev} {l:List Od} {left:Int} {ts:List Ev} (h:MI c id hb l left ts) (h0:¬ 0 < left):hb = (l,left,ts):=by
 obtain ⟨n,rfl,hn⟩:=h.goal
 exact matL_end (by omega)
theorem mi_step {c:Cm} {id:Int} {hb:List Od × Int × List Ev} {l:List Od} {left:Int} {ts:List Ev} (h:MI c id hb l left ts) (h0:0 < left) {o:Od} (hf:aU l (othS c.s) = some o) (hm:aZ c o = true) :
  ∃ k,plc l o.id = (k:Nat)∧l[k]? = some o∧MI c id hb (aN l k o (min left o.left)) (left - min left o.left) (ts ++ [trE id o.id (min left o.left) o.ticks])∧2 * (aN l k o (min left o.left)).length + (if 0 < left - min left o.left then 1 else 0) < 2 * l.length + 1:=by
 obtain ⟨uy,_⟩:=dd hf
 obtain ⟨k,hk⟩:=List.getElem?_of_mem uy
 have hp:=plc_at h.good.rise hk
 have Z:=h.good.left o uy
 have G:=h.l1
 have hs:=h.some h0
 obtain ⟨hg,hl⟩:=cJ h.good hk (qty:=min left o.left) (by omega) (by omega)
 obtain ⟨n,hF,hn⟩:=h.goal
 obtain ⟨m,rfl⟩:∃ m,n = m + 1:=⟨n - 1,by have:=hn h0; omega⟩
 have hn:=hn h0
 rw [matL,if_pos h0,hf] at hF
 simp only [hm,if_true] at hF
 rw [hp,Int.toNat_natCast] at hF
 refine ⟨k,hp,hk,⟨hg,by omega,by omega,?_,fun xJ=>?_,m,hF,fun xJ=>?_⟩,?_⟩
 ·rw [yP]; simp only [List.length_cons,List.length_nil]; omega
 ·rw [yP]; simp only [List.length_cons,List.length_nil]; omega
 ·omega
 ·split <;> omega
end Go.Proofs.YtbakanofkghmiaaGreat
