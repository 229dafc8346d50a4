/-
  What is left of the taker laid behind the others, by the program: proved by walking the method.
-/
import Derived.Test.YtbakanofkghmiaaGreatQj14
set_option linter.unusedVariables false
set_option maxHeartbeats 6400000
set_option maxRecDepth 100000
namespace Go.Proofs.YtbakanofkghmiaaGreat
open Go.RowKit
theorem one_od (o:Od):∀ u ∈ o.vs,u.oneCell' = true:=by
 intro u hu
 simp [Od.vs] at hu
 rcases hu with rfl | rfl | rfl | rfl | rfl | rfl <;> rfl
def DR (mb B:Nat) (W0:World) (vq:Value) (l:List Od) (t:Od) (p q:Prop) (V:World):Nat→Value→Prop
 | 0,v=>v = I mb 0
 | 1,v=>v = I mb 0
 | 2,v=>v = I mb 0
 | 3,v=>v = I mb 0
 | 4,v=>v = I mb 1
 | 5,v=>v = vq
 | 6,v=>v = I mb 0
 | 7,v=>v = I mb 0
 | 8,v=>v = I mb 2
 | 9,v=>v = .agg (yw t.id t.side t.ticks t.left t.life t.tag).toArray
 | 10,v=>∃ s,v = .slice (some (J s 0)) 1 1∧(¬ p→∀ j u,t.vs[j]? = some u→V.cell? (((J s 0):Addr).add j) = some u)
 | 11,v=>∃ a c,v = .slice a (l.length + 1) c∧p∧(¬ q→ORow V B v (l ++ [t])∧W0.grownBy V vq.ownBlock)∧(q→V.cell? (J mb 1) = some v∧ORow V B v (l ++ [t])∧TookAt mb 0 vq.ownBlock W0 V)
 | 12,v=>v = I mb 0
 | 13,v=>v = I mb 0
 | 14,v=>v = I mb 1
 | _,_=>True
section
variable {mb B:Nat} {W0 V V':World} {vq:Value} {l:List Od} {t:Od} {p q:Prop}
theorem dr_alloc {o:Obj} (hp:¬ p):∀ j v,DR mb B W0 vq l t p q V j v→DR mb B W0 vq l t p q (V.alloc o) j v:=by
 intro j v h
 match j with
 | 0 | 1 | 2 | 3 | 4 | 5 | 6 | 7 | 8 | 9 | 12 | 13 | 14=>exact h
 | 10 =>
  obtain ⟨s,Q,N⟩:=h
  exact ⟨s,Q,fun hp j u hu=>(yW _ _ _ (yL V _ (N hp j u hu))).trans (N hp j u hu)⟩
 | 11=>obtain ⟨_,_,_,N,_⟩:=h; exact absurd N hp
 | j + 15=>trivial
theorem dr_one:∀ j v,j ≠ 11→DR mb B W0 vq l t False False V j v→DR mb B W0 vq l t True False V' j v:=by
 intro j v R h
 match j with
 | 0 | 1 | 2 | 3 | 4 | 5 | 6 | 7 | 8 | 9 | 12 | 13 | 14=>exact h
 | 10 =>
  obtain ⟨s,Q,N⟩:=h
  exact ⟨s,Q,fun hp=>absurd trivial hp⟩
 | 11=>exact absurd rfl R
 | j + 15=>trivial
theorem dr_two {v:Value}:∀ j,j ≠ 15→DR mb B W0 vq l t True False V j v→(j = 11→DR mb B W0 vq l t True True V' 11 v)→DR mb B W0 vq l t True True V' j v:=by
 intro j R h uZ
 match j with
 | 0 | 1 | 2 | 3 | 4 | 5 | 6 | 7 | 8 | 9 | 12 | 13 | 14=>exact h
 | 10 =>
  obtain ⟨s,Q,N⟩:=h
  exact ⟨s,Q,fun hp=>absurd trivial hp⟩
 | 11=>exact uZ rfl
 | j + 15=>trivial
end
theorem matS_took {mb B:Nat} {W w':World} {next:Int} {vq vu:Value} {l l':List Od} {t:Od} {vt:Value} {ts:List Ev} (h:MatS mb B W next vq l t vt ts) (ht:TookAt mb 0 vq.ownBlock W w') (hc:w'.cell? (J mb 1) = some vu) (Z:ORow w' B vu l'):MatS mb B w' next vu l' t vt ts:=by
 have xr:∀ j,j ≠ 1→w'.cell? (J mb j) = W.cell? (J mb j):=fun j Q=>ht.cell j (by omega)
 refine ⟨?_,fun j R=>⟨?_,?_⟩,Z,bi h.erow ht h.nt (zD h.erow h.orow (by decide)),by obtain ⟨xu,hc⟩:=h.box; exact ht.kind _ _ _ hc,yO h.le ht.size⟩
 ·intro j u R
  by_cases Q:j = 1
  ·subst Q; cases R; exact hc
  ·rw [Nat.zero_add,xr j Q]
   have:W.cell? (J mb (0 + j)) = some u:=h.cells j u (by
    rcases j with _ | _ | j
    ·exact R
    ·exact absurd rfl Q
    ·exact R)
   rwa [Nat.zero_add] at this
 ·by_cases Q:j = 1
  ·subst Q; rw [Nat.zero_add,hc]; rfl
  ·rw [Nat.zero_add,xr j Q]; have:=(h.there j R).1; rwa [Nat.zero_add] at this
 ·rw [Nat.zero_add,ht.frozen]; have:=(h.there j R).2; rwa [Nat.zero_add] at this
theorem rest_any (mb B:Nat) (next:Int) (vq:Value) (l:List Od) (t:Od) (vt:Value) (ts:List Ev) (w:World) (h:MatS mb B w next vq l t vt ts) (hn:l.length ≤ 1000) :
  Calls Tryz.prog 115 #[I mb 0] w fun e w'=>∃ vu,e = ym (.tuple #[])∧MatS mb B w' next vu (l ++ [t]) t vt ts∧KeptBut mb B w w':=by
 have HM:=Y h
 have qE:=h.lt
 have pF:=h.le
 have qJ:=h.nq
 have uA:=Y h.box
 have jS:=Y h.orow
 have hM:=Y h.cells
 have qd:Hid (w.cell? (J mb 1) = some vq):=U hM 1 _ rfl
 have qz:Hid (w.frozen? (J mb 1) = false):=by have:=(h.there 1 (by omega)).2; rwa [Nat.zero_add] at this
 clear h
 obtain ⟨i0,uG,uF,uI,uT⟩:=info_parts Tryz.infoOrder
 go_enter Tryz.func115,Tryz.ntmps115
 go_wp2_with fail
 refine zj (RT (fun V=>yn w V) (fun f=>{ tmps:=#[I mb 0,M,f 0,f 1,f 2,f 3,f 4,f 5,f 6,f 7,f 8,f 9,f 10,f 11,f 12,f 13,f 14],defers:=[] }) 11 15 (DR mb B w vq l t)) (by kernel_rfl) ?_ ?_ ?_
 ·exact ⟨fun _=>M,rfl,fun _=>⟨rfl,rfl,rfl,Nat.le_refl _,fun _ _=>rfl⟩,fun j R=>by rw [yJ] at R; split at R <;> simp at R⟩
 ·rintro x xn V ⟨f,rfl,-,hD⟩ hx xN
  have xq:=zS xN hx (acyc _ (by kernel_rfl))
  have oT:x[11]? = some true:=xq 11 (by simp)
  have k15:x[15]? = some true:=xq 15 (by simp)
  obtain ⟨va,vc,-,-,-,vl⟩:=hD 11 oT
  obtain ⟨q1,q2,q3⟩:=vl k15
  have vr:Hid (_∧_∧_):=⟨q1,q2,q3⟩
  clear hD xq xN hx oT k15 vl q1 q2 q3
  dsimp only
  go_wp2_with fail
  go_end0
  exact ⟨_,rfl,matS_took (U HM) (U vr).2.2 (U vr).1 (U vr).2.1,cM (U vr).2.2 pF (fun g hg=>((U jS).lt g hg).1)⟩
 ·rintro x xn V i op ⟨f,rfl,jw,hD⟩ xp hx Z xz D
  have uk:=Y jw
  have HD:=Y hD
  have xo:∀ b o u,w.cell? (J b o) = some u→¬ x[11]? = some true→V.cell? (J b o) = some u:=fun b o u hu hn11=>((U uk hn11).cell (p:=(J b o)) (yL w _ hu)).trans hu
  have pV:i < 11→0 < i→¬ x[11]? = some true:=fun xL jz uZ=>by
   have h5:=yf xp 11 rfl uZ 5 rfl
   have vQ:=yf xp 11 rfl uZ 10 rfl
   have h4:=yf xp 5 rfl h5 4 rfl
   have h9:=yf xp 10 rfl vQ 9 rfl
   have h3:=yf xp 4 rfl h4 3 rfl
   have h8:=yf xp 9 rfl h9 8 rfl
   have N:=yf xp 3 rfl h3 2 rfl
   have h7:=yf xp 8 rfl h8 7 rfl
   have Q:=yf xp 2 rfl N 1 rfl
   have h6:=yf xp 7 rfl h7 6 rfl
   have ul:∀ j,0 < j→j < 11→x[j]? = some true:=fun j jg R=>by
    rcases (by omega:j = 1 ∨ j = 2 ∨ j = 3 ∨ j = 4 ∨ j = 5 ∨ j = 6 ∨ j = 7 ∨ j = 8 ∨ j = 9 ∨ j = 10) with rfl | rfl | rfl | rfl | rfl | rfl | rfl | rfl | rfl | rfl <;> assumption
   rw [ul i jz xL] at xz; cases xz
  have n15':i < 15→¬ x[15]? = some true:=fun xL vx=>by
   have jm:=yf xp 15 rfl vx 14 rfl
   have uZ:=yf xp 15 rfl vx 11 rfl
   have jt:=yf xp 14 rfl jm 13 rfl
   have h5:=yf xp 11 rfl uZ 5 rfl
   have vQ:=yf xp 11 rfl uZ 10 rfl
   have qD:=yf xp 13 rfl jt 12 rfl
   have h4:=yf xp 5 rfl h5 4 rfl
   have h9:=yf xp 10 rfl vQ 9 rfl
   have h0:=yf xp 12 rfl qD 0 rfl
   have h3:=yf xp 4 rfl h4 3 rfl
   have h8:=yf xp 9 rfl h9 8 rfl
   have N:=yf xp 3 rfl h3 2 rfl
   have h7:=yf xp 8 rfl h8 7 rfl
   have Q:=yf xp 2 rfl N 1 rfl
   have h6:=yf xp 7 rfl h7 6 rfl
   have ul:∀ j,j < 15→x[j]? = some true:=fun j R=>by
    rcases (by omega:j = 0 ∨ j = 1 ∨ j = 2 ∨ j = 3 ∨ j = 4 ∨ j = 5 ∨ j = 6 ∨ j = 7 ∨ j = 8 ∨ j = 9 ∨ j = 10 ∨ j = 11 ∨ j = 12 ∨ j = 13 ∨ j = 14) with rfl | rfl | rfl | rfl | rfl | rfl | rfl | rfl | rfl | rfl | rfl | rfl | rfl | rfl | rfl <;> assumption
   rw [ul i xL] at xz; cases xz
  clear xp jw
  match i,Z with
  | 0,Z | 1,Z | 6,Z =>
   obtain rfl:=ya Z
   clear D hD
   rw [if_pos (by rfl)];unfold Oper.wp;go_simp
   exact ⟨upd f _ (I mb 0),by simp [upd],zx (U HD) (by decide) (by decide) (fun _ _ h=>h) (U uk) rfl⟩
  | 2,Z =>
   obtain rfl:=ya Z
   have g:f 1 = I mb 0:=hD 1 (ye D 1 rfl)
   clear D hD
   rw [if_pos (by rfl)];unfold Oper.wp;go_simp
   exact ⟨upd f 2 (I mb 0),by simp [upd,g],zx (U HD) (by decide) (by decide) (fun _ _ h=>h) (U uk) rfl⟩
  | 3,Z =>
   obtain rfl:=ya Z
   have g:f 2 = I mb 0:=hD 2 (ye D 2 rfl)
   clear D hD
   rw [if_pos (by rfl)];unfold Oper.wp;go_simp
   exact ⟨upd f 3 (I mb 0),by simp [upd,g],zx (U HD) (by decide) (by decide) (fun _ _ h=>h) (U uk) rfl⟩
  | 4,Z =>
   obtain rfl:=ya Z
   have g:f 3 = I mb 0:=hD 3 (ye D 3 rfl)
   clear D hD
   rw [if_pos (by rfl)];unfold Oper.wp;go_simp
   exact ⟨upd f 4 (I mb 1),by simp [upd,g],zx (U HD) (by decide) (by decide) (fun _ _ h=>h) (U uk) rfl⟩
  | 5,Z =>
   obtain rfl:=ya Z
   have g:f 4 = I mb 1:=hD 4 (ye D 4 rfl)
   have qy:=pV (by omega) (by omega)
   have y1:=xo mb 1 _ (U qd) qy
   clear D hD
   rw [if_pos (by rfl)];unfold Oper.wp;go_simp
   exact ⟨upd f 5 (vq),by simp [upd,g],zx (U HD) (by decide) (by decide) (fun _ _ h=>h) (U uk) rfl⟩
  | 7,Z =>
   obtain rfl:=ya Z
   have g:f 6 = I mb 0:=hD 6 (ye D 6 rfl)
   clear D hD
   rw [if_pos (by rfl)];unfold Oper.wp;go_simp
   exact ⟨upd f 7 (I mb 0),by simp [upd,g],zx (U HD) (by decide) (by decide) (fun _ _ h=>h) (U uk) rfl⟩
  | 8,Z =>
   obtain rfl:=ya Z
   have g:f 7 = I mb 0:=hD 7 (ye D 7 rfl)
   clear D hD
   rw [if_pos (by rfl)];unfold Oper.wp;go_simp
   exact ⟨upd f 8 (I mb 2),by simp [upd,g],zx (U HD) (by decide) (by decide) (fun _ _ h=>h) (U uk) rfl⟩
  | 9,Z =>
   obtain rfl:=ya Z
   have g:f 8 = I mb 2:=hD 8 (ye D 8 rfl)
   have qy:=pV (by omega) (by omega)
   have y2:=xo mb 2 _ (U hM 2 _ rfl) qy
   have y3:=xo mb 3 _ (U hM 3 _ rfl) qy
   have y4:=xo mb 4 _ (U hM 4 _ rfl) qy
   have y5:=xo mb 5 _ (U hM 5 _ rfl) qy
   have y6:=xo mb 6 _ (U hM 6 _ rfl) qy
   have y7:=xo mb 7 _ (U hM 7 _ rfl) qy
   clear D hD
   rw [if_pos (by rfl)];unfold Oper.wp;go_simp
   exact ⟨upd f 9 (.agg (yw t.id t.side t.ticks t.left t.life t.tag).toArray),by simp [upd,g],zx (U HD) (by decide) (by decide) (fun _ _ h=>h) (U uk) rfl⟩
  | 10,Z =>
   obtain rfl:=ya Z
   have g:f 9 = .agg (yw t.id t.side t.ticks t.left t.life t.tag).toArray:=hD 9 (ye D 9 rfl)
   have qy:=pV (by omega) (by omega)
   have xT:=U uk qy
   clear D hD
   rw [if_pos (by rfl)];unfold Oper.wp;go_simp
   refine ⟨upd f 10 (.slice (some (yq V 0)) 1 1),by simp [upd,g],zx (U HD) (by decide) (by decide) (dr_alloc qy) (fun _=>xT.alloc xT.size _) ⟨V.heap.size,rfl,fun _=>?_⟩⟩
   exact fun j u h=>cy V t.vs 49 j u h
  | 11,Z =>
   obtain rfl:=ya Z
   have g5:f 5 = vq:=hD 5 (ye D 5 rfl)
   obtain ⟨s,qx,ow⟩:=hD 10 (ye D 10 rfl)
   have qy:¬ x[11]? = some true:=by rw [xz]; simp
   have n15:=n15' (by omega)
   have xT:=U uk qy
   have uX:ORow V B vq l:=zm (U jS) xT
   rw [if_pos (by rfl)]
   refine wp_append_own V (.tmp 7) (.tmp 12) 26 rfl B 49 i0 _ 6 56 Tryz.underlying26 uG uF uI uT rfl (by decide) vq l.length (l.flatMap Od.vs) g5 uX (J s 0) 1 1 t.vs qx rfl (ow qy) (one_od t) (by unfold maxLen; omega) (by omega) (by have:=xT.size; omega) ?_
   intro v' w' xI uc _
   obtain ⟨ga,gc,rfl⟩:=dM xI (by omega)
   refine ⟨upd f 11 (.slice (some (J ga 0)) (l.length + 1) gc),rfl,rt_one (by decide) (U HD) xz n15 (fun j v R h=>dr_one j v R h) ⟨some (J ga 0),gc,rfl,trivial,fun _=>⟨?_,?_⟩,fun h=>h.elim⟩⟩
   ·show World.ownsRow _ _ _ _ _ (l ++ [t]).length _
    rw [yQ,List.flatMap_append]; simpa using xI
   ·exact (aW xT tg).trans uc
  | 12,Z =>
   obtain rfl:=ya Z
   have g:f 0 = I mb 0:=hD 0 (ye D 0 rfl)
   clear D hD
   rw [if_pos (by rfl)];unfold Oper.wp;go_simp
   exact ⟨upd f 12 (I mb 0),by simp [upd,g],zx (U HD) (by decide) (by decide) (fun _ _ h=>h) (U uk) rfl⟩
  | 13,Z =>
   obtain rfl:=ya Z
   have g:f 12 = I mb 0:=hD 12 (ye D 12 rfl)
   clear D hD
   rw [if_pos (by rfl)];unfold Oper.wp;go_simp
   exact ⟨upd f 13 (I mb 0),by simp [upd,g],zx (U HD) (by decide) (by decide) (fun _ _ h=>h) (U uk) rfl⟩
  | 14,Z =>
   obtain rfl:=ya Z
   have g:f 13 = I mb 0:=hD 13 (ye D 13 rfl)
   clear D hD
   rw [if_pos (by rfl)];unfold Oper.wp;go_simp
   exact ⟨upd f 14 (I mb 1),by simp [upd,g],zx (U HD) (by decide) (by decide) (fun _ _ h=>h) (U uk) rfl⟩
  | 15,Z =>
   obtain rfl:=ya Z
   have ku:f 14 = I mb 1:=hD 14 (ye D 14 rfl)
   have oT:x[11]? = some true:=D ⟨11,.data⟩ (by simp) rfl
   have n15:¬ x[15]? = some true:=by rw [xz]; simp
   obtain ⟨ga,gc,vw,-,hfa,-⟩:=hD 11 oT
   obtain ⟨jW,uc⟩:=hfa n15
   have qS:some mb ≠ vq.ownBlock:=qJ
   have y1:=uc.cell (U qd) qS
   have f1:V.frozen? (J mb 1) = false:=(World.frozen?_of_block (a:=(J mb 1)) (uc.block mb (by omega) qS)).trans (U qz)
   have jM:=Y (vw ▸ jW)
   have pp:Hid (∃ xu,V.heap[mb]? = some (.cells xu 157 (0,0))):=by obtain ⟨xu,hc⟩:=U uA; exact ⟨xu,(uc.block mb (by omega) qS).trans hc⟩
   have oV:=Y uc
   clear D hD jW uc hfa
   rw [if_pos (by rfl)];unfold Oper.wp;go_simp
   refine ⟨upd f 15 M,by simp [upd,ku,vw],rt_two (by decide) (U HD) oT xz (fun j R hxj h=>dr_two j R h (fun hj11=>?_)) trivial⟩
   subst hj11
   obtain ⟨-,-,-,-,-,-⟩:=h
   refine ⟨ga,gc,vw,trivial,fun h=>absurd trivial h,fun _=>?_⟩
   rw [vw]
   refine ⟨yN _ _ _ y1,zv (U jM) (zl (U jM) (U pp) (by decide)) 1 _,?_⟩
   exact ch (bI (U oV) (by omega) qS) (db (o:=0) _ _)
  | i + 16,Z=>simp at Z
def fullB (l:List Od):Bool:=if 20 < l.length then true else decide (8 < ((aT true 1 (zA l 1)).length:Int) + (aT false 2 (zA l 2)).length)
def DF (mb:Nat) (BV:Value) (q1 q2:List Od) (h2:Int) (p:Prop) (W:World):Nat→Value→Prop
 | 0,v=>v = I mb 0
 | 1,v=>v = I mb 0
 | 2,v=>v = I mb 0
 | 3,v=>v = BV
 | 4,v=>∃ b,v = bW b∧Tb W b q1
 | 5,v=>v = I mb 0
 | 6,v=>v = I mb 0
 | 7,v=>v = I mb 0
 | 8,v=>v = BV
 | 9,v=>∃ b,v = bX b∧Ts W b q2
 | 10,v=>v = H h2
 | 11,v=>v = .bool (decide (8 < h2))
 | 12,v=>v = .bool (decide (8 < h2))
 | _,_=>True
theorem df_mono {mb:Nat} {BV:Value} {q1 q2:List Od} {h2:Int}:∀ p W W' j v,yn W W'→DF mb BV q1 q2 h2 p W j v→DF mb BV q1 q2 h2 p W' j v:=by
 intro p W W' j v X h
 match j with
 | 0 | 1 | 2 | 3 | 5 | 6 | 7 | 8 | 10 | 11 | 12=>exact h
 | 4=>obtain ⟨b,Q,N⟩:=h; exact ⟨b,Q,zH N (X.block _ (bp N))⟩
 | 9=>obtain ⟨b,Q,N⟩:=h; exact ⟨b,Q,zH N (X.block _ (bp N))⟩
 | n + 13=>trivial
theorem isTooFull_any (mb B:Nat) (next:Int) (vq:Value) (l:List Od) (t:Od) (vt:Value) (ts:List Ev) (w:World) (h:MatS mb B w next vq l t vt ts) (hm:l.length ≤ 1000) (hl:∀ o' ∈ l,0 ≤ o'.left∧o'.left ≤ 1000000) :
  Calls Tryz.prog 165 #[I mb 0] w fun e w'=>e = ym (.bool (fullB l))∧yn w w':=by
 have qE:=h.lt
 have pF:=h.le
 have HR:=Y (zN h.orow (by omega))
 obtain ⟨a,A,rfl,_,_⟩:=zN h.orow (by omega)
 have HM:=Y h.cells
 have z0:w.cell? (J mb 0) = some (H next):=h.cells 0 _ rfl
 have z1:w.cell? (J mb 1) = some (.slice a l.length A):=h.cells 1 _ rfl
 have HLB:=Y hl
 clear h hl
 go_enter Tryz.func165,Tryz.ntmps165
 by_cases h20:20 < l.length
 ·have h20':(20:Int) < l.length:=by omega
  have HF:Hid (fullB l = true):=if_pos h20
  clear h20
  go_wp2_with fail
  go_ret
  exact ⟨zB (U HF).symm,Below.refl _ _⟩
 have h20':¬ (20:Int) < l.length:=by omega
 have hn:l.length ≤ 20:=by omega
 have n1:(zA l 1).length ≤ 20:=yO (List.length_filter_le _ _) hn
 have n2:(zA l 2).length ≤ 20:=yO (List.length_filter_le _ _) hn
 generalize hN:((aT true 1 (zA l 1)).length:Int) + (aT false 2 (zA l 2)).length = h2
 have HF:Hid (fullB l = decide (8 < h2)):=by show _ = _; rw [fullB,if_neg h20,hN]
 have HNN:=Y hN
 clear hN h20
 go_wp2_with fail
 clear z0 z1
 refine zj (RG w (fun f=>{ tmps:=#[I mb 0,M,f 12,I mb 0,I mb 0,I mb 0,I mb 1,.slice a l.length A,H l.length,.bool false,f 0,f 1,f 2,f 3,f 4,f 5,f 6,f 7,f 8,f 9,f 10,f 11],defers:=[] }) 99 (DF mb (.agg #[H next,.slice a l.length A]) (zA l 1) (zA l 2) h2)) (by kernel_rfl) ?_ ?_ ?_
 ·exact ⟨fun j=>if j = 12 then .bool false else M,rfl,⟨rfl,rfl,rfl,Nat.le_refl _,fun _ _=>rfl⟩,fun j R=>by rw [yJ] at R; split at R <;> simp at R⟩
 ·rintro x xn V ⟨f,rfl,xm,hD⟩ hx xN
  have xq:=zS xN hx (acyc _ (by kernel_rfl))
  have e12:f 12 = .bool (decide (8 < h2)):=hD 12 (xq 12 (by simp))
  have xw:=Y xm
  simp only [e12]
  clear hD xq e12 xN hx xm
  go_wp2_with fail
  go_ret
  exact ⟨zB (U HF).symm,U xw⟩
 ·rintro x xn V i o ⟨f,rfl,xm,hD⟩ xp hx Z xz D
  clear xp
  have xw:=Y xm
  have HD:=Y hD
  have z0:=zb (U HM) xm qE 0 _ rfl
  have z1:=zb (U HM) xm qE 1 _ rfl
  rw [Nat.zero_add] at z0 z1
  have ji:=Y (zn (U HR) xm tg)
  match i,Z with
  | 0,Z | 5,Z =>
   obtain rfl:=ya Z
   clear D hD xm
   rw [if_pos (by rfl)];unfold Oper.wp;go_simp
   exact ⟨upd f _ (I mb 0),by simp [upd],zf (U xw) (U HD) (by decide) rfl⟩
  | 1,Z =>
   obtain rfl:=ya Z
   have g:f 0 = I mb 0:=hD 0 (ye D 0 rfl)
   clear D hD xm
   rw [if_pos (by rfl)];unfold Oper.wp;go_simp
   exact ⟨upd f 1 (I mb 0),by simp [upd,g],zf (U xw) (U HD) (by decide) rfl⟩
  | 2,Z =>
   obtain rfl:=ya Z
   have g:f 1 = I mb 0:=hD 1 (ye D 1 rfl)
   clear D hD xm
   rw [if_pos (by rfl)];unfold Oper.wp;go_simp
   exact ⟨upd f 2 (I mb 0),by simp [upd,g],zf (U xw) (U HD) (by decide) rfl⟩
  | 3,Z =>
   obtain rfl:=ya Z
   have g:f 2 = I mb 0:=hD 2 (ye D 2 rfl)
   clear D hD xm
   rw [if_pos (by rfl)];unfold Oper.wp;go_simp
   exact ⟨upd f 3 (.agg #[H next,.slice a l.length A]),by simp [upd,g],zf (U xw) (U HD) (by decide) rfl⟩
  | 4,Z =>
   obtain rfl:=ya Z
   have g:f 3 = .agg #[H next,.slice a l.length A]:=hD 3 (ye D 3 rfl)
   clear D hD xm
   rw [if_pos (by rfl)];unfold Oper.wp;go_simp
   refine (sideOf_buy next _ l V (U ji) hn (U HLB)).mono ?_
   rintro e w4 ⟨b,rfl,ht,jI,xD⟩
   exact ⟨upd f 4 (bW b),by simp [upd,g],df df_mono (U xw) (U HD) xD (by decide) ⟨b,rfl,ht⟩⟩
  | 6,Z =>
   obtain rfl:=ya Z
   have g:f 5 = I mb 0:=hD 5 (ye D 5 rfl)
   clear D hD xm
   rw [if_pos (by rfl)];unfold Oper.wp;go_simp
   exact ⟨upd f 6 (I mb 0),by simp [upd,g],zf (U xw) (U HD) (by decide) rfl⟩
  | 7,Z =>
   obtain rfl:=ya Z
   have g:f 6 = I mb 0:=hD 6 (ye D 6 rfl)
   clear D hD xm
   rw [if_pos (by rfl)];unfold Oper.wp;go_simp
   exact ⟨upd f 7 (I mb 0),by simp [upd,g],zf (U xw) (U HD) (by decide) rfl⟩
  | 8,Z =>
   obtain rfl:=ya Z
   have g:f 7 = I mb 0:=hD 7 (ye D 7 rfl)
   clear D hD xm
   rw [if_pos (by rfl)];unfold Oper.wp;go_simp
   exact ⟨upd f 8 (.agg #[H next,.slice a l.length A]),by simp [upd,g],zf (U xw) (U HD) (by decide) rfl⟩
  | 9,Z =>
   obtain rfl:=ya Z
   have g:f 8 = .agg #[H next,.slice a l.length A]:=hD 8 (ye D 8 rfl)
   clear D hD xm
   rw [if_pos (by rfl)];unfold Oper.wp;go_simp
   refine (sideOf_sell next 2 (by omega) _ l V (U ji) hn (U HLB)).mono ?_
   rintro e w4 ⟨b,rfl,ht,jI,xD⟩
   exact ⟨upd f 9 (bX b),by simp [upd,g],df df_mono (U xw) (U HD) xD (by decide) ⟨b,rfl,ht⟩⟩
  | 10,Z =>
   obtain rfl:=ya Z
   obtain ⟨b1,g4,t4⟩:=hD 4 (ye D 4 rfl)
   obtain ⟨b2,g9,t9⟩:=hD 9 (ye D 9 rfl)
   have ol:=Y t4
   have HT9:=Y t9
   clear D hD xm t4 t9
   rw [if_pos (by rfl)];unfold Oper.wp;go_simp
   refine (countLevels_any b1 b2 1 2 (zA l 1) (zA l 2) V (U ol) (U HT9) n1 n2).mono ?_
   rw [U HNN]
   rintro e w4 ⟨rfl,xD⟩
   exact ⟨upd f 10 (H h2),by simp [upd,g4,g9],df df_mono (U xw) (U HD) xD (by decide) rfl⟩
  | 11,Z =>
   obtain rfl:=ya Z
   have g:f 10 = H h2:=hD 10 (ye D 10 rfl)
   clear D hD xm
   rw [if_pos (by rfl)];unfold Oper.wp;go_simp
   exact ⟨upd f 11 (.bool (decide (8 < h2))),by simp [upd,g],zf (U xw) (U HD) (by decide) rfl⟩
  | 12,Z =>
   obtain rfl:=ya Z
   have g:f 11 = .bool (decide (8 < h2)):=hD 11 (ye D 11 rfl)
   clear D hD xm
   rw [if_pos (by rfl)];unfold Oper.wp;go_simp
   exact ⟨upd f 12 (.bool (decide (8 < h2))),by simp [upd,g],zf (U xw) (U HD) (by decide) rfl⟩
  | n + 13,Z=>simp at Z
def aV (l:List Od) (sd:Int):Option Od:=(quOf (decide (sd = 1)) (zA l sd)).head?
def matL (c:Cm) (id:Int):Nat→List Od→Int→List Ev→List Od × Int × List Ev
 | 0,l,left,ts=>(l,left,ts)
 | n + 1,l,left,ts =>
  if 0 < left then
   match aV l (othS c.s) with
   | none=>(l,left,ts)
   | some o=>if bz c o = true then matL c id n (aM l (plc l o.id).toNat o (min left o.left)) (left - min left o.left) (ts ++ [trE id o.id (min left o.left) o.ticks]) else (l,left,ts)
  else (l,left,ts)
structure GoodL (l:List Od):Prop where
 len:l.length ≤ 20
 left:∀ o ∈ l,0 < o.left∧o.left ≤ 1000000
 rise:bu l
theorem dO {l:List Od} {sd:Int} {o:Od} (h:aV l sd = some o):o ∈ l∧o.side = sd:=by
 have Q:o ∈ quOf (decide (sd = 1)) (zA l sd):=List.mem_of_head? h
 obtain ⟨k,_,N⟩:=List.mem_flatMap.1 Q
 have h3:=(List.mem_filter.1 N).1
 have h4:=List.mem_filter.1 h3
 exact ⟨h4.1,by simpa using h4.2⟩
theorem rise_id {l:List Od} (hr:bu l) {i k:Nat} {o o':Od} (hi:l[i]? = some o') (hk:l[k]? = some o) (he:o'.id = o.id):i = k:=by
 obtain ⟨Q,rfl⟩:=yH.1 hi
 obtain ⟨N,rfl⟩:=yH.1 hk
 rcases Nat.lt_trichotomy i k with h | h | h
 ·have:=List.pairwise_iff_getElem.1 hr i k Q N h; omega
 ·exact h
 ·have:=List.pairwise_iff_getElem.1 hr k i N Q h; omega
theorem plc_at {l:List Od} (hr:bu l) {k:Nat} {o:Od} (hk:l[k]? = some o):plc l o.id = k:=by
 rcases plcF_spec o.id l 0 with ⟨_,N⟩ | ⟨i,o',Q,N,h3,_⟩
 ·exact absurd rfl (N o (yP hk))
 ·rw [plc,Q,rise_id hr N hk h3]; congr 1; omega
theorem dv {l:List Od} (h:GoodL l) {k:Nat} {o:Od} (hk:l[k]? = some o) {qty:Int} (h0:0 ≤ qty) (Q:qty ≤ o.left):GoodL (aM l k o qty)∧((aM l k o qty).length + 1 = l.length ∨ (qty < o.left∧(aM l k o qty).length = l.length)):=by
 have kN:=(yH.1 hk).1
 by_cases he:o.left = qty
 ·have e:aM l k o qty = l.take k ++ l.drop (k + 1):=if_pos he
  rw [e]
  have hs:(l.take k ++ l.drop (k + 1)).Sublist l:=by
   have:(l.take k ++ l.drop (k + 1)).Sublist (l.take k ++ l.drop k):=List.Sublist.append (List.Sublist.refl _) (by rw [drop_get hk]; exact List.sublist_cons_self _ _)
   rwa [List.take_append_drop] at this
  refine ⟨⟨yO hs.length_le h.len,fun o' vB=>h.left o' (hs.subset vB),h.rise.sublist hs⟩,.inl ?_⟩
  simp; omega
 ·have e:aM l k o qty = l.set k { o with left:=o.left - qty }:=if_neg he
  rw [e]
  have Z:=h.left o (yP hk)
  refine ⟨⟨by rw [List.length_set]; exact h.len,fun o' vB=>?_,?_⟩,.inr ⟨by omega,by rw [List.length_set]⟩⟩
  ·rcases List.mem_or_eq_of_mem_set vB with N | rfl
   ·exact h.left o' N
   ·simp only; omega
  ·refine List.pairwise_iff_getElem.2 fun i j hi R pI=>?_
   rw [List.length_set] at hi R
   have hp:=List.pairwise_iff_getElem.1 h.rise i j hi R pI
   have hko:l[k] = o:=by have:=(yH.1 hk).2; exact this
   rw [List.getElem_set,List.getElem_set]
   split <;> split
   ·omega
   ·next N _=>subst N; rw [hko] at hp; exact hp
   ·next _ N=>subst N; rw [hko] at hp; exact hp
   ·exact hp
structure MI (c:Cm) (id:Int) (ty:List Od × Int × List Ev) (l:List Od) (left:Int) (ts:List Ev):Prop where
 good:GoodL l
 l0:0 ≤ left
 l1:left ≤ 1000000
 few:ts.length ≤ 21
 some:0 < left→ts.length + l.length ≤ 20
 goal:∃ n,matL c id n l left ts = ty∧(0 < left→l.length < n)
theorem matL_end {c:Cm} {id:Int} {n:Nat} {l:List Od} {left:Int} {ts:List Ev} (h:left ≤ 0):matL c id n l left ts = (l,left,ts):=by
 cases n with
 | zero=>rfl
 | succ n=>rw [matL,if_neg (by omega)]
theorem mi_start {c:Cm} {id:Int} {l:List Od} {left:Int} (h:GoodL l) (h0:0 ≤ left) (Q:left ≤ 1000000):MI c id (matL c id 21 l left []) l left [] :=
 ⟨h,h0,Q,by simp,fun _=>by simpa using h.len,21,rfl,fun _=>by have:=h.len; omega⟩
theorem mi_none {c:Cm} {id:Int} {ty:List Od × Int × List Ev} {l:List Od} {left:Int} {ts:List Ev} (h:MI c id ty l left ts) (hf:aV l (othS c.s) = none):ty = (l,left,ts):=by
 obtain ⟨n,rfl,hn⟩:=h.goal
 by_cases h0:0 < left
 ·obtain ⟨m,rfl⟩:∃ m,n = m + 1:=⟨n - 1,by have:=hn h0; omega⟩
  rw [matL,if_pos h0,hf]
 ·exact matL_end (by omega)
theorem mi_stop {c:Cm} {id:Int} {ty:List Od × Int × List Ev} {l:List Od} {left:Int} {ts:List Ev} (h:MI c id ty l left ts) {o:Od} (hf:aV l (othS c.s) = some o) (hm:bz c o = false):ty = (l,left,ts):=by
 obtain ⟨n,rfl,hn⟩:=h.goal
 by_cases h0:0 < left
 ·obtain ⟨m,rfl⟩:∃ m,n = m + 1:=⟨n - 1,by have:=hn h0; omega⟩
  rw [matL,if_pos h0,hf]
  simp only [hm]
  rw [if_neg (by simp)]
 ·exact matL_end (by omega)
theorem mi_done {c:Cm} {id:Int} {ty:List Od × Int × List Ev} {l:List Od} {left:Int} {ts:List Ev} (h:MI c id ty l left ts) (h0:¬ 0 < left):ty = (l,left,ts):=by
 obtain ⟨n,rfl,hn⟩:=h.goal
 exact matL_end (by omega)
theorem mi_step {c:Cm} {id:Int} {ty:List Od × Int × List Ev} {l:List Od} {left:Int} {ts:List Ev} (h:MI c id ty l left ts) (h0:0 < left) {o:Od} (hf:aV l (othS c.s) = some o) (hm:bz c o = true) :
  ∃ k,plc l o.id = (k:Nat)∧l[k]? = some o∧MI c id ty (aM l k o (min left o.left)) (left - min left o.left) (ts ++ [trE id o.id (min left o.left) o.ticks])∧2 * (aM l k o (min left o.left)).length + (if 0 < left - min left o.left then 1 else 0) < 2 * l.length + 1:=by
 obtain ⟨vD,_⟩:=dO hf
 obtain ⟨k,hk⟩:=List.getElem?_of_mem vD
 have hp:=plc_at h.good.rise hk
 have Z:=h.good.left o vD
 have Q:=h.l1
 have hs:=h.some h0
 obtain ⟨hg,hl⟩:=dv h.good hk (qty:=min left o.left) (by omega) (by omega)
 obtain ⟨n,hF,hn⟩:=h.goal
 obtain ⟨m,rfl⟩:∃ m,n = m + 1:=⟨n - 1,by have:=hn h0; omega⟩
 have hn:=hn h0
 rw [matL,if_pos h0,hf] at hF
 simp only [hm,if_true] at hF
 rw [hp,Int.toNat_natCast] at hF
 refine ⟨k,hp,hk,⟨hg,by omega,by omega,?_,fun xL=>?_,m,hF,fun xL=>?_⟩,?_⟩
 ·rw [yQ]; simp only [List.length_cons,List.length_nil]; omega
 ·rw [yQ]; simp only [List.length_cons,List.length_nil]; omega
 ·omega
 ·split <;> omega
end Go.Proofs.YtbakanofkghmiaaGreat
