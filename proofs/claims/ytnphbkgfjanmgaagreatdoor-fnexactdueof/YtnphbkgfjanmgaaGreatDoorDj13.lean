/-
  What is left of the taker laid behind the others, by the program: proved by walking the method.
-/
import Derived.Test.YtnphbkgfjanmgaaGreatDoorDj12
set_option linter.unusedVariables false
set_option maxHeartbeats 6400000
set_option maxRecDepth 100000
namespace Go.Proofs.YtnphbkgfjanmgaaGreatDoor
open Go.RowKit
theorem one_od (o:Od):∀ u ∈ o.vs,u.oneCell' = true:=by
 intro u hu
 simp [Od.vs] at hu
 rcases hu with rfl | rfl | rfl | rfl | rfl | rfl <;> rfl
def DR (mb B:Nat) (W0:World) (vq:Value) (l:List Od) (t:Od) (p q:Prop) (hj:World):Nat→Value→Prop
 | 0,v=>v = J mb 0
 | 1,v=>v = J mb 0
 | 2,v=>v = J mb 0
 | 3,v=>v = J mb 0
 | 4,v=>v = J mb 1
 | 5,v=>v = vq
 | 6,v=>v = J mb 0
 | 7,v=>v = J mb 0
 | 8,v=>v = J mb 2
 | 9,v=>v = .agg (yx t.id t.side t.ticks t.left t.life t.tag).toArray
 | 10,v=>∃ s,v = .slice (some (Q s 0)) 1 1∧(¬ p→∀ j u,t.vs[j]? = some u→hj.cell? (((Q s 0):Addr).add j) = some u)
 | 11,v=>∃ a c,v = .slice a (l.length + 1) c∧p∧(¬ q→ORow hj B v (l ++ [t])∧W0.grownBy hj vq.ownBlock)∧(q→hj.cell? (Q mb 1) = some v∧ORow hj B v (l ++ [t])∧TookAt mb 0 vq.ownBlock W0 hj)
 | 12,v=>v = J mb 0
 | 13,v=>v = J mb 0
 | 14,v=>v = J mb 1
 | _,_=>True
section
variable {mb B:Nat} {W0 hj V':World} {vq:Value} {l:List Od} {t:Od} {p q:Prop}
theorem dr_alloc {o:Obj} (hp:¬ p):∀ j v,DR mb B W0 vq l t p q hj j v→DR mb B W0 vq l t p q (hj.alloc o) j v:=by
 intro j v h
 match j with
 | 0 | 1 | 2 | 3 | 4 | 5 | 6 | 7 | 8 | 9 | 12 | 13 | 14=>exact h
 | 10 =>
  obtain ⟨s,N,Y⟩:=h
  exact ⟨s,N,fun hp j u hu=>(yW _ _ _ (yL hj _ (Y hp j u hu))).trans (Y hp j u hu)⟩
 | 11=>obtain ⟨_,_,_,Y,_⟩:=h; exact absurd Y hp
 | j + 15=>trivial
theorem dr_one:∀ j v,j ≠ 11→DR mb B W0 vq l t False False hj j v→DR mb B W0 vq l t True False V' j v:=by
 intro j v V h
 match j with
 | 0 | 1 | 2 | 3 | 4 | 5 | 6 | 7 | 8 | 9 | 12 | 13 | 14=>exact h
 | 10 =>
  obtain ⟨s,N,Y⟩:=h
  exact ⟨s,N,fun hp=>absurd trivial hp⟩
 | 11=>exact absurd rfl V
 | j + 15=>trivial
theorem dr_two {v:Value}:∀ j,j ≠ 15→DR mb B W0 vq l t True False hj j v→(j = 11→DR mb B W0 vq l t True True V' 11 v)→DR mb B W0 vq l t True True V' j v:=by
 intro j V h uR
 match j with
 | 0 | 1 | 2 | 3 | 4 | 5 | 6 | 7 | 8 | 9 | 12 | 13 | 14=>exact h
 | 10 =>
  obtain ⟨s,N,Y⟩:=h
  exact ⟨s,N,fun hp=>absurd trivial hp⟩
 | 11=>exact uR rfl
 | j + 15=>trivial
end
theorem matS_took {mb B:Nat} {W w':World} {next:Int} {vq uE:Value} {l l':List Od} {t:Od} {vt:Value} {ts:List Ev} (h:MatS mb B W next vq l t vt ts) (ht:TookAt mb 0 vq.ownBlock W w') (hc:w'.cell? (Q mb 1) = some uE) (Z:ORow w' B uE l'):MatS mb B w' next uE l' t vt ts:=by
 have xt:∀ j,j ≠ 1→w'.cell? (Q mb j) = W.cell? (Q mb j):=fun j N=>ht.cell j (by omega)
 refine ⟨?_,fun j V=>⟨?_,?_⟩,Z,row_took h.erow ht h.nt (eM h.erow h.orow (by decide)),by obtain ⟨xF,hc⟩:=h.box; exact ht.kind _ _ _ hc,yO h.le ht.size⟩
 ·intro j u V
  by_cases N:j = 1
  ·subst N; cases V; exact hc
  ·rw [Nat.zero_add,xt j N]
   have:W.cell? (Q mb (0 + j)) = some u:=h.cells j u (by
    rcases j with _ | _ | j
    ·exact V
    ·exact absurd rfl N
    ·exact V)
   rwa [Nat.zero_add] at this
 ·by_cases N:j = 1
  ·subst N; rw [Nat.zero_add,hc]; rfl
  ·rw [Nat.zero_add,xt j N]; have:=(h.there j V).1; rwa [Nat.zero_add] at this
 ·rw [Nat.zero_add,ht.frozen]; have:=(h.there j V).2; rwa [Nat.zero_add] at this
theorem rest_any (mb B:Nat) (next:Int) (vq:Value) (l:List Od) (t:Od) (vt:Value) (ts:List Ev) (w:World) (h:MatS mb B w next vq l t vt ts) (hn:l.length ≤ 1000) :
  Calls Tryz.prog 212 #[J mb 0] w fun e w'=>∃ uE,e = yn (.tuple #[])∧MatS mb B w' next uE (l ++ [t]) t vt ts∧KeptBut mb B w w':=by
 have HM:=H h
 have hmw:=h.lt
 have vW:=h.le
 have hnq:=h.nq
 have qB:=H h.box
 have HORO:=H h.orow
 have hM:=H h.cells
 have au:Hid (w.cell? (Q mb 1) = some vq):=U hM 1 _ rfl
 have HF1:Hid (w.frozen? (Q mb 1) = false):=by have:=(h.there 1 (by omega)).2; rwa [Nat.zero_add] at this
 clear h
 obtain ⟨i0,vA,uH,uI,uW⟩:=info_parts Tryz.infoOrder
 go_enter Tryz.func212,Tryz.ntmps212
 go_wp2_with fail
 refine zm (RT (fun hj=>yp w hj) (fun f=>{ tmps:=#[J mb 0,M,f 0,f 1,f 2,f 3,f 4,f 5,f 6,f 7,f 8,f 9,f 10,f 11,f 12,f 13,f 14],defers:=[] }) 11 15 (DR mb B w vq l t)) (by kernel_rfl) ?_ ?_ ?_
 ·exact ⟨fun _=>M,rfl,fun _=>⟨rfl,rfl,rfl,Nat.le_refl _,fun _ _=>rfl⟩,fun j V=>by rw [yJ] at V; split at V <;> simp at V⟩
 ·rintro x cs hj ⟨f,rfl,-,hD⟩ hx xO
  have xq:=zN xO hx (acyc _ (by kernel_rfl))
  have aj:x[11]? = some true:=xq 11 (by simp)
  have qz:x[15]? = some true:=xq 15 (by simp)
  obtain ⟨va,vc,-,-,-,qy⟩:=hD 11 aj
  obtain ⟨q1,q2,q3⟩:=qy qz
  have jk:Hid (_∧_∧_):=⟨q1,q2,q3⟩
  clear hD xq xO hx aj qz qy q1 q2 q3
  dsimp only
  go_wp2_with fail
  go_end0
  exact ⟨_,rfl,matS_took (U HM) (U jk).2.2 (U jk).1 (U jk).2.1,kept_took (U jk).2.2 vW (fun g hg=>((U HORO).lt g hg).1)⟩
 ·rintro x cs hj i op ⟨f,rfl,pu,hD⟩ X hx Z xr D
  have qc:=H pu
  have HD:=H hD
  have xm:∀ b o u,w.cell? (Q b o) = some u→¬ x[11]? = some true→hj.cell? (Q b o) = some u:=fun b o u hu hn11=>((U qc hn11).cell (p:=(Q b o)) (yL w _ hu)).trans hu
  have n11':i < 11→0 < i→¬ x[11]? = some true:=fun xJ qJ uR=>by
   have h5:=yh X 11 rfl uR 5 rfl
   have uV:=yh X 11 rfl uR 10 rfl
   have h4:=yh X 5 rfl h5 4 rfl
   have h9:=yh X 10 rfl uV 9 rfl
   have h3:=yh X 4 rfl h4 3 rfl
   have h8:=yh X 9 rfl h9 8 rfl
   have Y:=yh X 3 rfl h3 2 rfl
   have h7:=yh X 8 rfl h8 7 rfl
   have N:=yh X 2 rfl Y 1 rfl
   have h6:=yh X 7 rfl h7 6 rfl
   have vK:∀ j,0 < j→j < 11→x[j]? = some true:=fun j hj0 V=>by
    rcases (by omega:j = 1 ∨ j = 2 ∨ j = 3 ∨ j = 4 ∨ j = 5 ∨ j = 6 ∨ j = 7 ∨ j = 8 ∨ j = 9 ∨ j = 10) with rfl | rfl | rfl | rfl | rfl | rfl | rfl | rfl | rfl | rfl <;> assumption
   rw [vK i qJ xJ] at xr; cases xr
  have n15':i < 15→¬ x[15]? = some true:=fun xJ vR=>by
   have oD:=yh X 15 rfl vR 14 rfl
   have uR:=yh X 15 rfl vR 11 rfl
   have jN:=yh X 14 rfl oD 13 rfl
   have h5:=yh X 11 rfl uR 5 rfl
   have uV:=yh X 11 rfl uR 10 rfl
   have uK:=yh X 13 rfl jN 12 rfl
   have h4:=yh X 5 rfl h5 4 rfl
   have h9:=yh X 10 rfl uV 9 rfl
   have h0:=yh X 12 rfl uK 0 rfl
   have h3:=yh X 4 rfl h4 3 rfl
   have h8:=yh X 9 rfl h9 8 rfl
   have Y:=yh X 3 rfl h3 2 rfl
   have h7:=yh X 8 rfl h8 7 rfl
   have N:=yh X 2 rfl Y 1 rfl
   have h6:=yh X 7 rfl h7 6 rfl
   have vK:∀ j,j < 15→x[j]? = some true:=fun j V=>by
    rcases (by omega:j = 0 ∨ j = 1 ∨ j = 2 ∨ j = 3 ∨ j = 4 ∨ j = 5 ∨ j = 6 ∨ j = 7 ∨ j = 8 ∨ j = 9 ∨ j = 10 ∨ j = 11 ∨ j = 12 ∨ j = 13 ∨ j = 14) with rfl | rfl | rfl | rfl | rfl | rfl | rfl | rfl | rfl | rfl | rfl | rfl | rfl | rfl | rfl <;> assumption
   rw [vK i xJ] at xr; cases xr
  clear X pu
  match i,Z with
  | 0,Z | 1,Z | 6,Z =>
   obtain rfl:=yc Z
   clear D hD
   rw [if_pos (by rfl)];unfold Oper.wp;go_simp
   exact ⟨upd f _ (J mb 0),by simp [upd],zT (U HD) (by decide) (by decide) (fun _ _ h=>h) (U qc) rfl⟩
  | 2,Z =>
   obtain rfl:=yc Z
   have g:f 1 = J mb 0:=hD 1 (yf D 1 rfl)
   clear D hD
   rw [if_pos (by rfl)];unfold Oper.wp;go_simp
   exact ⟨upd f 2 (J mb 0),by simp [upd,g],zT (U HD) (by decide) (by decide) (fun _ _ h=>h) (U qc) rfl⟩
  | 3,Z =>
   obtain rfl:=yc Z
   have g:f 2 = J mb 0:=hD 2 (yf D 2 rfl)
   clear D hD
   rw [if_pos (by rfl)];unfold Oper.wp;go_simp
   exact ⟨upd f 3 (J mb 0),by simp [upd,g],zT (U HD) (by decide) (by decide) (fun _ _ h=>h) (U qc) rfl⟩
  | 4,Z =>
   obtain rfl:=yc Z
   have g:f 3 = J mb 0:=hD 3 (yf D 3 rfl)
   clear D hD
   rw [if_pos (by rfl)];unfold Oper.wp;go_simp
   exact ⟨upd f 4 (J mb 1),by simp [upd,g],zT (U HD) (by decide) (by decide) (fun _ _ h=>h) (U qc) rfl⟩
  | 5,Z =>
   obtain rfl:=yc Z
   have g:f 4 = J mb 1:=hD 4 (yf D 4 rfl)
   have qM:=n11' (by omega) (by omega)
   have y1:=xm mb 1 _ (U au) qM
   clear D hD
   rw [if_pos (by rfl)];unfold Oper.wp;go_simp
   exact ⟨upd f 5 (vq),by simp [upd,g],zT (U HD) (by decide) (by decide) (fun _ _ h=>h) (U qc) rfl⟩
  | 7,Z =>
   obtain rfl:=yc Z
   have g:f 6 = J mb 0:=hD 6 (yf D 6 rfl)
   clear D hD
   rw [if_pos (by rfl)];unfold Oper.wp;go_simp
   exact ⟨upd f 7 (J mb 0),by simp [upd,g],zT (U HD) (by decide) (by decide) (fun _ _ h=>h) (U qc) rfl⟩
  | 8,Z =>
   obtain rfl:=yc Z
   have g:f 7 = J mb 0:=hD 7 (yf D 7 rfl)
   clear D hD
   rw [if_pos (by rfl)];unfold Oper.wp;go_simp
   exact ⟨upd f 8 (J mb 2),by simp [upd,g],zT (U HD) (by decide) (by decide) (fun _ _ h=>h) (U qc) rfl⟩
  | 9,Z =>
   obtain rfl:=yc Z
   have g:f 8 = J mb 2:=hD 8 (yf D 8 rfl)
   have qM:=n11' (by omega) (by omega)
   have y2:=xm mb 2 _ (U hM 2 _ rfl) qM
   have y3:=xm mb 3 _ (U hM 3 _ rfl) qM
   have y4:=xm mb 4 _ (U hM 4 _ rfl) qM
   have y5:=xm mb 5 _ (U hM 5 _ rfl) qM
   have y6:=xm mb 6 _ (U hM 6 _ rfl) qM
   have y7:=xm mb 7 _ (U hM 7 _ rfl) qM
   clear D hD
   rw [if_pos (by rfl)];unfold Oper.wp;go_simp
   exact ⟨upd f 9 (.agg (yx t.id t.side t.ticks t.left t.life t.tag).toArray),by simp [upd,g],zT (U HD) (by decide) (by decide) (fun _ _ h=>h) (U qc) rfl⟩
  | 10,Z =>
   obtain rfl:=yc Z
   have g:f 9 = .agg (yx t.id t.side t.ticks t.left t.life t.tag).toArray:=hD 9 (yf D 9 rfl)
   have qM:=n11' (by omega) (by omega)
   have vj:=U qc qM
   clear D hD
   rw [if_pos (by rfl)];unfold Oper.wp;go_simp
   refine ⟨upd f 10 (.slice (some (yr hj 0)) 1 1),by simp [upd,g],zT (U HD) (by decide) (by decide) (dr_alloc qM) (fun _=>vj.alloc vj.size _) ⟨hj.heap.size,rfl,fun _=>?_⟩⟩
   exact fun j u h=>cellsQ hj t.vs 78 j u h
  | 11,Z =>
   obtain rfl:=yc Z
   have g5:f 5 = vq:=hD 5 (yf D 5 rfl)
   obtain ⟨s,qn,kp⟩:=hD 10 (yf D 10 rfl)
   have qM:¬ x[11]? = some true:=by rw [xr]; simp
   have n15:=n15' (by omega)
   have vj:=U qc qM
   have uG:ORow hj B vq l:=zM (U HORO) vj
   rw [if_pos (by rfl)]
   refine wp_append_own hj (.tmp 7) (.tmp 12) 32 rfl B 78 i0 _ 6 56 Tryz.underlying32 vA uH uI uW rfl (by decide) vq l.length (l.flatMap Od.vs) g5 uG (Q s 0) 1 1 t.vs qn rfl (kp qM) (one_od t) (by unfold maxLen; omega) (by omega) (by have:=vj.size; omega) ?_
   intro v' w' xS vG _
   obtain ⟨ga,gc,rfl⟩:=row_sliceT xS (by omega)
   refine ⟨upd f 11 (.slice (some (Q ga 0)) (l.length + 1) gc),rfl,rt_one (by decide) (U HD) xr n15 (fun j v V h=>dr_one j v V h) ⟨some (Q ga 0),gc,rfl,trivial,fun _=>⟨?_,?_⟩,fun h=>h.elim⟩⟩
   ·show World.ownsRow _ _ _ _ _ (l ++ [t]).length _
    rw [yQ,List.flatMap_append]; simpa using xS
   ·exact (cD vj yb).trans vG
  | 12,Z =>
   obtain rfl:=yc Z
   have g:f 0 = J mb 0:=hD 0 (yf D 0 rfl)
   clear D hD
   rw [if_pos (by rfl)];unfold Oper.wp;go_simp
   exact ⟨upd f 12 (J mb 0),by simp [upd,g],zT (U HD) (by decide) (by decide) (fun _ _ h=>h) (U qc) rfl⟩
  | 13,Z =>
   obtain rfl:=yc Z
   have g:f 12 = J mb 0:=hD 12 (yf D 12 rfl)
   clear D hD
   rw [if_pos (by rfl)];unfold Oper.wp;go_simp
   exact ⟨upd f 13 (J mb 0),by simp [upd,g],zT (U HD) (by decide) (by decide) (fun _ _ h=>h) (U qc) rfl⟩
  | 14,Z =>
   obtain rfl:=yc Z
   have g:f 13 = J mb 0:=hD 13 (yf D 13 rfl)
   clear D hD
   rw [if_pos (by rfl)];unfold Oper.wp;go_simp
   exact ⟨upd f 14 (J mb 1),by simp [upd,g],zT (U HD) (by decide) (by decide) (fun _ _ h=>h) (U qc) rfl⟩
  | 15,Z =>
   obtain rfl:=yc Z
   have je:f 14 = J mb 1:=hD 14 (yf D 14 rfl)
   have aj:x[11]? = some true:=D ⟨11,.data⟩ (by simp) rfl
   have n15:¬ x[15]? = some true:=by rw [xr]; simp
   obtain ⟨ga,gc,vE,-,hfa,-⟩:=hD 11 aj
   obtain ⟨her,vG⟩:=hfa n15
   have ot:some mb ≠ vq.ownBlock:=hnq
   have y1:=vG.cell (U au) ot
   have f1:hj.frozen? (Q mb 1) = false:=(World.frozen?_of_block (a:=(Q mb 1)) (vG.block mb (by omega) ot)).trans (U HF1)
   have ar:=H (vE ▸ her)
   have HBXV:Hid (∃ xF,hj.heap[mb]? = some (.cells xF 254 (0,0))):=by obtain ⟨xF,hc⟩:=U qB; exact ⟨xF,(vG.block mb (by omega) ot).trans hc⟩
   have HGR:=H vG
   clear D hD her vG hfa
   rw [if_pos (by rfl)];unfold Oper.wp;go_simp
   refine ⟨upd f 15 M,by simp [upd,je,vE],rt_two (by decide) (U HD) aj xr (fun j V hxj h=>dr_two j V h (fun hj11=>?_)) trivial⟩
   subst hj11
   obtain ⟨-,-,-,-,-,-⟩:=h
   refine ⟨ga,gc,vE,trivial,fun h=>absurd trivial h,fun _=>?_⟩
   rw [vE]
   refine ⟨yN _ _ _ y1,bd (U ar) (bU (U ar) (U HBXV) (by decide)) 1 _,?_⟩
   exact dh (cO (U HGR) (by omega) ot) (took_set (o:=0) _ _)
  | i + 16,Z=>simp at Z
def fullB (l:List Od):Bool:=if 20 < l.length then true else decide (8 < ((aU true 1 (zt l 1)).length:Int) + (aU false 2 (zt l 2)).length)
def DF (mb:Nat) (BV:Value) (q1 q2:List Od) (h1:Int) (p:Prop) (W:World):Nat→Value→Prop
 | 0,v=>v = J mb 0
 | 1,v=>v = J mb 0
 | 2,v=>v = J mb 0
 | 3,v=>v = BV
 | 4,v=>∃ b,v = bE b∧Tb W b q1
 | 5,v=>v = J mb 0
 | 6,v=>v = J mb 0
 | 7,v=>v = J mb 0
 | 8,v=>v = BV
 | 9,v=>∃ b,v = bF b∧Ts W b q2
 | 10,v=>v = I h1
 | 11,v=>v = .bool (decide (8 < h1))
 | 12,v=>v = .bool (decide (8 < h1))
 | _,_=>True
theorem df_mono {mb:Nat} {BV:Value} {q1 q2:List Od} {h1:Int}:∀ p W W' j v,yp W W'→DF mb BV q1 q2 h1 p W j v→DF mb BV q1 q2 h1 p W' j v:=by
 intro p W W' j v E h
 match j with
 | 0 | 1 | 2 | 3 | 5 | 6 | 7 | 8 | 10 | 11 | 12=>exact h
 | 4=>obtain ⟨b,N,Y⟩:=h; exact ⟨b,N,zu Y (E.block _ (zH Y))⟩
 | 9=>obtain ⟨b,N,Y⟩:=h; exact ⟨b,N,zu Y (E.block _ (zH Y))⟩
 | n + 13=>trivial
theorem isTooFull_any (mb B:Nat) (next:Int) (vq:Value) (l:List Od) (t:Od) (vt:Value) (ts:List Ev) (w:World) (h:MatS mb B w next vq l t vt ts) (hm:l.length ≤ 1000) (hl:∀ o' ∈ l,0 ≤ o'.left∧o'.left ≤ 1000000) :
  Calls Tryz.prog 213 #[J mb 0] w fun e w'=>e = yn (.bool (fullB l))∧yp w w':=by
 have hmw:=h.lt
 have vW:=h.le
 have HR:=H (zK h.orow (by omega))
 obtain ⟨a,cap,rfl,_,_⟩:=zK h.orow (by omega)
 have HM:=H h.cells
 have z0:w.cell? (Q mb 0) = some (I next):=h.cells 0 _ rfl
 have z1:w.cell? (Q mb 1) = some (.slice a l.length cap):=h.cells 1 _ rfl
 have HLB:=H hl
 clear h hl
 go_enter Tryz.func213,Tryz.ntmps213
 by_cases h20:20 < l.length
 ·have h20':(20:Int) < l.length:=by omega
  have HF:Hid (fullB l = true):=if_pos h20
  clear h20
  go_wp2_with fail
  go_ret
  exact ⟨zp (U HF).symm,Below.refl _ _⟩
 have h20':¬ (20:Int) < l.length:=by omega
 have hn:l.length ≤ 20:=by omega
 have n1:(zt l 1).length ≤ 20:=yO (List.length_filter_le _ _) hn
 have n2:(zt l 2).length ≤ 20:=yO (List.length_filter_le _ _) hn
 generalize hN:((aU true 1 (zt l 1)).length:Int) + (aU false 2 (zt l 2)).length = h1
 have HF:Hid (fullB l = decide (8 < h1)):=by show _ = _; rw [fullB,if_neg h20,hN]
 have HNN:=H hN
 clear hN h20
 go_wp2_with fail
 clear z0 z1
 refine zm (RG w (fun f=>{ tmps:=#[J mb 0,M,f 12,J mb 0,J mb 0,J mb 0,J mb 1,.slice a l.length cap,I l.length,.bool false,f 0,f 1,f 2,f 3,f 4,f 5,f 6,f 7,f 8,f 9,f 10,f 11],defers:=[] }) 99 (DF mb (.agg #[I next,.slice a l.length cap]) (zt l 1) (zt l 2) h1)) (by kernel_rfl) ?_ ?_ ?_
 ·exact ⟨fun j=>if j = 12 then .bool false else M,rfl,⟨rfl,rfl,rfl,Nat.le_refl _,fun _ _=>rfl⟩,fun j V=>by rw [yJ] at V; split at V <;> simp at V⟩
 ·rintro x cs hj ⟨f,rfl,xl,hD⟩ hx xO
  have xq:=zN xO hx (acyc _ (by kernel_rfl))
  have vQ:f 12 = .bool (decide (8 < h1)):=hD 12 (xq 12 (by simp))
  have xE:=H xl
  simp only [vQ]
  clear hD xq vQ xO hx xl
  go_wp2_with fail
  go_ret
  exact ⟨zp (U HF).symm,U xE⟩
 ·rintro x cs hj i o ⟨f,rfl,xl,hD⟩ X hx Z xr D
  clear X
  have xE:=H xl
  have HD:=H hD
  have z0:=zc (U HM) xl hmw 0 _ rfl
  have z1:=zc (U HM) xl hmw 1 _ rfl
  rw [Nat.zero_add] at z0 z1
  have uN:=H (zh (U HR) xl yb)
  match i,Z with
  | 0,Z | 5,Z =>
   obtain rfl:=yc Z
   clear D hD xl
   rw [if_pos (by rfl)];unfold Oper.wp;go_simp
   exact ⟨upd f _ (J mb 0),by simp [upd],zg (U xE) (U HD) (by decide) rfl⟩
  | 1,Z =>
   obtain rfl:=yc Z
   have g:f 0 = J mb 0:=hD 0 (yf D 0 rfl)
   clear D hD xl
   rw [if_pos (by rfl)];unfold Oper.wp;go_simp
   exact ⟨upd f 1 (J mb 0),by simp [upd,g],zg (U xE) (U HD) (by decide) rfl⟩
  | 2,Z =>
   obtain rfl:=yc Z
   have g:f 1 = J mb 0:=hD 1 (yf D 1 rfl)
   clear D hD xl
   rw [if_pos (by rfl)];unfold Oper.wp;go_simp
   exact ⟨upd f 2 (J mb 0),by simp [upd,g],zg (U xE) (U HD) (by decide) rfl⟩
  | 3,Z =>
   obtain rfl:=yc Z
   have g:f 2 = J mb 0:=hD 2 (yf D 2 rfl)
   clear D hD xl
   rw [if_pos (by rfl)];unfold Oper.wp;go_simp
   exact ⟨upd f 3 (.agg #[I next,.slice a l.length cap]),by simp [upd,g],zg (U xE) (U HD) (by decide) rfl⟩
  | 4,Z =>
   obtain rfl:=yc Z
   have g:f 3 = .agg #[I next,.slice a l.length cap]:=hD 3 (yf D 3 rfl)
   clear D hD xl
   rw [if_pos (by rfl)];unfold Oper.wp;go_simp
   refine (eP next _ l hj (U uN) hn (U HLB)).mono ?_
   rintro e w4 ⟨b,rfl,ht,qj,xy⟩
   exact ⟨upd f 4 (bE b),by simp [upd,g],rg_grow df_mono (U xE) (U HD) xy (by decide) ⟨b,rfl,ht⟩⟩
  | 6,Z =>
   obtain rfl:=yc Z
   have g:f 5 = J mb 0:=hD 5 (yf D 5 rfl)
   clear D hD xl
   rw [if_pos (by rfl)];unfold Oper.wp;go_simp
   exact ⟨upd f 6 (J mb 0),by simp [upd,g],zg (U xE) (U HD) (by decide) rfl⟩
  | 7,Z =>
   obtain rfl:=yc Z
   have g:f 6 = J mb 0:=hD 6 (yf D 6 rfl)
   clear D hD xl
   rw [if_pos (by rfl)];unfold Oper.wp;go_simp
   exact ⟨upd f 7 (J mb 0),by simp [upd,g],zg (U xE) (U HD) (by decide) rfl⟩
  | 8,Z =>
   obtain rfl:=yc Z
   have g:f 7 = J mb 0:=hD 7 (yf D 7 rfl)
   clear D hD xl
   rw [if_pos (by rfl)];unfold Oper.wp;go_simp
   exact ⟨upd f 8 (.agg #[I next,.slice a l.length cap]),by simp [upd,g],zg (U xE) (U HD) (by decide) rfl⟩
  | 9,Z =>
   obtain rfl:=yc Z
   have g:f 8 = .agg #[I next,.slice a l.length cap]:=hD 8 (yf D 8 rfl)
   clear D hD xl
   rw [if_pos (by rfl)];unfold Oper.wp;go_simp
   refine (ez next 2 (by omega) _ l hj (U uN) hn (U HLB)).mono ?_
   rintro e w4 ⟨b,rfl,ht,qj,xy⟩
   exact ⟨upd f 9 (bF b),by simp [upd,g],rg_grow df_mono (U xE) (U HD) xy (by decide) ⟨b,rfl,ht⟩⟩
  | 10,Z =>
   obtain rfl:=yc Z
   obtain ⟨b1,g4,t4⟩:=hD 4 (yf D 4 rfl)
   obtain ⟨b2,g9,t9⟩:=hD 9 (yf D 9 rfl)
   have HT4:=H t4
   have HT9:=H t9
   clear D hD xl t4 t9
   rw [if_pos (by rfl)];unfold Oper.wp;go_simp
   refine (fq b1 b2 1 2 (zt l 1) (zt l 2) hj (U HT4) (U HT9) n1 n2).mono ?_
   rw [U HNN]
   rintro e w4 ⟨rfl,xy⟩
   exact ⟨upd f 10 (I h1),by simp [upd,g4,g9],rg_grow df_mono (U xE) (U HD) xy (by decide) rfl⟩
  | 11,Z =>
   obtain rfl:=yc Z
   have g:f 10 = I h1:=hD 10 (yf D 10 rfl)
   clear D hD xl
   rw [if_pos (by rfl)];unfold Oper.wp;go_simp
   exact ⟨upd f 11 (.bool (decide (8 < h1))),by simp [upd,g],zg (U xE) (U HD) (by decide) rfl⟩
  | 12,Z =>
   obtain rfl:=yc Z
   have g:f 11 = .bool (decide (8 < h1)):=hD 11 (yf D 11 rfl)
   clear D hD xl
   rw [if_pos (by rfl)];unfold Oper.wp;go_simp
   exact ⟨upd f 12 (.bool (decide (8 < h1))),by simp [upd,g],zg (U xE) (U HD) (by decide) rfl⟩
  | n + 13,Z=>simp at Z
def aR (l:List Od) (sd:Int):Option Od:=(quOf (decide (sd = 1)) (zt l sd)).head?
def matL (c:Cm) (id:Int):Nat→List Od→Int→List Ev→List Od × Int × List Ev
 | 0,l,left,ts=>(l,left,ts)
 | n + 1,l,left,ts =>
  if 0 < left then
   match aR l (othS c.s) with
   | none=>(l,left,ts)
   | some o=>if bp c o = true then matL c id n (aN l (plc l o.id).toNat o (min left o.left)) (left - min left o.left) (ts ++ [trE id o.id (min left o.left) o.ticks]) else (l,left,ts)
  else (l,left,ts)
structure GoodL (l:List Od):Prop where
 len:l.length ≤ 20
 left:∀ o ∈ l,0 < o.left∧o.left ≤ 1000000
 rise:bu l
theorem dj {l:List Od} {sd:Int} {o:Od} (h:aR l sd = some o):o ∈ l∧o.side = sd:=by
 have N:o ∈ quOf (decide (sd = 1)) (zt l sd):=List.mem_of_head? h
 obtain ⟨k,_,Y⟩:=List.mem_flatMap.1 N
 have h3:=(List.mem_filter.1 Y).1
 have h4:=List.mem_filter.1 h3
 exact ⟨h4.1,by simpa using h4.2⟩
theorem rise_id {l:List Od} (hr:bu l) {i k:Nat} {o o':Od} (hi:l[i]? = some o') (hk:l[k]? = some o) (he:o'.id = o.id):i = k:=by
 obtain ⟨N,rfl⟩:=yH.1 hi
 obtain ⟨Y,rfl⟩:=yH.1 hk
 rcases Nat.lt_trichotomy i k with h | h | h
 ·have:=List.pairwise_iff_getElem.1 hr i k N Y h; omega
 ·exact h
 ·have:=List.pairwise_iff_getElem.1 hr k i Y N h; omega
theorem co {l:List Od} (hr:bu l) {k:Nat} {o:Od} (hk:l[k]? = some o):plc l o.id = k:=by
 rcases plcF_spec o.id l 0 with ⟨_,Y⟩ | ⟨i,o',N,Y,h3,_⟩
 ·exact absurd rfl (Y o (yP hk))
 ·rw [plc,N,rise_id hr Y hk h3]; congr 1; omega
theorem dw {l:List Od} (h:GoodL l) {k:Nat} {o:Od} (hk:l[k]? = some o) {qty:Int} (h0:0 ≤ qty) (N:qty ≤ o.left):GoodL (aN l k o qty)∧((aN l k o qty).length + 1 = l.length ∨ (qty < o.left∧(aN l k o qty).length = l.length)):=by
 have oW:=(yH.1 hk).1
 by_cases he:o.left = qty
 ·have e:aN l k o qty = l.take k ++ l.drop (k + 1):=if_pos he
  rw [e]
  have hs:(l.take k ++ l.drop (k + 1)).Sublist l:=by
   have:(l.take k ++ l.drop (k + 1)).Sublist (l.take k ++ l.drop k):=List.Sublist.append (List.Sublist.refl _) (by rw [drop_get hk]; exact List.sublist_cons_self _ _)
   rwa [List.take_append_drop] at this
  refine ⟨⟨yO hs.length_le h.len,fun o' vM=>h.left o' (hs.subset vM),h.rise.sublist hs⟩,.inl ?_⟩
  simp; omega
 ·have e:aN l k o qty = l.set k { o with left:=o.left - qty }:=if_neg he
  rw [e]
  have Z:=h.left o (yP hk)
  refine ⟨⟨by rw [List.length_set]; exact h.len,fun o' vM=>?_,?_⟩,.inr ⟨by omega,by rw [List.length_set]⟩⟩
  ·rcases List.mem_or_eq_of_mem_set vM with Y | rfl
   ·exact h.left o' Y
   ·simp only; omega
  ·refine List.pairwise_iff_getElem.2 fun i j hi V aG=>?_
   rw [List.length_set] at hi V
   have hp:=List.pairwise_iff_getElem.1 h.rise i j hi V aG
   have hko:l[k] = o:=by have:=(yH.1 hk).2; exact this
   rw [List.getElem_set,List.getElem_set]
   split <;> split
   ·omega
   ·next Y _=>subst Y; rw [hko] at hp; exact hp
   ·next _ Y=>subst Y; rw [hko] at hp; exact hp
   ·exact hp
structure MI (c:Cm) (id:Int) (cl:List Od × Int × List Ev) (l:List Od) (left:Int) (ts:List Ev):Prop where
 good:GoodL l
 l0:0 ≤ left
 l1:left ≤ 1000000
 few:ts.length ≤ 21
 some:0 < left→ts.length + l.length ≤ 20
 goal:∃ n,matL c id n l left ts = cl∧(0 < left→l.length < n)
theorem matL_end {c:Cm} {id:Int} {n:Nat} {l:List Od} {left:Int} {ts:List Ev} (h:left ≤ 0):matL c id n l left ts = (l,left,ts):=by
 cases n with
 | zero=>rfl
 | succ n=>rw [matL,if_neg (by omega)]
theorem mi_start {c:Cm} {id:Int} {l:List Od} {left:Int} (h:GoodL l) (h0:0 ≤ left) (N:left ≤ 1000000):MI c id (matL c id 21 l left []) l left [] :=
 ⟨h,h0,N,by simp,fun _=>by simpa using h.len,21,rfl,fun _=>by have:=h.len; omega⟩
theorem mi_none {c:Cm} {id:Int} {cl:List Od × Int × List Ev} {l:List Od} {left:Int} {ts:List Ev} (h:MI c id cl l left ts) (hf:aR l (othS c.s) = none):cl = (l,left,ts):=by
 obtain ⟨n,rfl,hn⟩:=h.goal
 by_cases h0:0 < left
 ·obtain ⟨m,rfl⟩:∃ m,n = m + 1:=⟨n - 1,by have:=hn h0; omega⟩
  rw [matL,if_pos h0,hf]
 ·exact matL_end (by omega)
theorem mi_stop {c:Cm} {id:Int} {cl:List Od × Int × List Ev} {l:List Od} {left:Int} {ts:List Ev} (h:MI c id cl l left ts) {o:Od} (hf:aR l (othS c.s) = some o) (hm:bp c o = false):cl = (l,left,ts):=by
 obtain ⟨n,rfl,hn⟩:=h.goal
 by_cases h0:0 < left
 ·obtain ⟨m,rfl⟩:∃ m,n = m + 1:=⟨n - 1,by have:=hn h0; omega⟩
  rw [matL,if_pos h0,hf]
  simp only [hm]
  rw [if_neg (by simp)]
 ·exact matL_end (by omega)
theorem mi_done {c:Cm} {id:Int} {cl:List Od × Int × List Ev} {l:List Od} {left:Int} {ts:List Ev} (h:MI c id cl l left ts) (h0:¬ 0 < left):cl = (l,left,ts):=by
 obtain ⟨n,rfl,hn⟩:=h.goal
 exact matL_end (by omega)
theorem mi_step {c:Cm} {id:Int} {cl:List Od × Int × List Ev} {l:List Od} {left:Int} {ts:List Ev} (h:MI c id cl l left ts) (h0:0 < left) {o:Od} (hf:aR l (othS c.s) = some o) (hm:bp c o = true) :
  ∃ k,plc l o.id = (k:Nat)∧l[k]? = some o∧MI c id cl (aN l k o (min left o.left)) (left - min left o.left) (ts ++ [trE id o.id (min left o.left) o.ticks])∧2 * (aN l k o (min left o.left)).length + (if 0 < left - min left o.left then 1 else 0) < 2 * l.length + 1:=by
 obtain ⟨vS,_⟩:=dj hf
 obtain ⟨k,hk⟩:=List.getElem?_of_mem vS
 have hp:=co h.good.rise hk
 have Z:=h.good.left o vS
 have N:=h.l1
 have hs:=h.some h0
 obtain ⟨hg,hl⟩:=dw h.good hk (qty:=min left o.left) (by omega) (by omega)
 obtain ⟨n,hF,hn⟩:=h.goal
 obtain ⟨m,rfl⟩:∃ m,n = m + 1:=⟨n - 1,by have:=hn h0; omega⟩
 have hn:=hn h0
 rw [matL,if_pos h0,hf] at hF
 simp only [hm,if_true] at hF
 rw [hp,Int.toNat_natCast] at hF
 refine ⟨k,hp,hk,⟨hg,by omega,by omega,?_,fun xJ=>?_,m,hF,fun xJ=>?_⟩,?_⟩
 ·rw [yQ]; simp only [List.length_cons,List.length_nil]; omega
 ·rw [yQ]; simp only [List.length_cons,List.length_nil]; omega
 ·omega
 ·split <;> omega
end Go.Proofs.YtnphbkgfjanmgaaGreatDoor
