/-
  What is left of the taker laid behind the others, by the program: proved by walking the method.
-/
import Derived.Test.YtnphbkgfjanmgaaGreatDoorBj12
set_option linter.unusedVariables false
set_option maxHeartbeats 6400000
set_option maxRecDepth 100000
namespace Go.Proofs.YtnphbkgfjanmgaaGreatDoor
open Go.RowKit
theorem one_od (o:Od):∀ u ∈ o.vs,u.oneCell' = true:=by
 intro u hu
 simp [Od.vs] at hu
 rcases hu with rfl | rfl | rfl | rfl | rfl | rfl <;> rfl
def DR (mb B:Nat) (W0:World) (vq:Value) (l:List Od) (t:Od) (p q:Prop) (xn:World):Nat→Value→Prop
 | 0,v=>v = J mb 0
 | 1,v=>v = J mb 0
 | 2,v=>v = J mb 0
 | 3,v=>v = J mb 0
 | 4,v=>v = J mb 1
 | 5,v=>v = vq
 | 6,v=>v = J mb 0
 | 7,v=>v = J mb 0
 | 8,v=>v = J mb 2
 | 9,v=>v = .agg (yw t.id t.side t.ticks t.left t.life t.tag).toArray
 | 10,v=>∃ s,v = .slice (some (U s 0)) 1 1∧(¬ p→∀ j u,t.vs[j]? = some u→xn.cell? (((U s 0):Addr).add j) = some u)
 | 11,v=>∃ a c,v = .slice a (l.length + 1) c∧p∧(¬ q→ORow xn B v (l ++ [t])∧W0.grownBy xn vq.ownBlock)∧(q→xn.cell? (U mb 1) = some v∧ORow xn B v (l ++ [t])∧TookAt mb 0 vq.ownBlock W0 xn)
 | 12,v=>v = J mb 0
 | 13,v=>v = J mb 0
 | 14,v=>v = J mb 1
 | _,_=>True
section
variable {mb B:Nat} {W0 xn V':World} {vq:Value} {l:List Od} {t:Od} {p q:Prop}
theorem dr_alloc {o:Obj} (hp:¬ p):∀ j v,DR mb B W0 vq l t p q xn j v→DR mb B W0 vq l t p q (xn.alloc o) j v:=by
 intro j v h
 match j with
 | 0 | 1 | 2 | 3 | 4 | 5 | 6 | 7 | 8 | 9 | 12 | 13 | 14=>exact h
 | 10 =>
  obtain ⟨s,Q,E⟩:=h
  exact ⟨s,Q,fun hp j u hu=>(yV _ _ _ (yK xn _ (E hp j u hu))).trans (E hp j u hu)⟩
 | 11=>obtain ⟨_,_,_,E,_⟩:=h; exact absurd E hp
 | j + 15=>trivial
theorem dr_one:∀ j v,j ≠ 11→DR mb B W0 vq l t False False xn j v→DR mb B W0 vq l t True False V' j v:=by
 intro j v O h
 match j with
 | 0 | 1 | 2 | 3 | 4 | 5 | 6 | 7 | 8 | 9 | 12 | 13 | 14=>exact h
 | 10 =>
  obtain ⟨s,Q,E⟩:=h
  exact ⟨s,Q,fun hp=>absurd trivial hp⟩
 | 11=>exact absurd rfl O
 | j + 15=>trivial
theorem dr_two {v:Value}:∀ j,j ≠ 15→DR mb B W0 vq l t True False xn j v→(j = 11→DR mb B W0 vq l t True True V' 11 v)→DR mb B W0 vq l t True True V' j v:=by
 intro j O h uS
 match j with
 | 0 | 1 | 2 | 3 | 4 | 5 | 6 | 7 | 8 | 9 | 12 | 13 | 14=>exact h
 | 10 =>
  obtain ⟨s,Q,E⟩:=h
  exact ⟨s,Q,fun hp=>absurd trivial hp⟩
 | 11=>exact uS rfl
 | j + 15=>trivial
end
theorem matS_took {mb B:Nat} {W w':World} {next:Int} {vq uH:Value} {l l':List Od} {t:Od} {vt:Value} {ts:List Ev} (h:MatS mb B W next vq l t vt ts) (ht:TookAt mb 0 vq.ownBlock W w') (hc:w'.cell? (U mb 1) = some uH) (N:ORow w' B uH l'):MatS mb B w' next uH l' t vt ts:=by
 have xr:∀ j,j ≠ 1→w'.cell? (U mb j) = W.cell? (U mb j):=fun j Q=>ht.cell j (by omega)
 refine ⟨?_,fun j O=>⟨?_,?_⟩,N,row_took h.erow ht h.nt (eT h.erow h.orow (by decide)),by obtain ⟨xF,hc⟩:=h.box; exact ht.kind _ _ _ hc,yN h.le ht.size⟩
 ·intro j u O
  by_cases Q:j = 1
  ·subst Q; cases O; exact hc
  ·rw [Nat.zero_add,xr j Q]
   have:W.cell? (U mb (0 + j)) = some u:=h.cells j u (by
    rcases j with _ | _ | j
    ·exact O
    ·exact absurd rfl Q
    ·exact O)
   rwa [Nat.zero_add] at this
 ·by_cases Q:j = 1
  ·subst Q; rw [Nat.zero_add,hc]; rfl
  ·rw [Nat.zero_add,xr j Q]; have:=(h.there j O).1; rwa [Nat.zero_add] at this
 ·rw [Nat.zero_add,ht.frozen]; have:=(h.there j O).2; rwa [Nat.zero_add] at this
theorem rest_any (mb B:Nat) (next:Int) (vq:Value) (l:List Od) (t:Od) (vt:Value) (ts:List Ev) (w:World) (h:MatS mb B w next vq l t vt ts) (hn:l.length ≤ 1000) :
  Calls Tryz.prog 212 #[J mb 0] w fun e w'=>∃ uH,e = ym (.tuple #[])∧MatS mb B w' next uH (l ++ [t]) t vt ts∧KeptBut mb B w w':=by
 have HM:=M h
 have hmw:=h.lt
 have vV:=h.le
 have hnq:=h.nq
 have qE:=M h.box
 have HORO:=M h.orow
 have hM:=M h.cells
 have az:Hid (w.cell? (U mb 1) = some vq):=H hM 1 _ rfl
 have HF1:Hid (w.frozen? (U mb 1) = false):=by have:=(h.there 1 (by omega)).2; rwa [Nat.zero_add] at this
 clear h
 obtain ⟨i0,vA,uL,uM,uF⟩:=info_parts Tryz.infoOrder
 go_enter Tryz.func212,Tryz.ntmps212
 go_wp2_with fail
 refine zk (RT (fun xn=>yn w xn) (fun f=>{ tmps:=#[J mb 0,Z,f 0,f 1,f 2,f 3,f 4,f 5,f 6,f 7,f 8,f 9,f 10,f 11,f 12,f 13,f 14],defers:=[] }) 11 15 (DR mb B w vq l t)) (by kernel_rfl) ?_ ?_ ?_
 ·exact ⟨fun _=>Z,rfl,fun _=>⟨rfl,rfl,rfl,Nat.le_refl _,fun _ _=>rfl⟩,fun j O=>by rw [yI] at O; split at O <;> simp at O⟩
 ·rintro x fG xn ⟨f,rfl,-,hD⟩ hx xN
  have xo:=zN xN hx (acyc _ (by kernel_rfl))
  have ar:x[11]? = some true:=xo 11 (by simp)
  have qD:x[15]? = some true:=xo 15 (by simp)
  obtain ⟨va,vc,-,-,-,qC⟩:=hD 11 ar
  obtain ⟨q1,q2,q3⟩:=qC qD
  have jn:Hid (_∧_∧_):=⟨q1,q2,q3⟩
  clear hD xo xN hx ar qD qC q1 q2 q3
  dsimp only
  go_wp2_with fail
  go_end0
  exact ⟨_,rfl,matS_took (H HM) (H jn).2.2 (H jn).1 (H jn).2.1,kept_took (H jn).2.2 vV (fun g hg=>((H HORO).lt g hg).1)⟩
 ·rintro x fG xn i op ⟨f,rfl,py,hD⟩ V hx N xq D
  have qc:=M py
  have HD:=M hD
  have xl:∀ b o u,w.cell? (U b o) = some u→¬ x[11]? = some true→xn.cell? (U b o) = some u:=fun b o u hu hn11=>((H qc hn11).cell (p:=(U b o)) (yK w _ hu)).trans hu
  have n11':i < 11→0 < i→¬ x[11]? = some true:=fun xI qK uS=>by
   have h5:=yf V 11 rfl uS 5 rfl
   have uV:=yf V 11 rfl uS 10 rfl
   have h4:=yf V 5 rfl h5 4 rfl
   have h9:=yf V 10 rfl uV 9 rfl
   have h3:=yf V 4 rfl h4 3 rfl
   have h8:=yf V 9 rfl h9 8 rfl
   have E:=yf V 3 rfl h3 2 rfl
   have h7:=yf V 8 rfl h8 7 rfl
   have Q:=yf V 2 rfl E 1 rfl
   have h6:=yf V 7 rfl h7 6 rfl
   have vK:∀ j,0 < j→j < 11→x[j]? = some true:=fun j hj0 O=>by
    rcases (by omega:j = 1 ∨ j = 2 ∨ j = 3 ∨ j = 4 ∨ j = 5 ∨ j = 6 ∨ j = 7 ∨ j = 8 ∨ j = 9 ∨ j = 10) with rfl | rfl | rfl | rfl | rfl | rfl | rfl | rfl | rfl | rfl <;> assumption
   rw [vK i qK xI] at xq; cases xq
  have n15':i < 15→¬ x[15]? = some true:=fun xI vQ=>by
   have oH:=yf V 15 rfl vQ 14 rfl
   have uS:=yf V 15 rfl vQ 11 rfl
   have jN:=yf V 14 rfl oH 13 rfl
   have h5:=yf V 11 rfl uS 5 rfl
   have uV:=yf V 11 rfl uS 10 rfl
   have uO:=yf V 13 rfl jN 12 rfl
   have h4:=yf V 5 rfl h5 4 rfl
   have h9:=yf V 10 rfl uV 9 rfl
   have h0:=yf V 12 rfl uO 0 rfl
   have h3:=yf V 4 rfl h4 3 rfl
   have h8:=yf V 9 rfl h9 8 rfl
   have E:=yf V 3 rfl h3 2 rfl
   have h7:=yf V 8 rfl h8 7 rfl
   have Q:=yf V 2 rfl E 1 rfl
   have h6:=yf V 7 rfl h7 6 rfl
   have vK:∀ j,j < 15→x[j]? = some true:=fun j O=>by
    rcases (by omega:j = 0 ∨ j = 1 ∨ j = 2 ∨ j = 3 ∨ j = 4 ∨ j = 5 ∨ j = 6 ∨ j = 7 ∨ j = 8 ∨ j = 9 ∨ j = 10 ∨ j = 11 ∨ j = 12 ∨ j = 13 ∨ j = 14) with rfl | rfl | rfl | rfl | rfl | rfl | rfl | rfl | rfl | rfl | rfl | rfl | rfl | rfl | rfl <;> assumption
   rw [vK i xI] at xq; cases xq
  clear V py
  match i,N with
  | 0,N | 1,N | 6,N =>
   obtain rfl:=yb N
   clear D hD
   rw [if_pos (by rfl)];unfold Oper.wp;go_simp
   exact ⟨upd f _ (J mb 0),by simp [upd],zT (H HD) (by decide) (by decide) (fun _ _ h=>h) (H qc) rfl⟩
  | 2,N =>
   obtain rfl:=yb N
   have g:f 1 = J mb 0:=hD 1 (ye D 1 rfl)
   clear D hD
   rw [if_pos (by rfl)];unfold Oper.wp;go_simp
   exact ⟨upd f 2 (J mb 0),by simp [upd,g],zT (H HD) (by decide) (by decide) (fun _ _ h=>h) (H qc) rfl⟩
  | 3,N =>
   obtain rfl:=yb N
   have g:f 2 = J mb 0:=hD 2 (ye D 2 rfl)
   clear D hD
   rw [if_pos (by rfl)];unfold Oper.wp;go_simp
   exact ⟨upd f 3 (J mb 0),by simp [upd,g],zT (H HD) (by decide) (by decide) (fun _ _ h=>h) (H qc) rfl⟩
  | 4,N =>
   obtain rfl:=yb N
   have g:f 3 = J mb 0:=hD 3 (ye D 3 rfl)
   clear D hD
   rw [if_pos (by rfl)];unfold Oper.wp;go_simp
   exact ⟨upd f 4 (J mb 1),by simp [upd,g],zT (H HD) (by decide) (by decide) (fun _ _ h=>h) (H qc) rfl⟩
  | 5,N =>
   obtain rfl:=yb N
   have g:f 4 = J mb 1:=hD 4 (ye D 4 rfl)
   have qN:=n11' (by omega) (by omega)
   have y1:=xl mb 1 _ (H az) qN
   clear D hD
   rw [if_pos (by rfl)];unfold Oper.wp;go_simp
   exact ⟨upd f 5 (vq),by simp [upd,g],zT (H HD) (by decide) (by decide) (fun _ _ h=>h) (H qc) rfl⟩
  | 7,N =>
   obtain rfl:=yb N
   have g:f 6 = J mb 0:=hD 6 (ye D 6 rfl)
   clear D hD
   rw [if_pos (by rfl)];unfold Oper.wp;go_simp
   exact ⟨upd f 7 (J mb 0),by simp [upd,g],zT (H HD) (by decide) (by decide) (fun _ _ h=>h) (H qc) rfl⟩
  | 8,N =>
   obtain rfl:=yb N
   have g:f 7 = J mb 0:=hD 7 (ye D 7 rfl)
   clear D hD
   rw [if_pos (by rfl)];unfold Oper.wp;go_simp
   exact ⟨upd f 8 (J mb 2),by simp [upd,g],zT (H HD) (by decide) (by decide) (fun _ _ h=>h) (H qc) rfl⟩
  | 9,N =>
   obtain rfl:=yb N
   have g:f 8 = J mb 2:=hD 8 (ye D 8 rfl)
   have qN:=n11' (by omega) (by omega)
   have y2:=xl mb 2 _ (H hM 2 _ rfl) qN
   have y3:=xl mb 3 _ (H hM 3 _ rfl) qN
   have y4:=xl mb 4 _ (H hM 4 _ rfl) qN
   have y5:=xl mb 5 _ (H hM 5 _ rfl) qN
   have y6:=xl mb 6 _ (H hM 6 _ rfl) qN
   have y7:=xl mb 7 _ (H hM 7 _ rfl) qN
   clear D hD
   rw [if_pos (by rfl)];unfold Oper.wp;go_simp
   exact ⟨upd f 9 (.agg (yw t.id t.side t.ticks t.left t.life t.tag).toArray),by simp [upd,g],zT (H HD) (by decide) (by decide) (fun _ _ h=>h) (H qc) rfl⟩
  | 10,N =>
   obtain rfl:=yb N
   have g:f 9 = .agg (yw t.id t.side t.ticks t.left t.life t.tag).toArray:=hD 9 (ye D 9 rfl)
   have qN:=n11' (by omega) (by omega)
   have vn:=H qc qN
   clear D hD
   rw [if_pos (by rfl)];unfold Oper.wp;go_simp
   refine ⟨upd f 10 (.slice (some (yq xn 0)) 1 1),by simp [upd,g],zT (H HD) (by decide) (by decide) (dr_alloc qN) (fun _=>vn.alloc vn.size _) ⟨xn.heap.size,rfl,fun _=>?_⟩⟩
   exact fun j u h=>cellsQ xn t.vs 78 j u h
  | 11,N =>
   obtain rfl:=yb N
   have g5:f 5 = vq:=hD 5 (ye D 5 rfl)
   obtain ⟨s,qp,kq⟩:=hD 10 (ye D 10 rfl)
   have qN:¬ x[11]? = some true:=by rw [xq]; simp
   have n15:=n15' (by omega)
   have vn:=H qc qN
   have uK:ORow xn B vq l:=zM (H HORO) vn
   rw [if_pos (by rfl)]
   refine wp_append_own xn (.tmp 7) (.tmp 12) 32 rfl B 78 i0 _ 6 56 Tryz.underlying32 vA uL uM uF rfl (by decide) vq l.length (l.flatMap Od.vs) g5 uK (U s 0) 1 1 t.vs qp rfl (kq qN) (one_od t) (by unfold maxLen; omega) (by omega) (by have:=vn.size; omega) ?_
   intro v' w' xR vG _
   obtain ⟨ga,gc,rfl⟩:=row_sliceT xR (by omega)
   refine ⟨upd f 11 (.slice (some (U ga 0)) (l.length + 1) gc),rfl,rt_one (by decide) (H HD) xq n15 (fun j v O h=>dr_one j v O h) ⟨some (U ga 0),gc,rfl,trivial,fun _=>⟨?_,?_⟩,fun h=>h.elim⟩⟩
   ·show World.ownsRow _ _ _ _ _ (l ++ [t]).length _
    rw [yP,List.flatMap_append]; simpa using xR
   ·exact (cK vn ya).trans vG
  | 12,N =>
   obtain rfl:=yb N
   have g:f 0 = J mb 0:=hD 0 (ye D 0 rfl)
   clear D hD
   rw [if_pos (by rfl)];unfold Oper.wp;go_simp
   exact ⟨upd f 12 (J mb 0),by simp [upd,g],zT (H HD) (by decide) (by decide) (fun _ _ h=>h) (H qc) rfl⟩
  | 13,N =>
   obtain rfl:=yb N
   have g:f 12 = J mb 0:=hD 12 (ye D 12 rfl)
   clear D hD
   rw [if_pos (by rfl)];unfold Oper.wp;go_simp
   exact ⟨upd f 13 (J mb 0),by simp [upd,g],zT (H HD) (by decide) (by decide) (fun _ _ h=>h) (H qc) rfl⟩
  | 14,N =>
   obtain rfl:=yb N
   have g:f 13 = J mb 0:=hD 13 (ye D 13 rfl)
   clear D hD
   rw [if_pos (by rfl)];unfold Oper.wp;go_simp
   exact ⟨upd f 14 (J mb 1),by simp [upd,g],zT (H HD) (by decide) (by decide) (fun _ _ h=>h) (H qc) rfl⟩
  | 15,N =>
   obtain rfl:=yb N
   have jf:f 14 = J mb 1:=hD 14 (ye D 14 rfl)
   have ar:x[11]? = some true:=D ⟨11,.data⟩ (by simp) rfl
   have n15:¬ x[15]? = some true:=by rw [xq]; simp
   obtain ⟨ga,gc,vE,-,hfa,-⟩:=hD 11 ar
   obtain ⟨her,vG⟩:=hfa n15
   have ox:some mb ≠ vq.ownBlock:=hnq
   have y1:=vG.cell (H az) ox
   have f1:xn.frozen? (U mb 1) = false:=(World.frozen?_of_block (a:=(U mb 1)) (vG.block mb (by omega) ox)).trans (H HF1)
   have ay:=M (vE ▸ her)
   have HBXV:Hid (∃ xF,xn.heap[mb]? = some (.cells xF 254 (0,0))):=by obtain ⟨xF,hc⟩:=H qE; exact ⟨xF,(vG.block mb (by omega) ox).trans hc⟩
   have HGR:=M vG
   clear D hD her vG hfa
   rw [if_pos (by rfl)];unfold Oper.wp;go_simp
   refine ⟨upd f 15 Z,by simp [upd,jf,vE],rt_two (by decide) (H HD) ar xq (fun j O hxj h=>dr_two j O h (fun hj11=>?_)) trivial⟩
   subst hj11
   obtain ⟨-,-,-,-,-,-⟩:=h
   refine ⟨ga,gc,vE,trivial,fun h=>absurd trivial h,fun _=>?_⟩
   rw [vE]
   refine ⟨yM _ _ _ y1,bp (H ay) (cd (H ay) (H HBXV) (by decide)) 1 _,?_⟩
   exact dC (cV (H HGR) (by omega) ox) (took_set (o:=0) _ _)
  | i + 16,N=>simp at N
def fullB (l:List Od):Bool:=if 20 < l.length then true else decide (8 < ((aY true 1 (zt l 1)).length:Int) + (aY false 2 (zt l 2)).length)
def DF (mb:Nat) (BV:Value) (q1 q2:List Od) (ho:Int) (p:Prop) (W:World):Nat→Value→Prop
 | 0,v=>v = J mb 0
 | 1,v=>v = J mb 0
 | 2,v=>v = J mb 0
 | 3,v=>v = BV
 | 4,v=>∃ b,v = bK b∧Tb W b q1
 | 5,v=>v = J mb 0
 | 6,v=>v = J mb 0
 | 7,v=>v = J mb 0
 | 8,v=>v = BV
 | 9,v=>∃ b,v = bL b∧Ts W b q2
 | 10,v=>v = I ho
 | 11,v=>v = .bool (decide (8 < ho))
 | 12,v=>v = .bool (decide (8 < ho))
 | _,_=>True
theorem df_mono {mb:Nat} {BV:Value} {q1 q2:List Od} {ho:Int}:∀ p W W' j v,yn W W'→DF mb BV q1 q2 ho p W j v→DF mb BV q1 q2 ho p W' j v:=by
 intro p W W' j v Y h
 match j with
 | 0 | 1 | 2 | 3 | 5 | 6 | 7 | 8 | 10 | 11 | 12=>exact h
 | 4=>obtain ⟨b,Q,E⟩:=h; exact ⟨b,Q,zu E (Y.block _ (zH E))⟩
 | 9=>obtain ⟨b,Q,E⟩:=h; exact ⟨b,Q,zu E (Y.block _ (zH E))⟩
 | n + 13=>trivial
theorem isTooFull_any (mb B:Nat) (next:Int) (vq:Value) (l:List Od) (t:Od) (vt:Value) (ts:List Ev) (w:World) (h:MatS mb B w next vq l t vt ts) (hm:l.length ≤ 1000) (hl:∀ o' ∈ l,0 ≤ o'.left∧o'.left ≤ 1000000) :
  Calls Tryz.prog 213 #[J mb 0] w fun e w'=>e = ym (.bool (fullB l))∧yn w w':=by
 have hmw:=h.lt
 have vV:=h.le
 have HR:=M (zK h.orow (by omega))
 obtain ⟨a,cap,rfl,_,_⟩:=zK h.orow (by omega)
 have HM:=M h.cells
 have z0:w.cell? (U mb 0) = some (I next):=h.cells 0 _ rfl
 have z1:w.cell? (U mb 1) = some (.slice a l.length cap):=h.cells 1 _ rfl
 have HLB:=M hl
 clear h hl
 go_enter Tryz.func213,Tryz.ntmps213
 by_cases h20:20 < l.length
 ·have h20':(20:Int) < l.length:=by omega
  have HF:Hid (fullB l = true):=if_pos h20
  clear h20
  go_wp2_with fail
  go_ret
  exact ⟨zp (H HF).symm,Below.refl _ _⟩
 have h20':¬ (20:Int) < l.length:=by omega
 have hn:l.length ≤ 20:=by omega
 have n1:(zt l 1).length ≤ 20:=yN (List.length_filter_le _ _) hn
 have n2:(zt l 2).length ≤ 20:=yN (List.length_filter_le _ _) hn
 generalize hN:((aY true 1 (zt l 1)).length:Int) + (aY false 2 (zt l 2)).length = ho
 have HF:Hid (fullB l = decide (8 < ho)):=by show _ = _; rw [fullB,if_neg h20,hN]
 have HNN:=M hN
 clear hN h20
 go_wp2_with fail
 clear z0 z1
 refine zk (RG w (fun f=>{ tmps:=#[J mb 0,Z,f 12,J mb 0,J mb 0,J mb 0,J mb 1,.slice a l.length cap,I l.length,.bool false,f 0,f 1,f 2,f 3,f 4,f 5,f 6,f 7,f 8,f 9,f 10,f 11],defers:=[] }) 99 (DF mb (.agg #[I next,.slice a l.length cap]) (zt l 1) (zt l 2) ho)) (by kernel_rfl) ?_ ?_ ?_
 ·exact ⟨fun j=>if j = 12 then .bool false else Z,rfl,⟨rfl,rfl,rfl,Nat.le_refl _,fun _ _=>rfl⟩,fun j O=>by rw [yI] at O; split at O <;> simp at O⟩
 ·rintro x fG xn ⟨f,rfl,xk,hD⟩ hx xN
  have xo:=zN xN hx (acyc _ (by kernel_rfl))
  have uW:f 12 = .bool (decide (8 < ho)):=hD 12 (xo 12 (by simp))
  have xy:=M xk
  simp only [uW]
  clear hD xo uW xN hx xk
  go_wp2_with fail
  go_ret
  exact ⟨zp (H HF).symm,H xy⟩
 ·rintro x fG xn i o ⟨f,rfl,xk,hD⟩ V hx N xq D
  clear V
  have xy:=M xk
  have HD:=M hD
  have z0:=zc (H HM) xk hmw 0 _ rfl
  have z1:=zc (H HM) xk hmw 1 _ rfl
  rw [Nat.zero_add] at z0 z1
  have uR:=M (zh (H HR) xk ya)
  match i,N with
  | 0,N | 5,N =>
   obtain rfl:=yb N
   clear D hD xk
   rw [if_pos (by rfl)];unfold Oper.wp;go_simp
   exact ⟨upd f _ (J mb 0),by simp [upd],zf (H xy) (H HD) (by decide) rfl⟩
  | 1,N =>
   obtain rfl:=yb N
   have g:f 0 = J mb 0:=hD 0 (ye D 0 rfl)
   clear D hD xk
   rw [if_pos (by rfl)];unfold Oper.wp;go_simp
   exact ⟨upd f 1 (J mb 0),by simp [upd,g],zf (H xy) (H HD) (by decide) rfl⟩
  | 2,N =>
   obtain rfl:=yb N
   have g:f 1 = J mb 0:=hD 1 (ye D 1 rfl)
   clear D hD xk
   rw [if_pos (by rfl)];unfold Oper.wp;go_simp
   exact ⟨upd f 2 (J mb 0),by simp [upd,g],zf (H xy) (H HD) (by decide) rfl⟩
  | 3,N =>
   obtain rfl:=yb N
   have g:f 2 = J mb 0:=hD 2 (ye D 2 rfl)
   clear D hD xk
   rw [if_pos (by rfl)];unfold Oper.wp;go_simp
   exact ⟨upd f 3 (.agg #[I next,.slice a l.length cap]),by simp [upd,g],zf (H xy) (H HD) (by decide) rfl⟩
  | 4,N =>
   obtain rfl:=yb N
   have g:f 3 = .agg #[I next,.slice a l.length cap]:=hD 3 (ye D 3 rfl)
   clear D hD xk
   rw [if_pos (by rfl)];unfold Oper.wp;go_simp
   refine (eX next _ l xn (H uR) hn (H HLB)).mono ?_
   rintro e w4 ⟨b,rfl,ht,qi,xw⟩
   exact ⟨upd f 4 (bK b),by simp [upd,g],co df_mono (H xy) (H HD) xw (by decide) ⟨b,rfl,ht⟩⟩
  | 6,N =>
   obtain rfl:=yb N
   have g:f 5 = J mb 0:=hD 5 (ye D 5 rfl)
   clear D hD xk
   rw [if_pos (by rfl)];unfold Oper.wp;go_simp
   exact ⟨upd f 6 (J mb 0),by simp [upd,g],zf (H xy) (H HD) (by decide) rfl⟩
  | 7,N =>
   obtain rfl:=yb N
   have g:f 6 = J mb 0:=hD 6 (ye D 6 rfl)
   clear D hD xk
   rw [if_pos (by rfl)];unfold Oper.wp;go_simp
   exact ⟨upd f 7 (J mb 0),by simp [upd,g],zf (H xy) (H HD) (by decide) rfl⟩
  | 8,N =>
   obtain rfl:=yb N
   have g:f 7 = J mb 0:=hD 7 (ye D 7 rfl)
   clear D hD xk
   rw [if_pos (by rfl)];unfold Oper.wp;go_simp
   exact ⟨upd f 8 (.agg #[I next,.slice a l.length cap]),by simp [upd,g],zf (H xy) (H HD) (by decide) rfl⟩
  | 9,N =>
   obtain rfl:=yb N
   have g:f 8 = .agg #[I next,.slice a l.length cap]:=hD 8 (ye D 8 rfl)
   clear D hD xk
   rw [if_pos (by rfl)];unfold Oper.wp;go_simp
   refine (eE next 2 (by omega) _ l xn (H uR) hn (H HLB)).mono ?_
   rintro e w4 ⟨b,rfl,ht,qi,xw⟩
   exact ⟨upd f 9 (bL b),by simp [upd,g],co df_mono (H xy) (H HD) xw (by decide) ⟨b,rfl,ht⟩⟩
  | 10,N =>
   obtain rfl:=yb N
   obtain ⟨b1,g4,t4⟩:=hD 4 (ye D 4 rfl)
   obtain ⟨b2,g9,t9⟩:=hD 9 (ye D 9 rfl)
   have HT4:=M t4
   have HT9:=M t9
   clear D hD xk t4 t9
   rw [if_pos (by rfl)];unfold Oper.wp;go_simp
   refine (fy b1 b2 1 2 (zt l 1) (zt l 2) xn (H HT4) (H HT9) n1 n2).mono ?_
   rw [H HNN]
   rintro e w4 ⟨rfl,xw⟩
   exact ⟨upd f 10 (I ho),by simp [upd,g4,g9],co df_mono (H xy) (H HD) xw (by decide) rfl⟩
  | 11,N =>
   obtain rfl:=yb N
   have g:f 10 = I ho:=hD 10 (ye D 10 rfl)
   clear D hD xk
   rw [if_pos (by rfl)];unfold Oper.wp;go_simp
   exact ⟨upd f 11 (.bool (decide (8 < ho))),by simp [upd,g],zf (H xy) (H HD) (by decide) rfl⟩
  | 12,N =>
   obtain rfl:=yb N
   have g:f 11 = .bool (decide (8 < ho)):=hD 11 (ye D 11 rfl)
   clear D hD xk
   rw [if_pos (by rfl)];unfold Oper.wp;go_simp
   exact ⟨upd f 12 (.bool (decide (8 < ho))),by simp [upd,g],zf (H xy) (H HD) (by decide) rfl⟩
  | n + 13,N=>simp at N
def aV (l:List Od) (sd:Int):Option Od:=(quOf (decide (sd = 1)) (zt l sd)).head?
def matL (c:Cm) (id:Int):Nat→List Od→Int→List Ev→List Od × Int × List Ev
 | 0,l,left,ts=>(l,left,ts)
 | n + 1,l,left,ts =>
  if 0 < left then
   match aV l (othS c.s) with
   | none=>(l,left,ts)
   | some o=>if bA c o = true then matL c id n (aR l (plc l o.id).toNat o (min left o.left)) (left - min left o.left) (ts ++ [trE id o.id (min left o.left) o.ticks]) else (l,left,ts)
  else (l,left,ts)
structure GoodL (l:List Od):Prop where
 len:l.length ≤ 20
 left:∀ o ∈ l,0 < o.left∧o.left ≤ 1000000
 rise:bC l
theorem dD {l:List Od} {sd:Int} {o:Od} (h:aV l sd = some o):o ∈ l∧o.side = sd:=by
 have Q:o ∈ quOf (decide (sd = 1)) (zt l sd):=List.mem_of_head? h
 obtain ⟨k,_,E⟩:=List.mem_flatMap.1 Q
 have h3:=(List.mem_filter.1 E).1
 have h4:=List.mem_filter.1 h3
 exact ⟨h4.1,by simpa using h4.2⟩
theorem rise_id {l:List Od} (hr:bC l) {i k:Nat} {o o':Od} (hi:l[i]? = some o') (hk:l[k]? = some o) (he:o'.id = o.id):i = k:=by
 obtain ⟨Q,rfl⟩:=yG.1 hi
 obtain ⟨E,rfl⟩:=yG.1 hk
 rcases Nat.lt_trichotomy i k with h | h | h
 ·have:=List.pairwise_iff_getElem.1 hr i k Q E h; omega
 ·exact h
 ·have:=List.pairwise_iff_getElem.1 hr k i E Q h; omega
theorem cD {l:List Od} (hr:bC l) {k:Nat} {o:Od} (hk:l[k]? = some o):plc l o.id = k:=by
 rcases plcF_spec o.id l 0 with ⟨_,E⟩ | ⟨i,o',Q,E,h3,_⟩
 ·exact absurd rfl (E o (yO hk))
 ·rw [plc,Q,rise_id hr E hk h3]; congr 1; omega
theorem dG {l:List Od} (h:GoodL l) {k:Nat} {o:Od} (hk:l[k]? = some o) {qty:Int} (h0:0 ≤ qty) (Q:qty ≤ o.left):GoodL (aR l k o qty)∧((aR l k o qty).length + 1 = l.length ∨ (qty < o.left∧(aR l k o qty).length = l.length)):=by
 have pa:=(yG.1 hk).1
 by_cases he:o.left = qty
 ·have e:aR l k o qty = l.take k ++ l.drop (k + 1):=if_pos he
  rw [e]
  have hs:(l.take k ++ l.drop (k + 1)).Sublist l:=by
   have:(l.take k ++ l.drop (k + 1)).Sublist (l.take k ++ l.drop k):=List.Sublist.append (List.Sublist.refl _) (by rw [drop_get hk]; exact List.sublist_cons_self _ _)
   rwa [List.take_append_drop] at this
  refine ⟨⟨yN hs.length_le h.len,fun o' vM=>h.left o' (hs.subset vM),h.rise.sublist hs⟩,.inl ?_⟩
  simp; omega
 ·have e:aR l k o qty = l.set k { o with left:=o.left - qty }:=if_neg he
  rw [e]
  have N:=h.left o (yO hk)
  refine ⟨⟨by rw [List.length_set]; exact h.len,fun o' vM=>?_,?_⟩,.inr ⟨by omega,by rw [List.length_set]⟩⟩
  ·rcases List.mem_or_eq_of_mem_set vM with E | rfl
   ·exact h.left o' E
   ·simp only; omega
  ·refine List.pairwise_iff_getElem.2 fun i j hi O aJ=>?_
   rw [List.length_set] at hi O
   have hp:=List.pairwise_iff_getElem.1 h.rise i j hi O aJ
   have hko:l[k] = o:=by have:=(yG.1 hk).2; exact this
   rw [List.getElem_set,List.getElem_set]
   split <;> split
   ·omega
   ·next E _=>subst E; rw [hko] at hp; exact hp
   ·next _ E=>subst E; rw [hko] at hp; exact hp
   ·exact hp
structure MI (c:Cm) (id:Int) (cl:List Od × Int × List Ev) (l:List Od) (left:Int) (ts:List Ev):Prop where
 good:GoodL l
 l0:0 ≤ left
 l1:left ≤ 1000000
 few:ts.length ≤ 21
 some:0 < left→ts.length + l.length ≤ 20
 goal:∃ n,matL c id n l left ts = cl∧(0 < left→l.length < n)
theorem matL_end {c:Cm} {id:Int} {n:Nat} {l:List Od} {left:Int} {ts:List Ev} (h:left ≤ 0):matL c id n l left ts = (l,left,ts):=by
 cases n with
 | zero=>rfl
 | succ n=>rw [matL,if_neg (by omega)]
theorem mi_start {c:Cm} {id:Int} {l:List Od} {left:Int} (h:GoodL l) (h0:0 ≤ left) (Q:left ≤ 1000000):MI c id (matL c id 21 l left []) l left [] :=
 ⟨h,h0,Q,by simp,fun _=>by simpa using h.len,21,rfl,fun _=>by have:=h.len; omega⟩
theorem mi_none {c:Cm} {id:Int} {cl:List Od × Int × List Ev} {l:List Od} {left:Int} {ts:List Ev} (h:MI c id cl l left ts) (hf:aV l (othS c.s) = none):cl = (l,left,ts):=by
 obtain ⟨n,rfl,hn⟩:=h.goal
 by_cases h0:0 < left
 ·obtain ⟨m,rfl⟩:∃ m,n = m + 1:=⟨n - 1,by have:=hn h0; omega⟩
  rw [matL,if_pos h0,hf]
 ·exact matL_end (by omega)
theorem mi_stop {c:Cm} {id:Int} {cl:List Od × Int × List Ev} {l:List Od} {left:Int} {ts:List Ev} (h:MI c id cl l left ts) {o:Od} (hf:aV l (othS c.s) = some o) (hm:bA c o = false):cl = (l,left,ts):=by
 obtain ⟨n,rfl,hn⟩:=h.goal
 by_cases h0:0 < left
 ·obtain ⟨m,rfl⟩:∃ m,n = m + 1:=⟨n - 1,by have:=hn h0; omega⟩
  rw [matL,if_pos h0,hf]
  simp only [hm]
  rw [if_neg (by simp)]
 ·exact matL_end (by omega)
theorem mi_done {c:Cm} {id:Int} {cl:List Od × Int × List Ev} {l:List Od} {left:Int} {ts:List Ev} (h:MI c id cl l left ts) (h0:¬ 0 < left):cl = (l,left,ts):=by
 obtain ⟨n,rfl,hn⟩:=h.goal
 exact matL_end (by omega)
theorem mi_step {c:Cm} {id:Int} {cl:List Od × Int × List Ev} {l:List Od} {left:Int} {ts:List Ev} (h:MI c id cl l left ts) (h0:0 < left) {o:Od} (hf:aV l (othS c.s) = some o) (hm:bA c o = true) :
  ∃ k,plc l o.id = (k:Nat)∧l[k]? = some o∧MI c id cl (aR l k o (min left o.left)) (left - min left o.left) (ts ++ [trE id o.id (min left o.left) o.ticks])∧2 * (aR l k o (min left o.left)).length + (if 0 < left - min left o.left then 1 else 0) < 2 * l.length + 1:=by
 obtain ⟨vR,_⟩:=dD hf
 obtain ⟨k,hk⟩:=List.getElem?_of_mem vR
 have hp:=cD h.good.rise hk
 have N:=h.good.left o vR
 have Q:=h.l1
 have hs:=h.some h0
 obtain ⟨hg,hl⟩:=dG h.good hk (qty:=min left o.left) (by omega) (by omega)
 obtain ⟨n,hF,hn⟩:=h.goal
 obtain ⟨m,rfl⟩:∃ m,n = m + 1:=⟨n - 1,by have:=hn h0; omega⟩
 have hn:=hn h0
 rw [matL,if_pos h0,hf] at hF
 simp only [hm,if_true] at hF
 rw [hp,Int.toNat_natCast] at hF
 refine ⟨k,hp,hk,⟨hg,by omega,by omega,?_,fun xI=>?_,m,hF,fun xI=>?_⟩,?_⟩
 ·rw [yP]; simp only [List.length_cons,List.length_nil]; omega
 ·rw [yP]; simp only [List.length_cons,List.length_nil]; omega
 ·omega
 ·split <;> omega
end Go.Proofs.YtnphbkgfjanmgaaGreatDoor
