/-
  What is left of the taker laid behind the others, by the program: proved by walking the method.
-/
import Derived.Test.YthhkapcbocgcoaaGreatDoorGj13
set_option linter.unusedVariables false
set_option maxHeartbeats 6400000
set_option maxRecDepth 100000
namespace Go.Proofs.YthhkapcbocgcoaaGreatDoor
open Go.RowKit
theorem one_od (o:Od):∀ u ∈ o.vs,u.oneCell' = true:=by
 intro u hu
 simp [Od.vs] at hu
 rcases hu with rfl | rfl | rfl | rfl | rfl | rfl <;> rfl
def DR (mb B:Nat) (W0:World) (vq:Value) (l:List Od) (t:Od) (p q:Prop) (V:World):Nat→Value→Prop
 | 0,v=>v = I mb 0
 | 1,v=>v = I mb 0
 | 2,v=>v = I mb 0
 | 3,v=>v = I mb 0
 | 4,v=>v = I mb 1
 | 5,v=>v = vq
 | 6,v=>v = I mb 0
 | 7,v=>v = I mb 0
 | 8,v=>v = I mb 2
 | 9,v=>v = .agg (yw t.id t.side t.ticks t.left t.life t.tag).toArray
 | 10,v=>∃ s,v = .slice (some (J s 0)) 1 1∧(¬ p→∀ j u,t.vs[j]? = some u→V.cell? (((J s 0):Addr).add j) = some u)
 | 11,v=>∃ a c,v = .slice a (l.length + 1) c∧p∧(¬ q→ORow V B v (l ++ [t])∧W0.grownBy V vq.ownBlock)∧(q→V.cell? (J mb 1) = some v∧ORow V B v (l ++ [t])∧TookAt mb 0 vq.ownBlock W0 V)
 | 12,v=>v = I mb 0
 | 13,v=>v = I mb 0
 | 14,v=>v = I mb 1
 | _,_=>True
section
variable {mb B:Nat} {W0 V V':World} {vq:Value} {l:List Od} {t:Od} {p q:Prop}
theorem dr_alloc {o:Obj} (hp:¬ p):∀ j v,DR mb B W0 vq l t p q V j v→DR mb B W0 vq l t p q (V.alloc o) j v:=by
 intro j v h
 match j with
 | 0 | 1 | 2 | 3 | 4 | 5 | 6 | 7 | 8 | 9 | 12 | 13 | 14=>exact h
 | 10 =>
  obtain ⟨s,Q,D⟩:=h
  exact ⟨s,Q,fun hp j u hu=>(yW _ _ _ (yL V _ (D hp j u hu))).trans (D hp j u hu)⟩
 | 11=>obtain ⟨_,_,_,D,_⟩:=h; exact absurd D hp
 | j + 15=>trivial
theorem dr_one:∀ j v,j ≠ 11→DR mb B W0 vq l t False False V j v→DR mb B W0 vq l t True False V' j v:=by
 intro j v hj h
 match j with
 | 0 | 1 | 2 | 3 | 4 | 5 | 6 | 7 | 8 | 9 | 12 | 13 | 14=>exact h
 | 10 =>
  obtain ⟨s,Q,D⟩:=h
  exact ⟨s,Q,fun hp=>absurd trivial hp⟩
 | 11=>exact absurd rfl hj
 | j + 15=>trivial
theorem dr_two {v:Value}:∀ j,j ≠ 15→DR mb B W0 vq l t True False V j v→(j = 11→DR mb B W0 vq l t True True V' 11 v)→DR mb B W0 vq l t True True V' j v:=by
 intro j hj h vK
 match j with
 | 0 | 1 | 2 | 3 | 4 | 5 | 6 | 7 | 8 | 9 | 12 | 13 | 14=>exact h
 | 10 =>
  obtain ⟨s,Q,D⟩:=h
  exact ⟨s,Q,fun hp=>absurd trivial hp⟩
 | 11=>exact vK rfl
 | j + 15=>trivial
end
theorem matS_took {mb B:Nat} {W w':World} {next:Int} {vq uG:Value} {l l':List Od} {t:Od} {vt:Value} {ts:List Ev} (h:MatS mb B W next vq l t vt ts) (ht:TookAt mb 0 vq.ownBlock W w') (hc:w'.cell? (J mb 1) = some uG) (Y:ORow w' B uG l'):MatS mb B w' next uG l' t vt ts:=by
 have xr:∀ j,j ≠ 1→w'.cell? (J mb j) = W.cell? (J mb j):=fun j Q=>ht.cell j (by omega)
 refine ⟨?_,fun j hj=>⟨?_,?_⟩,Y,row_took h.erow ht h.nt (dY h.erow h.orow (by decide)),by obtain ⟨xz,hc⟩:=h.box; exact ht.kind _ _ _ hc,yO h.le ht.size⟩
 ·intro j u hj
  by_cases Q:j = 1
  ·subst Q; cases hj; exact hc
  ·rw [Nat.zero_add,xr j Q]
   have:W.cell? (J mb (0 + j)) = some u:=h.cells j u (by
    rcases j with _ | _ | j
    ·exact hj
    ·exact absurd rfl Q
    ·exact hj)
   rwa [Nat.zero_add] at this
 ·by_cases Q:j = 1
  ·subst Q; rw [Nat.zero_add,hc]; rfl
  ·rw [Nat.zero_add,xr j Q]; have:=(h.there j hj).1; rwa [Nat.zero_add] at this
 ·rw [Nat.zero_add,ht.frozen]; have:=(h.there j hj).2; rwa [Nat.zero_add] at this
theorem rest_any (mb B:Nat) (next:Int) (vq:Value) (l:List Od) (t:Od) (vt:Value) (ts:List Ev) (w:World) (h:MatS mb B w next vq l t vt ts) (hn:l.length ≤ 1000) :
  Calls Tryz.prog 211 #[I mb 0] w fun e w'=>∃ uG,e = ym (.tuple #[])∧MatS mb B w' next uG (l ++ [t]) t vt ts∧KeptBut mb B w w':=by
 have HM:=M h
 have hmw:=h.lt
 have jU:=h.le
 have hnq:=h.nq
 have qC:=M h.box
 have HORO:=M h.orow
 have hM:=M h.cells
 have bx:Hid (w.cell? (J mb 1) = some vq):=U hM 1 _ rfl
 have HF1:Hid (w.frozen? (J mb 1) = false):=by have:=(h.there 1 (by omega)).2; rwa [Nat.zero_add] at this
 clear h
 obtain ⟨i0,uJ,uD,uz,uM⟩:=info_parts Tryz.infoOrder
 go_enter Tryz.func211,Tryz.ntmps211
 go_wp2_with fail
 refine zn (RT (fun V=>yn w V) (fun f=>{ tmps:=#[I mb 0,Z,f 0,f 1,f 2,f 3,f 4,f 5,f 6,f 7,f 8,f 9,f 10,f 11,f 12,f 13,f 14],defers:=[] }) 11 15 (DR mb B w vq l t)) (by kernel_rfl) ?_ ?_ ?_
 ·exact ⟨fun _=>Z,rfl,fun _=>⟨rfl,rfl,rfl,Nat.le_refl _,fun _ _=>rfl⟩,fun j hj=>by rw [yJ] at hj; split at hj <;> simp at hj⟩
 ·rintro x hb V ⟨f,rfl,-,hD⟩ hx xN
  have xp:=zX xN hx (acyc _ (by kernel_rfl))
  have k11:x[11]? = some true:=xp 11 (by simp)
  have k15:x[15]? = some true:=xp 15 (by simp)
  obtain ⟨va,vc,-,-,-,vU⟩:=hD 11 k11
  obtain ⟨q1,q2,q3⟩:=vU k15
  have jp:Hid (_∧_∧_):=⟨q1,q2,q3⟩
  clear hD xp xN hx k11 k15 vU q1 q2 q3
  dsimp only
  go_wp2_with fail
  go_end0
  exact ⟨_,rfl,matS_took (U HM) (U jp).2.2 (U jp).1 (U jp).2.1,kept_took (U jp).2.2 jU (fun g hg=>((U HORO).lt g hg).1)⟩
 ·rintro x hb V i op ⟨f,rfl,oC,hD⟩ xo hx Y xu K
  have uI:=M oC
  have HD:=M hD
  have xj:∀ b o u,w.cell? (J b o) = some u→¬ x[11]? = some true→V.cell? (J b o) = some u:=fun b o u hu hn11=>((U uI hn11).cell (p:=(J b o)) (yL w _ hu)).trans hu
  have n11':i < 11→0 < i→¬ x[11]? = some true:=fun xM vM vK=>by
   have h5:=yf xo 11 rfl vK 5 rfl
   have vi:=yf xo 11 rfl vK 10 rfl
   have h4:=yf xo 5 rfl h5 4 rfl
   have h9:=yf xo 10 rfl vi 9 rfl
   have X:=yf xo 4 rfl h4 3 rfl
   have h8:=yf xo 9 rfl h9 8 rfl
   have D:=yf xo 3 rfl X 2 rfl
   have h7:=yf xo 8 rfl h8 7 rfl
   have Q:=yf xo 2 rfl D 1 rfl
   have h6:=yf xo 7 rfl h7 6 rfl
   have vr:∀ j,0 < j→j < 11→x[j]? = some true:=fun j jM hj=>by
    rcases (by omega:j = 1 ∨ j = 2 ∨ j = 3 ∨ j = 4 ∨ j = 5 ∨ j = 6 ∨ j = 7 ∨ j = 8 ∨ j = 9 ∨ j = 10) with rfl | rfl | rfl | rfl | rfl | rfl | rfl | rfl | rfl | rfl <;> assumption
   rw [vr i vM xM] at xu; cases xu
  have n15':i < 15→¬ x[15]? = some true:=fun xM vT=>by
   have oy:=yf xo 15 rfl vT 14 rfl
   have vK:=yf xo 15 rfl vT 11 rfl
   have jd:=yf xo 14 rfl oy 13 rfl
   have h5:=yf xo 11 rfl vK 5 rfl
   have vi:=yf xo 11 rfl vK 10 rfl
   have vX:=yf xo 13 rfl jd 12 rfl
   have h4:=yf xo 5 rfl h5 4 rfl
   have h9:=yf xo 10 rfl vi 9 rfl
   have h0:=yf xo 12 rfl vX 0 rfl
   have X:=yf xo 4 rfl h4 3 rfl
   have h8:=yf xo 9 rfl h9 8 rfl
   have D:=yf xo 3 rfl X 2 rfl
   have h7:=yf xo 8 rfl h8 7 rfl
   have Q:=yf xo 2 rfl D 1 rfl
   have h6:=yf xo 7 rfl h7 6 rfl
   have vr:∀ j,j < 15→x[j]? = some true:=fun j hj=>by
    rcases (by omega:j = 0 ∨ j = 1 ∨ j = 2 ∨ j = 3 ∨ j = 4 ∨ j = 5 ∨ j = 6 ∨ j = 7 ∨ j = 8 ∨ j = 9 ∨ j = 10 ∨ j = 11 ∨ j = 12 ∨ j = 13 ∨ j = 14) with rfl | rfl | rfl | rfl | rfl | rfl | rfl | rfl | rfl | rfl | rfl | rfl | rfl | rfl | rfl <;> assumption
   rw [vr i xM] at xu; cases xu
  clear xo oC
  match i,Y with
  | 0,Y | 1,Y | 6,Y =>
   obtain rfl:=ya Y
   clear K hD
   rw [if_pos (by rfl)];unfold Oper.wp;go_simp
   exact ⟨upd f _ (I mb 0),by simp [upd],zO (U HD) (by decide) (by decide) (fun _ _ h=>h) (U uI) rfl⟩
  | 2,Y =>
   obtain rfl:=ya Y
   have g:f 1 = I mb 0:=hD 1 (ye K 1 rfl)
   clear K hD
   rw [if_pos (by rfl)];unfold Oper.wp;go_simp
   exact ⟨upd f 2 (I mb 0),by simp [upd,g],zO (U HD) (by decide) (by decide) (fun _ _ h=>h) (U uI) rfl⟩
  | 3,Y =>
   obtain rfl:=ya Y
   have g:f 2 = I mb 0:=hD 2 (ye K 2 rfl)
   clear K hD
   rw [if_pos (by rfl)];unfold Oper.wp;go_simp
   exact ⟨upd f 3 (I mb 0),by simp [upd,g],zO (U HD) (by decide) (by decide) (fun _ _ h=>h) (U uI) rfl⟩
  | 4,Y =>
   obtain rfl:=ya Y
   have g:f 3 = I mb 0:=hD 3 (ye K 3 rfl)
   clear K hD
   rw [if_pos (by rfl)];unfold Oper.wp;go_simp
   exact ⟨upd f 4 (I mb 1),by simp [upd,g],zO (U HD) (by decide) (by decide) (fun _ _ h=>h) (U uI) rfl⟩
  | 5,Y =>
   obtain rfl:=ya Y
   have g:f 4 = I mb 1:=hD 4 (ye K 4 rfl)
   have qM:=n11' (by omega) (by omega)
   have y1:=xj mb 1 _ (U bx) qM
   clear K hD
   rw [if_pos (by rfl)];unfold Oper.wp;go_simp
   exact ⟨upd f 5 (vq),by simp [upd,g],zO (U HD) (by decide) (by decide) (fun _ _ h=>h) (U uI) rfl⟩
  | 7,Y =>
   obtain rfl:=ya Y
   have g:f 6 = I mb 0:=hD 6 (ye K 6 rfl)
   clear K hD
   rw [if_pos (by rfl)];unfold Oper.wp;go_simp
   exact ⟨upd f 7 (I mb 0),by simp [upd,g],zO (U HD) (by decide) (by decide) (fun _ _ h=>h) (U uI) rfl⟩
  | 8,Y =>
   obtain rfl:=ya Y
   have g:f 7 = I mb 0:=hD 7 (ye K 7 rfl)
   clear K hD
   rw [if_pos (by rfl)];unfold Oper.wp;go_simp
   exact ⟨upd f 8 (I mb 2),by simp [upd,g],zO (U HD) (by decide) (by decide) (fun _ _ h=>h) (U uI) rfl⟩
  | 9,Y =>
   obtain rfl:=ya Y
   have g:f 8 = I mb 2:=hD 8 (ye K 8 rfl)
   have qM:=n11' (by omega) (by omega)
   have y2:=xj mb 2 _ (U hM 2 _ rfl) qM
   have y3:=xj mb 3 _ (U hM 3 _ rfl) qM
   have y4:=xj mb 4 _ (U hM 4 _ rfl) qM
   have y5:=xj mb 5 _ (U hM 5 _ rfl) qM
   have y6:=xj mb 6 _ (U hM 6 _ rfl) qM
   have y7:=xj mb 7 _ (U hM 7 _ rfl) qM
   clear K hD
   rw [if_pos (by rfl)];unfold Oper.wp;go_simp
   exact ⟨upd f 9 (.agg (yw t.id t.side t.ticks t.left t.life t.tag).toArray),by simp [upd,g],zO (U HD) (by decide) (by decide) (fun _ _ h=>h) (U uI) rfl⟩
  | 10,Y =>
   obtain rfl:=ya Y
   have g:f 9 = .agg (yw t.id t.side t.ticks t.left t.life t.tag).toArray:=hD 9 (ye K 9 rfl)
   have qM:=n11' (by omega) (by omega)
   have vA:=U uI qM
   clear K hD
   rw [if_pos (by rfl)];unfold Oper.wp;go_simp
   refine ⟨upd f 10 (.slice (some (yq V 0)) 1 1),by simp [upd,g],zO (U HD) (by decide) (by decide) (dr_alloc qM) (fun _=>vA.alloc vA.size _) ⟨V.heap.size,rfl,fun _=>?_⟩⟩
   exact fun j u h=>cellsQ V t.vs 65 j u h
  | 11,Y =>
   obtain rfl:=ya Y
   have g5:f 5 = vq:=hD 5 (ye K 5 rfl)
   obtain ⟨s,qL,hcs⟩:=hD 10 (ye K 10 rfl)
   have qM:¬ x[11]? = some true:=by rw [xu]; simp
   have n15:=n15' (by omega)
   have vA:=U uI qM
   have ur:ORow V B vq l:=zp (U HORO) vA
   rw [if_pos (by rfl)]
   refine wp_append_own V (.tmp 7) (.tmp 12) 25 rfl B 65 i0 _ 6 56 Tryz.underlying25 uJ uD uz uM rfl (by decide) vq l.length (l.flatMap Od.vs) g5 ur (J s 0) 1 1 t.vs qL rfl (hcs qM) (one_od t) (by unfold maxLen; omega) (by omega) (by have:=vA.size; omega) ?_
   intro v' w' xS uZ _
   obtain ⟨ga,gc,rfl⟩:=row_sliceT xS (by omega)
   refine ⟨upd f 11 (.slice (some (J ga 0)) (l.length + 1) gc),rfl,rt_one (by decide) (U HD) xu n15 (fun j v hj h=>dr_one j v hj h) ⟨some (J ga 0),gc,rfl,trivial,fun _=>⟨?_,?_⟩,fun h=>h.elim⟩⟩
   ·show World.ownsRow _ _ _ _ _ (l ++ [t]).length _
    rw [yQ,List.flatMap_append]; simpa using xS
   ·exact (ep vA hU).trans uZ
  | 12,Y =>
   obtain rfl:=ya Y
   have g:f 0 = I mb 0:=hD 0 (ye K 0 rfl)
   clear K hD
   rw [if_pos (by rfl)];unfold Oper.wp;go_simp
   exact ⟨upd f 12 (I mb 0),by simp [upd,g],zO (U HD) (by decide) (by decide) (fun _ _ h=>h) (U uI) rfl⟩
  | 13,Y =>
   obtain rfl:=ya Y
   have g:f 12 = I mb 0:=hD 12 (ye K 12 rfl)
   clear K hD
   rw [if_pos (by rfl)];unfold Oper.wp;go_simp
   exact ⟨upd f 13 (I mb 0),by simp [upd,g],zO (U HD) (by decide) (by decide) (fun _ _ h=>h) (U uI) rfl⟩
  | 14,Y =>
   obtain rfl:=ya Y
   have g:f 13 = I mb 0:=hD 13 (ye K 13 rfl)
   clear K hD
   rw [if_pos (by rfl)];unfold Oper.wp;go_simp
   exact ⟨upd f 14 (I mb 1),by simp [upd,g],zO (U HD) (by decide) (by decide) (fun _ _ h=>h) (U uI) rfl⟩
  | 15,Y =>
   obtain rfl:=ya Y
   have kR:f 14 = I mb 1:=hD 14 (ye K 14 rfl)
   have k11:x[11]? = some true:=K ⟨11,.data⟩ (by simp) rfl
   have n15:¬ x[15]? = some true:=by rw [xu]; simp
   obtain ⟨ga,gc,ql,-,hfa,-⟩:=hD 11 k11
   obtain ⟨oQ,uZ⟩:=hfa n15
   have oH:some mb ≠ vq.ownBlock:=hnq
   have y1:=uZ.cell (U bx) oH
   have f1:V.frozen? (J mb 1) = false:=(World.frozen?_of_block (a:=(J mb 1)) (uZ.block mb (by omega) oH)).trans (U HF1)
   have bu:=M (ql ▸ oQ)
   have HBXV:Hid (∃ xz,V.heap[mb]? = some (.cells xz 259 (0,0))):=by obtain ⟨xz,hc⟩:=U qC; exact ⟨xz,(uZ.block mb (by omega) oH).trans hc⟩
   have HGR:=M uZ
   clear K hD oQ uZ hfa
   rw [if_pos (by rfl)];unfold Oper.wp;go_simp
   refine ⟨upd f 15 Z,by simp [upd,kR,ql],rt_two (by decide) (U HD) k11 xu (fun j hj hxj h=>dr_two j hj h (fun hj11=>?_)) trivial⟩
   subst hj11
   obtain ⟨-,-,-,-,-,-⟩:=h
   refine ⟨ga,gc,ql,trivial,fun h=>absurd trivial h,fun _=>?_⟩
   rw [ql]
   refine ⟨yN _ _ _ y1,cw (U bu) (df (U bu) (U HBXV) (by decide)) 1 _,?_⟩
   exact eT (eE (U HGR) (by omega) oH) (took_set (o:=0) _ _)
  | i + 16,Y=>simp at Y
def cY (l:List Od):Bool:=if 20 < l.length then true else decide (8 < ((bX true 1 (zr l 1)).length:Int) + (bX false 2 (zr l 2)).length)
def DF (mb:Nat) (BV:Value) (q1 q2:List Od) (N:Int) (p:Prop) (W:World):Nat→Value→Prop
 | 0,v=>v = I mb 0
 | 1,v=>v = I mb 0
 | 2,v=>v = I mb 0
 | 3,v=>v = BV
 | 4,v=>∃ b,v = cP b∧Tb W b q1
 | 5,v=>v = I mb 0
 | 6,v=>v = I mb 0
 | 7,v=>v = I mb 0
 | 8,v=>v = BV
 | 9,v=>∃ b,v = cQ b∧Ts W b q2
 | 10,v=>v = H N
 | 11,v=>v = .bool (decide (8 < N))
 | 12,v=>v = .bool (decide (8 < N))
 | _,_=>True
theorem df_mono {mb:Nat} {BV:Value} {q1 q2:List Od} {N:Int}:∀ p W W' j v,yn W W'→DF mb BV q1 q2 N p W j v→DF mb BV q1 q2 N p W' j v:=by
 intro p W W' j v A h
 match j with
 | 0 | 1 | 2 | 3 | 5 | 6 | 7 | 8 | 10 | 11 | 12=>exact h
 | 4=>obtain ⟨b,Q,D⟩:=h; exact ⟨b,Q,zu D (A.block _ (zG D))⟩
 | 9=>obtain ⟨b,Q,D⟩:=h; exact ⟨b,Q,zu D (A.block _ (zG D))⟩
 | n + 13=>trivial
theorem isTooFull_any (mb B:Nat) (next:Int) (vq:Value) (l:List Od) (t:Od) (vt:Value) (ts:List Ev) (w:World) (h:MatS mb B w next vq l t vt ts) (hm:l.length ≤ 1000) (hl:∀ o' ∈ l,0 ≤ o'.left∧o'.left ≤ 1000000) :
  Calls Tryz.prog 212 #[I mb 0] w fun e w'=>e = ym (.bool (cY l))∧yn w w':=by
 have hmw:=h.lt
 have jU:=h.le
 have HR:=M (zV h.orow (by omega))
 obtain ⟨a,cap,rfl,_,_⟩:=zV h.orow (by omega)
 have HM:=M h.cells
 have z0:w.cell? (J mb 0) = some (H next):=h.cells 0 _ rfl
 have z1:w.cell? (J mb 1) = some (.slice a l.length cap):=h.cells 1 _ rfl
 have HLB:=M hl
 clear h hl
 go_enter Tryz.func212,Tryz.ntmps212
 by_cases h20:20 < l.length
 ·have h20':(20:Int) < l.length:=by omega
  have HF:Hid (cY l = true):=if_pos h20
  clear h20
  go_wp2_with fail
  go_ret
  exact ⟨zo (U HF).symm,Below.refl _ _⟩
 have h20':¬ (20:Int) < l.length:=by omega
 have hn:l.length ≤ 20:=by omega
 have n1:(zr l 1).length ≤ 20:=yO (List.length_filter_le _ _) hn
 have n2:(zr l 2).length ≤ 20:=yO (List.length_filter_le _ _) hn
 generalize hN:((bX true 1 (zr l 1)).length:Int) + (bX false 2 (zr l 2)).length = N
 have HF:Hid (cY l = decide (8 < N)):=by show _ = _; rw [cY,if_neg h20,hN]
 have HNN:=M hN
 clear hN h20
 go_wp2_with fail
 clear z0 z1
 refine zn (RG w (fun f=>{ tmps:=#[I mb 0,Z,f 12,I mb 0,I mb 0,I mb 0,I mb 1,.slice a l.length cap,H l.length,.bool false,f 0,f 1,f 2,f 3,f 4,f 5,f 6,f 7,f 8,f 9,f 10,f 11],defers:=[] }) 99 (DF mb (.agg #[H next,.slice a l.length cap]) (zr l 1) (zr l 2) N)) (by kernel_rfl) ?_ ?_ ?_
 ·exact ⟨fun j=>if j = 12 then .bool false else Z,rfl,⟨rfl,rfl,rfl,Nat.le_refl _,fun _ _=>rfl⟩,fun j hj=>by rw [yJ] at hj; split at hj <;> simp at hj⟩
 ·rintro x hb V ⟨f,rfl,xi,hD⟩ hx xN
  have xp:=zX xN hx (acyc _ (by kernel_rfl))
  have qj:f 12 = .bool (decide (8 < N)):=hD 12 (xp 12 (by simp))
  have xw:=M xi
  simp only [qj]
  clear hD xp qj xN hx xi
  go_wp2_with fail
  go_ret
  exact ⟨zo (U HF).symm,U xw⟩
 ·rintro x hb V i o ⟨f,rfl,xi,hD⟩ xo hx Y xu K
  clear xo
  have xw:=M xi
  have HD:=M hD
  have z0:=zc (U HM) xi hmw 0 _ rfl
  have z1:=zc (U HM) xi hmw 1 _ rfl
  rw [Nat.zero_add] at z0 z1
  have qh:=M (zh (U HR) xi hU)
  match i,Y with
  | 0,Y | 5,Y =>
   obtain rfl:=ya Y
   clear K hD xi
   rw [if_pos (by rfl)];unfold Oper.wp;go_simp
   exact ⟨upd f _ (I mb 0),by simp [upd],zf (U xw) (U HD) (by decide) rfl⟩
  | 1,Y =>
   obtain rfl:=ya Y
   have g:f 0 = I mb 0:=hD 0 (ye K 0 rfl)
   clear K hD xi
   rw [if_pos (by rfl)];unfold Oper.wp;go_simp
   exact ⟨upd f 1 (I mb 0),by simp [upd,g],zf (U xw) (U HD) (by decide) rfl⟩
  | 2,Y =>
   obtain rfl:=ya Y
   have g:f 1 = I mb 0:=hD 1 (ye K 1 rfl)
   clear K hD xi
   rw [if_pos (by rfl)];unfold Oper.wp;go_simp
   exact ⟨upd f 2 (I mb 0),by simp [upd,g],zf (U xw) (U HD) (by decide) rfl⟩
  | 3,Y =>
   obtain rfl:=ya Y
   have g:f 2 = I mb 0:=hD 2 (ye K 2 rfl)
   clear K hD xi
   rw [if_pos (by rfl)];unfold Oper.wp;go_simp
   exact ⟨upd f 3 (.agg #[H next,.slice a l.length cap]),by simp [upd,g],zf (U xw) (U HD) (by decide) rfl⟩
  | 4,Y =>
   obtain rfl:=ya Y
   have g:f 3 = .agg #[H next,.slice a l.length cap]:=hD 3 (ye K 3 rfl)
   clear K hD xi
   rw [if_pos (by rfl)];unfold Oper.wp;go_simp
   refine (gG next _ l V (U qh) hn (U HLB)).mono ?_
   rintro e w4 ⟨b,rfl,ht,qx,xy⟩
   exact ⟨upd f 4 (cP b),by simp [upd,g],rg_grow df_mono (U xw) (U HD) xy (by decide) ⟨b,rfl,ht⟩⟩
  | 6,Y =>
   obtain rfl:=ya Y
   have g:f 5 = I mb 0:=hD 5 (ye K 5 rfl)
   clear K hD xi
   rw [if_pos (by rfl)];unfold Oper.wp;go_simp
   exact ⟨upd f 6 (I mb 0),by simp [upd,g],zf (U xw) (U HD) (by decide) rfl⟩
  | 7,Y =>
   obtain rfl:=ya Y
   have g:f 6 = I mb 0:=hD 6 (ye K 6 rfl)
   clear K hD xi
   rw [if_pos (by rfl)];unfold Oper.wp;go_simp
   exact ⟨upd f 7 (I mb 0),by simp [upd,g],zf (U xw) (U HD) (by decide) rfl⟩
  | 8,Y =>
   obtain rfl:=ya Y
   have g:f 7 = I mb 0:=hD 7 (ye K 7 rfl)
   clear K hD xi
   rw [if_pos (by rfl)];unfold Oper.wp;go_simp
   exact ⟨upd f 8 (.agg #[H next,.slice a l.length cap]),by simp [upd,g],zf (U xw) (U HD) (by decide) rfl⟩
  | 9,Y =>
   obtain rfl:=ya Y
   have g:f 8 = .agg #[H next,.slice a l.length cap]:=hD 8 (ye K 8 rfl)
   clear K hD xi
   rw [if_pos (by rfl)];unfold Oper.wp;go_simp
   refine (gw next 2 (by omega) _ l V (U qh) hn (U HLB)).mono ?_
   rintro e w4 ⟨b,rfl,ht,qx,xy⟩
   exact ⟨upd f 9 (cQ b),by simp [upd,g],rg_grow df_mono (U xw) (U HD) xy (by decide) ⟨b,rfl,ht⟩⟩
  | 10,Y =>
   obtain rfl:=ya Y
   obtain ⟨b1,g4,t4⟩:=hD 4 (ye K 4 rfl)
   obtain ⟨b2,g9,t9⟩:=hD 9 (ye K 9 rfl)
   have HT4:=M t4
   have HT9:=M t9
   clear K hD xi t4 t9
   rw [if_pos (by rfl)];unfold Oper.wp;go_simp
   refine (gU b1 b2 1 2 (zr l 1) (zr l 2) V (U HT4) (U HT9) n1 n2).mono ?_
   rw [U HNN]
   rintro e w4 ⟨rfl,xy⟩
   exact ⟨upd f 10 (H N),by simp [upd,g4,g9],rg_grow df_mono (U xw) (U HD) xy (by decide) rfl⟩
  | 11,Y =>
   obtain rfl:=ya Y
   have g:f 10 = H N:=hD 10 (ye K 10 rfl)
   clear K hD xi
   rw [if_pos (by rfl)];unfold Oper.wp;go_simp
   exact ⟨upd f 11 (.bool (decide (8 < N))),by simp [upd,g],zf (U xw) (U HD) (by decide) rfl⟩
  | 12,Y =>
   obtain rfl:=ya Y
   have g:f 11 = .bool (decide (8 < N)):=hD 11 (ye K 11 rfl)
   clear K hD xi
   rw [if_pos (by rfl)];unfold Oper.wp;go_simp
   exact ⟨upd f 12 (.bool (decide (8 < N))),by simp [upd,g],zf (U xw) (U HD) (by decide) rfl⟩
  | n + 13,Y=>simp at Y
def bT (l:List Od) (sd:Int):Option Od:=(quOf (decide (sd = 1)) (zr l sd)).head?
def matL (c:Cm) (id:Int):Nat→List Od→Int→List Ev→List Od × Int × List Ev
 | 0,l,left,ts=>(l,left,ts)
 | n + 1,l,left,ts =>
  if 0 < left then
   match bT l (othS c.s) with
   | none=>(l,left,ts)
   | some o=>if cj c o = true then matL c id n (bQ l (plc l o.id).toNat o (min left o.left)) (left - min left o.left) (ts ++ [trE id o.id (min left o.left) o.ticks]) else (l,left,ts)
  else (l,left,ts)
structure GoodL (l:List Od):Prop where
 len:l.length ≤ 20
 left:∀ o ∈ l,0 < o.left∧o.left ≤ 1000000
 rise:cy l
theorem ek {l:List Od} {sd:Int} {o:Od} (h:bT l sd = some o):o ∈ l∧o.side = sd:=by
 have Q:o ∈ quOf (decide (sd = 1)) (zr l sd):=List.mem_of_head? h
 obtain ⟨k,_,D⟩:=List.mem_flatMap.1 Q
 have X:=(List.mem_filter.1 D).1
 have h4:=List.mem_filter.1 X
 exact ⟨h4.1,by simpa using h4.2⟩
theorem rise_id {l:List Od} (hr:cy l) {i k:Nat} {o o':Od} (hi:l[i]? = some o') (E:l[k]? = some o) (he:o'.id = o.id):i = k:=by
 obtain ⟨Q,rfl⟩:=yH.1 hi
 obtain ⟨D,rfl⟩:=yH.1 E
 rcases Nat.lt_trichotomy i k with h | h | h
 ·have:=List.pairwise_iff_getElem.1 hr i k Q D h; omega
 ·exact h
 ·have:=List.pairwise_iff_getElem.1 hr k i D Q h; omega
theorem dN {l:List Od} (hr:cy l) {k:Nat} {o:Od} (E:l[k]? = some o):plc l o.id = k:=by
 rcases plcF_spec o.id l 0 with ⟨_,D⟩ | ⟨i,o',Q,D,X,_⟩
 ·exact absurd rfl (D o (yP E))
 ·rw [plc,Q,rise_id hr D E X]; congr 1; omega
theorem dP {l:List Od} (h:GoodL l) {k:Nat} {o:Od} (E:l[k]? = some o) {qty:Int} (h0:0 ≤ qty) (Q:qty ≤ o.left):GoodL (bQ l k o qty)∧((bQ l k o qty).length + 1 = l.length ∨ (qty < o.left∧(bQ l k o qty).length = l.length)):=by
 have pP:=(yH.1 E).1
 by_cases he:o.left = qty
 ·have e:bQ l k o qty = l.take k ++ l.drop (k + 1):=if_pos he
  rw [e]
  have hs:(l.take k ++ l.drop (k + 1)).Sublist l:=by
   have:(l.take k ++ l.drop (k + 1)).Sublist (l.take k ++ l.drop k):=List.Sublist.append (List.Sublist.refl _) (by rw [drop_get E]; exact List.sublist_cons_self _ _)
   rwa [List.take_append_drop] at this
  refine ⟨⟨yO hs.length_le h.len,fun o' vu=>h.left o' (hs.subset vu),h.rise.sublist hs⟩,.inl ?_⟩
  simp; omega
 ·have e:bQ l k o qty = l.set k { o with left:=o.left - qty }:=if_neg he
  rw [e]
  have Y:=h.left o (yP E)
  refine ⟨⟨by rw [List.length_set]; exact h.len,fun o' vu=>?_,?_⟩,.inr ⟨by omega,by rw [List.length_set]⟩⟩
  ·rcases List.mem_or_eq_of_mem_set vu with D | rfl
   ·exact h.left o' D
   ·simp only; omega
  ·refine List.pairwise_iff_getElem.2 fun i j hi hj oT=>?_
   rw [List.length_set] at hi hj
   have hp:=List.pairwise_iff_getElem.1 h.rise i j hi hj oT
   have hko:l[k] = o:=by have:=(yH.1 E).2; exact this
   rw [List.getElem_set,List.getElem_set]
   split <;> split
   ·omega
   ·next D _=>subst D; rw [hko] at hp; exact hp
   ·next _ D=>subst D; rw [hko] at hp; exact hp
   ·exact hp
structure MI (c:Cm) (id:Int) (hR:List Od × Int × List Ev) (l:List Od) (left:Int) (ts:List Ev):Prop where
 good:GoodL l
 l0:0 ≤ left
 l1:left ≤ 1000000
 few:ts.length ≤ 21
 some:0 < left→ts.length + l.length ≤ 20
 goal:∃ n,matL c id n l left ts = hR∧(0 < left→l.length < n)
theorem matL_end {c:Cm} {id:Int} {n:Nat} {l:List Od} {left:Int} {ts:List Ev} (h:left ≤ 0):matL c id n l left ts = (l,left,ts):=by
 cases n with
 | zero=>rfl
 | succ n=>rw [matL,if_neg (by omega)]
theorem mi_start {c:Cm} {id:Int} {l:List Od} {left:Int} (h:GoodL l) (h0:0 ≤ left) (Q:left ≤ 1000000):MI c id (matL c id 21 l left []) l left [] :=
 ⟨h,h0,Q,by simp,fun _=>by simpa using h.len,21,rfl,fun _=>by have:=h.len; omega⟩
theorem mi_none {c:Cm} {id:Int} {hR:List Od × Int × List Ev} {l:List Od} {left:Int} {ts:List Ev} (h:MI c id hR l left ts) (hf:bT l (othS c.s) = none):hR = (l,left,ts):=by
 obtain ⟨n,rfl,hn⟩:=h.goal
 by_cases h0:0 < left
 ·obtain ⟨m,rfl⟩:∃ m,n = m + 1:=⟨n - 1,by have:=hn h0; omega⟩
  rw [matL,if_pos h0,hf]
 ·exact matL_end (by omega)
theorem mi_stop {c:Cm} {id:Int} {hR:List Od × Int × List Ev} {l:List Od} {left:Int} {ts:List Ev} (h:MI c id hR l left ts) {o:Od} (hf:bT l (othS c.s) = some o) (hm:cj c o = false):hR = (l,left,ts):=by
 obtain ⟨n,rfl,hn⟩:=h.goal
 by_cases h0:0 < left
 ·obtain ⟨m,rfl⟩:∃ m,n = m + 1:=⟨n - 1,by have:=hn h0; omega⟩
  rw [matL,if_pos h0,hf]
  simp only [hm]
  rw [if_neg (by simp)]
 ·exact matL_end (by omega)
theorem mi_done {c:Cm} {id:Int} {hR:List Od × Int × List Ev} {l:List Od} {left:Int} {ts:List Ev} (h:MI c id hR l left ts) (h0:¬ 0 < left):hR = (l,left,ts):=by
 obtain ⟨n,rfl,hn⟩:=h.goal
 exact matL_end (by omega)
theorem mi_step {c:Cm} {id:Int} {hR:List Od × Int × List Ev} {l:List Od} {left:Int} {ts:List Ev} (h:MI c id hR l left ts) (h0:0 < left) {o:Od} (hf:bT l (othS c.s) = some o) (hm:cj c o = true) :
  ∃ k,plc l o.id = (k:Nat)∧l[k]? = some o∧MI c id hR (bQ l k o (min left o.left)) (left - min left o.left) (ts ++ [trE id o.id (min left o.left) o.ticks])∧2 * (bQ l k o (min left o.left)).length + (if 0 < left - min left o.left then 1 else 0) < 2 * l.length + 1:=by
 obtain ⟨uC,_⟩:=ek hf
 obtain ⟨k,E⟩:=List.getElem?_of_mem uC
 have hp:=dN h.good.rise E
 have Y:=h.good.left o uC
 have Q:=h.l1
 have hs:=h.some h0
 obtain ⟨hg,hl⟩:=dP h.good E (qty:=min left o.left) (by omega) (by omega)
 obtain ⟨n,hF,hn⟩:=h.goal
 obtain ⟨m,rfl⟩:∃ m,n = m + 1:=⟨n - 1,by have:=hn h0; omega⟩
 have hn:=hn h0
 rw [matL,if_pos h0,hf] at hF
 simp only [hm,if_true] at hF
 rw [hp,Int.toNat_natCast] at hF
 refine ⟨k,hp,E,⟨hg,by omega,by omega,?_,fun xM=>?_,m,hF,fun xM=>?_⟩,?_⟩
 ·rw [yQ]; simp only [List.length_cons,List.length_nil]; omega
 ·rw [yQ]; simp only [List.length_cons,List.length_nil]; omega
 ·omega
 ·split <;> omega
end Go.Proofs.YthhkapcbocgcoaaGreatDoor
