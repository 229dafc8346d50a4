/-
  What is left of the taker laid behind the others, by the program: proved by walking the method.
-/
import Derived.Test.YtdliebbfcmdmaaaGreatMj13
set_option linter.unusedVariables false
set_option maxHeartbeats 6400000
set_option maxRecDepth 100000
namespace Go.Proofs.YtdliebbfcmdmaaaGreat
open Go.RowKit
theorem one_od (o:Od):∀ u ∈ o.vs,u.oneCell' = true:=by
 intro u hu
 simp [Od.vs] at hu
 rcases hu with rfl | rfl | rfl | rfl | rfl | rfl <;> rfl
def DR (mb B:Nat) (W0:World) (vq:Value) (l:List Od) (t:Od) (p q:Prop) (V:World):Nat→Value→Prop
 | 0,v=>v = I mb 0
 | 1,v=>v = I mb 0
 | 2,v=>v = I mb 0
 | 3,v=>v = I mb 0
 | 4,v=>v = I mb 1
 | 5,v=>v = vq
 | 6,v=>v = I mb 0
 | 7,v=>v = I mb 0
 | 8,v=>v = I mb 2
 | 9,v=>v = .agg (yv t.id t.side t.ticks t.left t.life t.tag).toArray
 | 10,v=>∃ s,v = .slice (some (J s 0)) 1 1∧(¬ p→∀ j u,t.vs[j]? = some u→V.cell? (((J s 0):Addr).add j) = some u)
 | 11,v=>∃ a c,v = .slice a (l.length + 1) c∧p∧(¬ q→ORow V B v (l ++ [t])∧W0.grownBy V vq.ownBlock)∧(q→V.cell? (J mb 1) = some v∧ORow V B v (l ++ [t])∧TookAt mb 0 vq.ownBlock W0 V)
 | 12,v=>v = I mb 0
 | 13,v=>v = I mb 0
 | 14,v=>v = I mb 1
 | _,_=>True
section
variable {mb B:Nat} {W0 V V':World} {vq:Value} {l:List Od} {t:Od} {p q:Prop}
theorem dr_alloc {o:Obj} (hp:¬ p):∀ j v,DR mb B W0 vq l t p q V j v→DR mb B W0 vq l t p q (V.alloc o) j v:=by
 intro j v h
 match j with
 | 0 | 1 | 2 | 3 | 4 | 5 | 6 | 7 | 8 | 9 | 12 | 13 | 14=>exact h
 | 10 =>
  obtain ⟨s,Q,N⟩:=h
  exact ⟨s,Q,fun hp j u hu=>(yV _ _ _ (yK V _ (N hp j u hu))).trans (N hp j u hu)⟩
 | 11=>obtain ⟨_,_,_,N,_⟩:=h; exact absurd N hp
 | j + 15=>trivial
theorem dr_one:∀ j v,j ≠ 11→DR mb B W0 vq l t False False V j v→DR mb B W0 vq l t True False V' j v:=by
 intro j v R h
 match j with
 | 0 | 1 | 2 | 3 | 4 | 5 | 6 | 7 | 8 | 9 | 12 | 13 | 14=>exact h
 | 10 =>
  obtain ⟨s,Q,N⟩:=h
  exact ⟨s,Q,fun hp=>absurd trivial hp⟩
 | 11=>exact absurd rfl R
 | j + 15=>trivial
theorem dr_two {v:Value}:∀ j,j ≠ 15→DR mb B W0 vq l t True False V j v→(j = 11→DR mb B W0 vq l t True True V' 11 v)→DR mb B W0 vq l t True True V' j v:=by
 intro j R h uX
 match j with
 | 0 | 1 | 2 | 3 | 4 | 5 | 6 | 7 | 8 | 9 | 12 | 13 | 14=>exact h
 | 10 =>
  obtain ⟨s,Q,N⟩:=h
  exact ⟨s,Q,fun hp=>absurd trivial hp⟩
 | 11=>exact uX rfl
 | j + 15=>trivial
end
theorem matS_took {mb B:Nat} {W w':World} {next:Int} {vq vw:Value} {l l':List Od} {t:Od} {vt:Value} {ts:List Ev} (h:MatS mb B W next vq l t vt ts) (ht:TookAt mb 0 vq.ownBlock W w') (hc:w'.cell? (J mb 1) = some vw) (Z:ORow w' B vw l'):MatS mb B w' next vw l' t vt ts:=by
 have xq:∀ j,j ≠ 1→w'.cell? (J mb j) = W.cell? (J mb j):=fun j Q=>ht.cell j (by omega)
 refine ⟨?_,fun j R=>⟨?_,?_⟩,Z,aV h.erow ht h.nt (zA h.erow h.orow (by decide)),by obtain ⟨xr,hc⟩:=h.box; exact ht.kind _ _ _ hc,yN h.le ht.size⟩
 ·intro j u R
  by_cases Q:j = 1
  ·subst Q; cases R; exact hc
  ·rw [Nat.zero_add,xq j Q]
   have:W.cell? (J mb (0 + j)) = some u:=h.cells j u (by
    rcases j with _ | _ | j
    ·exact R
    ·exact absurd rfl Q
    ·exact R)
   rwa [Nat.zero_add] at this
 ·by_cases Q:j = 1
  ·subst Q; rw [Nat.zero_add,hc]; rfl
  ·rw [Nat.zero_add,xq j Q]; have:=(h.there j R).1; rwa [Nat.zero_add] at this
 ·rw [Nat.zero_add,ht.frozen]; have:=(h.there j R).2; rwa [Nat.zero_add] at this
theorem rest_any (mb B:Nat) (next:Int) (vq:Value) (l:List Od) (t:Od) (vt:Value) (ts:List Ev) (w:World) (h:MatS mb B w next vq l t vt ts) (hn:l.length ≤ 1000) :
  Calls Tryz.prog 57 #[I mb 0] w fun e w'=>∃ vw,e = ym (.tuple #[])∧MatS mb B w' next vw (l ++ [t]) t vt ts∧KeptBut mb B w w':=by
 have HM:=Y h
 have qz:=h.lt
 have pA:=h.le
 have qF:=h.nq
 have uB:=Y h.box
 have jT:=Y h.orow
 have hM:=Y h.cells
 have qe:Hid (w.cell? (J mb 1) = some vq):=U hM 1 _ rfl
 have qK:Hid (w.frozen? (J mb 1) = false):=by have:=(h.there 1 (by omega)).2; rwa [Nat.zero_add] at this
 clear h
 obtain ⟨i0,uE,uA,uC,uM⟩:=info_parts Tryz.infoOrder
 go_enter Tryz.func57,Tryz.ntmps57
 go_wp2_with fail
 refine zh (RT (fun V=>yn w V) (fun f=>{ tmps:=#[I mb 0,M,f 0,f 1,f 2,f 3,f 4,f 5,f 6,f 7,f 8,f 9,f 10,f 11,f 12,f 13,f 14],defers:=[] }) 11 15 (DR mb B w vq l t)) (by kernel_rfl) ?_ ?_ ?_
 ·exact ⟨fun _=>M,rfl,fun _=>⟨rfl,rfl,rfl,Nat.le_refl _,fun _ _=>rfl⟩,fun j R=>by rw [yI] at R; split at R <;> simp at R⟩
 ·rintro x xm V ⟨f,rfl,-,hD⟩ hx xP
  have xp:=zT xP hx (acyc _ (by kernel_rfl))
  have oe:x[11]? = some true:=xp 11 (by simp)
  have k15:x[15]? = some true:=xp 15 (by simp)
  obtain ⟨va,vc,-,-,-,uU⟩:=hD 11 oe
  obtain ⟨q1,q2,q3⟩:=uU k15
  have vu:Hid (_∧_∧_):=⟨q1,q2,q3⟩
  clear hD xp xP hx oe k15 uU q1 q2 q3
  dsimp only
  go_wp2_with fail
  go_end0
  exact ⟨_,rfl,matS_took (U HM) (U vu).2.2 (U vu).1 (U vu).2.1,cw (U vu).2.2 pA (fun g hg=>((U jT).lt g hg).1)⟩
 ·rintro x xm V i op ⟨f,rfl,ju,hD⟩ xo hx Z xy D
  have uj:=Y ju
  have HD:=Y hD
  have xn:∀ b o u,w.cell? (J b o) = some u→¬ x[11]? = some true→V.cell? (J b o) = some u:=fun b o u hu hn11=>((U uj hn11).cell (p:=(J b o)) (yK w _ hu)).trans hu
  have pQ:i < 11→0 < i→¬ x[11]? = some true:=fun xK jy uX=>by
   have h5:=yf xo 11 rfl uX 5 rfl
   have vS:=yf xo 11 rfl uX 10 rfl
   have h4:=yf xo 5 rfl h5 4 rfl
   have h9:=yf xo 10 rfl vS 9 rfl
   have h3:=yf xo 4 rfl h4 3 rfl
   have h8:=yf xo 9 rfl h9 8 rfl
   have N:=yf xo 3 rfl h3 2 rfl
   have h7:=yf xo 8 rfl h8 7 rfl
   have Q:=yf xo 2 rfl N 1 rfl
   have h6:=yf xo 7 rfl h7 6 rfl
   have uk:∀ j,0 < j→j < 11→x[j]? = some true:=fun j jd R=>by
    rcases (by omega:j = 1 ∨ j = 2 ∨ j = 3 ∨ j = 4 ∨ j = 5 ∨ j = 6 ∨ j = 7 ∨ j = 8 ∨ j = 9 ∨ j = 10) with rfl | rfl | rfl | rfl | rfl | rfl | rfl | rfl | rfl | rfl <;> assumption
   rw [uk i jy xK] at xy; cases xy
  have n15':i < 15→¬ x[15]? = some true:=fun xK vx=>by
   have ji:=yf xo 15 rfl vx 14 rfl
   have uX:=yf xo 15 rfl vx 11 rfl
   have jr:=yf xo 14 rfl ji 13 rfl
   have h5:=yf xo 11 rfl uX 5 rfl
   have vS:=yf xo 11 rfl uX 10 rfl
   have qy:=yf xo 13 rfl jr 12 rfl
   have h4:=yf xo 5 rfl h5 4 rfl
   have h9:=yf xo 10 rfl vS 9 rfl
   have h0:=yf xo 12 rfl qy 0 rfl
   have h3:=yf xo 4 rfl h4 3 rfl
   have h8:=yf xo 9 rfl h9 8 rfl
   have N:=yf xo 3 rfl h3 2 rfl
   have h7:=yf xo 8 rfl h8 7 rfl
   have Q:=yf xo 2 rfl N 1 rfl
   have h6:=yf xo 7 rfl h7 6 rfl
   have uk:∀ j,j < 15→x[j]? = some true:=fun j R=>by
    rcases (by omega:j = 0 ∨ j = 1 ∨ j = 2 ∨ j = 3 ∨ j = 4 ∨ j = 5 ∨ j = 6 ∨ j = 7 ∨ j = 8 ∨ j = 9 ∨ j = 10 ∨ j = 11 ∨ j = 12 ∨ j = 13 ∨ j = 14) with rfl | rfl | rfl | rfl | rfl | rfl | rfl | rfl | rfl | rfl | rfl | rfl | rfl | rfl | rfl <;> assumption
   rw [uk i xK] at xy; cases xy
  clear xo ju
  match i,Z with
  | 0,Z | 1,Z | 6,Z =>
   obtain rfl:=ya Z
   clear D hD
   rw [if_pos (by rfl)];unfold Oper.wp;go_simp
   exact ⟨upd f _ (I mb 0),by simp [upd],zv (U HD) (by decide) (by decide) (fun _ _ h=>h) (U uj) rfl⟩
  | 2,Z =>
   obtain rfl:=ya Z
   have g:f 1 = I mb 0:=hD 1 (ye D 1 rfl)
   clear D hD
   rw [if_pos (by rfl)];unfold Oper.wp;go_simp
   exact ⟨upd f 2 (I mb 0),by simp [upd,g],zv (U HD) (by decide) (by decide) (fun _ _ h=>h) (U uj) rfl⟩
  | 3,Z =>
   obtain rfl:=ya Z
   have g:f 2 = I mb 0:=hD 2 (ye D 2 rfl)
   clear D hD
   rw [if_pos (by rfl)];unfold Oper.wp;go_simp
   exact ⟨upd f 3 (I mb 0),by simp [upd,g],zv (U HD) (by decide) (by decide) (fun _ _ h=>h) (U uj) rfl⟩
  | 4,Z =>
   obtain rfl:=ya Z
   have g:f 3 = I mb 0:=hD 3 (ye D 3 rfl)
   clear D hD
   rw [if_pos (by rfl)];unfold Oper.wp;go_simp
   exact ⟨upd f 4 (I mb 1),by simp [upd,g],zv (U HD) (by decide) (by decide) (fun _ _ h=>h) (U uj) rfl⟩
  | 5,Z =>
   obtain rfl:=ya Z
   have g:f 4 = I mb 1:=hD 4 (ye D 4 rfl)
   have qv:=pQ (by omega) (by omega)
   have y1:=xn mb 1 _ (U qe) qv
   clear D hD
   rw [if_pos (by rfl)];unfold Oper.wp;go_simp
   exact ⟨upd f 5 (vq),by simp [upd,g],zv (U HD) (by decide) (by decide) (fun _ _ h=>h) (U uj) rfl⟩
  | 7,Z =>
   obtain rfl:=ya Z
   have g:f 6 = I mb 0:=hD 6 (ye D 6 rfl)
   clear D hD
   rw [if_pos (by rfl)];unfold Oper.wp;go_simp
   exact ⟨upd f 7 (I mb 0),by simp [upd,g],zv (U HD) (by decide) (by decide) (fun _ _ h=>h) (U uj) rfl⟩
  | 8,Z =>
   obtain rfl:=ya Z
   have g:f 7 = I mb 0:=hD 7 (ye D 7 rfl)
   clear D hD
   rw [if_pos (by rfl)];unfold Oper.wp;go_simp
   exact ⟨upd f 8 (I mb 2),by simp [upd,g],zv (U HD) (by decide) (by decide) (fun _ _ h=>h) (U uj) rfl⟩
  | 9,Z =>
   obtain rfl:=ya Z
   have g:f 8 = I mb 2:=hD 8 (ye D 8 rfl)
   have qv:=pQ (by omega) (by omega)
   have y2:=xn mb 2 _ (U hM 2 _ rfl) qv
   have y3:=xn mb 3 _ (U hM 3 _ rfl) qv
   have y4:=xn mb 4 _ (U hM 4 _ rfl) qv
   have y5:=xn mb 5 _ (U hM 5 _ rfl) qv
   have y6:=xn mb 6 _ (U hM 6 _ rfl) qv
   have y7:=xn mb 7 _ (U hM 7 _ rfl) qv
   clear D hD
   rw [if_pos (by rfl)];unfold Oper.wp;go_simp
   exact ⟨upd f 9 (.agg (yv t.id t.side t.ticks t.left t.life t.tag).toArray),by simp [upd,g],zv (U HD) (by decide) (by decide) (fun _ _ h=>h) (U uj) rfl⟩
  | 10,Z =>
   obtain rfl:=ya Z
   have g:f 9 = .agg (yv t.id t.side t.ticks t.left t.life t.tag).toArray:=hD 9 (ye D 9 rfl)
   have qv:=pQ (by omega) (by omega)
   have xV:=U uj qv
   clear D hD
   rw [if_pos (by rfl)];unfold Oper.wp;go_simp
   refine ⟨upd f 10 (.slice (some (yq V 0)) 1 1),by simp [upd,g],zv (U HD) (by decide) (by decide) (dr_alloc qv) (fun _=>xV.alloc xV.size _) ⟨V.heap.size,rfl,fun _=>?_⟩⟩
   exact fun j u h=>bT V t.vs 66 j u h
  | 11,Z =>
   obtain rfl:=ya Z
   have g5:f 5 = vq:=hD 5 (ye D 5 rfl)
   obtain ⟨s,qC,om⟩:=hD 10 (ye D 10 rfl)
   have qv:¬ x[11]? = some true:=by rw [xy]; simp
   have n15:=n15' (by omega)
   have xV:=U uj qv
   have uV:ORow V B vq l:=zk (U jT) xV
   rw [if_pos (by rfl)]
   refine wp_append_own V (.tmp 7) (.tmp 12) 29 rfl B 66 i0 _ 6 56 Tryz.underlying29 uE uA uC uM rfl (by decide) vq l.length (l.flatMap Od.vs) g5 uV (J s 0) 1 1 t.vs qC rfl (om qv) (one_od t) (by unfold maxLen; omega) (by omega) (by have:=xV.size; omega) ?_
   intro v' w' xL ub _
   obtain ⟨ga,gc,rfl⟩:=dt xL (by omega)
   refine ⟨upd f 11 (.slice (some (J ga 0)) (l.length + 1) gc),rfl,rt_one (by decide) (U HD) xy n15 (fun j v R h=>dr_one j v R h) ⟨some (J ga 0),gc,rfl,trivial,fun _=>⟨?_,?_⟩,fun h=>h.elim⟩⟩
   ·show World.ownsRow _ _ _ _ _ (l ++ [t]).length _
    rw [yP,List.flatMap_append]; simpa using xL
   ·exact (zX xV tg).trans ub
  | 12,Z =>
   obtain rfl:=ya Z
   have g:f 0 = I mb 0:=hD 0 (ye D 0 rfl)
   clear D hD
   rw [if_pos (by rfl)];unfold Oper.wp;go_simp
   exact ⟨upd f 12 (I mb 0),by simp [upd,g],zv (U HD) (by decide) (by decide) (fun _ _ h=>h) (U uj) rfl⟩
  | 13,Z =>
   obtain rfl:=ya Z
   have g:f 12 = I mb 0:=hD 12 (ye D 12 rfl)
   clear D hD
   rw [if_pos (by rfl)];unfold Oper.wp;go_simp
   exact ⟨upd f 13 (I mb 0),by simp [upd,g],zv (U HD) (by decide) (by decide) (fun _ _ h=>h) (U uj) rfl⟩
  | 14,Z =>
   obtain rfl:=ya Z
   have g:f 13 = I mb 0:=hD 13 (ye D 13 rfl)
   clear D hD
   rw [if_pos (by rfl)];unfold Oper.wp;go_simp
   exact ⟨upd f 14 (I mb 1),by simp [upd,g],zv (U HD) (by decide) (by decide) (fun _ _ h=>h) (U uj) rfl⟩
  | 15,Z =>
   obtain rfl:=ya Z
   have kw:f 14 = I mb 1:=hD 14 (ye D 14 rfl)
   have oe:x[11]? = some true:=D ⟨11,.data⟩ (by simp) rfl
   have n15:¬ x[15]? = some true:=by rw [xy]; simp
   obtain ⟨ga,gc,vF,-,hfa,-⟩:=hD 11 oe
   obtain ⟨jW,ub⟩:=hfa n15
   have qQ:some mb ≠ vq.ownBlock:=qF
   have y1:=ub.cell (U qe) qQ
   have f1:V.frozen? (J mb 1) = false:=(World.frozen?_of_block (a:=(J mb 1)) (ub.block mb (by omega) qQ)).trans (U qK)
   have jM:=Y (vF ▸ jW)
   have pj:Hid (∃ xr,V.heap[mb]? = some (.cells xr 105 (0,0))):=by obtain ⟨xr,hc⟩:=U uB; exact ⟨xr,(ub.block mb (by omega) qQ).trans hc⟩
   have oz:=Y ub
   clear D hD jW ub hfa
   rw [if_pos (by rfl)];unfold Oper.wp;go_simp
   refine ⟨upd f 15 M,by simp [upd,kw,vF],rt_two (by decide) (U HD) oe xy (fun j R hxj h=>dr_two j R h (fun hj11=>?_)) trivial⟩
   subst hj11
   obtain ⟨-,-,-,-,-,-⟩:=h
   refine ⟨ga,gc,vF,trivial,fun h=>absurd trivial h,fun _=>?_⟩
   rw [vF]
   refine ⟨yM _ _ _ y1,zr (U jM) (zj (U jM) (U pj) (by decide)) 1 _,?_⟩
   exact bN (br (U oz) (by omega) qQ) (cP (o:=0) _ _)
  | i + 16,Z=>simp at Z
def aU (l:List Od):Bool:=if 20 < l.length then true else decide (8 < ((aE true 1 (zt l 1)).length:Int) + (aE false 2 (zt l 2)).length)
def DF (mb:Nat) (BV:Value) (q1 q2:List Od) (h2:Int) (p:Prop) (W:World):Nat→Value→Prop
 | 0,v=>v = I mb 0
 | 1,v=>v = I mb 0
 | 2,v=>v = I mb 0
 | 3,v=>v = BV
 | 4,v=>∃ b,v = bJ b∧Tb W b q1
 | 5,v=>v = I mb 0
 | 6,v=>v = I mb 0
 | 7,v=>v = I mb 0
 | 8,v=>v = BV
 | 9,v=>∃ b,v = bK b∧Ts W b q2
 | 10,v=>v = H h2
 | 11,v=>v = .bool (decide (8 < h2))
 | 12,v=>v = .bool (decide (8 < h2))
 | _,_=>True
theorem df_mono {mb:Nat} {BV:Value} {q1 q2:List Od} {h2:Int}:∀ p W W' j v,yn W W'→DF mb BV q1 q2 h2 p W j v→DF mb BV q1 q2 h2 p W' j v:=by
 intro p W W' j v L h
 match j with
 | 0 | 1 | 2 | 3 | 5 | 6 | 7 | 8 | 10 | 11 | 12=>exact h
 | 4=>obtain ⟨b,Q,N⟩:=h; exact ⟨b,Q,zE N (L.block _ (aX N))⟩
 | 9=>obtain ⟨b,Q,N⟩:=h; exact ⟨b,Q,zE N (L.block _ (aX N))⟩
 | n + 13=>trivial
theorem isTooFull_any (mb B:Nat) (next:Int) (vq:Value) (l:List Od) (t:Od) (vt:Value) (ts:List Ev) (w:World) (h:MatS mb B w next vq l t vt ts) (hm:l.length ≤ 1000) (hl:∀ o' ∈ l,0 ≤ o'.left∧o'.left ≤ 1000000) :
  Calls Tryz.prog 100 #[I mb 0] w fun e w'=>e = ym (.bool (aU l))∧yn w w':=by
 have qz:=h.lt
 have pA:=h.le
 have HR:=Y (zK h.orow (by omega))
 obtain ⟨a,A,rfl,_,_⟩:=zK h.orow (by omega)
 have HM:=Y h.cells
 have z0:w.cell? (J mb 0) = some (H next):=h.cells 0 _ rfl
 have z1:w.cell? (J mb 1) = some (.slice a l.length A):=h.cells 1 _ rfl
 have HLB:=Y hl
 clear h hl
 go_enter Tryz.func100,Tryz.ntmps100
 by_cases h20:20 < l.length
 ·have h20':(20:Int) < l.length:=by omega
  have HF:Hid (aU l = true):=if_pos h20
  clear h20
  go_wp2_with fail
  go_ret
  exact ⟨zy (U HF).symm,Below.refl _ _⟩
 have h20':¬ (20:Int) < l.length:=by omega
 have hn:l.length ≤ 20:=by omega
 have n1:(zt l 1).length ≤ 20:=yN (List.length_filter_le _ _) hn
 have n2:(zt l 2).length ≤ 20:=yN (List.length_filter_le _ _) hn
 generalize hN:((aE true 1 (zt l 1)).length:Int) + (aE false 2 (zt l 2)).length = h2
 have HF:Hid (aU l = decide (8 < h2)):=by show _ = _; rw [aU,if_neg h20,hN]
 have HNN:=Y hN
 clear hN h20
 go_wp2_with fail
 clear z0 z1
 refine zh (RG w (fun f=>{ tmps:=#[I mb 0,M,f 12,I mb 0,I mb 0,I mb 0,I mb 1,.slice a l.length A,H l.length,.bool false,f 0,f 1,f 2,f 3,f 4,f 5,f 6,f 7,f 8,f 9,f 10,f 11],defers:=[] }) 99 (DF mb (.agg #[H next,.slice a l.length A]) (zt l 1) (zt l 2) h2)) (by kernel_rfl) ?_ ?_ ?_
 ·exact ⟨fun j=>if j = 12 then .bool false else M,rfl,⟨rfl,rfl,rfl,Nat.le_refl _,fun _ _=>rfl⟩,fun j R=>by rw [yI] at R; split at R <;> simp at R⟩
 ·rintro x xm V ⟨f,rfl,xk,hD⟩ hx xP
  have xp:=zT xP hx (acyc _ (by kernel_rfl))
  have e12:f 12 = .bool (decide (8 < h2)):=hD 12 (xp 12 (by simp))
  have xv:=Y xk
  simp only [e12]
  clear hD xp e12 xP hx xk
  go_wp2_with fail
  go_ret
  exact ⟨zy (U HF).symm,U xv⟩
 ·rintro x xm V i o ⟨f,rfl,xk,hD⟩ xo hx Z xy D
  clear xo
  have xv:=Y xk
  have HD:=Y hD
  have z0:=zb (U HM) xk qz 0 _ rfl
  have z1:=zb (U HM) xk qz 1 _ rfl
  rw [Nat.zero_add] at z0 z1
  have jf:=Y (zl (U HR) xk tg)
  match i,Z with
  | 0,Z | 5,Z =>
   obtain rfl:=ya Z
   clear D hD xk
   rw [if_pos (by rfl)];unfold Oper.wp;go_simp
   exact ⟨upd f _ (I mb 0),by simp [upd],zd (U xv) (U HD) (by decide) rfl⟩
  | 1,Z =>
   obtain rfl:=ya Z
   have g:f 0 = I mb 0:=hD 0 (ye D 0 rfl)
   clear D hD xk
   rw [if_pos (by rfl)];unfold Oper.wp;go_simp
   exact ⟨upd f 1 (I mb 0),by simp [upd,g],zd (U xv) (U HD) (by decide) rfl⟩
  | 2,Z =>
   obtain rfl:=ya Z
   have g:f 1 = I mb 0:=hD 1 (ye D 1 rfl)
   clear D hD xk
   rw [if_pos (by rfl)];unfold Oper.wp;go_simp
   exact ⟨upd f 2 (I mb 0),by simp [upd,g],zd (U xv) (U HD) (by decide) rfl⟩
  | 3,Z =>
   obtain rfl:=ya Z
   have g:f 2 = I mb 0:=hD 2 (ye D 2 rfl)
   clear D hD xk
   rw [if_pos (by rfl)];unfold Oper.wp;go_simp
   exact ⟨upd f 3 (.agg #[H next,.slice a l.length A]),by simp [upd,g],zd (U xv) (U HD) (by decide) rfl⟩
  | 4,Z =>
   obtain rfl:=ya Z
   have g:f 3 = .agg #[H next,.slice a l.length A]:=hD 3 (ye D 3 rfl)
   clear D hD xk
   rw [if_pos (by rfl)];unfold Oper.wp;go_simp
   refine (sideOf_buy next _ l V (U jf) hn (U HLB)).mono ?_
   rintro e w4 ⟨b,rfl,ht,kl,xC⟩
   exact ⟨upd f 4 (bJ b),by simp [upd,g],cS df_mono (U xv) (U HD) xC (by decide) ⟨b,rfl,ht⟩⟩
  | 6,Z =>
   obtain rfl:=ya Z
   have g:f 5 = I mb 0:=hD 5 (ye D 5 rfl)
   clear D hD xk
   rw [if_pos (by rfl)];unfold Oper.wp;go_simp
   exact ⟨upd f 6 (I mb 0),by simp [upd,g],zd (U xv) (U HD) (by decide) rfl⟩
  | 7,Z =>
   obtain rfl:=ya Z
   have g:f 6 = I mb 0:=hD 6 (ye D 6 rfl)
   clear D hD xk
   rw [if_pos (by rfl)];unfold Oper.wp;go_simp
   exact ⟨upd f 7 (I mb 0),by simp [upd,g],zd (U xv) (U HD) (by decide) rfl⟩
  | 8,Z =>
   obtain rfl:=ya Z
   have g:f 7 = I mb 0:=hD 7 (ye D 7 rfl)
   clear D hD xk
   rw [if_pos (by rfl)];unfold Oper.wp;go_simp
   exact ⟨upd f 8 (.agg #[H next,.slice a l.length A]),by simp [upd,g],zd (U xv) (U HD) (by decide) rfl⟩
  | 9,Z =>
   obtain rfl:=ya Z
   have g:f 8 = .agg #[H next,.slice a l.length A]:=hD 8 (ye D 8 rfl)
   clear D hD xk
   rw [if_pos (by rfl)];unfold Oper.wp;go_simp
   refine (sideOf_sell next 2 (by omega) _ l V (U jf) hn (U HLB)).mono ?_
   rintro e w4 ⟨b,rfl,ht,kl,xC⟩
   exact ⟨upd f 9 (bK b),by simp [upd,g],cS df_mono (U xv) (U HD) xC (by decide) ⟨b,rfl,ht⟩⟩
  | 10,Z =>
   obtain rfl:=ya Z
   obtain ⟨b1,g4,t4⟩:=hD 4 (ye D 4 rfl)
   obtain ⟨b2,g9,t9⟩:=hD 9 (ye D 9 rfl)
   have ai:=Y t4
   have HT9:=Y t9
   clear D hD xk t4 t9
   rw [if_pos (by rfl)];unfold Oper.wp;go_simp
   refine (countLevels_any b1 b2 1 2 (zt l 1) (zt l 2) V (U ai) (U HT9) n1 n2).mono ?_
   rw [U HNN]
   rintro e w4 ⟨rfl,xC⟩
   exact ⟨upd f 10 (H h2),by simp [upd,g4,g9],cS df_mono (U xv) (U HD) xC (by decide) rfl⟩
  | 11,Z =>
   obtain rfl:=ya Z
   have g:f 10 = H h2:=hD 10 (ye D 10 rfl)
   clear D hD xk
   rw [if_pos (by rfl)];unfold Oper.wp;go_simp
   exact ⟨upd f 11 (.bool (decide (8 < h2))),by simp [upd,g],zd (U xv) (U HD) (by decide) rfl⟩
  | 12,Z =>
   obtain rfl:=ya Z
   have g:f 11 = .bool (decide (8 < h2)):=hD 11 (ye D 11 rfl)
   clear D hD xk
   rw [if_pos (by rfl)];unfold Oper.wp;go_simp
   exact ⟨upd f 12 (.bool (decide (8 < h2))),by simp [upd,g],zd (U xv) (U HD) (by decide) rfl⟩
  | n + 13,Z=>simp at Z
end Go.Proofs.YtdliebbfcmdmaaaGreat
