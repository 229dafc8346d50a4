/-
  What is left of a taker put behind the others, and what of memory it takes: proved by walking the method.
-/
import Derived.Test.YtbakanofkghmiaaGreatTj27
set_option linter.unusedVariables false
set_option maxHeartbeats 6400000
set_option maxRecDepth 100000
namespace Go.Proofs.YtbakanofkghmiaaGreat
open Go.RowKit
theorem rest_took (mb B:Nat) (next:Int) (vq:Value) (l:List Od) (t:Od) (vt:Value) (ts:List Ev) (w:World) (h:MatS mb B w next vq l t vt ts) (hn:l.length ≤ 1000) :
  Calls Tryz.prog 115 #[I mb 0] w fun e w'=>∃ vl,e = yl (.tuple #[])∧MatS mb B w' next vl (l ++ [t]) t vt ts∧TookAt mb 0 vq.ownBlock w w':=by
 have HM:=Y h
 have qr:=h.lt
 have pe:=h.le
 have qy:=h.nq
 have uv:=Y h.box
 have jG:=Y h.orow
 have hM:=Y h.cells
 have vV:Hid (w.cell? (J mb 1) = some vq):=U hM 1 _ rfl
 have qC:Hid (w.frozen? (J mb 1) = false):=by have:=(h.there 1 (by omega)).2; rwa [Nat.zero_add] at this
 clear h
 obtain ⟨i0,uz,uA,uF,uR⟩:=info_parts Tryz.infoOrder
 go_enter Tryz.func115,Tryz.ntmps115
 go_wp2_with fail
 refine zh (RT (fun V=>ym w V) (fun f=>{ tmps:=#[I mb 0,M,f 0,f 1,f 2,f 3,f 4,f 5,f 6,f 7,f 8,f 9,f 10,f 11,f 12,f 13,f 14],defers:=[] }) 11 15 (DR mb B w vq l t)) (by kernel_rfl) ?_ ?_ ?_
 ·exact ⟨fun _=>M,rfl,fun _=>⟨rfl,rfl,rfl,Nat.le_refl _,fun _ _=>rfl⟩,fun j R=>by rw [yG] at R; split at R <;> simp at R⟩
 ·rintro x hR V ⟨f,rfl,-,X⟩ hx xM
  have xn:=zS xM hx (acyc _ (by kernel_rfl))
  have oz:x[11]? = some true:=xn 11 (by simp)
  have k15:x[15]? = some true:=xn 15 (by simp)
  obtain ⟨va,vc,-,-,-,vd⟩:=X 11 oz
  obtain ⟨q1,q2,q3⟩:=vd k15
  have vj:Hid (_∧_∧_):=⟨q1,q2,q3⟩
  clear X xn xM hx oz k15 vd q1 q2 q3
  dsimp only
  go_wp2_with fail
  go_end0
  exact ⟨_,rfl,matS_took (U HM) (U vj).2.2 (U vj).1 (U vj).2.1,(U vj).2.2⟩
 ·rintro x hR V i op ⟨f,rfl,jm,X⟩ L hx Z xu G
  have uf:=Y jm
  have HD:=Y X
  have xk:∀ b o u,w.cell? (J b o) = some u→¬ x[11]? = some true→V.cell? (J b o) = some u:=fun b o u hu hn11=>((U uf hn11).cell (p:=(J b o)) (yI w _ hu)).trans hu
  have pv:i < 11→0 < i→¬ x[11]? = some true:=fun xH jr uS=>by
   have h5:=ye L 11 rfl uS 5 rfl
   have vI:=ye L 11 rfl uS 10 rfl
   have h4:=ye L 5 rfl h5 4 rfl
   have h9:=ye L 10 rfl vI 9 rfl
   have h3:=ye L 4 rfl h4 3 rfl
   have h8:=ye L 9 rfl h9 8 rfl
   have N:=ye L 3 rfl h3 2 rfl
   have h7:=ye L 8 rfl h8 7 rfl
   have Q:=ye L 2 rfl N 1 rfl
   have h6:=ye L 7 rfl h7 6 rfl
   have ug:∀ j,0 < j→j < 11→x[j]? = some true:=fun j jn R=>by
    rcases (by omega:j = 1 ∨ j = 2 ∨ j = 3 ∨ j = 4 ∨ j = 5 ∨ j = 6 ∨ j = 7 ∨ j = 8 ∨ j = 9 ∨ j = 10) with rfl | rfl | rfl | rfl | rfl | rfl | rfl | rfl | rfl | rfl <;> assumption
   rw [ug i jr xH] at xu; cases xu
  have n15':i < 15→¬ x[15]? = some true:=fun xH uM=>by
   have ja:=ye L 15 rfl uM 14 rfl
   have uS:=ye L 15 rfl uM 11 rfl
   have jJ:=ye L 14 rfl ja 13 rfl
   have h5:=ye L 11 rfl uS 5 rfl
   have vI:=ye L 11 rfl uS 10 rfl
   have qq:=ye L 13 rfl jJ 12 rfl
   have h4:=ye L 5 rfl h5 4 rfl
   have h9:=ye L 10 rfl vI 9 rfl
   have h0:=ye L 12 rfl qq 0 rfl
   have h3:=ye L 4 rfl h4 3 rfl
   have h8:=ye L 9 rfl h9 8 rfl
   have N:=ye L 3 rfl h3 2 rfl
   have h7:=ye L 8 rfl h8 7 rfl
   have Q:=ye L 2 rfl N 1 rfl
   have h6:=ye L 7 rfl h7 6 rfl
   have ug:∀ j,j < 15→x[j]? = some true:=fun j R=>by
    rcases (by omega:j = 0 ∨ j = 1 ∨ j = 2 ∨ j = 3 ∨ j = 4 ∨ j = 5 ∨ j = 6 ∨ j = 7 ∨ j = 8 ∨ j = 9 ∨ j = 10 ∨ j = 11 ∨ j = 12 ∨ j = 13 ∨ j = 14) with rfl | rfl | rfl | rfl | rfl | rfl | rfl | rfl | rfl | rfl | rfl | rfl | rfl | rfl | rfl <;> assumption
   rw [ug i xH] at xu; cases xu
  clear L jm
  match i,Z with
  | 0,Z | 1,Z | 6,Z =>
   obtain rfl:=ya Z
   clear G X
   rw [if_pos (by rfl)];unfold Oper.wp;go_simp
   exact ⟨upd f _ (I mb 0),by simp [upd],zu (U HD) (by decide) (by decide) (fun _ _ h=>h) (U uf) rfl⟩
  | 2,Z =>
   obtain rfl:=ya Z
   have g:f 1 = I mb 0:=X 1 (yd G 1 rfl)
   clear G X
   rw [if_pos (by rfl)];unfold Oper.wp;go_simp
   exact ⟨upd f 2 (I mb 0),by simp [upd,g],zu (U HD) (by decide) (by decide) (fun _ _ h=>h) (U uf) rfl⟩
  | 3,Z =>
   obtain rfl:=ya Z
   have g:f 2 = I mb 0:=X 2 (yd G 2 rfl)
   clear G X
   rw [if_pos (by rfl)];unfold Oper.wp;go_simp
   exact ⟨upd f 3 (I mb 0),by simp [upd,g],zu (U HD) (by decide) (by decide) (fun _ _ h=>h) (U uf) rfl⟩
  | 4,Z =>
   obtain rfl:=ya Z
   have g:f 3 = I mb 0:=X 3 (yd G 3 rfl)
   clear G X
   rw [if_pos (by rfl)];unfold Oper.wp;go_simp
   exact ⟨upd f 4 (I mb 1),by simp [upd,g],zu (U HD) (by decide) (by decide) (fun _ _ h=>h) (U uf) rfl⟩
  | 5,Z =>
   obtain rfl:=ya Z
   have g:f 4 = I mb 1:=X 4 (yd G 4 rfl)
   have qm:=pv (by omega) (by omega)
   have y1:=xk mb 1 _ (U vV) qm
   clear G X
   rw [if_pos (by rfl)];unfold Oper.wp;go_simp
   exact ⟨upd f 5 (vq),by simp [upd,g],zu (U HD) (by decide) (by decide) (fun _ _ h=>h) (U uf) rfl⟩
  | 7,Z =>
   obtain rfl:=ya Z
   have g:f 6 = I mb 0:=X 6 (yd G 6 rfl)
   clear G X
   rw [if_pos (by rfl)];unfold Oper.wp;go_simp
   exact ⟨upd f 7 (I mb 0),by simp [upd,g],zu (U HD) (by decide) (by decide) (fun _ _ h=>h) (U uf) rfl⟩
  | 8,Z =>
   obtain rfl:=ya Z
   have g:f 7 = I mb 0:=X 7 (yd G 7 rfl)
   clear G X
   rw [if_pos (by rfl)];unfold Oper.wp;go_simp
   exact ⟨upd f 8 (I mb 2),by simp [upd,g],zu (U HD) (by decide) (by decide) (fun _ _ h=>h) (U uf) rfl⟩
  | 9,Z =>
   obtain rfl:=ya Z
   have g:f 8 = I mb 2:=X 8 (yd G 8 rfl)
   have qm:=pv (by omega) (by omega)
   have y2:=xk mb 2 _ (U hM 2 _ rfl) qm
   have y3:=xk mb 3 _ (U hM 3 _ rfl) qm
   have y4:=xk mb 4 _ (U hM 4 _ rfl) qm
   have y5:=xk mb 5 _ (U hM 5 _ rfl) qm
   have y6:=xk mb 6 _ (U hM 6 _ rfl) qm
   have y7:=xk mb 7 _ (U hM 7 _ rfl) qm
   clear G X
   rw [if_pos (by rfl)];unfold Oper.wp;go_simp
   exact ⟨upd f 9 (.agg (yu t.id t.side t.ticks t.left t.life t.tag).toArray),by simp [upd,g],zu (U HD) (by decide) (by decide) (fun _ _ h=>h) (U uf) rfl⟩
  | 10,Z =>
   obtain rfl:=ya Z
   have g:f 9 = .agg (yu t.id t.side t.ticks t.left t.life t.tag).toArray:=X 9 (yd G 9 rfl)
   have qm:=pv (by omega) (by omega)
   have xR:=U uf qm
   clear G X
   rw [if_pos (by rfl)];unfold Oper.wp;go_simp
   refine ⟨upd f 10 (.slice (some (yp V 0)) 1 1),by simp [upd,g],zu (U HD) (by decide) (by decide) (dr_alloc qm) (fun _=>xR.alloc xR.size _) ⟨V.heap.size,rfl,fun _=>?_⟩⟩
   exact fun j u h=>aY V t.vs 49 j u h
  | 11,Z =>
   obtain rfl:=ya Z
   have g5:f 5 = vq:=X 5 (yd G 5 rfl)
   obtain ⟨s,qG,kQ⟩:=X 10 (yd G 10 rfl)
   have qm:¬ x[11]? = some true:=by rw [xu]; simp
   have n15:=n15' (by omega)
   have xR:=U uf qm
   have uQ:ORow V B vq l:=zk (U jG) xR
   rw [if_pos (by rfl)]
   refine wp_append_own V (.tmp 7) (.tmp 12) 26 rfl B 49 i0 _ 6 56 Tryz.underlying26 uz uA uF uR rfl (by decide) vq l.length (l.flatMap Od.vs) g5 uQ (J s 0) 1 1 t.vs qG rfl (kQ qm) (one_od t) (by unfold maxLen; omega) (by omega) (by have:=xR.size; omega) ?_
   intro v' w' xK uh _
   obtain ⟨ga,gc,rfl⟩:=cK xK (by omega)
   refine ⟨upd f 11 (.slice (some (J ga 0)) (l.length + 1) gc),rfl,rt_one (by decide) (U HD) xu n15 (fun j v R h=>dr_one j v R h) ⟨some (J ga 0),gc,rfl,trivial,fun _=>⟨?_,?_⟩,fun h=>h.elim⟩⟩
   ·show World.ownsRow _ _ _ _ _ (l ++ [t]).length _
    rw [yN,List.flatMap_append]; simpa using xK
   ·exact (pX xR qt).trans uh
  | 12,Z =>
   obtain rfl:=ya Z
   have g:f 0 = I mb 0:=X 0 (yd G 0 rfl)
   clear G X
   rw [if_pos (by rfl)];unfold Oper.wp;go_simp
   exact ⟨upd f 12 (I mb 0),by simp [upd,g],zu (U HD) (by decide) (by decide) (fun _ _ h=>h) (U uf) rfl⟩
  | 13,Z =>
   obtain rfl:=ya Z
   have g:f 12 = I mb 0:=X 12 (yd G 12 rfl)
   clear G X
   rw [if_pos (by rfl)];unfold Oper.wp;go_simp
   exact ⟨upd f 13 (I mb 0),by simp [upd,g],zu (U HD) (by decide) (by decide) (fun _ _ h=>h) (U uf) rfl⟩
  | 14,Z =>
   obtain rfl:=ya Z
   have g:f 13 = I mb 0:=X 13 (yd G 13 rfl)
   clear G X
   rw [if_pos (by rfl)];unfold Oper.wp;go_simp
   exact ⟨upd f 14 (I mb 1),by simp [upd,g],zu (U HD) (by decide) (by decide) (fun _ _ h=>h) (U uf) rfl⟩
  | 15,Z =>
   obtain rfl:=ya Z
   have jY:f 14 = I mb 1:=X 14 (yd G 14 rfl)
   have oz:x[11]? = some true:=G ⟨11,.data⟩ (by simp) rfl
   have n15:¬ x[15]? = some true:=by rw [xu]; simp
   obtain ⟨ga,gc,vB,-,hfa,-⟩:=X 11 oz
   obtain ⟨jL,uh⟩:=hfa n15
   have qJ:some mb ≠ vq.ownBlock:=qy
   have y1:=uh.cell (U vV) qJ
   have f1:V.frozen? (J mb 1) = false:=(World.frozen?_of_block (a:=(J mb 1)) (uh.block mb (by omega) qJ)).trans (U qC)
   have jA:=Y (vB ▸ jL)
   have oO:Hid (∃ xp,V.heap[mb]? = some (.cells xp 157 (0,0))):=by obtain ⟨xp,hc⟩:=U uv; exact ⟨xp,(uh.block mb (by omega) qJ).trans hc⟩
   have oD:=Y uh
   clear G X jL uh hfa
   rw [if_pos (by rfl)];unfold Oper.wp;go_simp
   refine ⟨upd f 15 M,by simp [upd,jY,vB],rt_two (by decide) (U HD) oz xu (fun j R hxj h=>dr_two j R h (fun hj11=>?_)) trivial⟩
   subst hj11
   obtain ⟨-,-,-,-,-,-⟩:=h
   refine ⟨ga,gc,vB,trivial,fun h=>absurd trivial h,fun _=>?_⟩
   rw [vB]
   refine ⟨yK _ _ _ y1,zr (U jA) (zj (U jA) (U oO) (by decide)) 1 _,?_⟩
   exact aU (aG (U oD) (by omega) qJ) (bO (o:=0) _ _)
  | i + 16,Z=>simp at Z
theorem gqY {x:List Bool} {i j:Nat} (h:i ≠ j):(x.set i true)[j]? = x[j]?:=yU h
theorem gqsY {x:List Bool} {i:Nat} (h:x[i]? = some false):(x.set i true)[i]? = some true:=List.getElem?_set_self (yE.1 h).1
def ancS (l:List Oper) (s:List Nat):List Nat:=s ++ s.flatMap fun i=>match l[i]? with
 | some o=>(o.after.toList.filter fun e=>Region.binds .any e).map fun e=>e.on
 | none=>[]
def ancN (l:List Oper):Nat→List Nat→List Nat
 | 0,s=>s
 | n + 1,s=>ancN l n (ancS l s).eraseDups
theorem ancS_true {l:List Oper} {x:List Bool} (hc:Closed l x) {s:List Nat} (hs:∀ i ∈ s,x[i]? = some true):∀ i ∈ ancS l s,x[i]? = some true:=by
 intro i hi
 rcases List.mem_append.1 hi with h | h
 ·exact hs i h
 ·obtain ⟨k,hk,hm⟩:=List.mem_flatMap.1 h
  split at hm
  ·next o Z =>
   obtain ⟨e,he,rfl⟩:=List.mem_map.1 hm
   obtain ⟨he1,he2⟩:=List.mem_filter.1 he
   exact hc k o Z (hs k hk) e (by simpa using he1) he2
  ·simp at hm
theorem ancN_true {l:List Oper} {x:List Bool} (hc:Closed l x):∀ (n:Nat) (s:List Nat),(∀ i ∈ s,x[i]? = some true)→∀ i ∈ ancN l n s,x[i]? = some true
 | 0,s,hs=>hs
 | n + 1,s,hs=>ancN_true hc n _ (fun i hi=>ancS_true hc hs i (List.mem_eraseDups.1 hi))
theorem zv {l:List Oper} {x:List Bool} (hc:Closed l x) (d i n:Nat) (hB:(ancN l d [n]).contains i = true) (hx:x.length = l.length) (hn:n < l.length) (hi:x[i]? = some false):x[n]? = some false:=by
 rcases aN hx hn with h | h
 ·exact h
 ·have:=ancN_true hc d [n] (by simpa using h) i (by simpa using hB)
  rw [hi] at this; cases this
structure RY (C:World→Nat→Value→Prop) (n:Nat) (h1:(Nat→Value)→World→Prop) (base:World) (x:List Bool) (f:Nat→Value) (W:World):Prop where
 b:x[n]? = some false→Below base.heap.size base W
 c:x[n]? = some false→∀ j,x[j]? = some true→C W j (f j)
 m:x[n]? = some true→h1 f W
def RYA (hb:(Nat→Value)→Act) (C:World→Nat→Value→Prop) (n:Nat) (h1:(Nat→Value)→World→Prop) (base:World) (x:List Bool) (hR:Act) (W:World):Prop:=∃ f,hR = hb f∧RY C n h1 base x f W
section
variable {C:World→Nat→Value→Prop} {n:Nat} {h1:(Nat→Value)→World→Prop} {base W W':World} {x:List Bool} {f:Nat→Value}
theorem ry_start {k:Nat} {f:Nat→Value} (hk:n < k):RY C n h1 base (List.replicate k false) f { base with drawn:=base.drawn + 1 } :=
 ⟨fun _=>⟨rfl,rfl,rfl,Nat.le_refl _,fun _ _=>rfl⟩,fun _ j R=>by rw [yG] at R; split at R <;> simp at R,fun h=>by rw [yG] at h; split at h <;> simp at h⟩
theorem zU (h:RY C n h1 base x f W) (i:Nat) (v:Value) (hn:x[n]? = some false) (uq:i ≠ n) (hv:C W i v):RY C n h1 base (x.set i true) (upd f i v) W:=by
 refine ⟨fun _=>h.b hn,fun _ j R=>?_,fun e=>by rw [gqY uq,hn] at e; cases e⟩
 by_cases hji:j = i
 ·subst hji; rw [zn]; exact hv
 ·rw [zo _ _ hji]; rw [gqY (fun e=>hji e.symm)] at R; exact h.c hn j R
theorem ry_grow (hm:∀ W W' j v,ym W W'→C W j v→C W' j v) (h:RY C n h1 base x f W) (hn:x[n]? = some false) (F:ym W W'):RY C n h1 base x f W' :=
 ⟨fun _=>(h.b hn).trans (F.mono (h.b hn).size),fun _ j R=>hm _ _ _ _ F (h.c hn j R),fun e=>by rw [hn] at e; cases e⟩
theorem ry_write (h:RY C n h1 base x f W) (hn:x[n]? = some false) (v:Value) (hq:h1 (upd f n v) W'):RY C n h1 base (x.set n true) (upd f n v) W' :=
 ⟨fun e=>(by rw [gqsY hn] at e; cases e),fun e=>(by rw [gqsY hn] at e; cases e),fun _=>hq⟩
theorem ry_writeN (h:RY C n h1 base x f W) (hn:x[n]? = some false) (hq:h1 f W'):RY C n h1 base (x.set n true) f W' :=
 ⟨fun e=>(by rw [gqsY hn] at e; cases e),fun e=>(by rw [gqsY hn] at e; cases e),fun _=>hq⟩
theorem ry_after (h:RY C n h1 base x f W) (i:Nat) (v:Value) (hn:x[n]? = some true) (uq:i ≠ n) (hq:h1 f W→h1 (upd f i v) W):RY C n h1 base (x.set i true) (upd f i v) W :=
 ⟨fun e=>(by rw [gqY uq,hn] at e; cases e),fun e=>(by rw [gqY uq,hn] at e; cases e),fun _=>hq (h.m hn)⟩
end
def KB (hj:Nat) (W W':World):Prop:=KeptBut hj W.heap.size W W'
theorem kb_trans {hj:Nat} {W W1 W2:World} (Q:KB hj W W1) (N:KB hj W1 W2):KB hj W W2 :=
 ⟨N.os.trans Q.os,N.tape.trans Q.tape,N.output.trans Q.output,yL Q.size N.size,fun k hk hm=>(N.block k (yH hk Q.size) hm).trans (Q.block k hk hm)⟩
theorem kb_below {hj:Nat} {W W':World} (h:ym W W'):KB hj W W':=⟨h.os,h.tape,h.output,h.size,fun k hk _=>h.block k hk⟩
theorem kb_setCells (hj o:Nat) (vs:List Value) (W:World):KB hj W (W.setCells hj o vs) :=
 ⟨dg _ _ _ _,da _ _ _ _,cZ _ _ _ _,by rw [zZ]; exact Nat.le_refl _,fun k _ hm=>bT _ _ hm _ _ _⟩
theorem kb_row {hj B e sz n:Nat} {v:Value} {xs:List Value} {W W':World} (h:W.ownsRow B e sz v n xs) (F:KB hj W W') (A:hj < B):W'.ownsRow B e sz v n xs:=by
 refine ⟨h.1,?_⟩
 rcases h.2 with hn | ⟨g,E,xp,rfl,hg,kq,rest⟩
 ·exact .inl hn
 ·exact .inr ⟨g,E,xp,rfl,hg,(F.block g (yW.1 kq).1 (by omega)).trans kq,rest⟩
theorem kb_cell {hj:Nat} {W W':World} (F:KB hj W W') {p:Addr} {u:Value} (h:W.cell? p = some u) (hp:p.block ≠ hj):W'.cell? p = some u :=
 (yO (a:=p) (F.block p.block (yI W _ h) hp)).trans h
theorem kb_range {hj:Nat} {W W':World} (F:KB hj W W') {b o:Nat} {cs:List Value} (h:W.rangeAt b o cs) (hp:b ≠ hj):W'.rangeAt b o cs:=fun j u R=>kb_cell F (h j u R) hp
structure RX (C:World→Nat→Value→Prop) (hj m st:Nat) (Rv:(Nat→Value)→List Value) (base:World) (x:List Bool) (f:Nat→Value) (W:World):Prop where
 k:KB hj base W
 lt:hj < base.heap.size
 t:W.there hj 0 m
 c:∀ j,x[j]? = some true→C W j (f j)
 r:x[st]? = some true→W.rangeAt hj 0 (Rv f)
def RXA (hb:(Nat→Value)→Act) (C:World→Nat→Value→Prop) (hj m st:Nat) (Rv:(Nat→Value)→List Value) (base:World) (x:List Bool) (hR:Act) (W:World):Prop:=∃ f,hR = hb f∧RX C hj m st Rv base x f W
section
variable {C:World→Nat→Value→Prop} {hj m st:Nat} {Rv:(Nat→Value)→List Value} {base W W':World} {x:List Bool} {f:Nat→Value}
theorem rx_start {k:Nat} {f:Nat→Value} (hl:hj < base.heap.size) (ht:base.there hj 0 m):RX C hj m st Rv base (List.replicate k false) f { base with drawn:=base.drawn + 1 } :=
 ⟨⟨rfl,rfl,rfl,Nat.le_refl _,fun _ _ _=>rfl⟩,hl,ht,fun j R=>by rw [yG] at R; split at R <;> simp at R,fun h=>by rw [yG] at h; split at h <;> simp at h⟩
theorem pQ (h:RX C hj m st Rv base x f W) (i:Nat) (v:Value) (his:i ≠ st) (hr:x[st]? = some true→Rv (upd f i v) = Rv f) (hv:C W i v):RX C hj m st Rv base (x.set i true) (upd f i v) W:=by
 refine ⟨h.k,h.lt,h.t,fun j R=>?_,fun e=>?_⟩
 ·by_cases hji:j = i
  ·subst hji; rw [zn]; exact hv
  ·rw [zo _ _ hji]; rw [gq (fun e=>hji e.symm)] at R; exact h.c j R
 ·rw [gq his] at e; rw [hr e]; exact h.r e
theorem rx_grow (hm:∀ W W' j v,KB hj W W'→C W j v→C W' j v) (h:RX C hj m st Rv base x f W) (F:ym W W'):RX C hj m st Rv base x f W' :=
 ⟨kb_trans h.k (kb_below F),h.lt,ze h.t F (yH h.lt h.k.size),fun j R=>hm _ _ _ _ (kb_below F) (h.c j R),fun e=>zb (h.r e) F (yH h.lt h.k.size)⟩
theorem rx_store (hm:∀ W W' j v,KB hj W W'→C W j v→C W' j v) (h:RX C hj m st Rv base x f W) (hx:x[st]? = some false) (hl:(Rv f).length = m) (hC:∀ W v,C W st v):RX C hj m st Rv base (x.set st true) f (W.setCells hj 0 (Rv f)):=by
 refine ⟨kb_trans h.k (kb_setCells _ _ _ _),h.lt,yZ h.t _ _ _,fun j R=>?_,fun _=>yV W hj 0 _ (fun j R=>h.t j (by omega))⟩
 by_cases hji:j = st
 ·subst hji; exact hC _ _
 ·rw [gq (fun e=>hji e.symm)] at R; exact hm _ _ _ _ (kb_setCells _ _ _ _) (h.c j R)
end
end Go.Proofs.YtbakanofkghmiaaGreat
