/-
  What is left of a taker put behind the others, and what of memory it takes: proved by walking the method.
-/
import Derived.Test.YtbakanofkghmiaaGreatQj25
set_option linter.unusedVariables false
set_option maxHeartbeats 6400000
set_option maxRecDepth 100000
namespace Go.Proofs.YtbakanofkghmiaaGreat
open Go.RowKit
theorem rest_took (mb B:Nat) (next:Int) (vq:Value) (l:List Od) (t:Od) (vt:Value) (ts:List Ev) (w:World) (h:MatS mb B w next vq l t vt ts) (hn:l.length ≤ 1000) :
  Calls Tryz.prog 115 #[I mb 0] w fun e w'=>∃ vu,e = ym (.tuple #[])∧MatS mb B w' next vu (l ++ [t]) t vt ts∧TookAt mb 0 vq.ownBlock w w':=by
 have HM:=Y h
 have qE:=h.lt
 have pF:=h.le
 have qJ:=h.nq
 have uA:=Y h.box
 have jS:=Y h.orow
 have hM:=Y h.cells
 have qd:Hid (w.cell? (J mb 1) = some vq):=U hM 1 _ rfl
 have qz:Hid (w.frozen? (J mb 1) = false):=by have:=(h.there 1 (by omega)).2; rwa [Nat.zero_add] at this
 clear h
 obtain ⟨i0,uG,uF,uI,uT⟩:=info_parts Tryz.infoOrder
 go_enter Tryz.func115,Tryz.ntmps115
 go_wp2_with fail
 refine zj (RT (fun V=>yn w V) (fun f=>{ tmps:=#[I mb 0,M,f 0,f 1,f 2,f 3,f 4,f 5,f 6,f 7,f 8,f 9,f 10,f 11,f 12,f 13,f 14],defers:=[] }) 11 15 (DR mb B w vq l t)) (by kernel_rfl) ?_ ?_ ?_
 ·exact ⟨fun _=>M,rfl,fun _=>⟨rfl,rfl,rfl,Nat.le_refl _,fun _ _=>rfl⟩,fun j R=>by rw [yJ] at R; split at R <;> simp at R⟩
 ·rintro x xn V ⟨f,rfl,-,hD⟩ hx xN
  have xq:=zS xN hx (acyc _ (by kernel_rfl))
  have oT:x[11]? = some true:=xq 11 (by simp)
  have k15:x[15]? = some true:=xq 15 (by simp)
  obtain ⟨va,vc,-,-,-,vl⟩:=hD 11 oT
  obtain ⟨q1,q2,q3⟩:=vl k15
  have vr:Hid (_∧_∧_):=⟨q1,q2,q3⟩
  clear hD xq xN hx oT k15 vl q1 q2 q3
  dsimp only
  go_wp2_with fail
  go_end0
  exact ⟨_,rfl,matS_took (U HM) (U vr).2.2 (U vr).1 (U vr).2.1,(U vr).2.2⟩
 ·rintro x xn V i op ⟨f,rfl,jw,hD⟩ xp hx Z xz D
  have uk:=Y jw
  have HD:=Y hD
  have xo:∀ b o u,w.cell? (J b o) = some u→¬ x[11]? = some true→V.cell? (J b o) = some u:=fun b o u hu hn11=>((U uk hn11).cell (p:=(J b o)) (yL w _ hu)).trans hu
  have pV:i < 11→0 < i→¬ x[11]? = some true:=fun xL jz uZ=>by
   have h5:=yf xp 11 rfl uZ 5 rfl
   have vQ:=yf xp 11 rfl uZ 10 rfl
   have h4:=yf xp 5 rfl h5 4 rfl
   have h9:=yf xp 10 rfl vQ 9 rfl
   have h3:=yf xp 4 rfl h4 3 rfl
   have h8:=yf xp 9 rfl h9 8 rfl
   have N:=yf xp 3 rfl h3 2 rfl
   have h7:=yf xp 8 rfl h8 7 rfl
   have Q:=yf xp 2 rfl N 1 rfl
   have h6:=yf xp 7 rfl h7 6 rfl
   have ul:∀ j,0 < j→j < 11→x[j]? = some true:=fun j jg R=>by
    rcases (by omega:j = 1 ∨ j = 2 ∨ j = 3 ∨ j = 4 ∨ j = 5 ∨ j = 6 ∨ j = 7 ∨ j = 8 ∨ j = 9 ∨ j = 10) with rfl | rfl | rfl | rfl | rfl | rfl | rfl | rfl | rfl | rfl <;> assumption
   rw [ul i jz xL] at xz; cases xz
  have n15':i < 15→¬ x[15]? = some true:=fun xL vx=>by
   have jm:=yf xp 15 rfl vx 14 rfl
   have uZ:=yf xp 15 rfl vx 11 rfl
   have jt:=yf xp 14 rfl jm 13 rfl
   have h5:=yf xp 11 rfl uZ 5 rfl
   have vQ:=yf xp 11 rfl uZ 10 rfl
   have qD:=yf xp 13 rfl jt 12 rfl
   have h4:=yf xp 5 rfl h5 4 rfl
   have h9:=yf xp 10 rfl vQ 9 rfl
   have h0:=yf xp 12 rfl qD 0 rfl
   have h3:=yf xp 4 rfl h4 3 rfl
   have h8:=yf xp 9 rfl h9 8 rfl
   have N:=yf xp 3 rfl h3 2 rfl
   have h7:=yf xp 8 rfl h8 7 rfl
   have Q:=yf xp 2 rfl N 1 rfl
   have h6:=yf xp 7 rfl h7 6 rfl
   have ul:∀ j,j < 15→x[j]? = some true:=fun j R=>by
    rcases (by omega:j = 0 ∨ j = 1 ∨ j = 2 ∨ j = 3 ∨ j = 4 ∨ j = 5 ∨ j = 6 ∨ j = 7 ∨ j = 8 ∨ j = 9 ∨ j = 10 ∨ j = 11 ∨ j = 12 ∨ j = 13 ∨ j = 14) with rfl | rfl | rfl | rfl | rfl | rfl | rfl | rfl | rfl | rfl | rfl | rfl | rfl | rfl | rfl <;> assumption
   rw [ul i xL] at xz; cases xz
  clear xp jw
  match i,Z with
  | 0,Z | 1,Z | 6,Z =>
   obtain rfl:=ya Z
   clear D hD
   rw [if_pos (by rfl)];unfold Oper.wp;go_simp
   exact ⟨upd f _ (I mb 0),by simp [upd],zx (U HD) (by decide) (by decide) (fun _ _ h=>h) (U uk) rfl⟩
  | 2,Z =>
   obtain rfl:=ya Z
   have g:f 1 = I mb 0:=hD 1 (ye D 1 rfl)
   clear D hD
   rw [if_pos (by rfl)];unfold Oper.wp;go_simp
   exact ⟨upd f 2 (I mb 0),by simp [upd,g],zx (U HD) (by decide) (by decide) (fun _ _ h=>h) (U uk) rfl⟩
  | 3,Z =>
   obtain rfl:=ya Z
   have g:f 2 = I mb 0:=hD 2 (ye D 2 rfl)
   clear D hD
   rw [if_pos (by rfl)];unfold Oper.wp;go_simp
   exact ⟨upd f 3 (I mb 0),by simp [upd,g],zx (U HD) (by decide) (by decide) (fun _ _ h=>h) (U uk) rfl⟩
  | 4,Z =>
   obtain rfl:=ya Z
   have g:f 3 = I mb 0:=hD 3 (ye D 3 rfl)
   clear D hD
   rw [if_pos (by rfl)];unfold Oper.wp;go_simp
   exact ⟨upd f 4 (I mb 1),by simp [upd,g],zx (U HD) (by decide) (by decide) (fun _ _ h=>h) (U uk) rfl⟩
  | 5,Z =>
   obtain rfl:=ya Z
   have g:f 4 = I mb 1:=hD 4 (ye D 4 rfl)
   have qy:=pV (by omega) (by omega)
   have y1:=xo mb 1 _ (U qd) qy
   clear D hD
   rw [if_pos (by rfl)];unfold Oper.wp;go_simp
   exact ⟨upd f 5 (vq),by simp [upd,g],zx (U HD) (by decide) (by decide) (fun _ _ h=>h) (U uk) rfl⟩
  | 7,Z =>
   obtain rfl:=ya Z
   have g:f 6 = I mb 0:=hD 6 (ye D 6 rfl)
   clear D hD
   rw [if_pos (by rfl)];unfold Oper.wp;go_simp
   exact ⟨upd f 7 (I mb 0),by simp [upd,g],zx (U HD) (by decide) (by decide) (fun _ _ h=>h) (U uk) rfl⟩
  | 8,Z =>
   obtain rfl:=ya Z
   have g:f 7 = I mb 0:=hD 7 (ye D 7 rfl)
   clear D hD
   rw [if_pos (by rfl)];unfold Oper.wp;go_simp
   exact ⟨upd f 8 (I mb 2),by simp [upd,g],zx (U HD) (by decide) (by decide) (fun _ _ h=>h) (U uk) rfl⟩
  | 9,Z =>
   obtain rfl:=ya Z
   have g:f 8 = I mb 2:=hD 8 (ye D 8 rfl)
   have qy:=pV (by omega) (by omega)
   have y2:=xo mb 2 _ (U hM 2 _ rfl) qy
   have y3:=xo mb 3 _ (U hM 3 _ rfl) qy
   have y4:=xo mb 4 _ (U hM 4 _ rfl) qy
   have y5:=xo mb 5 _ (U hM 5 _ rfl) qy
   have y6:=xo mb 6 _ (U hM 6 _ rfl) qy
   have y7:=xo mb 7 _ (U hM 7 _ rfl) qy
   clear D hD
   rw [if_pos (by rfl)];unfold Oper.wp;go_simp
   exact ⟨upd f 9 (.agg (yw t.id t.side t.ticks t.left t.life t.tag).toArray),by simp [upd,g],zx (U HD) (by decide) (by decide) (fun _ _ h=>h) (U uk) rfl⟩
  | 10,Z =>
   obtain rfl:=ya Z
   have g:f 9 = .agg (yw t.id t.side t.ticks t.left t.life t.tag).toArray:=hD 9 (ye D 9 rfl)
   have qy:=pV (by omega) (by omega)
   have xT:=U uk qy
   clear D hD
   rw [if_pos (by rfl)];unfold Oper.wp;go_simp
   refine ⟨upd f 10 (.slice (some (yq V 0)) 1 1),by simp [upd,g],zx (U HD) (by decide) (by decide) (dr_alloc qy) (fun _=>xT.alloc xT.size _) ⟨V.heap.size,rfl,fun _=>?_⟩⟩
   exact fun j u h=>cy V t.vs 49 j u h
  | 11,Z =>
   obtain rfl:=ya Z
   have g5:f 5 = vq:=hD 5 (ye D 5 rfl)
   obtain ⟨s,qx,ow⟩:=hD 10 (ye D 10 rfl)
   have qy:¬ x[11]? = some true:=by rw [xz]; simp
   have n15:=n15' (by omega)
   have xT:=U uk qy
   have uX:ORow V B vq l:=zm (U jS) xT
   rw [if_pos (by rfl)]
   refine wp_append_own V (.tmp 7) (.tmp 12) 26 rfl B 49 i0 _ 6 56 Tryz.underlying26 uG uF uI uT rfl (by decide) vq l.length (l.flatMap Od.vs) g5 uX (J s 0) 1 1 t.vs qx rfl (ow qy) (one_od t) (by unfold maxLen; omega) (by omega) (by have:=xT.size; omega) ?_
   intro v' w' xI uc _
   obtain ⟨ga,gc,rfl⟩:=dM xI (by omega)
   refine ⟨upd f 11 (.slice (some (J ga 0)) (l.length + 1) gc),rfl,rt_one (by decide) (U HD) xz n15 (fun j v R h=>dr_one j v R h) ⟨some (J ga 0),gc,rfl,trivial,fun _=>⟨?_,?_⟩,fun h=>h.elim⟩⟩
   ·show World.ownsRow _ _ _ _ _ (l ++ [t]).length _
    rw [yQ,List.flatMap_append]; simpa using xI
   ·exact (aW xT tg).trans uc
  | 12,Z =>
   obtain rfl:=ya Z
   have g:f 0 = I mb 0:=hD 0 (ye D 0 rfl)
   clear D hD
   rw [if_pos (by rfl)];unfold Oper.wp;go_simp
   exact ⟨upd f 12 (I mb 0),by simp [upd,g],zx (U HD) (by decide) (by decide) (fun _ _ h=>h) (U uk) rfl⟩
  | 13,Z =>
   obtain rfl:=ya Z
   have g:f 12 = I mb 0:=hD 12 (ye D 12 rfl)
   clear D hD
   rw [if_pos (by rfl)];unfold Oper.wp;go_simp
   exact ⟨upd f 13 (I mb 0),by simp [upd,g],zx (U HD) (by decide) (by decide) (fun _ _ h=>h) (U uk) rfl⟩
  | 14,Z =>
   obtain rfl:=ya Z
   have g:f 13 = I mb 0:=hD 13 (ye D 13 rfl)
   clear D hD
   rw [if_pos (by rfl)];unfold Oper.wp;go_simp
   exact ⟨upd f 14 (I mb 1),by simp [upd,g],zx (U HD) (by decide) (by decide) (fun _ _ h=>h) (U uk) rfl⟩
  | 15,Z =>
   obtain rfl:=ya Z
   have ku:f 14 = I mb 1:=hD 14 (ye D 14 rfl)
   have oT:x[11]? = some true:=D ⟨11,.data⟩ (by simp) rfl
   have n15:¬ x[15]? = some true:=by rw [xz]; simp
   obtain ⟨ga,gc,vw,-,hfa,-⟩:=hD 11 oT
   obtain ⟨jW,uc⟩:=hfa n15
   have qS:some mb ≠ vq.ownBlock:=qJ
   have y1:=uc.cell (U qd) qS
   have f1:V.frozen? (J mb 1) = false:=(World.frozen?_of_block (a:=(J mb 1)) (uc.block mb (by omega) qS)).trans (U qz)
   have jM:=Y (vw ▸ jW)
   have pp:Hid (∃ xu,V.heap[mb]? = some (.cells xu 157 (0,0))):=by obtain ⟨xu,hc⟩:=U uA; exact ⟨xu,(uc.block mb (by omega) qS).trans hc⟩
   have oV:=Y uc
   clear D hD jW uc hfa
   rw [if_pos (by rfl)];unfold Oper.wp;go_simp
   refine ⟨upd f 15 M,by simp [upd,ku,vw],rt_two (by decide) (U HD) oT xz (fun j R hxj h=>dr_two j R h (fun hj11=>?_)) trivial⟩
   subst hj11
   obtain ⟨-,-,-,-,-,-⟩:=h
   refine ⟨ga,gc,vw,trivial,fun h=>absurd trivial h,fun _=>?_⟩
   rw [vw]
   refine ⟨yN _ _ _ y1,zv (U jM) (zl (U jM) (U pp) (by decide)) 1 _,?_⟩
   exact ch (bI (U oV) (by omega) qS) (db (o:=0) _ _)
  | i + 16,Z=>simp at Z
theorem gqY {x:List Bool} {i j:Nat} (h:i ≠ j):(x.set i true)[j]? = x[j]?:=yX h
theorem gqsY {x:List Bool} {i:Nat} (h:x[i]? = some false):(x.set i true)[i]? = some true:=List.getElem?_set_self (yH.1 h).1
def ancS (l:List Oper) (s:List Nat):List Nat:=s ++ s.flatMap fun i=>match l[i]? with
 | some o=>(o.after.toList.filter fun e=>Region.binds .any e).map fun e=>e.on
 | none=>[]
def ancN (l:List Oper):Nat→List Nat→List Nat
 | 0,s=>s
 | n + 1,s=>ancN l n (ancS l s).eraseDups
theorem ancS_true {l:List Oper} {x:List Bool} (hc:Closed l x) {s:List Nat} (hs:∀ i ∈ s,x[i]? = some true):∀ i ∈ ancS l s,x[i]? = some true:=by
 intro i hi
 rcases List.mem_append.1 hi with h | h
 ·exact hs i h
 ·obtain ⟨k,hk,hm⟩:=List.mem_flatMap.1 h
  split at hm
  ·next o Z =>
   obtain ⟨e,he,rfl⟩:=List.mem_map.1 hm
   obtain ⟨he1,he2⟩:=List.mem_filter.1 he
   exact hc k o Z (hs k hk) e (by simpa using he1) he2
  ·simp at hm
theorem ancN_true {l:List Oper} {x:List Bool} (hc:Closed l x):∀ (n:Nat) (s:List Nat),(∀ i ∈ s,x[i]? = some true)→∀ i ∈ ancN l n s,x[i]? = some true
 | 0,s,hs=>hs
 | n + 1,s,hs=>ancN_true hc n _ (fun i hi=>ancS_true hc hs i (List.mem_eraseDups.1 hi))
theorem zz {l:List Oper} {x:List Bool} (hc:Closed l x) (d i n:Nat) (hB:(ancN l d [n]).contains i = true) (hx:x.length = l.length) (hn:n < l.length) (hi:x[i]? = some false):x[n]? = some false:=by
 rcases bQ hx hn with h | h
 ·exact h
 ·have:=ancN_true hc d [n] (by simpa using h) i (by simpa using hB)
  rw [hi] at this; cases this
structure RY (C:World→Nat→Value→Prop) (n:Nat) (h1:(Nat→Value)→World→Prop) (base:World) (x:List Bool) (f:Nat→Value) (W:World):Prop where
 b:x[n]? = some false→Below base.heap.size base W
 c:x[n]? = some false→∀ j,x[j]? = some true→C W j (f j)
 m:x[n]? = some true→h1 f W
def RYA (ty:(Nat→Value)→Act) (C:World→Nat→Value→Prop) (n:Nat) (h1:(Nat→Value)→World→Prop) (base:World) (x:List Bool) (xn:Act) (W:World):Prop:=∃ f,xn = ty f∧RY C n h1 base x f W
section
variable {C:World→Nat→Value→Prop} {n:Nat} {h1:(Nat→Value)→World→Prop} {base W W':World} {x:List Bool} {f:Nat→Value}
theorem ry_start {k:Nat} {f:Nat→Value} (hk:n < k):RY C n h1 base (List.replicate k false) f { base with drawn:=base.drawn + 1 } :=
 ⟨fun _=>⟨rfl,rfl,rfl,Nat.le_refl _,fun _ _=>rfl⟩,fun _ j R=>by rw [yJ] at R; split at R <;> simp at R,fun h=>by rw [yJ] at h; split at h <;> simp at h⟩
theorem zY (h:RY C n h1 base x f W) (i:Nat) (v:Value) (hn:x[n]? = some false) (ux:i ≠ n) (hv:C W i v):RY C n h1 base (x.set i true) (upd f i v) W:=by
 refine ⟨fun _=>h.b hn,fun _ j R=>?_,fun e=>by rw [gqY ux,hn] at e; cases e⟩
 by_cases hji:j = i
 ·subst hji; rw [zp]; exact hv
 ·rw [zr _ _ hji]; rw [gqY (fun e=>hji e.symm)] at R; exact h.c hn j R
theorem ry_grow (hm:∀ W W' j v,yn W W'→C W j v→C W' j v) (h:RY C n h1 base x f W) (hn:x[n]? = some false) (X:yn W W'):RY C n h1 base x f W' :=
 ⟨fun _=>(h.b hn).trans (X.mono (h.b hn).size),fun _ j R=>hm _ _ _ _ X (h.c hn j R),fun e=>by rw [hn] at e; cases e⟩
theorem ry_write (h:RY C n h1 base x f W) (hn:x[n]? = some false) (v:Value) (hq:h1 (upd f n v) W'):RY C n h1 base (x.set n true) (upd f n v) W' :=
 ⟨fun e=>(by rw [gqsY hn] at e; cases e),fun e=>(by rw [gqsY hn] at e; cases e),fun _=>hq⟩
theorem ry_writeN (h:RY C n h1 base x f W) (hn:x[n]? = some false) (hq:h1 f W'):RY C n h1 base (x.set n true) f W' :=
 ⟨fun e=>(by rw [gqsY hn] at e; cases e),fun e=>(by rw [gqsY hn] at e; cases e),fun _=>hq⟩
theorem ry_after (h:RY C n h1 base x f W) (i:Nat) (v:Value) (hn:x[n]? = some true) (ux:i ≠ n) (hq:h1 f W→h1 (upd f i v) W):RY C n h1 base (x.set i true) (upd f i v) W :=
 ⟨fun e=>(by rw [gqY ux,hn] at e; cases e),fun e=>(by rw [gqY ux,hn] at e; cases e),fun _=>hq (h.m hn)⟩
end
def KB (hj:Nat) (W W':World):Prop:=KeptBut hj W.heap.size W W'
theorem kb_trans {hj:Nat} {W W1 W2:World} (Q:KB hj W W1) (N:KB hj W1 W2):KB hj W W2 :=
 ⟨N.os.trans Q.os,N.tape.trans Q.tape,N.output.trans Q.output,yO Q.size N.size,fun k hk hm=>(N.block k (yK hk Q.size) hm).trans (Q.block k hk hm)⟩
theorem kb_below {hj:Nat} {W W':World} (h:yn W W'):KB hj W W':=⟨h.os,h.tape,h.output,h.size,fun k hk _=>h.block k hk⟩
theorem kb_setCells (hj o:Nat) (vs:List Value) (W:World):KB hj W (W.setCells hj o vs) :=
 ⟨eu _ _ _ _,eh _ _ _ _,ef _ _ _ _,by rw [bZ]; exact Nat.le_refl _,fun k _ hm=>di _ _ hm _ _ _⟩
theorem kb_row {hj B e sz n:Nat} {v:Value} {xs:List Value} {W W':World} (h:W.ownsRow B e sz v n xs) (X:KB hj W W') (K:hj < B):W'.ownsRow B e sz v n xs:=by
 refine ⟨h.1,?_⟩
 rcases h.2 with hn | ⟨g,A,xu,rfl,hg,kL,rest⟩
 ·exact .inl hn
 ·exact .inr ⟨g,A,xu,rfl,hg,(X.block g (yZ.1 kL).1 (by omega)).trans kL,rest⟩
theorem kb_cell {hj:Nat} {W W':World} (X:KB hj W W') {p:Addr} {u:Value} (h:W.cell? p = some u) (hp:p.block ≠ hj):W'.cell? p = some u :=
 (yR (a:=p) (X.block p.block (yL W _ h) hp)).trans h
theorem kb_range {hj:Nat} {W W':World} (X:KB hj W W') {b o:Nat} {cs:List Value} (h:W.rangeAt b o cs) (hp:b ≠ hj):W'.rangeAt b o cs:=fun j u R=>kb_cell X (h j u R) hp
structure RX (C:World→Nat→Value→Prop) (hj m st:Nat) (Rv:(Nat→Value)→List Value) (base:World) (x:List Bool) (f:Nat→Value) (W:World):Prop where
 k:KB hj base W
 lt:hj < base.heap.size
 t:W.there hj 0 m
 c:∀ j,x[j]? = some true→C W j (f j)
 r:x[st]? = some true→W.rangeAt hj 0 (Rv f)
def RXA (ty:(Nat→Value)→Act) (C:World→Nat→Value→Prop) (hj m st:Nat) (Rv:(Nat→Value)→List Value) (base:World) (x:List Bool) (xn:Act) (W:World):Prop:=∃ f,xn = ty f∧RX C hj m st Rv base x f W
section
variable {C:World→Nat→Value→Prop} {hj m st:Nat} {Rv:(Nat→Value)→List Value} {base W W':World} {x:List Bool} {f:Nat→Value}
theorem rx_start {k:Nat} {f:Nat→Value} (hl:hj < base.heap.size) (ht:base.there hj 0 m):RX C hj m st Rv base (List.replicate k false) f { base with drawn:=base.drawn + 1 } :=
 ⟨⟨rfl,rfl,rfl,Nat.le_refl _,fun _ _ _=>rfl⟩,hl,ht,fun j R=>by rw [yJ] at R; split at R <;> simp at R,fun h=>by rw [yJ] at h; split at h <;> simp at h⟩
theorem aP (h:RX C hj m st Rv base x f W) (i:Nat) (v:Value) (his:i ≠ st) (hr:x[st]? = some true→Rv (upd f i v) = Rv f) (hv:C W i v):RX C hj m st Rv base (x.set i true) (upd f i v) W:=by
 refine ⟨h.k,h.lt,h.t,fun j R=>?_,fun e=>?_⟩
 ·by_cases hji:j = i
  ·subst hji; rw [zp]; exact hv
  ·rw [zr _ _ hji]; rw [gq (fun e=>hji e.symm)] at R; exact h.c j R
 ·rw [gq his] at e; rw [hr e]; exact h.r e
theorem rx_grow (hm:∀ W W' j v,KB hj W W'→C W j v→C W' j v) (h:RX C hj m st Rv base x f W) (X:yn W W'):RX C hj m st Rv base x f W' :=
 ⟨kb_trans h.k (kb_below X),h.lt,zg h.t X (yK h.lt h.k.size),fun j R=>hm _ _ _ _ (kb_below X) (h.c j R),fun e=>zb (h.r e) X (yK h.lt h.k.size)⟩
theorem rx_store (hm:∀ W W' j v,KB hj W W'→C W j v→C W' j v) (h:RX C hj m st Rv base x f W) (hx:x[st]? = some false) (hl:(Rv f).length = m) (hC:∀ W v,C W st v):RX C hj m st Rv base (x.set st true) f (W.setCells hj 0 (Rv f)):=by
 refine ⟨kb_trans h.k (kb_setCells _ _ _ _),h.lt,xc h.t _ _ _,fun j R=>?_,fun _=>yY W hj 0 _ (fun j R=>h.t j (by omega))⟩
 by_cases hji:j = st
 ·subst hji; exact hC _ _
 ·rw [gq (fun e=>hji e.symm)] at R; exact hm _ _ _ _ (kb_setCells _ _ _ _) (h.c j R)
end
end Go.Proofs.YtbakanofkghmiaaGreat
