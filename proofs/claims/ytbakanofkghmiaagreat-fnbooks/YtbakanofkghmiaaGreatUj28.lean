/-
  What is left of a taker put behind the others, and what of memory it takes: proved by walking the method.
-/
import Derived.Test.YtbakanofkghmiaaGreatUj26
set_option linter.unusedVariables false
set_option maxHeartbeats 6400000
set_option maxRecDepth 100000
namespace Go.Proofs.YtbakanofkghmiaaGreat
open Go.RowKit
theorem rest_took (mb B:Nat) (next:Int) (vq:Value) (l:List Od) (t:Od) (vt:Value) (ts:List Ev) (w:World) (h:MatS mb B w next vq l t vt ts) (hn:l.length ≤ 1000) :
  Calls Tryz.prog 115 #[I mb 0] w fun e w'=>∃ vw,e = yl (.tuple #[])∧MatS mb B w' next vw (l ++ [t]) t vt ts∧TookAt mb 0 vq.ownBlock w w':=by
 have HM:=Y h
 have qB:=h.lt
 have px:=h.le
 have qH:=h.nq
 have uy:=Y h.box
 have jP:=Y h.orow
 have hM:=Y h.cells
 have vS:Hid (w.cell? (J mb 1) = some vq):=U hM 1 _ rfl
 have qK:Hid (w.frozen? (J mb 1) = false):=by have:=(h.there 1 (by omega)).2; rwa [Nat.zero_add] at this
 clear h
 obtain ⟨i0,uE,uF,uK,uV⟩:=info_parts Tryz.infoOrder
 go_enter Tryz.func115,Tryz.ntmps115
 go_wp2_with fail
 refine zi (RT (fun V=>ym w V) (fun f=>{ tmps:=#[I mb 0,M,f 0,f 1,f 2,f 3,f 4,f 5,f 6,f 7,f 8,f 9,f 10,f 11,f 12,f 13,f 14],defers:=[] }) 11 15 (DR mb B w vq l t)) (by kernel_rfl) ?_ ?_ ?_
 ·exact ⟨fun _=>M,rfl,fun _=>⟨rfl,rfl,rfl,Nat.le_refl _,fun _ _=>rfl⟩,fun j K=>by rw [yG] at K; split at K <;> simp at K⟩
 ·rintro x xj V ⟨f,rfl,-,hD⟩ hx xL
  have xn:=zW xL hx (acyc _ (by kernel_rfl))
  have oM:x[11]? = some true:=xn 11 (by simp)
  have k15:x[15]? = some true:=xn 15 (by simp)
  obtain ⟨va,vc,-,-,-,vj⟩:=hD 11 oM
  obtain ⟨q1,q2,q3⟩:=vj k15
  have vr:Hid (_∧_∧_):=⟨q1,q2,q3⟩
  clear hD xn xL hx oM k15 vj q1 q2 q3
  dsimp only
  go_wp2_with fail
  go_end0
  exact ⟨_,rfl,matS_took (U HM) (U vr).2.2 (U vr).1 (U vr).2.1,(U vr).2.2⟩
 ·rintro x xj V i op ⟨f,rfl,jy,hD⟩ X hx Z xu Q
  have ud:=Y jy
  have HD:=Y hD
  have xk:∀ b o u,w.cell? (J b o) = some u→¬ x[11]? = some true→V.cell? (J b o) = some u:=fun b o u hu hn11=>((U ud hn11).cell (p:=(J b o)) (yI w _ hu)).trans hu
  have pQ:i < 11→0 < i→¬ x[11]? = some true:=fun xI qm uY=>by
   have h5:=ye X 11 rfl uY 5 rfl
   have vT:=ye X 11 rfl uY 10 rfl
   have h4:=ye X 5 rfl h5 4 rfl
   have h9:=ye X 10 rfl vT 9 rfl
   have h3:=ye X 4 rfl h4 3 rfl
   have h8:=ye X 9 rfl h9 8 rfl
   have D:=ye X 3 rfl h3 2 rfl
   have h7:=ye X 8 rfl h8 7 rfl
   have G:=ye X 2 rfl D 1 rfl
   have h6:=ye X 7 rfl h7 6 rfl
   have uk:∀ j,0 < j→j < 11→x[j]? = some true:=fun j jz K=>by
    rcases (by omega:j = 1 ∨ j = 2 ∨ j = 3 ∨ j = 4 ∨ j = 5 ∨ j = 6 ∨ j = 7 ∨ j = 8 ∨ j = 9 ∨ j = 10) with rfl | rfl | rfl | rfl | rfl | rfl | rfl | rfl | rfl | rfl <;> assumption
   rw [uk i qm xI] at xu; cases xu
  have n15':i < 15→¬ x[15]? = some true:=fun xI vy=>by
   have jk:=ye X 15 rfl vy 14 rfl
   have uY:=ye X 15 rfl vy 11 rfl
   have jS:=ye X 14 rfl jk 13 rfl
   have h5:=ye X 11 rfl uY 5 rfl
   have vT:=ye X 11 rfl uY 10 rfl
   have qA:=ye X 13 rfl jS 12 rfl
   have h4:=ye X 5 rfl h5 4 rfl
   have h9:=ye X 10 rfl vT 9 rfl
   have h0:=ye X 12 rfl qA 0 rfl
   have h3:=ye X 4 rfl h4 3 rfl
   have h8:=ye X 9 rfl h9 8 rfl
   have D:=ye X 3 rfl h3 2 rfl
   have h7:=ye X 8 rfl h8 7 rfl
   have G:=ye X 2 rfl D 1 rfl
   have h6:=ye X 7 rfl h7 6 rfl
   have uk:∀ j,j < 15→x[j]? = some true:=fun j K=>by
    rcases (by omega:j = 0 ∨ j = 1 ∨ j = 2 ∨ j = 3 ∨ j = 4 ∨ j = 5 ∨ j = 6 ∨ j = 7 ∨ j = 8 ∨ j = 9 ∨ j = 10 ∨ j = 11 ∨ j = 12 ∨ j = 13 ∨ j = 14) with rfl | rfl | rfl | rfl | rfl | rfl | rfl | rfl | rfl | rfl | rfl | rfl | rfl | rfl | rfl <;> assumption
   rw [uk i xI] at xu; cases xu
  clear X jy
  match i,Z with
  | 0,Z | 1,Z | 6,Z =>
   obtain rfl:=ya Z
   clear Q hD
   rw [if_pos (by rfl)];unfold Oper.wp;go_simp
   exact ⟨upd f _ (I mb 0),by simp [upd],zx (U HD) (by decide) (by decide) (fun _ _ h=>h) (U ud) rfl⟩
  | 2,Z =>
   obtain rfl:=ya Z
   have g:f 1 = I mb 0:=hD 1 (yd Q 1 rfl)
   clear Q hD
   rw [if_pos (by rfl)];unfold Oper.wp;go_simp
   exact ⟨upd f 2 (I mb 0),by simp [upd,g],zx (U HD) (by decide) (by decide) (fun _ _ h=>h) (U ud) rfl⟩
  | 3,Z =>
   obtain rfl:=ya Z
   have g:f 2 = I mb 0:=hD 2 (yd Q 2 rfl)
   clear Q hD
   rw [if_pos (by rfl)];unfold Oper.wp;go_simp
   exact ⟨upd f 3 (I mb 0),by simp [upd,g],zx (U HD) (by decide) (by decide) (fun _ _ h=>h) (U ud) rfl⟩
  | 4,Z =>
   obtain rfl:=ya Z
   have g:f 3 = I mb 0:=hD 3 (yd Q 3 rfl)
   clear Q hD
   rw [if_pos (by rfl)];unfold Oper.wp;go_simp
   exact ⟨upd f 4 (I mb 1),by simp [upd,g],zx (U HD) (by decide) (by decide) (fun _ _ h=>h) (U ud) rfl⟩
  | 5,Z =>
   obtain rfl:=ya Z
   have g:f 4 = I mb 1:=hD 4 (yd Q 4 rfl)
   have qv:=pQ (by omega) (by omega)
   have y1:=xk mb 1 _ (U vS) qv
   clear Q hD
   rw [if_pos (by rfl)];unfold Oper.wp;go_simp
   exact ⟨upd f 5 (vq),by simp [upd,g],zx (U HD) (by decide) (by decide) (fun _ _ h=>h) (U ud) rfl⟩
  | 7,Z =>
   obtain rfl:=ya Z
   have g:f 6 = I mb 0:=hD 6 (yd Q 6 rfl)
   clear Q hD
   rw [if_pos (by rfl)];unfold Oper.wp;go_simp
   exact ⟨upd f 7 (I mb 0),by simp [upd,g],zx (U HD) (by decide) (by decide) (fun _ _ h=>h) (U ud) rfl⟩
  | 8,Z =>
   obtain rfl:=ya Z
   have g:f 7 = I mb 0:=hD 7 (yd Q 7 rfl)
   clear Q hD
   rw [if_pos (by rfl)];unfold Oper.wp;go_simp
   exact ⟨upd f 8 (I mb 2),by simp [upd,g],zx (U HD) (by decide) (by decide) (fun _ _ h=>h) (U ud) rfl⟩
  | 9,Z =>
   obtain rfl:=ya Z
   have g:f 8 = I mb 2:=hD 8 (yd Q 8 rfl)
   have qv:=pQ (by omega) (by omega)
   have y2:=xk mb 2 _ (U hM 2 _ rfl) qv
   have y3:=xk mb 3 _ (U hM 3 _ rfl) qv
   have y4:=xk mb 4 _ (U hM 4 _ rfl) qv
   have y5:=xk mb 5 _ (U hM 5 _ rfl) qv
   have y6:=xk mb 6 _ (U hM 6 _ rfl) qv
   have y7:=xk mb 7 _ (U hM 7 _ rfl) qv
   clear Q hD
   rw [if_pos (by rfl)];unfold Oper.wp;go_simp
   exact ⟨upd f 9 (.agg (yu t.id t.side t.ticks t.left t.life t.tag).toArray),by simp [upd,g],zx (U HD) (by decide) (by decide) (fun _ _ h=>h) (U ud) rfl⟩
  | 10,Z =>
   obtain rfl:=ya Z
   have g:f 9 = .agg (yu t.id t.side t.ticks t.left t.life t.tag).toArray:=hD 9 (yd Q 9 rfl)
   have qv:=pQ (by omega) (by omega)
   have xV:=U ud qv
   clear Q hD
   rw [if_pos (by rfl)];unfold Oper.wp;go_simp
   refine ⟨upd f 10 (.slice (some (yp V 0)) 1 1),by simp [upd,g],zx (U HD) (by decide) (by decide) (dr_alloc qv) (fun _=>xV.alloc xV.size _) ⟨V.heap.size,rfl,fun _=>?_⟩⟩
   exact fun j u h=>bW V t.vs 49 j u h
  | 11,Z =>
   obtain rfl:=ya Z
   have g5:f 5 = vq:=hD 5 (yd Q 5 rfl)
   obtain ⟨s,qy,oj⟩:=hD 10 (yd Q 10 rfl)
   have qv:¬ x[11]? = some true:=by rw [xu]; simp
   have n15:=n15' (by omega)
   have xV:=U ud qv
   have uU:ORow V B vq l:=zj (U jP) xV
   rw [if_pos (by rfl)]
   refine wp_append_own V (.tmp 7) (.tmp 12) 26 rfl B 49 i0 _ 6 56 Tryz.underlying26 uE uF uK uV rfl (by decide) vq l.length (l.flatMap Od.vs) g5 uU (J s 0) 1 1 t.vs qy rfl (oj qv) (one_od t) (by unfold maxLen; omega) (by omega) (by have:=xV.size; omega) ?_
   intro v' w' xN uc _
   obtain ⟨ga,gc,rfl⟩:=dL xN (by omega)
   refine ⟨upd f 11 (.slice (some (J ga 0)) (l.length + 1) gc),rfl,rt_one (by decide) (U HD) xu n15 (fun j v K h=>dr_one j v K h) ⟨some (J ga 0),gc,rfl,trivial,fun _=>⟨?_,?_⟩,fun h=>h.elim⟩⟩
   ·show World.ownsRow _ _ _ _ _ (l ++ [t]).length _
    rw [yN,List.flatMap_append]; simpa using xN
   ·exact (aO xV hb).trans uc
  | 12,Z =>
   obtain rfl:=ya Z
   have g:f 0 = I mb 0:=hD 0 (yd Q 0 rfl)
   clear Q hD
   rw [if_pos (by rfl)];unfold Oper.wp;go_simp
   exact ⟨upd f 12 (I mb 0),by simp [upd,g],zx (U HD) (by decide) (by decide) (fun _ _ h=>h) (U ud) rfl⟩
  | 13,Z =>
   obtain rfl:=ya Z
   have g:f 12 = I mb 0:=hD 12 (yd Q 12 rfl)
   clear Q hD
   rw [if_pos (by rfl)];unfold Oper.wp;go_simp
   exact ⟨upd f 13 (I mb 0),by simp [upd,g],zx (U HD) (by decide) (by decide) (fun _ _ h=>h) (U ud) rfl⟩
  | 14,Z =>
   obtain rfl:=ya Z
   have g:f 13 = I mb 0:=hD 13 (yd Q 13 rfl)
   clear Q hD
   rw [if_pos (by rfl)];unfold Oper.wp;go_simp
   exact ⟨upd f 14 (I mb 1),by simp [upd,g],zx (U HD) (by decide) (by decide) (fun _ _ h=>h) (U ud) rfl⟩
  | 15,Z =>
   obtain rfl:=ya Z
   have km:f 14 = I mb 1:=hD 14 (yd Q 14 rfl)
   have oM:x[11]? = some true:=Q ⟨11,.data⟩ (by simp) rfl
   have n15:¬ x[15]? = some true:=by rw [xu]; simp
   obtain ⟨ga,gc,vI,-,hfa,-⟩:=hD 11 oM
   obtain ⟨jU,uc⟩:=hfa n15
   have qR:some mb ≠ vq.ownBlock:=qH
   have y1:=uc.cell (U vS) qR
   have f1:V.frozen? (J mb 1) = false:=(World.frozen?_of_block (a:=(J mb 1)) (uc.block mb (by omega) qR)).trans (U qK)
   have jK:=Y (vI ▸ jU)
   have pd:Hid (∃ xp,V.heap[mb]? = some (.cells xp 157 (0,0))):=by obtain ⟨xp,hc⟩:=U uy; exact ⟨xp,(uc.block mb (by omega) qR).trans hc⟩
   have oa:=Y uc
   clear Q hD jU uc hfa
   rw [if_pos (by rfl)];unfold Oper.wp;go_simp
   refine ⟨upd f 15 M,by simp [upd,km,vI],rt_two (by decide) (U HD) oM xu (fun j K hxj h=>dr_two j K h (fun hj11=>?_)) trivial⟩
   subst hj11
   obtain ⟨-,-,-,-,-,-⟩:=h
   refine ⟨ga,gc,vI,trivial,fun h=>absurd trivial h,fun _=>?_⟩
   rw [vI]
   refine ⟨yK _ _ _ y1,zw (U jK) (zl (U jK) (U pd) (by decide)) 1 _,?_⟩
   exact bQ (bz (U oa) (by omega) qR) (cZ (o:=0) _ _)
  | i + 16,Z=>simp at Z
theorem gqY {x:List Bool} {i j:Nat} (h:i ≠ j):(x.set i true)[j]? = x[j]?:=yU h
theorem gqsY {x:List Bool} {i:Nat} (h:x[i]? = some false):(x.set i true)[i]? = some true:=List.getElem?_set_self (yE.1 h).1
def ancS (l:List Oper) (s:List Nat):List Nat:=s ++ s.flatMap fun i=>match l[i]? with
 | some o=>(o.after.toList.filter fun e=>Region.binds .any e).map fun e=>e.on
 | none=>[]
def ancN (l:List Oper):Nat→List Nat→List Nat
 | 0,s=>s
 | n + 1,s=>ancN l n (ancS l s).eraseDups
theorem ancS_true {l:List Oper} {x:List Bool} (hc:Closed l x) {s:List Nat} (hs:∀ i ∈ s,x[i]? = some true):∀ i ∈ ancS l s,x[i]? = some true:=by
 intro i hi
 rcases List.mem_append.1 hi with h | h
 ·exact hs i h
 ·obtain ⟨k,hk,hm⟩:=List.mem_flatMap.1 h
  split at hm
  ·next o Z =>
   obtain ⟨e,he,rfl⟩:=List.mem_map.1 hm
   obtain ⟨he1,he2⟩:=List.mem_filter.1 he
   exact hc k o Z (hs k hk) e (by simpa using he1) he2
  ·simp at hm
theorem ancN_true {l:List Oper} {x:List Bool} (hc:Closed l x):∀ (n:Nat) (s:List Nat),(∀ i ∈ s,x[i]? = some true)→∀ i ∈ ancN l n s,x[i]? = some true
 | 0,s,hs=>hs
 | n + 1,s,hs=>ancN_true hc n _ (fun i hi=>ancS_true hc hs i (List.mem_eraseDups.1 hi))
theorem zy {l:List Oper} {x:List Bool} (hc:Closed l x) (d i n:Nat) (hB:(ancN l d [n]).contains i = true) (hx:x.length = l.length) (hn:n < l.length) (hi:x[i]? = some false):x[n]? = some false:=by
 rcases bH hx hn with h | h
 ·exact h
 ·have:=ancN_true hc d [n] (by simpa using h) i (by simpa using hB)
  rw [hi] at this; cases this
structure RY (C:World→Nat→Value→Prop) (n:Nat) (xe:(Nat→Value)→World→Prop) (base:World) (x:List Bool) (f:Nat→Value) (W:World):Prop where
 b:x[n]? = some false→Below base.heap.size base W
 c:x[n]? = some false→∀ j,x[j]? = some true→C W j (f j)
 m:x[n]? = some true→xe f W
def RYA (qt:(Nat→Value)→Act) (C:World→Nat→Value→Prop) (n:Nat) (xe:(Nat→Value)→World→Prop) (base:World) (x:List Bool) (xj:Act) (W:World):Prop:=∃ f,xj = qt f∧RY C n xe base x f W
section
variable {C:World→Nat→Value→Prop} {n:Nat} {xe:(Nat→Value)→World→Prop} {base W W':World} {x:List Bool} {f:Nat→Value}
theorem ry_start {k:Nat} {f:Nat→Value} (hk:n < k):RY C n xe base (List.replicate k false) f { base with drawn:=base.drawn + 1 } :=
 ⟨fun _=>⟨rfl,rfl,rfl,Nat.le_refl _,fun _ _=>rfl⟩,fun _ j K=>by rw [yG] at K; split at K <;> simp at K,fun h=>by rw [yG] at h; split at h <;> simp at h⟩
theorem zZ (h:RY C n xe base x f W) (i:Nat) (v:Value) (hn:x[n]? = some false) (ur:i ≠ n) (hv:C W i v):RY C n xe base (x.set i true) (upd f i v) W:=by
 refine ⟨fun _=>h.b hn,fun _ j K=>?_,fun e=>by rw [gqY ur,hn] at e; cases e⟩
 by_cases hji:j = i
 ·subst hji; rw [zn]; exact hv
 ·rw [zp _ _ hji]; rw [gqY (fun e=>hji e.symm)] at K; exact h.c hn j K
theorem ry_grow (hm:∀ W W' j v,ym W W'→C W j v→C W' j v) (h:RY C n xe base x f W) (hn:x[n]? = some false) (O:ym W W'):RY C n xe base x f W' :=
 ⟨fun _=>(h.b hn).trans (O.mono (h.b hn).size),fun _ j K=>hm _ _ _ _ O (h.c hn j K),fun e=>by rw [hn] at e; cases e⟩
theorem ry_write (h:RY C n xe base x f W) (hn:x[n]? = some false) (v:Value) (hq:xe (upd f n v) W'):RY C n xe base (x.set n true) (upd f n v) W' :=
 ⟨fun e=>(by rw [gqsY hn] at e; cases e),fun e=>(by rw [gqsY hn] at e; cases e),fun _=>hq⟩
theorem ry_writeN (h:RY C n xe base x f W) (hn:x[n]? = some false) (hq:xe f W'):RY C n xe base (x.set n true) f W' :=
 ⟨fun e=>(by rw [gqsY hn] at e; cases e),fun e=>(by rw [gqsY hn] at e; cases e),fun _=>hq⟩
theorem ry_after (h:RY C n xe base x f W) (i:Nat) (v:Value) (hn:x[n]? = some true) (ur:i ≠ n) (hq:xe f W→xe (upd f i v) W):RY C n xe base (x.set i true) (upd f i v) W :=
 ⟨fun e=>(by rw [gqY ur,hn] at e; cases e),fun e=>(by rw [gqY ur,hn] at e; cases e),fun _=>hq (h.m hn)⟩
end
def KB (R:Nat) (W W':World):Prop:=KeptBut R W.heap.size W W'
theorem kb_trans {R:Nat} {W W1 W2:World} (G:KB R W W1) (D:KB R W1 W2):KB R W W2 :=
 ⟨D.os.trans G.os,D.tape.trans G.tape,D.output.trans G.output,yL G.size D.size,fun k hk hm=>(D.block k (yH hk G.size) hm).trans (G.block k hk hm)⟩
theorem kb_below {R:Nat} {W W':World} (h:ym W W'):KB R W W':=⟨h.os,h.tape,h.output,h.size,fun k hk _=>h.block k hk⟩
theorem kb_setCells (R o:Nat) (vs:List Value) (W:World):KB R W (W.setCells R o vs) :=
 ⟨en _ _ _ _,ef _ _ _ _,ec _ _ _ _,by rw [bK]; exact Nat.le_refl _,fun k _ hm=>de _ _ hm _ _ _⟩
theorem bX {R B e sz n:Nat} {v:Value} {xs:List Value} {W W':World} (h:W.ownsRow B e sz v n xs) (O:KB R W W') (E:R < B):W'.ownsRow B e sz v n xs:=by
 refine ⟨h.1,?_⟩
 rcases h.2 with hn | ⟨g,A,xp,rfl,hg,jV,rest⟩
 ·exact .inl hn
 ·exact .inr ⟨g,A,xp,rfl,hg,(O.block g (yW.1 jV).1 (by omega)).trans jV,rest⟩
theorem kb_cell {R:Nat} {W W':World} (O:KB R W W') {p:Addr} {u:Value} (h:W.cell? p = some u) (hp:p.block ≠ R):W'.cell? p = some u :=
 (yO (a:=p) (O.block p.block (yI W _ h) hp)).trans h
theorem kb_range {R:Nat} {W W':World} (O:KB R W W') {b o:Nat} {cs:List Value} (h:W.rangeAt b o cs) (hp:b ≠ R):W'.rangeAt b o cs:=fun j u K=>kb_cell O (h j u K) hp
structure RX (C:World→Nat→Value→Prop) (R m st:Nat) (Rv:(Nat→Value)→List Value) (base:World) (x:List Bool) (f:Nat→Value) (W:World):Prop where
 k:KB R base W
 lt:R < base.heap.size
 t:W.there R 0 m
 c:∀ j,x[j]? = some true→C W j (f j)
 r:x[st]? = some true→W.rangeAt R 0 (Rv f)
def RXA (qt:(Nat→Value)→Act) (C:World→Nat→Value→Prop) (R m st:Nat) (Rv:(Nat→Value)→List Value) (base:World) (x:List Bool) (xj:Act) (W:World):Prop:=∃ f,xj = qt f∧RX C R m st Rv base x f W
section
variable {C:World→Nat→Value→Prop} {R m st:Nat} {Rv:(Nat→Value)→List Value} {base W W':World} {x:List Bool} {f:Nat→Value}
theorem rx_start {k:Nat} {f:Nat→Value} (hl:R < base.heap.size) (ht:base.there R 0 m):RX C R m st Rv base (List.replicate k false) f { base with drawn:=base.drawn + 1 } :=
 ⟨⟨rfl,rfl,rfl,Nat.le_refl _,fun _ _ _=>rfl⟩,hl,ht,fun j K=>by rw [yG] at K; split at K <;> simp at K,fun h=>by rw [yG] at h; split at h <;> simp at h⟩
theorem zX (h:RX C R m st Rv base x f W) (i:Nat) (v:Value) (his:i ≠ st) (hr:x[st]? = some true→Rv (upd f i v) = Rv f) (hv:C W i v):RX C R m st Rv base (x.set i true) (upd f i v) W:=by
 refine ⟨h.k,h.lt,h.t,fun j K=>?_,fun e=>?_⟩
 ·by_cases hji:j = i
  ·subst hji; rw [zn]; exact hv
  ·rw [zp _ _ hji]; rw [gq (fun e=>hji e.symm)] at K; exact h.c j K
 ·rw [gq his] at e; rw [hr e]; exact h.r e
theorem rx_grow (hm:∀ W W' j v,KB R W W'→C W j v→C W' j v) (h:RX C R m st Rv base x f W) (O:ym W W'):RX C R m st Rv base x f W' :=
 ⟨kb_trans h.k (kb_below O),h.lt,ze h.t O (yH h.lt h.k.size),fun j K=>hm _ _ _ _ (kb_below O) (h.c j K),fun e=>zb (h.r e) O (yH h.lt h.k.size)⟩
theorem rx_store (hm:∀ W W' j v,KB R W W'→C W j v→C W' j v) (h:RX C R m st Rv base x f W) (hx:x[st]? = some false) (hl:(Rv f).length = m) (hC:∀ W v,C W st v):RX C R m st Rv base (x.set st true) f (W.setCells R 0 (Rv f)):=by
 refine ⟨kb_trans h.k (kb_setCells _ _ _ _),h.lt,yZ h.t _ _ _,fun j K=>?_,fun _=>yV W R 0 _ (fun j K=>h.t j (by omega))⟩
 by_cases hji:j = st
 ·subst hji; exact hC _ _
 ·rw [gq (fun e=>hji e.symm)] at K; exact hm _ _ _ _ (kb_setCells _ _ _ _) (h.c j K)
end
end Go.Proofs.YtbakanofkghmiaaGreat
