/-
  A region that draws its order, walked by what holds of the operations that have come up: one step an operation serves every order. No function walked.
-/
import Derived.Test.YtnphbkgfjanmgaaGreatDoorBj07
set_option linter.unusedVariables false
set_option maxHeartbeats 6400000
set_option maxRecDepth 100000
namespace Go.Proofs.YtnphbkgfjanmgaaGreatDoor
open Go.RowKit
theorem count_set:∀ (x:List Bool) (i:Nat),x[i]? = some false→(x.set i true).count false + 1 = x.count false
 | [],i,h=>by simp at h
 | b :: r,0,h=>by simp at h; subst h; simp
 | b :: r,i + 1,h=>by
  have ih:=count_set r i (by simpa using h)
  simp only [List.set_cons_succ,List.count_cons]
  omega
theorem no_false {x:List Bool} (h:x.count false = 0) (i:Nat):x[i]? ≠ some false:=fun e=>by
 have:=List.count_pos_iff.2 (yO e)
 omega
section
variable {P:Program} {h1:Exit→Act→World→Prop} {l:List Oper} (zb:List Bool→Act→World→Prop)

theorem ready_facts {x:List Bool} (hx:x.length = l.length) {i:Nat} (h:i ∈ Region.ready .any l.toArray x.toArray) :
  ∃ o,l[i]? = some o∧x[i]? = some false∧∀ e ∈ o.after,Region.binds .any e = true→x[e.on]? = some true:=by
 obtain ⟨Q,o,E,h3⟩:=mem_ready.1 h
 refine ⟨o,by simpa using E,?_,fun e he Y=>?_⟩
 ·by_cases hi:i < x.length
  ·simp [hi] at Q; simp [hi,Q]
  ·simp [hi] at Q
 ·have:=h3 e he Y
  by_cases hi:e.on < x.length
  ·simp [hi] at this; simp [hi,this]
  ·simp [hi] at this
theorem cH {x:List Bool} (h:Region.ready .any l.toArray x.toArray = []) (hx:x.length = l.length) (i:Nat) (o:Oper) (N:l[i]? = some o) (D:∀ e ∈ o.after,Region.binds .any e = true→x[e.on]? = some true):x[i]? = some true:=by
 have hi:i < x.length:=by rw [hx]; exact (yG.1 N).1
 cases Y:x[i]
 ·exfalso
  have:i ∈ Region.ready .any l.toArray x.toArray:=mem_ready.2 ⟨by simp [hi,Y],o,by simpa using N,fun e he hbd=>by
   have:=D e he hbd
   obtain ⟨Q,E⟩:=yG.1 this
   simp [Q,E]⟩
  rw [h] at this; simp at this
 ·simp [hi,Y]
theorem wpAny_inv
  (vo:∀ x a w,zb x a w→x.length = l.length→Region.ready .any l.toArray x.toArray = []→h1 .normal a w)
  (kR:∀ x a w i o,zb x a w→x.length = l.length→l[i]? = some o→x[i]? = some false→(∀ e ∈ o.after,Region.binds .any e = true→x[e.on]? = some true) →
   (if Region.wanted o (yielded l.toArray a.tmps) then o.wp P a w (fun a' w'=>zb (x.set i true) a' w') h1 else zb (x.set i true) (a.put o.dst Z) w)) :
  ∀ (n:Nat) (x:List Bool) (a:Act) (w:World),x.count false = n→x.length = l.length→zb x a w→wpAny P .any l.toArray h1 n x.toArray a w
 | 0,x,a,w,hn,hx,K=>by
  have hr:Region.ready .any l.toArray x.toArray = []:=by
   apply List.eq_nil_iff_forall_not_mem.2
   intro i hi
   obtain ⟨o,_,E,_⟩:=ready_facts hx hi
   exact no_false hn i E
  exact ⟨hr,vo x a w K hx hr⟩
 | n + 1,x,a,w,hn,hx,K=>by
  refine ⟨fun hr=>vo x a w K hx hr,fun i hi=>?_⟩
  obtain ⟨o,Q,E,h3⟩:=ready_facts hx hi
  have hs:=kR x a w i o K hx Q E h3
  have hc:=count_set x i E
  have hnext:∀ a' w',zb (x.set i true) a' w'→wpAny P .any l.toArray h1 n (x.toArray.setIfInBounds i true) a' w':=fun a' w' h=>by
   have:=wpAny_inv vo kR n (x.set i true) a' w' (by omega) (by simpa using hx) h
   simpa using this
  have N:l.toArray[i]? = some o:=by simpa using Q
  unfold wpOp
  rw [N]
  simp only
  split
  ·next hw=>rw [if_pos hw] at hs; exact .inl (Oper.wp_mono hnext hs)
  ·next hw=>rw [if_neg hw] at hs; exact hnext _ _ hs
theorem dN {id:Nat} {a:Act} {w:World} (hm:P.follows .mixedOrders = true)
  (h0:zb (List.replicate l.length false) a { w with drawn:=w.drawn + 1 })
  (vo:∀ x a w,zb x a w→x.length = l.length→Region.ready .any l.toArray x.toArray = []→h1 .normal a w)
  (kR:∀ x a w i o,zb x a w→x.length = l.length→l[i]? = some o→x[i]? = some false→(∀ e ∈ o.after,Region.binds .any e = true→x[e.on]? = some true) →
   (if Region.wanted o (yielded l.toArray a.tmps) then o.wp P a w (fun a' w'=>zb (x.set i true) a' w') h1 else zb (x.set i true) (a.put o.dst Z) w)) :
  (Code.region id l.toArray true).wp P h1 a w:=by
 refine wp_region_any hm ?_
 have:=wpAny_inv zb vo kR l.length (List.replicate l.length false) a { w with drawn:=w.drawn + 1 } (by simp) (by simp) h0
 simpa using this
end
def RGrow (base:World) (cl:(Nat→Value)→Act) (C:Nat→Value→Prop) (x:List Bool) (fG:Act) (W:World):Prop :=
 ∃ f,fG = cl f∧yn base W∧∀ j,x[j]? = some true→C j (f j)
theorem zB {C:Nat→Value→Prop} {x:List Bool} {f:Nat→Value} {i:Nat} {v:Value} (h:∀ j,x[j]? = some true→C j (f j)) (hv:C i v):∀ j,(x.set i true)[j]? = some true→C j (upd f i v j):=fun j O=>by
 by_cases hji:j = i
 ·subst hji; rw [zr]; exact hv
 ·rw [zl _ _ hji]; rw [yW (fun e=>hji e.symm)] at O; exact h j O
theorem zN {l:List Oper} {x:List Bool} (h:Region.ready .any l.toArray x.toArray = []) (hx:x.length = l.length) (hacy:∀ (i:Nat) (o:Oper),l[i]? = some o→∀ e ∈ o.after,e.on < i):∀ i,i < l.length→x[i]? = some true:=by
 intro i
 induction i using Nat.strongRecOn with
 | _ i ih =>
  intro hi
  refine cH h hx i l[i] (yH hi) fun e he _=>?_
  have:=hacy i l[i] (yH hi) e he
  exact ih e.on this (by omega)
def RG (base:World) (cl:(Nat→Value)→Act) (k:Nat) (xg:Prop→World→Nat→Value→Prop) (x:List Bool) (fG:Act) (W:World):Prop :=
 ∃ f,fG = cl f∧yn base W∧∀ j,x[j]? = some true→xg (x[k]? = some true) W j (f j)
section
variable {base W W':World} {cl:(Nat→Value)→Act} {k:Nat} {xg:Prop→World→Nat→Value→Prop} {x:List Bool} {f:Nat→Value}
theorem co (hm:∀ p W W' j v,yn W W'→xg p W j v→xg p W' j v) (Y:yn base W) (h:∀ j,x[j]? = some true→xg (x[k]? = some true) W j (f j)) (hg:yn W W') {i:Nat} (hik:i ≠ k) {v:Value} (hv:xg (x[k]? = some true) W' i v) :
  yn base W'∧∀ j,(x.set i true)[j]? = some true→xg ((x.set i true)[k]? = some true) W' j (upd f i v j):=by
 refine ⟨Y.trans (hg.mono Y.size),fun j O=>?_⟩
 rw [yW hik]
 by_cases hji:j = i
 ·subst hji; rw [zr]; exact hv
 ·rw [zl _ _ hji]
  rw [yW (fun e=>hji e.symm)] at O
  exact hm _ _ _ _ _ hg (h j O)
theorem zf (Y:yn base W) (h:∀ j,x[j]? = some true→xg (x[k]? = some true) W j (f j)) {i:Nat} (hik:i ≠ k) {v:Value} (hv:xg (x[k]? = some true) W i v) :
  yn base W∧∀ j,(x.set i true)[j]? = some true→xg ((x.set i true)[k]? = some true) W j (upd f i v j):=by
 refine ⟨Y,fun j O=>?_⟩
 rw [yW hik]
 by_cases hji:j = i
 ·subst hji; rw [zr]; exact hv
 ·rw [zl _ _ hji]
  rw [yW (fun e=>hji e.symm)] at O
  exact h j O
end
theorem set_monoG {x:List Bool} {i j:Nat} (h:x[j]? = some true):(x.set i true)[j]? = some true:=by
 by_cases aJ:i = j
 ·subst aJ; exact List.getElem?_set_self (yG.1 h).1
 ·rw [yW aJ]; exact h
def Closed (l:List Oper) (x:List Bool):Prop:=∀ (i:Nat) (o:Oper),l[i]? = some o→x[i]? = some true→∀ e ∈ o.after,Region.binds .any e = true→x[e.on]? = some true
theorem closed_step {l:List Oper} {x:List Bool} {i:Nat} {o:Oper} (h:Closed l x) (N:l[i]? = some o) (D:∀ e ∈ o.after,Region.binds .any e = true→x[e.on]? = some true):Closed l (x.set i true):=by
 intro j o' vM O e he Y
 by_cases hji:j = i
 ·subst hji
  rw [N] at vM
  obtain rfl:=yb vM
  exact set_monoG (D e he Y)
 ·rw [yW (fun e=>hji e.symm)] at O
  exact set_monoG (h j o' vM O e he Y)
theorem zk {P:Program} {h1:Exit→Act→World→Prop} {l:List Oper} (zb:List Bool→Act→World→Prop) {id:Nat} {a:Act} {w:World} (hm:P.follows .mixedOrders = true)
  (h0:zb (List.replicate l.length false) a { w with drawn:=w.drawn + 1 })
  (vo:∀ x a w,zb x a w→x.length = l.length→Region.ready .any l.toArray x.toArray = []→h1 .normal a w)
  (kR:∀ x a w i o,zb x a w→Closed l x→x.length = l.length→l[i]? = some o→x[i]? = some false→(∀ e ∈ o.after,Region.binds .any e = true→x[e.on]? = some true) →
   (if Region.wanted o (yielded l.toArray a.tmps) then o.wp P a w (fun a' w'=>zb (x.set i true) a' w') h1 else zb (x.set i true) (a.put o.dst Z) w)) :
  (Code.region id l.toArray true).wp P h1 a w:=by
 refine dN (fun x a w=>zb x a w∧Closed l x) hm ⟨h0,fun i o _ hi=>by rw [yI] at hi; split at hi <;> simp at hi⟩ (fun x a w h=>vo x a w h.1) ?_
 intro x a w i o h hx N xq D
 have hs:=kR x a w i o h.1 h.2 hx N xq D
 have hc:=closed_step h.2 N D
 split
 ·next hw=>rw [if_pos hw] at hs; exact Oper.wp_mono (fun a' w' K=>⟨K,hc⟩) hs
 ·next hw=>rw [if_neg hw] at hs; exact ⟨hs,hc⟩
theorem zE {P:Program} {id:Nat} {h1:Exit→Act→World→Prop} {a:Act} {w:World} {l:List Oper} (n:Nat) (hm:P.follows .mixedOrders = true) (hB:Region.lexTailB .any l.toArray n = true)
  (h:wpStill P l.toArray w.drew (fun a'=>wpList P l.toArray h1 (l.drop n) a' w.drew) (l.take n) a):(Code.region id l.toArray true).wp P h1 a w:=wp_region_still_tail n hm hB h
theorem eZ {P:Program} {w:World} {o:Oper} {a:Act} {hR:Act→World→Prop} {h1:Exit→Act→World→Prop} (s x:Operand) (t:TypeId)
  (N:o.op = .call { callee:=.builtin .append,args:=#[s,x],argTypes:=#[t,t] })
  (base:Nat) (e:TypeId) (i:TypeInfo) (size:Nat) (ht:P.underlying t = some (.slice e)) (hi:P.info? e = some i)
  (v:Value) (n:Nat) (xs:List Value) (hs:a.eval s = v) (xR:w.ownsRow base e size v n xs) (hx:a.eval x = .slice none 0 0)
  (h:hR (a.put o.dst v) w):o.wp P a w hR h1:=by
 have hrun:=run_append_owned_none (P:=P) (w:=w) base t o.type e i size ht hi v n xs xR
 unfold Oper.wp
 simp [execOp,N,resolve,invoke,builtin,hs,hx,hrun,Result.andThen]
 exact h
theorem yf {l : List Oper} {x : List Bool} (h : Closed l x) (i : Nat) {o : Oper} (N : l[i]? = some o) (hi : x[i]? = some true) (j : Nat) (hm : (o.after.toList.any fun e => e.on == j && Region.binds .any e) = true) : x[j]? = some true := ye (h i o N hi) j hm
def cR (b:Nat):List Value:=[.func (.func 166) #[J b 0] #[],.func (.func 167) #[J b 0] #[],.func (.func 168) #[J b 0] #[]]
def dh (b:Nat):List Value:=[.func (.func 170) #[J b 0] #[],.func (.func 171) #[J b 0] #[],.func (.func 172) #[J b 0] #[]]
abbrev Tb (w:World) (b:Nat) (q:List Od):Prop:=aZ 201 true w b 1 q
abbrev Ts (w:World) (b:Nat) (q:List Od):Prop:=aZ 204 false w b 2 q
structure RW9 (W0:World) (BV:Value) (q1 q2:List Od) (x:List Bool) (v33 v34 v35 v36 v5 v6:Value) (b1 b2 p5 p6:Nat) (w:World):Prop where
 bel:Below W0.heap.size W0 w
 c33:x[0]? = some true→v33 = BV
 c35:x[2]? = some true→v35 = BV
 c34:x[1]? = some true→v34 = bK b1∧Tb w b1 q1
 c36:x[3]? = some true→v36 = bL b2∧Ts w b2 q2
 c5:x[4]? = some true→v5 = .pointer (some ⟨p5,0,none⟩)∧p5 < w.heap.size∧W0.heap.size ≤ p5∧w.there p5 0 3
 c6:x[5]? = some true→v6 = .pointer (some ⟨p6,0,none⟩)∧p6 < w.heap.size∧W0.heap.size ≤ p6∧w.there p6 0 3
 n15:x[1]? = some true→x[4]? = some true→b1 ≠ p5
 n16:x[1]? = some true→x[5]? = some true→b1 ≠ p6
 n25:x[3]? = some true→x[4]? = some true→b2 ≠ p5
 n26:x[3]? = some true→x[5]? = some true→b2 ≠ p6
 n56:x[4]? = some true→x[5]? = some true→p5 ≠ p6
 s5:x[6]? = some true→(x[1]? = some true∧x[4]? = some true)∧w.rangeAt p5 0 (cR b1)
 s6:x[7]? = some true→(x[3]? = some true∧x[5]? = some true)∧w.rangeAt p6 0 (dh b2)
section
variable {W0 w w':World} {BV:Value} {q1 q2:List Od} {x:List Bool} {v33 v34 v35 v36 v5 v6:Value} {b1 b2 p5 p6:Nat}
theorem rw9_grow (h:RW9 W0 BV q1 q2 x v33 v34 v35 v36 v5 v6 b1 b2 p5 p6 w) (Y:yn w w'):RW9 W0 BV q1 q2 x v33 v34 v35 v36 v5 v6 b1 b2 p5 p6 w' where
 bel:=h.bel.trans (Y.mono h.bel.size)
 c33:=h.c33
 c35:=h.c35
 c34:=fun hx=>⟨(h.c34 hx).1,zu (h.c34 hx).2 (Y.block _ (zH (h.c34 hx).2))⟩
 c36:=fun hx=>⟨(h.c36 hx).1,zu (h.c36 hx).2 (Y.block _ (zH (h.c36 hx).2))⟩
 c5:=fun hx=>⟨(h.c5 hx).1,yJ (h.c5 hx).2.1 Y.size,(h.c5 hx).2.2.1,zo (h.c5 hx).2.2.2 Y (h.c5 hx).2.1⟩
 c6:=fun hx=>⟨(h.c6 hx).1,yJ (h.c6 hx).2.1 Y.size,(h.c6 hx).2.2.1,zo (h.c6 hx).2.2.2 Y (h.c6 hx).2.1⟩
 n15:=h.n15
 n16:=h.n16
 n25:=h.n25
 n26:=h.n26
 n56:=h.n56
 s5:=fun hx=>⟨(h.s5 hx).1,zc (h.s5 hx).2 Y (h.c5 (h.s5 hx).1.2).2.1⟩
 s6:=fun hx=>⟨(h.s6 hx).1,zc (h.s6 hx).2 Y (h.c6 (h.s6 hx).1.2).2.1⟩
theorem gse {x:List Bool} {i j:Nat} (h:i ≠ j):(x.set i true)[j]? = x[j]?:=yW h
theorem rw9_0 (h:RW9 W0 BV q1 q2 x v33 v34 v35 v36 v5 v6 b1 b2 p5 p6 w):RW9 W0 BV q1 q2 (x.set 0 true) BV v34 v35 v36 v5 v6 b1 b2 p5 p6 w:=by
 constructor <;> try simp only [gse (show 0 ≠ 1 by decide),gse (show 0 ≠ 2 by decide),gse (show 0 ≠ 3 by decide),gse (show 0 ≠ 4 by decide),gse (show 0 ≠ 5 by decide),gse (show 0 ≠ 6 by decide),gse (show 0 ≠ 7 by decide)]
 ·exact h.bel
 ·exact fun _=>by first | rfl | trivial
 ·exact h.c35
 ·exact h.c34
 ·exact h.c36
 ·exact h.c5
 ·exact h.c6
 ·exact h.n15
 ·exact h.n16
 ·exact h.n25
 ·exact h.n26
 ·exact h.n56
 ·exact h.s5
 ·exact h.s6
theorem rw9_2 (h:RW9 W0 BV q1 q2 x v33 v34 v35 v36 v5 v6 b1 b2 p5 p6 w):RW9 W0 BV q1 q2 (x.set 2 true) v33 v34 BV v36 v5 v6 b1 b2 p5 p6 w:=by
 constructor <;> try simp only [gse (show 2 ≠ 0 by decide),gse (show 2 ≠ 1 by decide),gse (show 2 ≠ 3 by decide),gse (show 2 ≠ 4 by decide),gse (show 2 ≠ 5 by decide),gse (show 2 ≠ 6 by decide),gse (show 2 ≠ 7 by decide)]
 ·exact h.bel
 ·exact h.c33
 ·exact fun _=>by first | rfl | trivial
 ·exact h.c34
 ·exact h.c36
 ·exact h.c5
 ·exact h.c6
 ·exact h.n15
 ·exact h.n16
 ·exact h.n25
 ·exact h.n26
 ·exact h.n56
 ·exact h.s5
 ·exact h.s6
theorem rw9_1 (h:RW9 W0 BV q1 q2 x v33 v34 v35 v36 v5 v6 b1 b2 p5 p6 w) (h6:x[6]? ≠ some true) {b:Nat} (Y:yn w w') (qi:w.heap.size ≤ b) (ht:Tb w' b q1) :
  RW9 W0 BV q1 q2 (x.set 1 true) v33 (bK b) v35 v36 v5 v6 b b2 p5 p6 w':=by
 have g:=rw9_grow h Y
 constructor <;> try simp only [gse (show 1 ≠ 0 by decide),gse (show 1 ≠ 2 by decide),gse (show 1 ≠ 3 by decide),gse (show 1 ≠ 4 by decide),gse (show 1 ≠ 5 by decide),gse (show 1 ≠ 6 by decide),gse (show 1 ≠ 7 by decide)]
 ·exact g.bel
 ·exact g.c33
 ·exact g.c35
 ·exact fun _=>⟨by first | rfl | trivial,ht⟩
 ·exact g.c36
 ·exact g.c5
 ·exact g.c6
 ·exact fun _ h4=>by have:=(h.c5 h4).2.1; omega
 ·exact fun _ h5=>by have:=(h.c6 h5).2.1; omega
 ·exact g.n25
 ·exact g.n26
 ·exact g.n56
 ·exact fun hx=>absurd hx h6
 ·exact g.s6
theorem rw9_3 (h:RW9 W0 BV q1 q2 x v33 v34 v35 v36 v5 v6 b1 b2 p5 p6 w) (h7:x[7]? ≠ some true) {b:Nat} (Y:yn w w') (qi:w.heap.size ≤ b) (ht:Ts w' b q2) :
  RW9 W0 BV q1 q2 (x.set 3 true) v33 v34 v35 (bL b) v5 v6 b1 b p5 p6 w':=by
 have g:=rw9_grow h Y
 constructor <;> try simp only [gse (show 3 ≠ 0 by decide),gse (show 3 ≠ 1 by decide),gse (show 3 ≠ 2 by decide),gse (show 3 ≠ 4 by decide),gse (show 3 ≠ 5 by decide),gse (show 3 ≠ 6 by decide),gse (show 3 ≠ 7 by decide)]
 ·exact g.bel
 ·exact g.c33
 ·exact g.c35
 ·exact g.c34
 ·exact fun _=>⟨by first | rfl | trivial,ht⟩
 ·exact g.c5
 ·exact g.c6
 ·exact g.n15
 ·exact g.n16
 ·exact fun _ h4=>by have:=(h.c5 h4).2.1; omega
 ·exact fun _ h5=>by have:=(h.c6 h5).2.1; omega
 ·exact g.n56
 ·exact g.s5
 ·exact fun hx=>absurd hx h7
theorem zY (w:World) (L:List Value) (t:TypeId):(w.alloc (Obj.cells L.toArray t)).there w.heap.size 0 L.length:=bY (heap_alloc_new w _) (by simp)
theorem rw9_4 (h:RW9 W0 BV q1 q2 x v33 v34 v35 v36 v5 v6 b1 b2 p5 p6 w) (h6:x[6]? ≠ some true) (t:TypeId) :
  RW9 W0 BV q1 q2 (x.set 4 true) v33 v34 v35 v36 (yp w 0) v6 b1 b2 w.heap.size p6 (w.alloc (A #[.nilFunc,.nilFunc,.nilFunc] t)):=by
 have g:=rw9_grow h ((Below.refl _ _).alloc ya (A #[.nilFunc,.nilFunc,.nilFunc] t))
 constructor <;> try simp only [gse (show 4 ≠ 0 by decide),gse (show 4 ≠ 1 by decide),gse (show 4 ≠ 2 by decide),gse (show 4 ≠ 3 by decide),gse (show 4 ≠ 5 by decide),gse (show 4 ≠ 6 by decide),gse (show 4 ≠ 7 by decide)]
 ·exact g.bel
 ·exact g.c33
 ·exact g.c35
 ·exact g.c34
 ·exact g.c36
 ·exact fun _=>⟨by first | rfl | trivial,by rw [zi]; omega,h.bel.size,zY w [.nilFunc,.nilFunc,.nilFunc] t⟩
 ·exact g.c6
 ·exact fun Q _=>by have:=zH (h.c34 Q).2; omega
 ·exact g.n16
 ·exact fun h3 _=>by have:=zH (h.c36 h3).2; omega
 ·exact g.n26
 ·exact fun _ h5=>by have:=(h.c6 h5).2.1; omega
 ·exact fun hx=>absurd hx h6
 ·exact g.s6
theorem rw9_5 (h:RW9 W0 BV q1 q2 x v33 v34 v35 v36 v5 v6 b1 b2 p5 p6 w) (h7:x[7]? ≠ some true) (t:TypeId) :
  RW9 W0 BV q1 q2 (x.set 5 true) v33 v34 v35 v36 v5 (yp w 0) b1 b2 p5 w.heap.size (w.alloc (A #[.nilFunc,.nilFunc,.nilFunc] t)):=by
 have g:=rw9_grow h ((Below.refl _ _).alloc ya (A #[.nilFunc,.nilFunc,.nilFunc] t))
 constructor <;> try simp only [gse (show 5 ≠ 0 by decide),gse (show 5 ≠ 1 by decide),gse (show 5 ≠ 2 by decide),gse (show 5 ≠ 3 by decide),gse (show 5 ≠ 4 by decide),gse (show 5 ≠ 6 by decide),gse (show 5 ≠ 7 by decide)]
 ·exact g.bel
 ·exact g.c33
 ·exact g.c35
 ·exact g.c34
 ·exact g.c36
 ·exact g.c5
 ·exact fun _=>⟨by first | rfl | trivial,by rw [zi]; omega,h.bel.size,zY w [.nilFunc,.nilFunc,.nilFunc] t⟩
 ·exact g.n15
 ·exact fun Q _=>by have:=zH (h.c34 Q).2; omega
 ·exact g.n25
 ·exact fun h3 _=>by have:=zH (h.c36 h3).2; omega
 ·exact fun h4 _=>by have:=(h.c5 h4).2.1; omega
 ·exact g.s5
 ·exact fun hx=>absurd hx h7
theorem dP {p:Nat} {F0 F1 F2:Value} {k:Nat} (hk:k ≠ p):(((w.setCell (U p 0) F0).setCell (U p 1) F1).setCell (U p 2) F2).heap[k]? = w.heap[k]? :=
 (yS _ _ _ _ hk).trans ((yS _ _ _ _ hk).trans (yS _ _ _ _ hk))
theorem set3_size {p:Nat} {F0 F1 F2:Value}:(((w.setCell (U p 0) F0).setCell (U p 1) F1).setCell (U p 2) F2).heap.size = w.heap.size:=by simp [World.setCell]
theorem set3_range {p:Nat} {F0 F1 F2:Value} (ht:w.there p 0 3):(((w.setCell (U p 0) F0).setCell (U p 1) F1).setCell (U p 2) F2).rangeAt p 0 [F0,F1,F2]:=yX w p 0 [F0,F1,F2] (fun j O=>ht j O)
theorem eU {p b o n:Nat} {F0 F1 F2:Value} (ht:w.there b o n):(((w.setCell (U p 0) F0).setCell (U p 1) F1).setCell (U p 2) F2).there b o n:=xb ht p 0 [F0,F1,F2]
theorem set3_below {p:Nat} {F0 F1 F2:Value} (h:yn W0 w) (hp:W0.heap.size ≤ p):yn W0 (((w.setCell (U p 0) F0).setCell (U p 1) F1).setCell (U p 2) F2) :=
 ((h.setCell (p:=(U p 0)) hp F0).setCell (p:=(U p 1)) hp F1).setCell (p:=(U p 2)) hp F2
theorem range_block {b o:Nat} {L:List Value} (h:w.rangeAt b o L) (Y:w'.heap[b]? = w.heap[b]?):w'.rangeAt b o L:=fun j v hv=>(yQ (a:=(U b (o + j))) Y).trans (h j v hv)
theorem rw9_6 (h:RW9 W0 BV q1 q2 x v33 v34 v35 v36 v5 v6 b1 b2 p5 p6 w) (Q:x[1]? = some true) (h3:x[3]? = some true) (h4:x[4]? = some true) (h5:x[5]? = some true) {F0 F1 F2:Value} (hF:cR b1 = [F0,F1,F2]) :
  RW9 W0 BV q1 q2 (x.set 6 true) v33 v34 v35 v36 v5 v6 b1 b2 p5 p6 (((w.setCell (U p5 0) F0).setCell (U p5 1) F1).setCell (U p5 2) F2):=by
 obtain ⟨e1,e2,e3,e4⟩:=h.c5 h4
 obtain ⟨f1,f2,f3,f4⟩:=h.c6 h5
 constructor <;> try simp only [gse (show 6 ≠ 0 by decide),gse (show 6 ≠ 1 by decide),gse (show 6 ≠ 2 by decide),gse (show 6 ≠ 3 by decide),gse (show 6 ≠ 4 by decide),gse (show 6 ≠ 5 by decide),gse (show 6 ≠ 7 by decide)]
 ·exact set3_below h.bel e3
 ·exact h.c33
 ·exact h.c35
 ·exact fun _=>⟨(h.c34 Q).1,zu (h.c34 Q).2 (dP (h.n15 Q h4))⟩
 ·exact fun _=>⟨(h.c36 h3).1,zu (h.c36 h3).2 (dP (h.n25 h3 h4))⟩
 ·exact fun _=>⟨e1,by rw [set3_size]; exact e2,e3,eU e4⟩
 ·exact fun _=>⟨f1,by rw [set3_size]; exact f2,f3,eU f4⟩
 ·exact h.n15
 ·exact h.n16
 ·exact h.n25
 ·exact h.n26
 ·exact h.n56
 ·exact fun _=>⟨⟨Q,h4⟩,by rw [hF]; exact set3_range e4⟩
 ·exact fun hx=>⟨(h.s6 hx).1,range_block (h.s6 hx).2 (dP (Ne.symm (h.n56 h4 h5)))⟩
theorem rw9_7 (h:RW9 W0 BV q1 q2 x v33 v34 v35 v36 v5 v6 b1 b2 p5 p6 w) (Q:x[1]? = some true) (h3:x[3]? = some true) (h4:x[4]? = some true) (h5:x[5]? = some true) {F0 F1 F2:Value} (hF:dh b2 = [F0,F1,F2]) :
  RW9 W0 BV q1 q2 (x.set 7 true) v33 v34 v35 v36 v5 v6 b1 b2 p5 p6 (((w.setCell (U p6 0) F0).setCell (U p6 1) F1).setCell (U p6 2) F2):=by
 obtain ⟨e1,e2,e3,e4⟩:=h.c5 h4
 obtain ⟨f1,f2,f3,f4⟩:=h.c6 h5
 constructor <;> try simp only [gse (show 7 ≠ 0 by decide),gse (show 7 ≠ 1 by decide),gse (show 7 ≠ 2 by decide),gse (show 7 ≠ 3 by decide),gse (show 7 ≠ 4 by decide),gse (show 7 ≠ 5 by decide),gse (show 7 ≠ 6 by decide)]
 ·exact set3_below h.bel f3
 ·exact h.c33
 ·exact h.c35
 ·exact fun _=>⟨(h.c34 Q).1,zu (h.c34 Q).2 (dP (h.n16 Q h5))⟩
 ·exact fun _=>⟨(h.c36 h3).1,zu (h.c36 h3).2 (dP (h.n26 h3 h5))⟩
 ·exact fun _=>⟨e1,by rw [set3_size]; exact e2,e3,eU e4⟩
 ·exact fun _=>⟨f1,by rw [set3_size]; exact f2,f3,eU f4⟩
 ·exact h.n15
 ·exact h.n16
 ·exact h.n25
 ·exact h.n26
 ·exact h.n56
 ·exact fun hx=>⟨(h.s5 hx).1,range_block (h.s5 hx).2 (dP (h.n56 h4 h5))⟩
 ·exact fun _=>⟨⟨h3,h5⟩,by rw [hF]; exact set3_range f4⟩
end

theorem insT_len (s:Bool) (k:Int):∀ T:List Int,(insT s k T).length ≤ T.length + 1
 | []=>by simp [insT]
 | a :: r=>by
  have:=insT_len s k r
  rw [insT]; split
  ·simp
  ·split <;> simp <;> omega
theorem tks_len (s:Bool):∀ seq:List Od,(tks s seq).length ≤ seq.length
 | []=>by simp [tks]
 | o :: r=>by
  have Q:=insT_len s o.ticks (tks s r)
  have E:=tks_len s r
  rw [tks]; simp; omega
def backB:Nat→List Oper→Bool
 | _,[]=>true
 | i,o :: r=>o.after.toList.all (fun e=>decide (e.on < i)) && backB (i + 1) r
theorem back_spec:∀ (l:List Oper) (n:Nat),backB n l = true→∀ (i:Nat) (o:Oper),l[i]? = some o→∀ e ∈ o.after,e.on < n + i
 | [],_,_,i,o,h,_,_=>by simp at h
 | a :: r,n,Y,0,o,h,e,he=>by
  simp at h; subst h
  simp only [backB,xe,List.all_eq_true,xf] at Y
  exact Y.1 e (by simpa using he)
 | a :: r,n,Y,i + 1,o,h,e,he=>by
  simp only [backB,xe] at Y
  have:=back_spec r (n + 1) Y.2 i o (by simpa using h) e he
  omega
theorem acyc (l:List Oper) (h:backB 0 l = true):∀ (i:Nat) (o:Oper),l[i]? = some o→∀ e ∈ o.after,e.on < i:=fun i o N e he=>by
 have:=back_spec l 0 h i o N e he; omega
def C10 (b1 b2 p5 p6 N1 N2:Nat):Nat→Value→Prop
 | 0,v=>v = J p5 2
 | 1,v=>v = .func (.func 168) #[J b1 0] #[]
 | 2,v=>∃ a c,v = .slice a N1 c
 | 3,v=>v = I N1
 | 4,v=>v = J p6 2
 | 5,v=>v = .func (.func 172) #[J b2 0] #[]
 | 6,v=>∃ a c,v = .slice a N2 c
 | 7,v=>v = I N2
 | 8,v=>v = I ((N1:Int) + N2)
 | 9,v=>v = I ((N1:Int) + N2)
 | _,_=>True
theorem fy (b1 b2:Nat) (sd1 sd2:Int) (s1 s2:List Od) (w:World) (Q:aZ 201 true w b1 sd1 s1) (E:aZ 204 false w b2 sd2 s2) (n1:s1.length ≤ 20) (n2:s2.length ≤ 20) :
  Calls Tryz.prog 85 #[bK b1,bL b2] w fun e w'=>e = ym (I (((aY true sd1 s1).length:Int) + (aY false sd2 s2).length))∧yn w w':=by
 have ui:=zH Q
 have xJ:=zH E
 generalize hL1:(aY true sd1 s1).length = N1
 generalize hL2:(aY false sd2 s2).length = N2
 have hN1:N1 ≤ 20:=by rw [← hL1,aY,List.length_map]; exact yN (tks_len _ _) n1
 have hN2:N2 ≤ 20:=by rw [← hL2,aY,List.length_map]; exact yN (tks_len _ _) n2
 have HLL:Hid ((aY true sd1 s1).length = N1∧(aY false sd2 s2).length = N2):=⟨hL1,hL2⟩
 have xK:=zi w (A (cR b1).toArray 135)
 have ue:((w.alloc (A (cR b1).toArray 135)).alloc (A (dh b2).toArray 135)).heap.size = w.heap.size + 1 + 1:=by rw [zi,xK]
 have r0:=zn w (cR b1) 135
 have r1:=zn (w.alloc (A (cR b1).toArray 135)) (dh b2) 135
 rw [xK] at r1
 have r0':=zc r0 (C:=w.heap.size + 1) ((Below.refl _ _).alloc (by rw [xK]; omega) (A (dh b2).toArray 135)) (by omega)
 have xS:Hid (yn w ((w.alloc (A (cR b1).toArray 135)).alloc (A (dh b2).toArray 135))):=(fE _ _).alloc (by rw [xK]; omega) _
 have vD:=M r0'
 have HR6:=M r1
 have qf:=M ue
 have je:=M (zu Q ((H xS).block _ ui))
 have ux:=M (zu E ((H xS).block _ xJ))
 clear r0 r1 r0' xK ue hL1 hL2 Q E
 unfold bK bL
 go_enter Tryz.func85,Tryz.ntmps85
 go_wp2_with fail
 unfold cR dh at xS vD HR6 qf je ux
 generalize hW:((w.alloc (A (List.toArray [.func (.func 166) #[J b1 0] #[],.func (.func 167) #[J b1 0] #[],.func (.func 168) #[J b1 0] #[]]) 135)).alloc (A (List.toArray [.func (.func 170) #[J b2 0] #[],.func (.func 171) #[J b2 0] #[],.func (.func 172) #[J b2 0] #[]]) 135)) = W at xS vD HR6 qf je ux
 have hb1s:b1 < W.heap.size:=zH (H je)
 have hb2s:b2 < W.heap.size:=zH (H ux)
 have hp5:w.heap.size < W.heap.size:=by rw [H qf]; omega
 have hp6:w.heap.size + 1 < W.heap.size:=by rw [H qf]; omega
 refine dN (RGrow W (fun f=>{ tmps:=#[bK b1,bL b2,yp w 0,J (w.heap.size + 1) 0,f 9,f 0,f 1,f 2,f 3,f 4,f 5,f 6,f 7,f 8],defers:=[] }) (C10 b1 b2 w.heap.size (w.heap.size + 1) N1 N2)) (by kernel_rfl) ?_ ?_ ?_
 ·refine ⟨upd (fun _=>Z) 9 (I 0),rfl,?_,fun j O=>by rw [yI] at O; split at O <;> simp at O⟩
  rw [← hW]
  exact ⟨rfl,rfl,rfl,Nat.le_refl _,fun _ _=>rfl⟩
 ·rintro x fG xn ⟨f,rfl,xk,hC⟩ hx xN
  have hall9:=zN xN hx (acyc _ (by kernel_rfl)) 9 (by simp)
  have e9:f 9 = I ((N1:Int) + N2):=hC 9 hall9
  simp only [e9]
  have xy:=M xk
  clear hC hx xN hall9 e9 xk
  go_wp2_with fail
  go_ret
  exact ⟨rfl,(H xS).trans ((H xy).mono (H xS).size)⟩
 ·rintro x fG xn i o ⟨f,rfl,xk,hC⟩ hx N xq D
  have xy:=M xk
  have HC:=M hC
  match i,N with
  | 0,N =>
   obtain rfl:=yb N
   clear D hC xk
   rw [if_pos (by rfl)];unfold Oper.wp;go_simp
   exact ⟨upd f 0 (yp w 2),by simp [upd],H xy,zB (H HC) rfl⟩
  | 1,N =>
   obtain rfl:=yb N
   have g0:C10 b1 b2 w.heap.size (w.heap.size + 1) N1 N2 0 (f 0):=hC 0 (ye D 0 rfl)
   simp only [C10] at g0
   have d2:=zc (H vD) xk hp5 2 _ rfl
   clear D hC xk
   rw [if_pos (by rfl)];unfold Oper.wp;go_simp
   exact ⟨upd f 1 (.func (.func 168) #[J b1 0] #[]),by simp [upd,g0],H xy,zB (H HC) rfl⟩
  | 2,N =>
   obtain rfl:=yb N
   have g1:C10 b1 b2 w.heap.size (w.heap.size + 1) N1 N2 1 (f 1):=hC 1 (ye D 1 rfl)
   simp only [C10] at g1
   have ht:=zu (H je) (xk.block _ hb1s)
   have HTV:=M ht
   clear D hC xk ht
   rw [if_pos (by rfl)];unfold Oper.wp;go_simp
   refine (levels_b b1 sd1 s1 xn (H HTV) n1).mono ?_
   rintro e w4 ⟨v4,rfl,⟨al,X,rfl,-,-⟩,xw⟩
   rw [(H HLL).1]
   exact ⟨upd f 2 (.slice al N1 X),by simp [upd,g1],(H xy).trans (xw.mono (H xy).size),zB (H HC) ⟨al,X,rfl⟩⟩
  | 3,N =>
   obtain rfl:=yb N
   have g2:C10 b1 b2 w.heap.size (w.heap.size + 1) N1 N2 2 (f 2):=hC 2 (ye D 2 rfl)
   obtain ⟨al,X,g2⟩:=g2
   clear D hC xk
   rw [if_pos (by rfl)];unfold Oper.wp;go_simp
   exact ⟨upd f 3 (I N1),by simp [upd,g2],H xy,zB (H HC) rfl⟩
  | 4,N =>
   obtain rfl:=yb N
   clear D hC xk
   rw [if_pos (by rfl)];unfold Oper.wp;go_simp
   exact ⟨upd f 4 (J (w.heap.size + 1) 2),by simp [upd],H xy,zB (H HC) rfl⟩
  | 5,N =>
   obtain rfl:=yb N
   have g4:C10 b1 b2 w.heap.size (w.heap.size + 1) N1 N2 4 (f 4):=hC 4 (ye D 4 rfl)
   simp only [C10] at g4
   have d2:=zc (H HR6) xk hp6 2 _ rfl
   clear D hC xk
   rw [if_pos (by rfl)];unfold Oper.wp;go_simp
   exact ⟨upd f 5 (.func (.func 172) #[J b2 0] #[]),by simp [upd,g4],H xy,zB (H HC) rfl⟩
  | 6,N =>
   obtain rfl:=yb N
   have g5:C10 b1 b2 w.heap.size (w.heap.size + 1) N1 N2 5 (f 5):=hC 5 (ye D 5 rfl)
   simp only [C10] at g5
   have ht:=zu (H ux) (xk.block _ hb2s)
   have HTV:=M ht
   clear D hC xk ht
   rw [if_pos (by rfl)];unfold Oper.wp;go_simp
   refine (levels_s b2 sd2 s2 xn (H HTV) n2).mono ?_
   rintro e w4 ⟨v4,rfl,⟨al,X,rfl,-,-⟩,xw⟩
   rw [(H HLL).2]
   exact ⟨upd f 6 (.slice al N2 X),by simp [upd,g5],(H xy).trans (xw.mono (H xy).size),zB (H HC) ⟨al,X,rfl⟩⟩
  | 7,N =>
   obtain rfl:=yb N
   have g6:C10 b1 b2 w.heap.size (w.heap.size + 1) N1 N2 6 (f 6):=hC 6 (ye D 6 rfl)
   obtain ⟨al,X,g6⟩:=g6
   clear D hC xk
   rw [if_pos (by rfl)];unfold Oper.wp;go_simp
   exact ⟨upd f 7 (I N2),by simp [upd,g6],H xy,zB (H HC) rfl⟩
  | 8,N =>
   obtain rfl:=yb N
   have g3:C10 b1 b2 w.heap.size (w.heap.size + 1) N1 N2 3 (f 3):=hC 3 (ye D 3 rfl)
   have g7:C10 b1 b2 w.heap.size (w.heap.size + 1) N1 N2 7 (f 7):=hC 7 (ye D 7 rfl)
   simp only [C10] at g3
   simp only [C10] at g7
   have hwr8:IntKind.i64.wrap ((N1:Int) + N2) = (N1:Int) + N2:=by rw [IntKind.wrap_i64]; omega
   clear D hC xk
   rw [if_pos (by rfl)];unfold Oper.wp;go_simp
   exact ⟨upd f 8 (I ((N1:Int) + N2)),by simp [upd,g3,g7],H xy,zB (H HC) rfl⟩
  | 9,N =>
   obtain rfl:=yb N
   have g8:C10 b1 b2 w.heap.size (w.heap.size + 1) N1 N2 8 (f 8):=hC 8 (ye D 8 rfl)
   simp only [C10] at g8
   clear D hC xk
   rw [if_pos (by rfl)];unfold Oper.wp;go_simp
   exact ⟨upd f 9 (I ((N1:Int) + N2)),by simp [upd,g8],H xy,zB (H HC) rfl⟩
  | n + 10,N=>simp at N
end Go.Proofs.YtnphbkgfjanmgaaGreatDoor
