/-
  A region that draws its order, walked by what holds of the operations that have come up: one step an operation serves every order. No function walked.
-/
import Derived.Test.YtnphbkgfjanmgaaGreatDoorDj07
set_option linter.unusedVariables false
set_option maxHeartbeats 6400000
set_option maxRecDepth 100000
namespace Go.Proofs.YtnphbkgfjanmgaaGreatDoor
open Go.RowKit
theorem count_set:∀ (x:List Bool) (i:Nat),x[i]? = some false→(x.set i true).count false + 1 = x.count false
 | [],i,h=>by simp at h
 | b :: r,0,h=>by simp at h; subst h; simp
 | b :: r,i + 1,h=>by
  have ih:=count_set r i (by simpa using h)
  simp only [List.set_cons_succ,List.count_cons]
  omega
theorem no_false {x:List Bool} (h:x.count false = 0) (i:Nat):x[i]? ≠ some false:=fun e=>by
 have:=List.count_pos_iff.2 (yP e)
 omega
section
variable {P:Program} {ya:Exit→Act→World→Prop} {l:List Oper} (hR:List Bool→Act→World→Prop)

theorem ready_facts {x:List Bool} (hx:x.length = l.length) {i:Nat} (h:i ∈ Region.ready .any l.toArray x.toArray) :
  ∃ o,l[i]? = some o∧x[i]? = some false∧∀ e ∈ o.after,Region.binds .any e = true→x[e.on]? = some true:=by
 obtain ⟨N,o,Y,h3⟩:=mem_ready.1 h
 refine ⟨o,by simpa using Y,?_,fun e he E=>?_⟩
 ·by_cases hi:i < x.length
  ·simp [hi] at N; simp [hi,N]
  ·simp [hi] at N
 ·have:=h3 e he E
  by_cases hi:e.on < x.length
  ·simp [hi] at this; simp [hi,this]
  ·simp [hi] at this
theorem cA {x:List Bool} (h:Region.ready .any l.toArray x.toArray = []) (hx:x.length = l.length) (i:Nat) (o:Oper) (Z:l[i]? = some o) (D:∀ e ∈ o.after,Region.binds .any e = true→x[e.on]? = some true):x[i]? = some true:=by
 have hi:i < x.length:=by rw [hx]; exact (yH.1 Z).1
 cases E:x[i]
 ·exfalso
  have:i ∈ Region.ready .any l.toArray x.toArray:=mem_ready.2 ⟨by simp [hi,E],o,by simpa using Z,fun e he hbd=>by
   have:=D e he hbd
   obtain ⟨N,Y⟩:=yH.1 this
   simp [N,Y]⟩
  rw [h] at this; simp at this
 ·simp [hi,E]
theorem wpAny_inv
  (vk:∀ x a w,hR x a w→x.length = l.length→Region.ready .any l.toArray x.toArray = []→ya .normal a w)
  (kN:∀ x a w i o,hR x a w→x.length = l.length→l[i]? = some o→x[i]? = some false→(∀ e ∈ o.after,Region.binds .any e = true→x[e.on]? = some true) →
   (if Region.wanted o (yielded l.toArray a.tmps) then o.wp P a w (fun a' w'=>hR (x.set i true) a' w') ya else hR (x.set i true) (a.put o.dst M) w)) :
  ∀ (n:Nat) (x:List Bool) (a:Act) (w:World),x.count false = n→x.length = l.length→hR x a w→wpAny P .any l.toArray ya n x.toArray a w
 | 0,x,a,w,hn,hx,R=>by
  have hr:Region.ready .any l.toArray x.toArray = []:=by
   apply List.eq_nil_iff_forall_not_mem.2
   intro i hi
   obtain ⟨o,_,Y,_⟩:=ready_facts hx hi
   exact no_false hn i Y
  exact ⟨hr,vk x a w R hx hr⟩
 | n + 1,x,a,w,hn,hx,R=>by
  refine ⟨fun hr=>vk x a w R hx hr,fun i hi=>?_⟩
  obtain ⟨o,N,Y,h3⟩:=ready_facts hx hi
  have hs:=kN x a w i o R hx N Y h3
  have hc:=count_set x i Y
  have hnext:∀ a' w',hR (x.set i true) a' w'→wpAny P .any l.toArray ya n (x.toArray.setIfInBounds i true) a' w':=fun a' w' h=>by
   have:=wpAny_inv vk kN n (x.set i true) a' w' (by omega) (by simpa using hx) h
   simpa using this
  have Z:l.toArray[i]? = some o:=by simpa using N
  unfold wpOp
  rw [Z]
  simp only
  split
  ·next hw=>rw [if_pos hw] at hs; exact .inl (Oper.wp_mono hnext hs)
  ·next hw=>rw [if_neg hw] at hs; exact hnext _ _ hs
theorem dI {id:Nat} {a:Act} {w:World} (hm:P.follows .mixedOrders = true)
  (h0:hR (List.replicate l.length false) a { w with drawn:=w.drawn + 1 })
  (vk:∀ x a w,hR x a w→x.length = l.length→Region.ready .any l.toArray x.toArray = []→ya .normal a w)
  (kN:∀ x a w i o,hR x a w→x.length = l.length→l[i]? = some o→x[i]? = some false→(∀ e ∈ o.after,Region.binds .any e = true→x[e.on]? = some true) →
   (if Region.wanted o (yielded l.toArray a.tmps) then o.wp P a w (fun a' w'=>hR (x.set i true) a' w') ya else hR (x.set i true) (a.put o.dst M) w)) :
  (Code.region id l.toArray true).wp P ya a w:=by
 refine wp_region_any hm ?_
 have:=wpAny_inv hR vk kN l.length (List.replicate l.length false) a { w with drawn:=w.drawn + 1 } (by simp) (by simp) h0
 simpa using this
end
def RGrow (base:World) (cl:(Nat→Value)→Act) (C:Nat→Value→Prop) (x:List Bool) (cs:Act) (W:World):Prop :=
 ∃ f,cs = cl f∧yp base W∧∀ j,x[j]? = some true→C j (f j)
theorem zC {C:Nat→Value→Prop} {x:List Bool} {f:Nat→Value} {i:Nat} {v:Value} (h:∀ j,x[j]? = some true→C j (f j)) (hv:C i v):∀ j,(x.set i true)[j]? = some true→C j (upd f i v j):=fun j V=>by
 by_cases hji:j = i
 ·subst hji; rw [zr]; exact hv
 ·rw [zk _ _ hji]; rw [yX (fun e=>hji e.symm)] at V; exact h j V
theorem zN {l:List Oper} {x:List Bool} (h:Region.ready .any l.toArray x.toArray = []) (hx:x.length = l.length) (hacy:∀ (i:Nat) (o:Oper),l[i]? = some o→∀ e ∈ o.after,e.on < i):∀ i,i < l.length→x[i]? = some true:=by
 intro i
 induction i using Nat.strongRecOn with
 | _ i ih =>
  intro hi
  refine cA h hx i l[i] (yI hi) fun e he _=>?_
  have:=hacy i l[i] (yI hi) e he
  exact ih e.on this (by omega)
def RG (base:World) (cl:(Nat→Value)→Act) (k:Nat) (xh:Prop→World→Nat→Value→Prop) (x:List Bool) (cs:Act) (W:World):Prop :=
 ∃ f,cs = cl f∧yp base W∧∀ j,x[j]? = some true→xh (x[k]? = some true) W j (f j)
section
variable {base W W':World} {cl:(Nat→Value)→Act} {k:Nat} {xh:Prop→World→Nat→Value→Prop} {x:List Bool} {f:Nat→Value}
theorem rg_grow (hm:∀ p W W' j v,yp W W'→xh p W j v→xh p W' j v) (E:yp base W) (h:∀ j,x[j]? = some true→xh (x[k]? = some true) W j (f j)) (hg:yp W W') {i:Nat} (hik:i ≠ k) {v:Value} (hv:xh (x[k]? = some true) W' i v) :
  yp base W'∧∀ j,(x.set i true)[j]? = some true→xh ((x.set i true)[k]? = some true) W' j (upd f i v j):=by
 refine ⟨E.trans (hg.mono E.size),fun j V=>?_⟩
 rw [yX hik]
 by_cases hji:j = i
 ·subst hji; rw [zr]; exact hv
 ·rw [zk _ _ hji]
  rw [yX (fun e=>hji e.symm)] at V
  exact hm _ _ _ _ _ hg (h j V)
theorem zg (E:yp base W) (h:∀ j,x[j]? = some true→xh (x[k]? = some true) W j (f j)) {i:Nat} (hik:i ≠ k) {v:Value} (hv:xh (x[k]? = some true) W i v) :
  yp base W∧∀ j,(x.set i true)[j]? = some true→xh ((x.set i true)[k]? = some true) W j (upd f i v j):=by
 refine ⟨E,fun j V=>?_⟩
 rw [yX hik]
 by_cases hji:j = i
 ·subst hji; rw [zr]; exact hv
 ·rw [zk _ _ hji]
  rw [yX (fun e=>hji e.symm)] at V
  exact h j V
end
theorem set_monoG {x:List Bool} {i j:Nat} (h:x[j]? = some true):(x.set i true)[j]? = some true:=by
 by_cases aG:i = j
 ·subst aG; exact List.getElem?_set_self (yH.1 h).1
 ·rw [yX aG]; exact h
def Closed (l:List Oper) (x:List Bool):Prop:=∀ (i:Nat) (o:Oper),l[i]? = some o→x[i]? = some true→∀ e ∈ o.after,Region.binds .any e = true→x[e.on]? = some true
theorem closed_step {l:List Oper} {x:List Bool} {i:Nat} {o:Oper} (h:Closed l x) (Z:l[i]? = some o) (D:∀ e ∈ o.after,Region.binds .any e = true→x[e.on]? = some true):Closed l (x.set i true):=by
 intro j o' vM V e he E
 by_cases hji:j = i
 ·subst hji
  rw [Z] at vM
  obtain rfl:=yc vM
  exact set_monoG (D e he E)
 ·rw [yX (fun e=>hji e.symm)] at V
  exact set_monoG (h j o' vM V e he E)
theorem zm {P:Program} {ya:Exit→Act→World→Prop} {l:List Oper} (hR:List Bool→Act→World→Prop) {id:Nat} {a:Act} {w:World} (hm:P.follows .mixedOrders = true)
  (h0:hR (List.replicate l.length false) a { w with drawn:=w.drawn + 1 })
  (vk:∀ x a w,hR x a w→x.length = l.length→Region.ready .any l.toArray x.toArray = []→ya .normal a w)
  (kN:∀ x a w i o,hR x a w→Closed l x→x.length = l.length→l[i]? = some o→x[i]? = some false→(∀ e ∈ o.after,Region.binds .any e = true→x[e.on]? = some true) →
   (if Region.wanted o (yielded l.toArray a.tmps) then o.wp P a w (fun a' w'=>hR (x.set i true) a' w') ya else hR (x.set i true) (a.put o.dst M) w)) :
  (Code.region id l.toArray true).wp P ya a w:=by
 refine dI (fun x a w=>hR x a w∧Closed l x) hm ⟨h0,fun i o _ hi=>by rw [yJ] at hi; split at hi <;> simp at hi⟩ (fun x a w h=>vk x a w h.1) ?_
 intro x a w i o h hx Z xr D
 have hs:=kN x a w i o h.1 h.2 hx Z xr D
 have hc:=closed_step h.2 Z D
 split
 ·next hw=>rw [if_pos hw] at hs; exact Oper.wp_mono (fun a' w' R=>⟨R,hc⟩) hs
 ·next hw=>rw [if_neg hw] at hs; exact ⟨hs,hc⟩
theorem zE {P:Program} {id:Nat} {ya:Exit→Act→World→Prop} {a:Act} {w:World} {l:List Oper} (n:Nat) (hm:P.follows .mixedOrders = true) (hB:Region.lexTailB .any l.toArray n = true)
  (h:wpStill P l.toArray w.drew (fun a'=>wpList P l.toArray ya (l.drop n) a' w.drew) (l.take n) a):(Code.region id l.toArray true).wp P ya a w:=wp_region_still_tail n hm hB h
theorem eQ {P:Program} {w:World} {o:Oper} {a:Act} {zb:Act→World→Prop} {ya:Exit→Act→World→Prop} (s x:Operand) (t:TypeId)
  (Z:o.op = .call { callee:=.builtin .append,args:=#[s,x],argTypes:=#[t,t] })
  (base:Nat) (e:TypeId) (i:TypeInfo) (size:Nat) (ht:P.underlying t = some (.slice e)) (hi:P.info? e = some i)
  (v:Value) (n:Nat) (xs:List Value) (hs:a.eval s = v) (xS:w.ownsRow base e size v n xs) (hx:a.eval x = .slice none 0 0)
  (h:zb (a.put o.dst v) w):o.wp P a w zb ya:=by
 have hrun:=run_append_owned_none (P:=P) (w:=w) base t o.type e i size ht hi v n xs xS
 unfold Oper.wp
 simp [execOp,Z,resolve,invoke,builtin,hs,hx,hrun,Result.andThen]
 exact h
theorem yh {l : List Oper} {x : List Bool} (h : Closed l x) (i : Nat) {o : Oper} (Z : l[i]? = some o) (hi : x[i]? = some true) (j : Nat) (hm : (o.after.toList.any fun e => e.on == j && Region.binds .any e) = true) : x[j]? = some true := yf (h i o Z hi) j hm
def cK (b:Nat):List Value:=[.func (.func 166) #[J b 0] #[],.func (.func 167) #[J b 0] #[],.func (.func 168) #[J b 0] #[]]
def cU (b:Nat):List Value:=[.func (.func 170) #[J b 0] #[],.func (.func 171) #[J b 0] #[],.func (.func 172) #[J b 0] #[]]
abbrev Tb (w:World) (b:Nat) (q:List Od):Prop:=aV 201 true w b 1 q
abbrev Ts (w:World) (b:Nat) (q:List Od):Prop:=aV 204 false w b 2 q
structure RW9 (W0:World) (BV:Value) (q1 q2:List Od) (x:List Bool) (v33 v34 v35 v36 v5 v6:Value) (b1 b2 p5 p6:Nat) (w:World):Prop where
 bel:Below W0.heap.size W0 w
 c33:x[0]? = some true→v33 = BV
 c35:x[2]? = some true→v35 = BV
 c34:x[1]? = some true→v34 = bE b1∧Tb w b1 q1
 c36:x[3]? = some true→v36 = bF b2∧Ts w b2 q2
 c5:x[4]? = some true→v5 = .pointer (some ⟨p5,0,none⟩)∧p5 < w.heap.size∧W0.heap.size ≤ p5∧w.there p5 0 3
 c6:x[5]? = some true→v6 = .pointer (some ⟨p6,0,none⟩)∧p6 < w.heap.size∧W0.heap.size ≤ p6∧w.there p6 0 3
 n15:x[1]? = some true→x[4]? = some true→b1 ≠ p5
 n16:x[1]? = some true→x[5]? = some true→b1 ≠ p6
 n25:x[3]? = some true→x[4]? = some true→b2 ≠ p5
 n26:x[3]? = some true→x[5]? = some true→b2 ≠ p6
 n56:x[4]? = some true→x[5]? = some true→p5 ≠ p6
 s5:x[6]? = some true→(x[1]? = some true∧x[4]? = some true)∧w.rangeAt p5 0 (cK b1)
 s6:x[7]? = some true→(x[3]? = some true∧x[5]? = some true)∧w.rangeAt p6 0 (cU b2)
section
variable {W0 w w':World} {BV:Value} {q1 q2:List Od} {x:List Bool} {v33 v34 v35 v36 v5 v6:Value} {b1 b2 p5 p6:Nat}
theorem rw9_grow (h:RW9 W0 BV q1 q2 x v33 v34 v35 v36 v5 v6 b1 b2 p5 p6 w) (E:yp w w'):RW9 W0 BV q1 q2 x v33 v34 v35 v36 v5 v6 b1 b2 p5 p6 w' where
 bel:=h.bel.trans (E.mono h.bel.size)
 c33:=h.c33
 c35:=h.c35
 c34:=fun hx=>⟨(h.c34 hx).1,zu (h.c34 hx).2 (E.block _ (zH (h.c34 hx).2))⟩
 c36:=fun hx=>⟨(h.c36 hx).1,zu (h.c36 hx).2 (E.block _ (zH (h.c36 hx).2))⟩
 c5:=fun hx=>⟨(h.c5 hx).1,yK (h.c5 hx).2.1 E.size,(h.c5 hx).2.2.1,zo (h.c5 hx).2.2.2 E (h.c5 hx).2.1⟩
 c6:=fun hx=>⟨(h.c6 hx).1,yK (h.c6 hx).2.1 E.size,(h.c6 hx).2.2.1,zo (h.c6 hx).2.2.2 E (h.c6 hx).2.1⟩
 n15:=h.n15
 n16:=h.n16
 n25:=h.n25
 n26:=h.n26
 n56:=h.n56
 s5:=fun hx=>⟨(h.s5 hx).1,zc (h.s5 hx).2 E (h.c5 (h.s5 hx).1.2).2.1⟩
 s6:=fun hx=>⟨(h.s6 hx).1,zc (h.s6 hx).2 E (h.c6 (h.s6 hx).1.2).2.1⟩
theorem gse {x:List Bool} {i j:Nat} (h:i ≠ j):(x.set i true)[j]? = x[j]?:=yX h
theorem rw9_0 (h:RW9 W0 BV q1 q2 x v33 v34 v35 v36 v5 v6 b1 b2 p5 p6 w):RW9 W0 BV q1 q2 (x.set 0 true) BV v34 v35 v36 v5 v6 b1 b2 p5 p6 w:=by
 constructor <;> try simp only [gse (show 0 ≠ 1 by decide),gse (show 0 ≠ 2 by decide),gse (show 0 ≠ 3 by decide),gse (show 0 ≠ 4 by decide),gse (show 0 ≠ 5 by decide),gse (show 0 ≠ 6 by decide),gse (show 0 ≠ 7 by decide)]
 ·exact h.bel
 ·exact fun _=>by first | rfl | trivial
 ·exact h.c35
 ·exact h.c34
 ·exact h.c36
 ·exact h.c5
 ·exact h.c6
 ·exact h.n15
 ·exact h.n16
 ·exact h.n25
 ·exact h.n26
 ·exact h.n56
 ·exact h.s5
 ·exact h.s6
theorem rw9_2 (h:RW9 W0 BV q1 q2 x v33 v34 v35 v36 v5 v6 b1 b2 p5 p6 w):RW9 W0 BV q1 q2 (x.set 2 true) v33 v34 BV v36 v5 v6 b1 b2 p5 p6 w:=by
 constructor <;> try simp only [gse (show 2 ≠ 0 by decide),gse (show 2 ≠ 1 by decide),gse (show 2 ≠ 3 by decide),gse (show 2 ≠ 4 by decide),gse (show 2 ≠ 5 by decide),gse (show 2 ≠ 6 by decide),gse (show 2 ≠ 7 by decide)]
 ·exact h.bel
 ·exact h.c33
 ·exact fun _=>by first | rfl | trivial
 ·exact h.c34
 ·exact h.c36
 ·exact h.c5
 ·exact h.c6
 ·exact h.n15
 ·exact h.n16
 ·exact h.n25
 ·exact h.n26
 ·exact h.n56
 ·exact h.s5
 ·exact h.s6
theorem rw9_1 (h:RW9 W0 BV q1 q2 x v33 v34 v35 v36 v5 v6 b1 b2 p5 p6 w) (h6:x[6]? ≠ some true) {b:Nat} (E:yp w w') (qj:w.heap.size ≤ b) (ht:Tb w' b q1) :
  RW9 W0 BV q1 q2 (x.set 1 true) v33 (bE b) v35 v36 v5 v6 b b2 p5 p6 w':=by
 have g:=rw9_grow h E
 constructor <;> try simp only [gse (show 1 ≠ 0 by decide),gse (show 1 ≠ 2 by decide),gse (show 1 ≠ 3 by decide),gse (show 1 ≠ 4 by decide),gse (show 1 ≠ 5 by decide),gse (show 1 ≠ 6 by decide),gse (show 1 ≠ 7 by decide)]
 ·exact g.bel
 ·exact g.c33
 ·exact g.c35
 ·exact fun _=>⟨by first | rfl | trivial,ht⟩
 ·exact g.c36
 ·exact g.c5
 ·exact g.c6
 ·exact fun _ h4=>by have:=(h.c5 h4).2.1; omega
 ·exact fun _ h5=>by have:=(h.c6 h5).2.1; omega
 ·exact g.n25
 ·exact g.n26
 ·exact g.n56
 ·exact fun hx=>absurd hx h6
 ·exact g.s6
theorem rw9_3 (h:RW9 W0 BV q1 q2 x v33 v34 v35 v36 v5 v6 b1 b2 p5 p6 w) (h7:x[7]? ≠ some true) {b:Nat} (E:yp w w') (qj:w.heap.size ≤ b) (ht:Ts w' b q2) :
  RW9 W0 BV q1 q2 (x.set 3 true) v33 v34 v35 (bF b) v5 v6 b1 b p5 p6 w':=by
 have g:=rw9_grow h E
 constructor <;> try simp only [gse (show 3 ≠ 0 by decide),gse (show 3 ≠ 1 by decide),gse (show 3 ≠ 2 by decide),gse (show 3 ≠ 4 by decide),gse (show 3 ≠ 5 by decide),gse (show 3 ≠ 6 by decide),gse (show 3 ≠ 7 by decide)]
 ·exact g.bel
 ·exact g.c33
 ·exact g.c35
 ·exact g.c34
 ·exact fun _=>⟨by first | rfl | trivial,ht⟩
 ·exact g.c5
 ·exact g.c6
 ·exact g.n15
 ·exact g.n16
 ·exact fun _ h4=>by have:=(h.c5 h4).2.1; omega
 ·exact fun _ h5=>by have:=(h.c6 h5).2.1; omega
 ·exact g.n56
 ·exact g.s5
 ·exact fun hx=>absurd hx h7
theorem zY (w:World) (A:List Value) (t:TypeId):(w.alloc (Obj.cells A.toArray t)).there w.heap.size 0 A.length:=bR (heap_alloc_new w _) (by simp)
theorem rw9_4 (h:RW9 W0 BV q1 q2 x v33 v34 v35 v36 v5 v6 b1 b2 p5 p6 w) (h6:x[6]? ≠ some true) (t:TypeId) :
  RW9 W0 BV q1 q2 (x.set 4 true) v33 v34 v35 v36 (yq w 0) v6 b1 b2 w.heap.size p6 (w.alloc (L #[.nilFunc,.nilFunc,.nilFunc] t)):=by
 have g:=rw9_grow h ((Below.refl _ _).alloc yb (L #[.nilFunc,.nilFunc,.nilFunc] t))
 constructor <;> try simp only [gse (show 4 ≠ 0 by decide),gse (show 4 ≠ 1 by decide),gse (show 4 ≠ 2 by decide),gse (show 4 ≠ 3 by decide),gse (show 4 ≠ 5 by decide),gse (show 4 ≠ 6 by decide),gse (show 4 ≠ 7 by decide)]
 ·exact g.bel
 ·exact g.c33
 ·exact g.c35
 ·exact g.c34
 ·exact g.c36
 ·exact fun _=>⟨by first | rfl | trivial,by rw [zj]; omega,h.bel.size,zY w [.nilFunc,.nilFunc,.nilFunc] t⟩
 ·exact g.c6
 ·exact fun N _=>by have:=zH (h.c34 N).2; omega
 ·exact g.n16
 ·exact fun h3 _=>by have:=zH (h.c36 h3).2; omega
 ·exact g.n26
 ·exact fun _ h5=>by have:=(h.c6 h5).2.1; omega
 ·exact fun hx=>absurd hx h6
 ·exact g.s6
theorem rw9_5 (h:RW9 W0 BV q1 q2 x v33 v34 v35 v36 v5 v6 b1 b2 p5 p6 w) (h7:x[7]? ≠ some true) (t:TypeId) :
  RW9 W0 BV q1 q2 (x.set 5 true) v33 v34 v35 v36 v5 (yq w 0) b1 b2 p5 w.heap.size (w.alloc (L #[.nilFunc,.nilFunc,.nilFunc] t)):=by
 have g:=rw9_grow h ((Below.refl _ _).alloc yb (L #[.nilFunc,.nilFunc,.nilFunc] t))
 constructor <;> try simp only [gse (show 5 ≠ 0 by decide),gse (show 5 ≠ 1 by decide),gse (show 5 ≠ 2 by decide),gse (show 5 ≠ 3 by decide),gse (show 5 ≠ 4 by decide),gse (show 5 ≠ 6 by decide),gse (show 5 ≠ 7 by decide)]
 ·exact g.bel
 ·exact g.c33
 ·exact g.c35
 ·exact g.c34
 ·exact g.c36
 ·exact g.c5
 ·exact fun _=>⟨by first | rfl | trivial,by rw [zj]; omega,h.bel.size,zY w [.nilFunc,.nilFunc,.nilFunc] t⟩
 ·exact g.n15
 ·exact fun N _=>by have:=zH (h.c34 N).2; omega
 ·exact g.n25
 ·exact fun h3 _=>by have:=zH (h.c36 h3).2; omega
 ·exact fun h4 _=>by have:=(h.c5 h4).2.1; omega
 ·exact g.s5
 ·exact fun hx=>absurd hx h7
theorem dK {p:Nat} {F0 F1 F2:Value} {k:Nat} (hk:k ≠ p):(((w.setCell (Q p 0) F0).setCell (Q p 1) F1).setCell (Q p 2) F2).heap[k]? = w.heap[k]? :=
 (yT _ _ _ _ hk).trans ((yT _ _ _ _ hk).trans (yT _ _ _ _ hk))
theorem set3_size {p:Nat} {F0 F1 F2:Value}:(((w.setCell (Q p 0) F0).setCell (Q p 1) F1).setCell (Q p 2) F2).heap.size = w.heap.size:=by simp [World.setCell]
theorem set3_range {p:Nat} {F0 F1 F2:Value} (ht:w.there p 0 3):(((w.setCell (Q p 0) F0).setCell (Q p 1) F1).setCell (Q p 2) F2).rangeAt p 0 [F0,F1,F2]:=yY w p 0 [F0,F1,F2] (fun j V=>ht j V)
theorem eO {p b o n:Nat} {F0 F1 F2:Value} (ht:w.there b o n):(((w.setCell (Q p 0) F0).setCell (Q p 1) F1).setCell (Q p 2) F2).there b o n:=xc ht p 0 [F0,F1,F2]
theorem set3_below {p:Nat} {F0 F1 F2:Value} (h:yp W0 w) (hp:W0.heap.size ≤ p):yp W0 (((w.setCell (Q p 0) F0).setCell (Q p 1) F1).setCell (Q p 2) F2) :=
 ((h.setCell (p:=(Q p 0)) hp F0).setCell (p:=(Q p 1)) hp F1).setCell (p:=(Q p 2)) hp F2
theorem range_block {b o:Nat} {A:List Value} (h:w.rangeAt b o A) (E:w'.heap[b]? = w.heap[b]?):w'.rangeAt b o A:=fun j v hv=>(yR (a:=(Q b (o + j))) E).trans (h j v hv)
theorem rw9_6 (h:RW9 W0 BV q1 q2 x v33 v34 v35 v36 v5 v6 b1 b2 p5 p6 w) (N:x[1]? = some true) (h3:x[3]? = some true) (h4:x[4]? = some true) (h5:x[5]? = some true) {F0 F1 F2:Value} (hF:cK b1 = [F0,F1,F2]) :
  RW9 W0 BV q1 q2 (x.set 6 true) v33 v34 v35 v36 v5 v6 b1 b2 p5 p6 (((w.setCell (Q p5 0) F0).setCell (Q p5 1) F1).setCell (Q p5 2) F2):=by
 obtain ⟨e1,e2,e3,e4⟩:=h.c5 h4
 obtain ⟨f1,f2,f3,f4⟩:=h.c6 h5
 constructor <;> try simp only [gse (show 6 ≠ 0 by decide),gse (show 6 ≠ 1 by decide),gse (show 6 ≠ 2 by decide),gse (show 6 ≠ 3 by decide),gse (show 6 ≠ 4 by decide),gse (show 6 ≠ 5 by decide),gse (show 6 ≠ 7 by decide)]
 ·exact set3_below h.bel e3
 ·exact h.c33
 ·exact h.c35
 ·exact fun _=>⟨(h.c34 N).1,zu (h.c34 N).2 (dK (h.n15 N h4))⟩
 ·exact fun _=>⟨(h.c36 h3).1,zu (h.c36 h3).2 (dK (h.n25 h3 h4))⟩
 ·exact fun _=>⟨e1,by rw [set3_size]; exact e2,e3,eO e4⟩
 ·exact fun _=>⟨f1,by rw [set3_size]; exact f2,f3,eO f4⟩
 ·exact h.n15
 ·exact h.n16
 ·exact h.n25
 ·exact h.n26
 ·exact h.n56
 ·exact fun _=>⟨⟨N,h4⟩,by rw [hF]; exact set3_range e4⟩
 ·exact fun hx=>⟨(h.s6 hx).1,range_block (h.s6 hx).2 (dK (Ne.symm (h.n56 h4 h5)))⟩
theorem rw9_7 (h:RW9 W0 BV q1 q2 x v33 v34 v35 v36 v5 v6 b1 b2 p5 p6 w) (N:x[1]? = some true) (h3:x[3]? = some true) (h4:x[4]? = some true) (h5:x[5]? = some true) {F0 F1 F2:Value} (hF:cU b2 = [F0,F1,F2]) :
  RW9 W0 BV q1 q2 (x.set 7 true) v33 v34 v35 v36 v5 v6 b1 b2 p5 p6 (((w.setCell (Q p6 0) F0).setCell (Q p6 1) F1).setCell (Q p6 2) F2):=by
 obtain ⟨e1,e2,e3,e4⟩:=h.c5 h4
 obtain ⟨f1,f2,f3,f4⟩:=h.c6 h5
 constructor <;> try simp only [gse (show 7 ≠ 0 by decide),gse (show 7 ≠ 1 by decide),gse (show 7 ≠ 2 by decide),gse (show 7 ≠ 3 by decide),gse (show 7 ≠ 4 by decide),gse (show 7 ≠ 5 by decide),gse (show 7 ≠ 6 by decide)]
 ·exact set3_below h.bel f3
 ·exact h.c33
 ·exact h.c35
 ·exact fun _=>⟨(h.c34 N).1,zu (h.c34 N).2 (dK (h.n16 N h5))⟩
 ·exact fun _=>⟨(h.c36 h3).1,zu (h.c36 h3).2 (dK (h.n26 h3 h5))⟩
 ·exact fun _=>⟨e1,by rw [set3_size]; exact e2,e3,eO e4⟩
 ·exact fun _=>⟨f1,by rw [set3_size]; exact f2,f3,eO f4⟩
 ·exact h.n15
 ·exact h.n16
 ·exact h.n25
 ·exact h.n26
 ·exact h.n56
 ·exact fun hx=>⟨(h.s5 hx).1,range_block (h.s5 hx).2 (dK (h.n56 h4 h5))⟩
 ·exact fun _=>⟨⟨h3,h5⟩,by rw [hF]; exact set3_range f4⟩
end

theorem insT_len (s:Bool) (k:Int):∀ T:List Int,(insT s k T).length ≤ T.length + 1
 | []=>by simp [insT]
 | a :: r=>by
  have:=insT_len s k r
  rw [insT]; split
  ·simp
  ·split <;> simp <;> omega
theorem tks_len (s:Bool):∀ seq:List Od,(tks s seq).length ≤ seq.length
 | []=>by simp [tks]
 | o :: r=>by
  have N:=insT_len s o.ticks (tks s r)
  have Y:=tks_len s r
  rw [tks]; simp; omega
def backB:Nat→List Oper→Bool
 | _,[]=>true
 | i,o :: r=>o.after.toList.all (fun e=>decide (e.on < i)) && backB (i + 1) r
theorem back_spec:∀ (l:List Oper) (n:Nat),backB n l = true→∀ (i:Nat) (o:Oper),l[i]? = some o→∀ e ∈ o.after,e.on < n + i
 | [],_,_,i,o,h,_,_=>by simp at h
 | a :: r,n,E,0,o,h,e,he=>by
  simp at h; subst h
  simp only [backB,xf,List.all_eq_true,xg] at E
  exact E.1 e (by simpa using he)
 | a :: r,n,E,i + 1,o,h,e,he=>by
  simp only [backB,xf] at E
  have:=back_spec r (n + 1) E.2 i o (by simpa using h) e he
  omega
theorem acyc (l:List Oper) (h:backB 0 l = true):∀ (i:Nat) (o:Oper),l[i]? = some o→∀ e ∈ o.after,e.on < i:=fun i o Z e he=>by
 have:=back_spec l 0 h i o Z e he; omega
def C10 (b1 b2 p5 p6 N1 N2:Nat):Nat→Value→Prop
 | 0,v=>v = J p5 2
 | 1,v=>v = .func (.func 168) #[J b1 0] #[]
 | 2,v=>∃ a c,v = .slice a N1 c
 | 3,v=>v = I N1
 | 4,v=>v = J p6 2
 | 5,v=>v = .func (.func 172) #[J b2 0] #[]
 | 6,v=>∃ a c,v = .slice a N2 c
 | 7,v=>v = I N2
 | 8,v=>v = I ((N1:Int) + N2)
 | 9,v=>v = I ((N1:Int) + N2)
 | _,_=>True
theorem fq (b1 b2:Nat) (sd1 sd2:Int) (s1 s2:List Od) (w:World) (N:aV 201 true w b1 sd1 s1) (Y:aV 204 false w b2 sd2 s2) (n1:s1.length ≤ 20) (n2:s2.length ≤ 20) :
  Calls Tryz.prog 85 #[bE b1,bF b2] w fun e w'=>e = yn (I (((aU true sd1 s1).length:Int) + (aU false sd2 s2).length))∧yp w w':=by
 have uk:=zH N
 have xL:=zH Y
 generalize hL1:(aU true sd1 s1).length = N1
 generalize hL2:(aU false sd2 s2).length = N2
 have hN1:N1 ≤ 20:=by rw [← hL1,aU,List.length_map]; exact yO (tks_len _ _) n1
 have hN2:N2 ≤ 20:=by rw [← hL2,aU,List.length_map]; exact yO (tks_len _ _) n2
 have HLL:Hid ((aU true sd1 s1).length = N1∧(aU false sd2 s2).length = N2):=⟨hL1,hL2⟩
 have xK:=zj w (L (cK b1).toArray 135)
 have uf:((w.alloc (L (cK b1).toArray 135)).alloc (L (cU b2).toArray 135)).heap.size = w.heap.size + 1 + 1:=by rw [zj,xK]
 have r0:=zn w (cK b1) 135
 have r1:=zn (w.alloc (L (cK b1).toArray 135)) (cU b2) 135
 rw [xK] at r1
 have r0':=zc r0 (C:=w.heap.size + 1) ((Below.refl _ _).alloc (by rw [xK]; omega) (L (cU b2).toArray 135)) (by omega)
 have xW:Hid (yp w ((w.alloc (L (cK b1).toArray 135)).alloc (L (cU b2).toArray 135))):=(fw _ _).alloc (by rw [xK]; omega) _
 have vD:=H r0'
 have HR6:=H r1
 have qf:=H uf
 have jd:=H (zu N ((U xW).block _ uk))
 have ux:=H (zu Y ((U xW).block _ xL))
 clear r0 r1 r0' xK uf hL1 hL2 N Y
 unfold bE bF
 go_enter Tryz.func85,Tryz.ntmps85
 go_wp2_with fail
 unfold cK cU at xW vD HR6 qf jd ux
 generalize hW:((w.alloc (L (List.toArray [.func (.func 166) #[J b1 0] #[],.func (.func 167) #[J b1 0] #[],.func (.func 168) #[J b1 0] #[]]) 135)).alloc (L (List.toArray [.func (.func 170) #[J b2 0] #[],.func (.func 171) #[J b2 0] #[],.func (.func 172) #[J b2 0] #[]]) 135)) = W at xW vD HR6 qf jd ux
 have hb1s:b1 < W.heap.size:=zH (U jd)
 have hb2s:b2 < W.heap.size:=zH (U ux)
 have hp5:w.heap.size < W.heap.size:=by rw [U qf]; omega
 have hp6:w.heap.size + 1 < W.heap.size:=by rw [U qf]; omega
 refine dI (RGrow W (fun f=>{ tmps:=#[bE b1,bF b2,yq w 0,J (w.heap.size + 1) 0,f 9,f 0,f 1,f 2,f 3,f 4,f 5,f 6,f 7,f 8],defers:=[] }) (C10 b1 b2 w.heap.size (w.heap.size + 1) N1 N2)) (by kernel_rfl) ?_ ?_ ?_
 ·refine ⟨upd (fun _=>M) 9 (I 0),rfl,?_,fun j V=>by rw [yJ] at V; split at V <;> simp at V⟩
  rw [← hW]
  exact ⟨rfl,rfl,rfl,Nat.le_refl _,fun _ _=>rfl⟩
 ·rintro x cs hj ⟨f,rfl,xl,hC⟩ hx xO
  have hall9:=zN xO hx (acyc _ (by kernel_rfl)) 9 (by simp)
  have e9:f 9 = I ((N1:Int) + N2):=hC 9 hall9
  simp only [e9]
  have xE:=H xl
  clear hC hx xO hall9 e9 xl
  go_wp2_with fail
  go_ret
  exact ⟨rfl,(U xW).trans ((U xE).mono (U xW).size)⟩
 ·rintro x cs hj i o ⟨f,rfl,xl,hC⟩ hx Z xr D
  have xE:=H xl
  have HC:=H hC
  match i,Z with
  | 0,Z =>
   obtain rfl:=yc Z
   clear D hC xl
   rw [if_pos (by rfl)];unfold Oper.wp;go_simp
   exact ⟨upd f 0 (yq w 2),by simp [upd],U xE,zC (U HC) rfl⟩
  | 1,Z =>
   obtain rfl:=yc Z
   have g0:C10 b1 b2 w.heap.size (w.heap.size + 1) N1 N2 0 (f 0):=hC 0 (yf D 0 rfl)
   simp only [C10] at g0
   have d2:=zc (U vD) xl hp5 2 _ rfl
   clear D hC xl
   rw [if_pos (by rfl)];unfold Oper.wp;go_simp
   exact ⟨upd f 1 (.func (.func 168) #[J b1 0] #[]),by simp [upd,g0],U xE,zC (U HC) rfl⟩
  | 2,Z =>
   obtain rfl:=yc Z
   have g1:C10 b1 b2 w.heap.size (w.heap.size + 1) N1 N2 1 (f 1):=hC 1 (yf D 1 rfl)
   simp only [C10] at g1
   have ht:=zu (U jd) (xl.block _ hb1s)
   have HTV:=H ht
   clear D hC xl ht
   rw [if_pos (by rfl)];unfold Oper.wp;go_simp
   refine (levels_b b1 sd1 s1 hj (U HTV) n1).mono ?_
   rintro e w4 ⟨v4,rfl,⟨al,O,rfl,-,-⟩,xy⟩
   rw [(U HLL).1]
   exact ⟨upd f 2 (.slice al N1 O),by simp [upd,g1],(U xE).trans (xy.mono (U xE).size),zC (U HC) ⟨al,O,rfl⟩⟩
  | 3,Z =>
   obtain rfl:=yc Z
   have g2:C10 b1 b2 w.heap.size (w.heap.size + 1) N1 N2 2 (f 2):=hC 2 (yf D 2 rfl)
   obtain ⟨al,O,g2⟩:=g2
   clear D hC xl
   rw [if_pos (by rfl)];unfold Oper.wp;go_simp
   exact ⟨upd f 3 (I N1),by simp [upd,g2],U xE,zC (U HC) rfl⟩
  | 4,Z =>
   obtain rfl:=yc Z
   clear D hC xl
   rw [if_pos (by rfl)];unfold Oper.wp;go_simp
   exact ⟨upd f 4 (J (w.heap.size + 1) 2),by simp [upd],U xE,zC (U HC) rfl⟩
  | 5,Z =>
   obtain rfl:=yc Z
   have g4:C10 b1 b2 w.heap.size (w.heap.size + 1) N1 N2 4 (f 4):=hC 4 (yf D 4 rfl)
   simp only [C10] at g4
   have d2:=zc (U HR6) xl hp6 2 _ rfl
   clear D hC xl
   rw [if_pos (by rfl)];unfold Oper.wp;go_simp
   exact ⟨upd f 5 (.func (.func 172) #[J b2 0] #[]),by simp [upd,g4],U xE,zC (U HC) rfl⟩
  | 6,Z =>
   obtain rfl:=yc Z
   have g5:C10 b1 b2 w.heap.size (w.heap.size + 1) N1 N2 5 (f 5):=hC 5 (yf D 5 rfl)
   simp only [C10] at g5
   have ht:=zu (U ux) (xl.block _ hb2s)
   have HTV:=H ht
   clear D hC xl ht
   rw [if_pos (by rfl)];unfold Oper.wp;go_simp
   refine (levels_s b2 sd2 s2 hj (U HTV) n2).mono ?_
   rintro e w4 ⟨v4,rfl,⟨al,O,rfl,-,-⟩,xy⟩
   rw [(U HLL).2]
   exact ⟨upd f 6 (.slice al N2 O),by simp [upd,g5],(U xE).trans (xy.mono (U xE).size),zC (U HC) ⟨al,O,rfl⟩⟩
  | 7,Z =>
   obtain rfl:=yc Z
   have g6:C10 b1 b2 w.heap.size (w.heap.size + 1) N1 N2 6 (f 6):=hC 6 (yf D 6 rfl)
   obtain ⟨al,O,g6⟩:=g6
   clear D hC xl
   rw [if_pos (by rfl)];unfold Oper.wp;go_simp
   exact ⟨upd f 7 (I N2),by simp [upd,g6],U xE,zC (U HC) rfl⟩
  | 8,Z =>
   obtain rfl:=yc Z
   have g3:C10 b1 b2 w.heap.size (w.heap.size + 1) N1 N2 3 (f 3):=hC 3 (yf D 3 rfl)
   have g7:C10 b1 b2 w.heap.size (w.heap.size + 1) N1 N2 7 (f 7):=hC 7 (yf D 7 rfl)
   simp only [C10] at g3
   simp only [C10] at g7
   have hwr8:IntKind.i64.wrap ((N1:Int) + N2) = (N1:Int) + N2:=by rw [IntKind.wrap_i64]; omega
   clear D hC xl
   rw [if_pos (by rfl)];unfold Oper.wp;go_simp
   exact ⟨upd f 8 (I ((N1:Int) + N2)),by simp [upd,g3,g7],U xE,zC (U HC) rfl⟩
  | 9,Z =>
   obtain rfl:=yc Z
   have g8:C10 b1 b2 w.heap.size (w.heap.size + 1) N1 N2 8 (f 8):=hC 8 (yf D 8 rfl)
   simp only [C10] at g8
   clear D hC xl
   rw [if_pos (by rfl)];unfold Oper.wp;go_simp
   exact ⟨upd f 9 (I ((N1:Int) + N2)),by simp [upd,g8],U xE,zC (U HC) rfl⟩
  | n + 10,Z=>simp at Z
end Go.Proofs.YtnphbkgfjanmgaaGreatDoor
