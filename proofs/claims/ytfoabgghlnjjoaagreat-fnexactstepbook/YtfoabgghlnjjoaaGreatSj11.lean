/-
  A region that draws its order, walked by what holds of the operations that have come up: one step an operation serves every order. No function walked.
-/
import Derived.Test.YtfoabgghlnjjoaaGreatSj04
import Derived.Test.YtfoabgghlnjjoaaGreatSj10
import Derived.StillTailTactics
namespace Go.Proofs.YtfoabgghlnjjoaaGreat
open Go.RowKit
set_option linter.unusedVariables false

theorem count_set:∀ (x:List Bool) (i:Nat),x[i]? = some false→(x.set i true).count false + 1 = x.count false
  | [],i,h=>by simp at h
  | b :: r,0,h=>by simp at h; subst h; simp
  | b :: r,i + 1,h=>by
    have ih:=count_set r i (by simpa using h)
    simp only [List.set_cons_succ,List.count_cons]
    omega
theorem no_false {x:List Bool} (h:x.count false = 0) (i:Nat):x[i]? ≠ some false:=fun e=>by
  have:=List.count_pos_iff.2 (List.mem_of_getElem? e)
  omega
section
variable {P:Program} {Q:Exit→Act→World→Prop} {l:List Oper} (R:List Bool→Act→World→Prop)

theorem ready_facts {x:List Bool} (hx:x.length = l.length) {i:Nat} (h:i ∈ Region.ready .any l.toArray x.toArray) :
    ∃ o,l[i]? = some o∧x[i]? = some false∧∀ e ∈ o.after,Region.binds .any e = true→x[e.on]? = some true:=by
  obtain ⟨h1,o,h2,h3⟩:=mem_ready.1 h
  refine ⟨o,by simpa using h2,?_,fun e he hb=>?_⟩
  · by_cases hi:i < x.length
    · simp [hi] at h1; simp [hi,h1]
    · simp [hi] at h1
  · have:=h3 e he hb
    by_cases hi:e.on < x.length
    · simp [hi] at this; simp [hi,this]
    · simp [hi] at this
theorem zao {x:List Bool} (h:Region.ready .any l.toArray x.toArray = []) (hx:x.length = l.length) (i:Nat) (o:Oper) (ho:l[i]? = some o) (hall:∀ e ∈ o.after,Region.binds .any e = true→x[e.on]? = some true):x[i]? = some true:=by
  have hi:i < x.length:=by rw [hx]; exact (List.getElem?_eq_some_iff.1 ho).1
  cases hb:x[i]
  · exfalso
    have:i ∈ Region.ready .any l.toArray x.toArray:=mem_ready.2 ⟨by simp [hi,hb],o,by simpa using ho,fun e he hbd=>by
      have:=hall e he hbd
      obtain ⟨h1,h2⟩:=List.getElem?_eq_some_iff.1 this
      simp [h1,h2]⟩
    rw [h] at this; simp at this
  · simp [hi,hb]
theorem wpAny_inv
    (hend:∀ x a w,R x a w→x.length = l.length→Region.ready .any l.toArray x.toArray = []→Q .normal a w)
    (hstep:∀ x a w i o,R x a w→x.length = l.length→l[i]? = some o→x[i]? = some false→(∀ e ∈ o.after,Region.binds .any e = true→x[e.on]? = some true) →
      (if Region.wanted o (yielded l.toArray a.tmps) then o.wp P a w (fun a' w'=>R (x.set i true) a' w') Q else R (x.set i true) (a.put o.dst undef) w)) :
    ∀ (n:Nat) (x:List Bool) (a:Act) (w:World),x.count false = n→x.length = l.length→R x a w→wpAny P .any l.toArray Q n x.toArray a w
  | 0,x,a,w,hn,hx,hR=>by
    have hr:Region.ready .any l.toArray x.toArray = []:=by
      apply List.eq_nil_iff_forall_not_mem.2
      intro i hi
      obtain ⟨o,_,h2,_⟩:=ready_facts hx hi
      exact no_false hn i h2
    exact ⟨hr,hend x a w hR hx hr⟩
  | n + 1,x,a,w,hn,hx,hR=>by
    refine ⟨fun hr=>hend x a w hR hx hr,fun i hi=>?_⟩
    obtain ⟨o,h1,h2,h3⟩:=ready_facts hx hi
    have hs:=hstep x a w i o hR hx h1 h2 h3
    have hc:=count_set x i h2
    have hnext:∀ a' w',R (x.set i true) a' w'→wpAny P .any l.toArray Q n (x.toArray.setIfInBounds i true) a' w':=fun a' w' h=>by
      have:=wpAny_inv hend hstep n (x.set i true) a' w' (by omega) (by simpa using hx) h
      simpa using this
    have ho:l.toArray[i]? = some o:=by simpa using h1
    unfold wpOp
    rw [ho]
    simp only
    split
    · next hw=>rw [if_pos hw] at hs; exact .inl (Oper.wp_mono hnext hs)
    · next hw=>rw [if_neg hw] at hs; exact hnext _ _ hs
theorem zax {id:Nat} {a:Act} {w:World} (hm:P.follows .mixedOrders = true)
    (h0:R (List.replicate l.length false) a { w with drawn:=w.drawn + 1 })
    (hend:∀ x a w,R x a w→x.length = l.length→Region.ready .any l.toArray x.toArray = []→Q .normal a w)
    (hstep:∀ x a w i o,R x a w→x.length = l.length→l[i]? = some o→x[i]? = some false→(∀ e ∈ o.after,Region.binds .any e = true→x[e.on]? = some true) →
      (if Region.wanted o (yielded l.toArray a.tmps) then o.wp P a w (fun a' w'=>R (x.set i true) a' w') Q else R (x.set i true) (a.put o.dst undef) w)) :
    (Code.region id l.toArray true).wp P Q a w:=by
  refine wp_region_any hm ?_
  have:=wpAny_inv R hend hstep l.length (List.replicate l.length false) a { w with drawn:=w.drawn + 1 } (by simp) (by simp) h0
  simpa using this
end
def RGrow (base:World) (F:(Nat→Value)→Act) (C:Nat→Value→Prop) (x:List Bool) (A:Act) (W:World):Prop :=
  ∃ f,A = F f∧Below base.heap.size base W∧∀ j,x[j]? = some true→C j (f j)
theorem zG {C:Nat→Value→Prop} {x:List Bool} {f:Nat→Value} {i:Nat} {v:Value} (h:∀ j,x[j]? = some true→C j (f j)) (hv:C i v):∀ j,(x.set i true)[j]? = some true→C j (upd f i v j):=fun j hj=>by
  by_cases hji:j = i
  · subst hji; rw [zp]; exact hv
  · rw [zq _ _ hji]; rw [List.getElem?_set_ne (fun e=>hji e.symm)] at hj; exact h j hj
theorem zab {l:List Oper} {x:List Bool} (h:Region.ready .any l.toArray x.toArray = []) (hx:x.length = l.length) (hacy:∀ (i:Nat) (o:Oper),l[i]? = some o→∀ e ∈ o.after,e.on < i):∀ i,i < l.length→x[i]? = some true:=by
  intro i
  induction i using Nat.strongRecOn with
  | _ i ih =>
    intro hi
    refine zao h hx i l[i] (List.getElem?_eq_getElem hi) fun e he _=>?_
    have:=hacy i l[i] (List.getElem?_eq_getElem hi) e he
    exact ih e.on this (by omega)
end Go.Proofs.YtfoabgghlnjjoaaGreat
/-
  A region that draws its order, with one operation that writes: what holds of each value that has come up, world by world. No function walked.
-/
namespace Go.Proofs.YtfoabgghlnjjoaaGreat
open Go.RowKit
set_option linter.unusedVariables false

def RG (base:World) (F:(Nat→Value)→Act) (k:Nat) (D:Prop→World→Nat→Value→Prop) (x:List Bool) (A:Act) (W:World):Prop :=
  ∃ f,A = F f∧Below base.heap.size base W∧∀ j,x[j]? = some true→D (x[k]? = some true) W j (f j)
section
variable {base W W':World} {F:(Nat→Value)→Act} {k:Nat} {D:Prop→World→Nat→Value→Prop} {x:List Bool} {f:Nat→Value}
theorem zas (hm:∀ p W W' j v,Below W.heap.size W W'→D p W j v→D p W' j v) (hb:Below base.heap.size base W) (h:∀ j,x[j]? = some true→D (x[k]? = some true) W j (f j)) (hg:Below W.heap.size W W') {i:Nat} (hik:i ≠ k) {v:Value} (hv:D (x[k]? = some true) W' i v) :
    Below base.heap.size base W'∧∀ j,(x.set i true)[j]? = some true→D ((x.set i true)[k]? = some true) W' j (upd f i v j):=by
  refine ⟨hb.trans (hg.mono hb.size),fun j hj=>?_⟩
  rw [List.getElem?_set_ne hik]
  by_cases hji:j = i
  · subst hji; rw [zp]; exact hv
  · rw [zq _ _ hji]
    rw [List.getElem?_set_ne (fun e=>hji e.symm)] at hj
    exact hm _ _ _ _ _ hg (h j hj)
theorem zc (hb:Below base.heap.size base W) (h:∀ j,x[j]? = some true→D (x[k]? = some true) W j (f j)) {i:Nat} (hik:i ≠ k) {v:Value} (hv:D (x[k]? = some true) W i v) :
    Below base.heap.size base W∧∀ j,(x.set i true)[j]? = some true→D ((x.set i true)[k]? = some true) W j (upd f i v j):=by
  refine ⟨hb,fun j hj=>?_⟩
  rw [List.getElem?_set_ne hik]
  by_cases hji:j = i
  · subst hji; rw [zp]; exact hv
  · rw [zq _ _ hji]
    rw [List.getElem?_set_ne (fun e=>hji e.symm)] at hj
    exact h j hj
end
theorem set_monoG {x:List Bool} {i j:Nat} (h:x[j]? = some true):(x.set i true)[j]? = some true:=by
  by_cases hij:i = j
  · subst hij; exact List.getElem?_set_self (List.getElem?_eq_some_iff.1 h).1
  · rw [List.getElem?_set_ne hij]; exact h
def Closed (l:List Oper) (x:List Bool):Prop:=∀ (i:Nat) (o:Oper),l[i]? = some o→x[i]? = some true→∀ e ∈ o.after,Region.binds .any e = true→x[e.on]? = some true
theorem closed_step {l:List Oper} {x:List Bool} {i:Nat} {o:Oper} (h:Closed l x) (ho:l[i]? = some o) (hall:∀ e ∈ o.after,Region.binds .any e = true→x[e.on]? = some true):Closed l (x.set i true):=by
  intro j o' ho' hj e he hb
  by_cases hji:j = i
  · subst hji
    rw [ho] at ho'
    obtain rfl:=Option.some.inj ho'
    exact set_monoG (hall e he hb)
  · rw [List.getElem?_set_ne (fun e=>hji e.symm)] at hj
    exact set_monoG (h j o' ho' hj e he hb)
theorem zi {P:Program} {Q:Exit→Act→World→Prop} {l:List Oper} (R:List Bool→Act→World→Prop) {id:Nat} {a:Act} {w:World} (hm:P.follows .mixedOrders = true)
    (h0:R (List.replicate l.length false) a { w with drawn:=w.drawn + 1 })
    (hend:∀ x a w,R x a w→x.length = l.length→Region.ready .any l.toArray x.toArray = []→Q .normal a w)
    (hstep:∀ x a w i o,R x a w→Closed l x→x.length = l.length→l[i]? = some o→x[i]? = some false→(∀ e ∈ o.after,Region.binds .any e = true→x[e.on]? = some true) →
      (if Region.wanted o (yielded l.toArray a.tmps) then o.wp P a w (fun a' w'=>R (x.set i true) a' w') Q else R (x.set i true) (a.put o.dst undef) w)) :
    (Code.region id l.toArray true).wp P Q a w:=by
  refine zax (fun x a w=>R x a w∧Closed l x) hm ⟨h0,fun i o _ hi=>by rw [List.getElem?_replicate] at hi; split at hi <;> simp at hi⟩ (fun x a w h=>hend x a w h.1) ?_
  intro x a w i o h hx ho hxi hall
  have hs:=hstep x a w i o h.1 h.2 hx ho hxi hall
  have hc:=closed_step h.2 ho hall
  split
  · next hw=>rw [if_pos hw] at hs; exact Oper.wp_mono (fun a' w' hR=>⟨hR,hc⟩) hs
  · next hw=>rw [if_neg hw] at hs; exact ⟨hs,hc⟩
theorem zbr {P:Program} {id:Nat} {Q:Exit→Act→World→Prop} {a:Act} {w:World} {l:List Oper} (n:Nat) (hm:P.follows .mixedOrders = true) (hB:Region.lexTailB .any l.toArray n = true)
    (h:wpStill P l.toArray w.drew (fun a'=>wpList P l.toArray Q (l.drop n) a' w.drew) (l.take n) a):(Code.region id l.toArray true).wp P Q a w:=wp_region_still_tail n hm hB h
theorem zcC {P:Program} {w:World} {o:Oper} {a:Act} {K:Act→World→Prop} {Q:Exit→Act→World→Prop} (s x:Operand) (t:TypeId)
    (ho:o.op = .call { callee:=.builtin .append,args:=#[s,x],argTypes:=#[t,t] })
    (base:Nat) (e:TypeId) (i:TypeInfo) (size:Nat) (ht:P.underlying t = some (.slice e)) (hi:P.info? e = some i)
    (v:Value) (n:Nat) (xs:List Value) (hs:a.eval s = v) (hown:w.ownsRow base e size v n xs) (hx:a.eval x = .slice none 0 0)
    (h:K (a.put o.dst v) w):o.wp P a w K Q:=by
  have hrun:=run_append_owned_none (P:=P) (w:=w) base t o.type e i size ht hi v n xs hown
  unfold Oper.wp
  simp [execOp,ho,resolve,invoke,builtin,hs,hx,hrun,Result.andThen]
  exact h
end Go.Proofs.YtfoabgghlnjjoaaGreat
/-
  Two sides of a book, planted in whatever order: what holds of memory meanwhile; no function walked.
-/
namespace Go.Proofs.YtfoabgghlnjjoaaGreat
open Go.RowKit
set_option linter.unusedVariables false

def zbX (b:Nat):List Value:=[.func (.func 131) #[.pointer (some ⟨b,0,none⟩)] #[],.func (.func 132) #[.pointer (some ⟨b,0,none⟩)] #[],.func (.func 133) #[.pointer (some ⟨b,0,none⟩)] #[]]
def zcp (b:Nat):List Value:=[.func (.func 135) #[.pointer (some ⟨b,0,none⟩)] #[],.func (.func 136) #[.pointer (some ⟨b,0,none⟩)] #[],.func (.func 137) #[.pointer (some ⟨b,0,none⟩)] #[]]
abbrev Tb (w:World) (b:Nat) (q:List Od):Prop:=zai 196 true w b 1 q
abbrev Ts (w:World) (b:Nat) (q:List Od):Prop:=zai 199 false w b 2 q
structure RW9 (W0:World) (BV:Value) (q1 q2:List Od) (x:List Bool) (v33 v34 v35 v36 v5 v6:Value) (b1 b2 p5 p6:Nat) (w:World):Prop where
  bel:Below W0.heap.size W0 w
  c33:x[0]? = some true→v33 = BV
  c35:x[2]? = some true→v35 = BV
  c34:x[1]? = some true→v34 = zbm b1∧Tb w b1 q1
  c36:x[3]? = some true→v36 = zbn b2∧Ts w b2 q2
  c5:x[4]? = some true→v5 = .pointer (some ⟨p5,0,none⟩)∧p5 < w.heap.size∧W0.heap.size ≤ p5∧w.there p5 0 3
  c6:x[5]? = some true→v6 = .pointer (some ⟨p6,0,none⟩)∧p6 < w.heap.size∧W0.heap.size ≤ p6∧w.there p6 0 3
  n15:x[1]? = some true→x[4]? = some true→b1 ≠ p5
  n16:x[1]? = some true→x[5]? = some true→b1 ≠ p6
  n25:x[3]? = some true→x[4]? = some true→b2 ≠ p5
  n26:x[3]? = some true→x[5]? = some true→b2 ≠ p6
  n56:x[4]? = some true→x[5]? = some true→p5 ≠ p6
  s5:x[6]? = some true→(x[1]? = some true∧x[4]? = some true)∧w.rangeAt p5 0 (zbX b1)
  s6:x[7]? = some true→(x[3]? = some true∧x[5]? = some true)∧w.rangeAt p6 0 (zcp b2)
section
variable {W0 w w':World} {BV:Value} {q1 q2:List Od} {x:List Bool} {v33 v34 v35 v36 v5 v6:Value} {b1 b2 p5 p6:Nat}
theorem rw9_grow (h:RW9 W0 BV q1 q2 x v33 v34 v35 v36 v5 v6 b1 b2 p5 p6 w) (hb:Below w.heap.size w w'):RW9 W0 BV q1 q2 x v33 v34 v35 v36 v5 v6 b1 b2 p5 p6 w' where
  bel:=h.bel.trans (hb.mono h.bel.size)
  c33:=h.c33
  c35:=h.c35
  c34:=fun hx=>⟨(h.c34 hx).1,zv (h.c34 hx).2 (hb.block _ (zM (h.c34 hx).2))⟩
  c36:=fun hx=>⟨(h.c36 hx).1,zv (h.c36 hx).2 (hb.block _ (zM (h.c36 hx).2))⟩
  c5:=fun hx=>⟨(h.c5 hx).1,Nat.lt_of_lt_of_le (h.c5 hx).2.1 hb.size,(h.c5 hx).2.2.1,zf (h.c5 hx).2.2.2 hb (h.c5 hx).2.1⟩
  c6:=fun hx=>⟨(h.c6 hx).1,Nat.lt_of_lt_of_le (h.c6 hx).2.1 hb.size,(h.c6 hx).2.2.1,zf (h.c6 hx).2.2.2 hb (h.c6 hx).2.1⟩
  n15:=h.n15
  n16:=h.n16
  n25:=h.n25
  n26:=h.n26
  n56:=h.n56
  s5:=fun hx=>⟨(h.s5 hx).1,zb (h.s5 hx).2 hb (h.c5 (h.s5 hx).1.2).2.1⟩
  s6:=fun hx=>⟨(h.s6 hx).1,zb (h.s6 hx).2 hb (h.c6 (h.s6 hx).1.2).2.1⟩
theorem gse {x:List Bool} {i j:Nat} (h:i ≠ j):(x.set i true)[j]? = x[j]?:=List.getElem?_set_ne h
theorem rw9_0 (h:RW9 W0 BV q1 q2 x v33 v34 v35 v36 v5 v6 b1 b2 p5 p6 w):RW9 W0 BV q1 q2 (x.set 0 true) BV v34 v35 v36 v5 v6 b1 b2 p5 p6 w:=by
  constructor <;> try simp only [gse (show 0 ≠ 1 by decide),gse (show 0 ≠ 2 by decide),gse (show 0 ≠ 3 by decide),gse (show 0 ≠ 4 by decide),gse (show 0 ≠ 5 by decide),gse (show 0 ≠ 6 by decide),gse (show 0 ≠ 7 by decide)]
  · exact h.bel
  · exact fun _=>by first | rfl | trivial
  · exact h.c35
  · exact h.c34
  · exact h.c36
  · exact h.c5
  · exact h.c6
  · exact h.n15
  · exact h.n16
  · exact h.n25
  · exact h.n26
  · exact h.n56
  · exact h.s5
  · exact h.s6
theorem rw9_2 (h:RW9 W0 BV q1 q2 x v33 v34 v35 v36 v5 v6 b1 b2 p5 p6 w):RW9 W0 BV q1 q2 (x.set 2 true) v33 v34 BV v36 v5 v6 b1 b2 p5 p6 w:=by
  constructor <;> try simp only [gse (show 2 ≠ 0 by decide),gse (show 2 ≠ 1 by decide),gse (show 2 ≠ 3 by decide),gse (show 2 ≠ 4 by decide),gse (show 2 ≠ 5 by decide),gse (show 2 ≠ 6 by decide),gse (show 2 ≠ 7 by decide)]
  · exact h.bel
  · exact h.c33
  · exact fun _=>by first | rfl | trivial
  · exact h.c34
  · exact h.c36
  · exact h.c5
  · exact h.c6
  · exact h.n15
  · exact h.n16
  · exact h.n25
  · exact h.n26
  · exact h.n56
  · exact h.s5
  · exact h.s6
theorem rw9_1 (h:RW9 W0 BV q1 q2 x v33 v34 v35 v36 v5 v6 b1 b2 p5 p6 w) (h6:x[6]? ≠ some true) {b:Nat} (hb:Below w.heap.size w w') (hle:w.heap.size ≤ b) (ht:Tb w' b q1) :
    RW9 W0 BV q1 q2 (x.set 1 true) v33 (zbm b) v35 v36 v5 v6 b b2 p5 p6 w':=by
  have g:=rw9_grow h hb
  constructor <;> try simp only [gse (show 1 ≠ 0 by decide),gse (show 1 ≠ 2 by decide),gse (show 1 ≠ 3 by decide),gse (show 1 ≠ 4 by decide),gse (show 1 ≠ 5 by decide),gse (show 1 ≠ 6 by decide),gse (show 1 ≠ 7 by decide)]
  · exact g.bel
  · exact g.c33
  · exact g.c35
  · exact fun _=>⟨by first | rfl | trivial,ht⟩
  · exact g.c36
  · exact g.c5
  · exact g.c6
  · exact fun _ h4=>by have:=(h.c5 h4).2.1; omega
  · exact fun _ h5=>by have:=(h.c6 h5).2.1; omega
  · exact g.n25
  · exact g.n26
  · exact g.n56
  · exact fun hx=>absurd hx h6
  · exact g.s6
theorem rw9_3 (h:RW9 W0 BV q1 q2 x v33 v34 v35 v36 v5 v6 b1 b2 p5 p6 w) (h7:x[7]? ≠ some true) {b:Nat} (hb:Below w.heap.size w w') (hle:w.heap.size ≤ b) (ht:Ts w' b q2) :
    RW9 W0 BV q1 q2 (x.set 3 true) v33 v34 v35 (zbn b) v5 v6 b1 b p5 p6 w':=by
  have g:=rw9_grow h hb
  constructor <;> try simp only [gse (show 3 ≠ 0 by decide),gse (show 3 ≠ 1 by decide),gse (show 3 ≠ 2 by decide),gse (show 3 ≠ 4 by decide),gse (show 3 ≠ 5 by decide),gse (show 3 ≠ 6 by decide),gse (show 3 ≠ 7 by decide)]
  · exact g.bel
  · exact g.c33
  · exact g.c35
  · exact g.c34
  · exact fun _=>⟨by first | rfl | trivial,ht⟩
  · exact g.c5
  · exact g.c6
  · exact g.n15
  · exact g.n16
  · exact fun _ h4=>by have:=(h.c5 h4).2.1; omega
  · exact fun _ h5=>by have:=(h.c6 h5).2.1; omega
  · exact g.n56
  · exact g.s5
  · exact fun hx=>absurd hx h7
theorem zI (w:World) (cs:List Value) (t:TypeId):(w.alloc (Obj.cells cs.toArray t)).there w.heap.size 0 cs.length:=zaj (heap_alloc_new w _) (by simp)
theorem rw9_4 (h:RW9 W0 BV q1 q2 x v33 v34 v35 v36 v5 v6 b1 b2 p5 p6 w) (h6:x[6]? ≠ some true) (t:TypeId) :
    RW9 W0 BV q1 q2 (x.set 4 true) v33 v34 v35 v36 (.pointer (some ⟨w.heap.size,0,none⟩)) v6 b1 b2 w.heap.size p6 (w.alloc (Obj.cells #[.nilFunc,.nilFunc,.nilFunc] t)):=by
  have g:=rw9_grow h ((Below.refl _ _).alloc (Nat.le_refl _) (Obj.cells #[.nilFunc,.nilFunc,.nilFunc] t))
  constructor <;> try simp only [gse (show 4 ≠ 0 by decide),gse (show 4 ≠ 1 by decide),gse (show 4 ≠ 2 by decide),gse (show 4 ≠ 3 by decide),gse (show 4 ≠ 5 by decide),gse (show 4 ≠ 6 by decide),gse (show 4 ≠ 7 by decide)]
  · exact g.bel
  · exact g.c33
  · exact g.c35
  · exact g.c34
  · exact g.c36
  · exact fun _=>⟨by first | rfl | trivial,by rw [ze]; omega,h.bel.size,zI w [.nilFunc,.nilFunc,.nilFunc] t⟩
  · exact g.c6
  · exact fun h1 _=>by have:=zM (h.c34 h1).2; omega
  · exact g.n16
  · exact fun h3 _=>by have:=zM (h.c36 h3).2; omega
  · exact g.n26
  · exact fun _ h5=>by have:=(h.c6 h5).2.1; omega
  · exact fun hx=>absurd hx h6
  · exact g.s6
theorem rw9_5 (h:RW9 W0 BV q1 q2 x v33 v34 v35 v36 v5 v6 b1 b2 p5 p6 w) (h7:x[7]? ≠ some true) (t:TypeId) :
    RW9 W0 BV q1 q2 (x.set 5 true) v33 v34 v35 v36 v5 (.pointer (some ⟨w.heap.size,0,none⟩)) b1 b2 p5 w.heap.size (w.alloc (Obj.cells #[.nilFunc,.nilFunc,.nilFunc] t)):=by
  have g:=rw9_grow h ((Below.refl _ _).alloc (Nat.le_refl _) (Obj.cells #[.nilFunc,.nilFunc,.nilFunc] t))
  constructor <;> try simp only [gse (show 5 ≠ 0 by decide),gse (show 5 ≠ 1 by decide),gse (show 5 ≠ 2 by decide),gse (show 5 ≠ 3 by decide),gse (show 5 ≠ 4 by decide),gse (show 5 ≠ 6 by decide),gse (show 5 ≠ 7 by decide)]
  · exact g.bel
  · exact g.c33
  · exact g.c35
  · exact g.c34
  · exact g.c36
  · exact g.c5
  · exact fun _=>⟨by first | rfl | trivial,by rw [ze]; omega,h.bel.size,zI w [.nilFunc,.nilFunc,.nilFunc] t⟩
  · exact g.n15
  · exact fun h1 _=>by have:=zM (h.c34 h1).2; omega
  · exact g.n25
  · exact fun h3 _=>by have:=zM (h.c36 h3).2; omega
  · exact fun h4 _=>by have:=(h.c5 h4).2.1; omega
  · exact g.s5
  · exact fun hx=>absurd hx h7
theorem zbu {p:Nat} {F0 F1 F2:Value} {k:Nat} (hk:k ≠ p):(((w.setCell ⟨p,0,none⟩ F0).setCell ⟨p,1,none⟩ F1).setCell ⟨p,2,none⟩ F2).heap[k]? = w.heap[k]? :=
  (Below.heap_setCell _ _ _ _ hk).trans ((Below.heap_setCell _ _ _ _ hk).trans (Below.heap_setCell _ _ _ _ hk))
theorem set3_size {p:Nat} {F0 F1 F2:Value}:(((w.setCell ⟨p,0,none⟩ F0).setCell ⟨p,1,none⟩ F1).setCell ⟨p,2,none⟩ F2).heap.size = w.heap.size:=by simp [World.setCell]
theorem set3_range {p:Nat} {F0 F1 F2:Value} (ht:w.there p 0 3):(((w.setCell ⟨p,0,none⟩ F0).setCell ⟨p,1,none⟩ F1).setCell ⟨p,2,none⟩ F2).rangeAt p 0 [F0,F1,F2]:=World.rangeAt_setCells_same w p 0 [F0,F1,F2] (fun j hj=>ht j hj)
theorem zcv {p b o n:Nat} {F0 F1 F2:Value} (ht:w.there b o n):(((w.setCell ⟨p,0,none⟩ F0).setCell ⟨p,1,none⟩ F1).setCell ⟨p,2,none⟩ F2).there b o n:=World.there_setCells ht p 0 [F0,F1,F2]
theorem set3_below {p:Nat} {F0 F1 F2:Value} (h:Below W0.heap.size W0 w) (hp:W0.heap.size ≤ p):Below W0.heap.size W0 (((w.setCell ⟨p,0,none⟩ F0).setCell ⟨p,1,none⟩ F1).setCell ⟨p,2,none⟩ F2) :=
  ((h.setCell (p:=⟨p,0,none⟩) hp F0).setCell (p:=⟨p,1,none⟩) hp F1).setCell (p:=⟨p,2,none⟩) hp F2
theorem range_block {b o:Nat} {cs:List Value} (h:w.rangeAt b o cs) (hb:w'.heap[b]? = w.heap[b]?):w'.rangeAt b o cs:=fun j v hv=>(World.cell?_of_block (a:=⟨b,o + j,none⟩) hb).trans (h j v hv)
theorem rw9_6 (h:RW9 W0 BV q1 q2 x v33 v34 v35 v36 v5 v6 b1 b2 p5 p6 w) (h1:x[1]? = some true) (h3:x[3]? = some true) (h4:x[4]? = some true) (h5:x[5]? = some true) {F0 F1 F2:Value} (hF:zbX b1 = [F0,F1,F2]) :
    RW9 W0 BV q1 q2 (x.set 6 true) v33 v34 v35 v36 v5 v6 b1 b2 p5 p6 (((w.setCell ⟨p5,0,none⟩ F0).setCell ⟨p5,1,none⟩ F1).setCell ⟨p5,2,none⟩ F2):=by
  obtain ⟨e1,e2,e3,e4⟩:=h.c5 h4
  obtain ⟨f1,f2,f3,f4⟩:=h.c6 h5
  constructor <;> try simp only [gse (show 6 ≠ 0 by decide),gse (show 6 ≠ 1 by decide),gse (show 6 ≠ 2 by decide),gse (show 6 ≠ 3 by decide),gse (show 6 ≠ 4 by decide),gse (show 6 ≠ 5 by decide),gse (show 6 ≠ 7 by decide)]
  · exact set3_below h.bel e3
  · exact h.c33
  · exact h.c35
  · exact fun _=>⟨(h.c34 h1).1,zv (h.c34 h1).2 (zbu (h.n15 h1 h4))⟩
  · exact fun _=>⟨(h.c36 h3).1,zv (h.c36 h3).2 (zbu (h.n25 h3 h4))⟩
  · exact fun _=>⟨e1,by rw [set3_size]; exact e2,e3,zcv e4⟩
  · exact fun _=>⟨f1,by rw [set3_size]; exact f2,f3,zcv f4⟩
  · exact h.n15
  · exact h.n16
  · exact h.n25
  · exact h.n26
  · exact h.n56
  · exact fun _=>⟨⟨h1,h4⟩,by rw [hF]; exact set3_range e4⟩
  · exact fun hx=>⟨(h.s6 hx).1,range_block (h.s6 hx).2 (zbu (Ne.symm (h.n56 h4 h5)))⟩
theorem rw9_7 (h:RW9 W0 BV q1 q2 x v33 v34 v35 v36 v5 v6 b1 b2 p5 p6 w) (h1:x[1]? = some true) (h3:x[3]? = some true) (h4:x[4]? = some true) (h5:x[5]? = some true) {F0 F1 F2:Value} (hF:zcp b2 = [F0,F1,F2]) :
    RW9 W0 BV q1 q2 (x.set 7 true) v33 v34 v35 v36 v5 v6 b1 b2 p5 p6 (((w.setCell ⟨p6,0,none⟩ F0).setCell ⟨p6,1,none⟩ F1).setCell ⟨p6,2,none⟩ F2):=by
  obtain ⟨e1,e2,e3,e4⟩:=h.c5 h4
  obtain ⟨f1,f2,f3,f4⟩:=h.c6 h5
  constructor <;> try simp only [gse (show 7 ≠ 0 by decide),gse (show 7 ≠ 1 by decide),gse (show 7 ≠ 2 by decide),gse (show 7 ≠ 3 by decide),gse (show 7 ≠ 4 by decide),gse (show 7 ≠ 5 by decide),gse (show 7 ≠ 6 by decide)]
  · exact set3_below h.bel f3
  · exact h.c33
  · exact h.c35
  · exact fun _=>⟨(h.c34 h1).1,zv (h.c34 h1).2 (zbu (h.n16 h1 h5))⟩
  · exact fun _=>⟨(h.c36 h3).1,zv (h.c36 h3).2 (zbu (h.n26 h3 h5))⟩
  · exact fun _=>⟨e1,by rw [set3_size]; exact e2,e3,zcv e4⟩
  · exact fun _=>⟨f1,by rw [set3_size]; exact f2,f3,zcv f4⟩
  · exact h.n15
  · exact h.n16
  · exact h.n25
  · exact h.n26
  · exact h.n56
  · exact fun hx=>⟨(h.s5 hx).1,range_block (h.s5 hx).2 (zbu (h.n56 h4 h5))⟩
  · exact fun _=>⟨⟨h3,h5⟩,by rw [hF]; exact set3_range f4⟩
end
end Go.Proofs.YtfoabgghlnjjoaaGreat
/-
  Events as values without a float, and commands held against each other, by the program: proved by walking the functions.
-/
namespace Go.Proofs.YtfoabgghlnjjoaaGreat
open Go.RowKit
set_option linter.unusedVariables false

structure Ev where
 kind:Int
 cmd:Cm
 id:Int
 other:Int
 qty:Int
 price:Int
 reason:Int
def cmV (c:Cm):Value:=.agg #[.int .i64 c.k,.int .i64 c.s,.int .i64 c.t,.int .i64 c.l,.int .i64 c.q,.int .i64 c.i,.float .f64 c.p,.string c.g]
def evV (e:Ev):Value:=.agg #[.int .i64 e.kind,.int .i64 e.cmd.k,.int .i64 e.cmd.s,.int .i64 e.cmd.t,.int .i64 e.cmd.l,.int .i64 e.cmd.q,.int .i64 e.cmd.i,.float .f64 e.cmd.p,.string e.cmd.g,.int .i64 e.id,.int .i64 e.other,.int .i64 e.qty,.int .i64 e.price,.int .i64 e.reason]
def vlV (e:Ev):Value:=.agg #[.int .i64 e.kind,.int .i64 e.id,.int .i64 e.other,.int .i64 e.qty,.int .i64 e.price,.int .i64 e.reason,.int .i64 e.cmd.k,.int .i64 e.cmd.s,.int .i64 e.cmd.t,.int .i64 e.cmd.l,.int .i64 e.cmd.q,.int .i64 e.cmd.i,.int .u64 (fbit e.cmd.p),.string e.cmd.g]
set_option maxRecDepth 100000 in
set_option maxHeartbeats 1600000 in
theorem valueOf_any (e:Ev) (w:World) :
  Calls Tryz.prog 128 #[evV e] w fun x w'=>x = .returned (vlV e)∧Below w.heap.size w w':=by
 obtain ⟨kind,⟨k,s,t,l,q,i,p,g⟩,id,other,qty,price,reason⟩:=e
 unfold evV vlV
 have hsf:=sfl
 simp only
 generalize hfb:fbit p = fp
 have HFB:=hide (fun W=>hfb ▸ floatBits_any p W)
 clear hfb
 have hs1:(w.alloc (Obj.cells #[.int .i64 kind,.int .i64 k,.int .i64 s,.int .i64 t,.int .i64 l,.int .i64 q,.int .i64 i,.float .f64 p,.string g,.int .i64 id,.int .i64 other,.int .i64 qty,.int .i64 price,.int .i64 reason] 80)).heap.size = w.heap.size + 1:=ze _ _
 have hs2:((w.alloc (Obj.cells #[.int .i64 kind,.int .i64 k,.int .i64 s,.int .i64 t,.int .i64 l,.int .i64 q,.int .i64 i,.float .f64 p,.string g,.int .i64 id,.int .i64 other,.int .i64 qty,.int .i64 price,.int .i64 reason] 80)).alloc (Obj.cells #[.int .i64 0,.int .i64 0,.int .i64 0,.int .i64 0,.int .i64 0,.int .i64 0,.int .i64 0,.int .i64 0,.int .i64 0,.int .i64 0,.int .i64 0,.int .i64 0,.int .u64 0,.string ⟨#[]⟩] 182)).heap.size = w.heap.size + 2:=by rw [ze,hs1]
 have hs3:(((w.alloc (Obj.cells #[.int .i64 kind,.int .i64 k,.int .i64 s,.int .i64 t,.int .i64 l,.int .i64 q,.int .i64 i,.float .f64 p,.string g,.int .i64 id,.int .i64 other,.int .i64 qty,.int .i64 price,.int .i64 reason] 80)).alloc (Obj.cells #[.int .i64 0,.int .i64 0,.int .i64 0,.int .i64 0,.int .i64 0,.int .i64 0,.int .i64 0,.int .i64 0,.int .i64 0,.int .i64 0,.int .i64 0,.int .i64 0,.int .u64 0,.string ⟨#[]⟩] 182)).alloc (Obj.cells #[.int .i64 k,.int .i64 s,.int .i64 t,.int .i64 l,.int .i64 q,.int .i64 i,.float .f64 p,.string g] 37)).heap.size = w.heap.size + 3:=by rw [ze,hs2]
 have b1:Below (w.heap.size + 1) (w.alloc (Obj.cells #[.int .i64 kind,.int .i64 k,.int .i64 s,.int .i64 t,.int .i64 l,.int .i64 q,.int .i64 i,.float .f64 p,.string g,.int .i64 id,.int .i64 other,.int .i64 qty,.int .i64 price,.int .i64 reason] 80)) (((w.alloc (Obj.cells #[.int .i64 kind,.int .i64 k,.int .i64 s,.int .i64 t,.int .i64 l,.int .i64 q,.int .i64 i,.float .f64 p,.string g,.int .i64 id,.int .i64 other,.int .i64 qty,.int .i64 price,.int .i64 reason] 80)).alloc (Obj.cells #[.int .i64 0,.int .i64 0,.int .i64 0,.int .i64 0,.int .i64 0,.int .i64 0,.int .i64 0,.int .i64 0,.int .i64 0,.int .i64 0,.int .i64 0,.int .i64 0,.int .u64 0,.string ⟨#[]⟩] 182)).alloc (Obj.cells #[.int .i64 k,.int .i64 s,.int .i64 t,.int .i64 l,.int .i64 q,.int .i64 i,.float .f64 p,.string g] 37)):=(((Below.refl _ _).alloc (by rw [hs1]; omega) _).alloc (by rw [hs2]; omega) _)
 have b2:Below (w.heap.size + 2) ((w.alloc (Obj.cells #[.int .i64 kind,.int .i64 k,.int .i64 s,.int .i64 t,.int .i64 l,.int .i64 q,.int .i64 i,.float .f64 p,.string g,.int .i64 id,.int .i64 other,.int .i64 qty,.int .i64 price,.int .i64 reason] 80)).alloc (Obj.cells #[.int .i64 0,.int .i64 0,.int .i64 0,.int .i64 0,.int .i64 0,.int .i64 0,.int .i64 0,.int .i64 0,.int .i64 0,.int .i64 0,.int .i64 0,.int .i64 0,.int .u64 0,.string ⟨#[]⟩] 182)) (((w.alloc (Obj.cells #[.int .i64 kind,.int .i64 k,.int .i64 s,.int .i64 t,.int .i64 l,.int .i64 q,.int .i64 i,.float .f64 p,.string g,.int .i64 id,.int .i64 other,.int .i64 qty,.int .i64 price,.int .i64 reason] 80)).alloc (Obj.cells #[.int .i64 0,.int .i64 0,.int .i64 0,.int .i64 0,.int .i64 0,.int .i64 0,.int .i64 0,.int .i64 0,.int .i64 0,.int .i64 0,.int .i64 0,.int .i64 0,.int .u64 0,.string ⟨#[]⟩] 182)).alloc (Obj.cells #[.int .i64 k,.int .i64 s,.int .i64 t,.int .i64 l,.int .i64 q,.int .i64 i,.float .f64 p,.string g] 37)):=((Below.refl _ _).alloc (by rw [hs2]; omega) _)
 have r1:=zb (zh w [.int .i64 kind,.int .i64 k,.int .i64 s,.int .i64 t,.int .i64 l,.int .i64 q,.int .i64 i,.float .f64 p,.string g,.int .i64 id,.int .i64 other,.int .i64 qty,.int .i64 price,.int .i64 reason] 80) b1 (by omega)
 have t2:=zI (w.alloc (Obj.cells #[.int .i64 kind,.int .i64 k,.int .i64 s,.int .i64 t,.int .i64 l,.int .i64 q,.int .i64 i,.float .f64 p,.string g,.int .i64 id,.int .i64 other,.int .i64 qty,.int .i64 price,.int .i64 reason] 80)) [.int .i64 0,.int .i64 0,.int .i64 0,.int .i64 0,.int .i64 0,.int .i64 0,.int .i64 0,.int .i64 0,.int .i64 0,.int .i64 0,.int .i64 0,.int .i64 0,.int .u64 0,.string ⟨#[]⟩] 182
 have r3:=zh ((w.alloc (Obj.cells #[.int .i64 kind,.int .i64 k,.int .i64 s,.int .i64 t,.int .i64 l,.int .i64 q,.int .i64 i,.float .f64 p,.string g,.int .i64 id,.int .i64 other,.int .i64 qty,.int .i64 price,.int .i64 reason] 80)).alloc (Obj.cells #[.int .i64 0,.int .i64 0,.int .i64 0,.int .i64 0,.int .i64 0,.int .i64 0,.int .i64 0,.int .i64 0,.int .i64 0,.int .i64 0,.int .i64 0,.int .i64 0,.int .u64 0,.string ⟨#[]⟩] 182)) [.int .i64 k,.int .i64 s,.int .i64 t,.int .i64 l,.int .i64 q,.int .i64 i,.float .f64 p,.string g] 37
 rw [hs1] at t2
 rw [hs2] at r3
 have t2':=zf t2 b2 (by omega)
 have HB3:Hid (Below w.heap.size w (((w.alloc (Obj.cells #[.int .i64 kind,.int .i64 k,.int .i64 s,.int .i64 t,.int .i64 l,.int .i64 q,.int .i64 i,.float .f64 p,.string g,.int .i64 id,.int .i64 other,.int .i64 qty,.int .i64 price,.int .i64 reason] 80)).alloc (Obj.cells #[.int .i64 0,.int .i64 0,.int .i64 0,.int .i64 0,.int .i64 0,.int .i64 0,.int .i64 0,.int .i64 0,.int .i64 0,.int .i64 0,.int .i64 0,.int .i64 0,.int .u64 0,.string ⟨#[]⟩] 182)).alloc (Obj.cells #[.int .i64 k,.int .i64 s,.int .i64 t,.int .i64 l,.int .i64 q,.int .i64 i,.float .f64 p,.string g] 37))):=(((Below.refl _ _).alloc (Nat.le_refl _) _).alloc (by rw [hs1]; omega) _).alloc (by rw [hs2]; omega) _
 have HX:Hid (_∧_∧_):=⟨r1,t2',r3⟩
 clear r1 t2 t2' r3 b1 b2 hs1 hs2 hs3
 go_enter Tryz.func128,Tryz.ntmps128
 go_wp2_with fail
 generalize (((w.alloc (Obj.cells #[.int .i64 kind,.int .i64 k,.int .i64 s,.int .i64 t,.int .i64 l,.int .i64 q,.int .i64 i,.float .f64 p,.string g,.int .i64 id,.int .i64 other,.int .i64 qty,.int .i64 price,.int .i64 reason] 80)).alloc (Obj.cells #[.int .i64 0,.int .i64 0,.int .i64 0,.int .i64 0,.int .i64 0,.int .i64 0,.int .i64 0,.int .i64 0,.int .i64 0,.int .i64 0,.int .i64 0,.int .i64 0,.int .u64 0,.string ⟨#[]⟩] 182)).alloc (Obj.cells #[.int .i64 k,.int .i64 s,.int .i64 t,.int .i64 l,.int .i64 q,.int .i64 i,.float .f64 p,.string g] 37)) = WW at HB3 HX ⊢
 obtain ⟨hr1,ht2,hr3⟩:=za HX
 have x0:=hr1 0 _ rfl
 have x1:=hr1 1 _ rfl
 have x2:=hr1 2 _ rfl
 have x3:=hr1 3 _ rfl
 have x4:=hr1 4 _ rfl
 have x5:=hr1 5 _ rfl
 have x6:=hr1 6 _ rfl
 have x7:=hr1 7 _ rfl
 have x8:=hr1 8 _ rfl
 have x9:=hr1 9 _ rfl
 have x10:=hr1 10 _ rfl
 have x11:=hr1 11 _ rfl
 have x12:=hr1 12 _ rfl
 have x13:=hr1 13 _ rfl
 have y0:=hr3 0 _ rfl
 have y1:=hr3 1 _ rfl
 have y2:=hr3 2 _ rfl
 have y3:=hr3 3 _ rfl
 have y4:=hr3 4 _ rfl
 have y5:=hr3 5 _ rfl
 have y6:=hr3 6 _ rfl
 have y7:=hr3 7 _ rfl
 simp only [Nat.zero_add] at x0 x1 x2 x3 x4 x5 x6 x7 x8 x9 x10 x11 x12 x13 y0 y1 y2 y3 y4 y5 y6 y7
 obtain ⟨v0,z0,f0⟩:=zK ht2 0 (by decide)
 obtain ⟨v1,z1,f1⟩:=zK ht2 1 (by decide)
 obtain ⟨v2,z2,f2⟩:=zK ht2 2 (by decide)
 obtain ⟨v3,z3,f3⟩:=zK ht2 3 (by decide)
 obtain ⟨v4,z4,f4⟩:=zK ht2 4 (by decide)
 obtain ⟨v5,z5,f5⟩:=zK ht2 5 (by decide)
 obtain ⟨v6,z6,f6⟩:=zK ht2 6 (by decide)
 obtain ⟨v7,z7,f7⟩:=zK ht2 7 (by decide)
 obtain ⟨v8,z8,f8⟩:=zK ht2 8 (by decide)
 obtain ⟨v9,z9,f9⟩:=zK ht2 9 (by decide)
 obtain ⟨v10,z10,f10⟩:=zK ht2 10 (by decide)
 obtain ⟨v11,z11,f11⟩:=zK ht2 11 (by decide)
 obtain ⟨v12,z12,f12⟩:=zK ht2 12 (by decide)
 obtain ⟨v13,z13,f13⟩:=zK ht2 13 (by decide)
 simp only [Nat.zero_add] at z0 f0 z1 f1 z2 f2 z3 f3 z4 f4 z5 f5 z6 f6 z7 f7 z8 f8 z9 f9 z10 f10 z11 f11 z12 f12 z13 f13
 have HT:=hide ht2
 clear hr1 ht2 hr3 HX
 refine zbr 30 (by kernel_rfl) (by kernel_rfl) ?_
 simp only [List.take_succ_cons,List.take_zero,List.drop_succ_cons,List.drop_zero]
 repeat still_step
 still_call (za HFB _)
 repeat still_step
 refine wpStill_nil ?_
 go_wp2_with fail
 change bodyPost _ _ _ _ _ (WW.setCells (w.heap.size + 1) 0 [.int .i64 kind,.int .i64 id,.int .i64 other,.int .i64 qty,.int .i64 price,.int .i64 reason,.int .i64 k,.int .i64 s,.int .i64 t,.int .i64 l,.int .i64 q,.int .i64 i,.int .u64 fp,.string g]).drew
 have HRX:=hide (World.rangeAt_setCells_same WW (w.heap.size + 1) 0 [.int .i64 kind,.int .i64 id,.int .i64 other,.int .i64 qty,.int .i64 price,.int .i64 reason,.int .i64 k,.int .i64 s,.int .i64 t,.int .i64 l,.int .i64 q,.int .i64 i,.int .u64 fp,.string g] (fun j hj=>za HT j hj))
 have HBX:=hide (zC (w.heap.size + 1) (by omega) [.int .i64 kind,.int .i64 id,.int .i64 other,.int .i64 qty,.int .i64 price,.int .i64 reason,.int .i64 k,.int .i64 s,.int .i64 t,.int .i64 l,.int .i64 q,.int .i64 i,.int .u64 fp,.string g] 0 WW (za HB3))
 generalize WW.setCells (w.heap.size + 1) 0 [.int .i64 kind,.int .i64 id,.int .i64 other,.int .i64 qty,.int .i64 price,.int .i64 reason,.int .i64 k,.int .i64 s,.int .i64 t,.int .i64 l,.int .i64 q,.int .i64 i,.int .u64 fp,.string g] = WE at HRX HBX ⊢
 have d0:WE.drew.cell? ⟨w.heap.size + 1,0,none⟩ = some (.int .i64 kind):=za HRX 0 _ rfl
 have d1:WE.drew.cell? ⟨w.heap.size + 1,1,none⟩ = some (.int .i64 id):=za HRX 1 _ rfl
 have d2:WE.drew.cell? ⟨w.heap.size + 1,2,none⟩ = some (.int .i64 other):=za HRX 2 _ rfl
 have d3:WE.drew.cell? ⟨w.heap.size + 1,3,none⟩ = some (.int .i64 qty):=za HRX 3 _ rfl
 have d4:WE.drew.cell? ⟨w.heap.size + 1,4,none⟩ = some (.int .i64 price):=za HRX 4 _ rfl
 have d5:WE.drew.cell? ⟨w.heap.size + 1,5,none⟩ = some (.int .i64 reason):=za HRX 5 _ rfl
 have d6:WE.drew.cell? ⟨w.heap.size + 1,6,none⟩ = some (.int .i64 k):=za HRX 6 _ rfl
 have d7:WE.drew.cell? ⟨w.heap.size + 1,7,none⟩ = some (.int .i64 s):=za HRX 7 _ rfl
 have d8:WE.drew.cell? ⟨w.heap.size + 1,8,none⟩ = some (.int .i64 t):=za HRX 8 _ rfl
 have d9:WE.drew.cell? ⟨w.heap.size + 1,9,none⟩ = some (.int .i64 l):=za HRX 9 _ rfl
 have d10:WE.drew.cell? ⟨w.heap.size + 1,10,none⟩ = some (.int .i64 q):=za HRX 10 _ rfl
 have d11:WE.drew.cell? ⟨w.heap.size + 1,11,none⟩ = some (.int .i64 i):=za HRX 11 _ rfl
 have d12:WE.drew.cell? ⟨w.heap.size + 1,12,none⟩ = some (.int .u64 fp):=za HRX 12 _ rfl
 have d13:WE.drew.cell? ⟨w.heap.size + 1,13,none⟩ = some (.string g):=za HRX 13 _ rfl
 try simp only [Exit.inBlock,Exit.then]
 refine bodyPost_ret (by simp [results,Tryz.results128,go_sem,d0,d1,d2,d3,d4,d5,d6,d7,d8,d9,d10,d11,d12,d13]; try rfl) rfl ?_
 exact ⟨rfl,(za HBX).drew⟩
end Go.Proofs.YtfoabgghlnjjoaaGreat
