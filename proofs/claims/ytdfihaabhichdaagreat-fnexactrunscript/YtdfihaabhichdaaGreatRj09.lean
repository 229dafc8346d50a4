/-
  A region that draws its order, walked by what holds of the operations that have come up: one step an operation serves every order. No function walked.
-/
import Derived.Test.YtdfihaabhichdaaGreatRj03
import Derived.Test.YtdfihaabhichdaaGreatRj08
import Derived.StillTailTactics
namespace Go.Proofs.YtdfihaabhichdaaGreat
open Go.RowKit
set_option linter.unusedVariables false

theorem count_set:∀ (x:List Bool) (i:Nat),x[i]? = some false→(x.set i true).count false + 1 = x.count false
  | [],i,h=>by simp at h
  | b :: r,0,h=>by simp at h; subst h; simp
  | b :: r,i + 1,h=>by
    have ih:=count_set r i (by simpa using h)
    simp only [List.set_cons_succ,List.count_cons]
    omega
theorem no_false {x:List Bool} (h:x.count false = 0) (i:Nat):x[i]? ≠ some false:=fun e=>by
  have:=List.count_pos_iff.2 (List.mem_of_getElem? e)
  omega
section
variable {P:Program} {Q:Exit→Act→World→Prop} {l:List Oper} (R:List Bool→Act→World→Prop)

theorem ready_facts {x:List Bool} (hx:x.length = l.length) {i:Nat} (h:i ∈ Region.ready .any l.toArray x.toArray) :
    ∃ o,l[i]? = some o∧x[i]? = some false∧∀ e ∈ o.after,Region.binds .any e = true→x[e.on]? = some true:=by
  obtain ⟨h1,o,h2,h3⟩:=mem_ready.1 h
  refine ⟨o,by simpa using h2,?_,fun e he hb=>?_⟩
  · by_cases hi:i < x.length
    · simp [hi] at h1; simp [hi,h1]
    · simp [hi] at h1
  · have:=h3 e he hb
    by_cases hi:e.on < x.length
    · simp [hi] at this; simp [hi,this]
    · simp [hi] at this
theorem ready_none {x:List Bool} (h:Region.ready .any l.toArray x.toArray = []) (hx:x.length = l.length) (i:Nat) (o:Oper) (ho:l[i]? = some o) (hall:∀ e ∈ o.after,Region.binds .any e = true→x[e.on]? = some true):x[i]? = some true:=by
  have hi:i < x.length:=by rw [hx]; exact (List.getElem?_eq_some_iff.1 ho).1
  cases hb:x[i]
  · exfalso
    have:i ∈ Region.ready .any l.toArray x.toArray:=mem_ready.2 ⟨by simp [hi,hb],o,by simpa using ho,fun e he hbd=>by
      have:=hall e he hbd
      obtain ⟨h1,h2⟩:=List.getElem?_eq_some_iff.1 this
      simp [h1,h2]⟩
    rw [h] at this; simp at this
  · simp [hi,hb]
theorem wpAny_inv
    (hend:∀ x a w,R x a w→x.length = l.length→Region.ready .any l.toArray x.toArray = []→Q .normal a w)
    (hstep:∀ x a w i o,R x a w→x.length = l.length→l[i]? = some o→x[i]? = some false→(∀ e ∈ o.after,Region.binds .any e = true→x[e.on]? = some true) →
      (if Region.wanted o (yielded l.toArray a.tmps) then o.wp P a w (fun a' w'=>R (x.set i true) a' w') Q else R (x.set i true) (a.put o.dst undef) w)) :
    ∀ (n:Nat) (x:List Bool) (a:Act) (w:World),x.count false = n→x.length = l.length→R x a w→wpAny P .any l.toArray Q n x.toArray a w
  | 0,x,a,w,hn,hx,hR=>by
    have hr:Region.ready .any l.toArray x.toArray = []:=by
      apply List.eq_nil_iff_forall_not_mem.2
      intro i hi
      obtain ⟨o,_,h2,_⟩:=ready_facts hx hi
      exact no_false hn i h2
    exact ⟨hr,hend x a w hR hx hr⟩
  | n + 1,x,a,w,hn,hx,hR=>by
    refine ⟨fun hr=>hend x a w hR hx hr,fun i hi=>?_⟩
    obtain ⟨o,h1,h2,h3⟩:=ready_facts hx hi
    have hs:=hstep x a w i o hR hx h1 h2 h3
    have hc:=count_set x i h2
    have hnext:∀ a' w',R (x.set i true) a' w'→wpAny P .any l.toArray Q n (x.toArray.setIfInBounds i true) a' w':=fun a' w' h=>by
      have:=wpAny_inv hend hstep n (x.set i true) a' w' (by omega) (by simpa using hx) h
      simpa using this
    have ho:l.toArray[i]? = some o:=by simpa using h1
    unfold wpOp
    rw [ho]
    simp only
    split
    · next hw=>rw [if_pos hw] at hs; exact .inl (Oper.wp_mono hnext hs)
    · next hw=>rw [if_neg hw] at hs; exact hnext _ _ hs
theorem zaV {id:Nat} {a:Act} {w:World} (hm:P.follows .mixedOrders = true)
    (h0:R (List.replicate l.length false) a { w with drawn:=w.drawn + 1 })
    (hend:∀ x a w,R x a w→x.length = l.length→Region.ready .any l.toArray x.toArray = []→Q .normal a w)
    (hstep:∀ x a w i o,R x a w→x.length = l.length→l[i]? = some o→x[i]? = some false→(∀ e ∈ o.after,Region.binds .any e = true→x[e.on]? = some true) →
      (if Region.wanted o (yielded l.toArray a.tmps) then o.wp P a w (fun a' w'=>R (x.set i true) a' w') Q else R (x.set i true) (a.put o.dst undef) w)) :
    (Code.region id l.toArray true).wp P Q a w:=by
  refine wp_region_any hm ?_
  have:=wpAny_inv R hend hstep l.length (List.replicate l.length false) a { w with drawn:=w.drawn + 1 } (by simp) (by simp) h0
  simpa using this
end
def RGrow (base:World) (F:(Nat→Value)→Act) (C:Nat→Value→Prop) (x:List Bool) (A:Act) (W:World):Prop :=
  ∃ f,A = F f∧Below base.heap.size base W∧∀ j,x[j]? = some true→C j (f j)
theorem zE {C:Nat→Value→Prop} {x:List Bool} {f:Nat→Value} {i:Nat} {v:Value} (h:∀ j,x[j]? = some true→C j (f j)) (hv:C i v):∀ j,(x.set i true)[j]? = some true→C j (upd f i v j):=fun j hj=>by
  by_cases hji:j = i
  · subst hji; rw [zp]; exact hv
  · rw [zq _ _ hji]; rw [List.getElem?_set_ne (fun e=>hji e.symm)] at hj; exact h j hj
theorem zY {l:List Oper} {x:List Bool} (h:Region.ready .any l.toArray x.toArray = []) (hx:x.length = l.length) (hacy:∀ (i:Nat) (o:Oper),l[i]? = some o→∀ e ∈ o.after,e.on < i):∀ i,i < l.length→x[i]? = some true:=by
  intro i
  induction i using Nat.strongRecOn with
  | _ i ih =>
    intro hi
    refine ready_none h hx i l[i] (List.getElem?_eq_getElem hi) fun e he _=>?_
    have:=hacy i l[i] (List.getElem?_eq_getElem hi) e he
    exact ih e.on this (by omega)
end Go.Proofs.YtdfihaabhichdaaGreat
namespace Go.Proofs.YtdfihaabhichdaaGreat
open Go.RowKit
set_option linter.unusedVariables false

def RG (base:World) (F:(Nat→Value)→Act) (k:Nat) (D:Prop→World→Nat→Value→Prop) (x:List Bool) (A:Act) (W:World):Prop :=
  ∃ f,A = F f∧Below base.heap.size base W∧∀ j,x[j]? = some true→D (x[k]? = some true) W j (f j)
section
variable {base W W':World} {F:(Nat→Value)→Act} {k:Nat} {D:Prop→World→Nat→Value→Prop} {x:List Bool} {f:Nat→Value}
theorem zcs (hm:∀ p W W' j v,Below W.heap.size W W'→D p W j v→D p W' j v) (hb:Below base.heap.size base W) (h:∀ j,x[j]? = some true→D (x[k]? = some true) W j (f j)) (hg:Below W.heap.size W W') {i:Nat} (hik:i ≠ k) {v:Value} (hv:D (x[k]? = some true) W' i v) :
    Below base.heap.size base W'∧∀ j,(x.set i true)[j]? = some true→D ((x.set i true)[k]? = some true) W' j (upd f i v j):=by
  refine ⟨hb.trans (hg.mono hb.size),fun j hj=>?_⟩
  rw [List.getElem?_set_ne hik]
  by_cases hji:j = i
  · subst hji; rw [zp]; exact hv
  · rw [zq _ _ hji]
    rw [List.getElem?_set_ne (fun e=>hji e.symm)] at hj
    exact hm _ _ _ _ _ hg (h j hj)
theorem ze (hb:Below base.heap.size base W) (h:∀ j,x[j]? = some true→D (x[k]? = some true) W j (f j)) {i:Nat} (hik:i ≠ k) {v:Value} (hv:D (x[k]? = some true) W i v) :
    Below base.heap.size base W∧∀ j,(x.set i true)[j]? = some true→D ((x.set i true)[k]? = some true) W j (upd f i v j):=by
  refine ⟨hb,fun j hj=>?_⟩
  rw [List.getElem?_set_ne hik]
  by_cases hji:j = i
  · subst hji; rw [zp]; exact hv
  · rw [zq _ _ hji]
    rw [List.getElem?_set_ne (fun e=>hji e.symm)] at hj
    exact h j hj
end
theorem set_monoG {x:List Bool} {i j:Nat} (h:x[j]? = some true):(x.set i true)[j]? = some true:=by
  by_cases hij:i = j
  · subst hij; exact List.getElem?_set_self (List.getElem?_eq_some_iff.1 h).1
  · rw [List.getElem?_set_ne hij]; exact h
def Closed (l:List Oper) (x:List Bool):Prop:=∀ (i:Nat) (o:Oper),l[i]? = some o→x[i]? = some true→∀ e ∈ o.after,Region.binds .any e = true→x[e.on]? = some true
theorem closed_step {l:List Oper} {x:List Bool} {i:Nat} {o:Oper} (h:Closed l x) (ho:l[i]? = some o) (hall:∀ e ∈ o.after,Region.binds .any e = true→x[e.on]? = some true):Closed l (x.set i true):=by
  intro j o' ho' hj e he hb
  by_cases hji:j = i
  · subst hji
    rw [ho] at ho'
    obtain rfl:=Option.some.inj ho'
    exact set_monoG (hall e he hb)
  · rw [List.getElem?_set_ne (fun e=>hji e.symm)] at hj
    exact set_monoG (h j o' ho' hj e he hb)
theorem zj {P:Program} {Q:Exit→Act→World→Prop} {l:List Oper} (R:List Bool→Act→World→Prop) {id:Nat} {a:Act} {w:World} (hm:P.follows .mixedOrders = true)
    (h0:R (List.replicate l.length false) a { w with drawn:=w.drawn + 1 })
    (hend:∀ x a w,R x a w→x.length = l.length→Region.ready .any l.toArray x.toArray = []→Q .normal a w)
    (hstep:∀ x a w i o,R x a w→Closed l x→x.length = l.length→l[i]? = some o→x[i]? = some false→(∀ e ∈ o.after,Region.binds .any e = true→x[e.on]? = some true) →
      (if Region.wanted o (yielded l.toArray a.tmps) then o.wp P a w (fun a' w'=>R (x.set i true) a' w') Q else R (x.set i true) (a.put o.dst undef) w)) :
    (Code.region id l.toArray true).wp P Q a w:=by
  refine zaV (fun x a w=>R x a w∧Closed l x) hm ⟨h0,fun i o _ hi=>by rw [List.getElem?_replicate] at hi; split at hi <;> simp at hi⟩ (fun x a w h=>hend x a w h.1) ?_
  intro x a w i o h hx ho hxi hall
  have hs:=hstep x a w i o h.1 h.2 hx ho hxi hall
  have hc:=closed_step h.2 ho hall
  split
  · next hw=>rw [if_pos hw] at hs; exact Oper.wp_mono (fun a' w' hR=>⟨hR,hc⟩) hs
  · next hw=>rw [if_neg hw] at hs; exact ⟨hs,hc⟩
theorem zbk {P:Program} {id:Nat} {Q:Exit→Act→World→Prop} {a:Act} {w:World} {l:List Oper} (n:Nat) (hm:P.follows .mixedOrders = true) (hB:Region.lexTailB .any l.toArray n = true)
    (h:wpStill P l.toArray w.drew (fun a'=>wpList P l.toArray Q (l.drop n) a' w.drew) (l.take n) a):(Code.region id l.toArray true).wp P Q a w:=wp_region_still_tail n hm hB h
theorem zck {P:Program} {w:World} {o:Oper} {a:Act} {K:Act→World→Prop} {Q:Exit→Act→World→Prop} (s x:Operand) (t:TypeId)
    (ho:o.op = .call { callee:=.builtin .append,args:=#[s,x],argTypes:=#[t,t] })
    (base:Nat) (e:TypeId) (i:TypeInfo) (size:Nat) (ht:P.underlying t = some (.slice e)) (hi:P.info? e = some i)
    (v:Value) (n:Nat) (xs:List Value) (hs:a.eval s = v) (hown:w.ownsRow base e size v n xs) (hx:a.eval x = .slice none 0 0)
    (h:K (a.put o.dst v) w):o.wp P a w K Q:=by
  have hrun:=run_append_owned_none (P:=P) (w:=w) base t o.type e i size ht hi v n xs hown
  unfold Oper.wp
  simp [execOp,ho,resolve,invoke,builtin,hs,hx,hrun,Result.andThen]
  exact h
end Go.Proofs.YtdfihaabhichdaaGreat
namespace Go.Proofs.YtdfihaabhichdaaGreat
open Go.RowKit
set_option linter.unusedVariables false

def sideL_b (b:Nat):List Value:=[.func (.func 131) #[.pointer (some ⟨b,0,none⟩)] #[],.func (.func 132) #[.pointer (some ⟨b,0,none⟩)] #[],.func (.func 133) #[.pointer (some ⟨b,0,none⟩)] #[]]
def sideL_s (b:Nat):List Value:=[.func (.func 135) #[.pointer (some ⟨b,0,none⟩)] #[],.func (.func 136) #[.pointer (some ⟨b,0,none⟩)] #[],.func (.func 137) #[.pointer (some ⟨b,0,none⟩)] #[]]
abbrev Tb (w:World) (b:Nat) (q:List Od):Prop:=zaj 196 true w b 1 q
abbrev Ts (w:World) (b:Nat) (q:List Od):Prop:=zaj 199 false w b 2 q
section
variable {W0 w w':World} {BV:Value} {q1 q2:List Od} {x:List Bool} {v33 v34 v35 v36 v5 v6:Value} {b1 b2 p5 p6:Nat}
theorem zw (w:World) (cs:List Value) (t:TypeId):(w.alloc (Obj.cells cs.toArray t)).there w.heap.size 0 cs.length:=zau (heap_alloc_new w _) (by simp)
end
end Go.Proofs.YtdfihaabhichdaaGreat
namespace Go.Proofs.YtdfihaabhichdaaGreat
open Go.RowKit
set_option linter.unusedVariables false

structure Ev where
 kind:Int
 cmd:Cm
 id:Int
 other:Int
 qty:Int
 price:Int
 reason:Int
def cmV (c:Cm):Value:=.agg #[.int .i64 c.k,.int .i64 c.s,.int .i64 c.t,.int .i64 c.l,.int .i64 c.q,.int .i64 c.i,.float .f64 c.p,.string c.g]
def evV (e:Ev):Value:=.agg #[.int .i64 e.kind,.int .i64 e.cmd.k,.int .i64 e.cmd.s,.int .i64 e.cmd.t,.int .i64 e.cmd.l,.int .i64 e.cmd.q,.int .i64 e.cmd.i,.float .f64 e.cmd.p,.string e.cmd.g,.int .i64 e.id,.int .i64 e.other,.int .i64 e.qty,.int .i64 e.price,.int .i64 e.reason]
def vlV (e:Ev):Value:=.agg #[.int .i64 e.kind,.int .i64 e.id,.int .i64 e.other,.int .i64 e.qty,.int .i64 e.price,.int .i64 e.reason,.int .i64 e.cmd.k,.int .i64 e.cmd.s,.int .i64 e.cmd.t,.int .i64 e.cmd.l,.int .i64 e.cmd.q,.int .i64 e.cmd.i,.int .u64 (fbit e.cmd.p),.string e.cmd.g]
set_option maxRecDepth 100000 in
set_option maxHeartbeats 1600000 in
theorem valueOf_any (e:Ev) (w:World) :
  Calls Tryz.prog 128 #[evV e] w fun x w'=>x = .returned (vlV e)∧Below w.heap.size w w':=by
 obtain ⟨kind,⟨k,s,t,l,q,i,p,g⟩,id,other,qty,price,reason⟩:=e
 unfold evV vlV
 have hsf:=sfl
 simp only
 generalize hfb:fbit p = fp
 have HFB:=hide (fun W=>hfb ▸ floatBits_any p W)
 clear hfb
 have hs1:(w.alloc (Obj.cells #[.int .i64 kind,.int .i64 k,.int .i64 s,.int .i64 t,.int .i64 l,.int .i64 q,.int .i64 i,.float .f64 p,.string g,.int .i64 id,.int .i64 other,.int .i64 qty,.int .i64 price,.int .i64 reason] 80)).heap.size = w.heap.size + 1:=zf _ _
 have hs2:((w.alloc (Obj.cells #[.int .i64 kind,.int .i64 k,.int .i64 s,.int .i64 t,.int .i64 l,.int .i64 q,.int .i64 i,.float .f64 p,.string g,.int .i64 id,.int .i64 other,.int .i64 qty,.int .i64 price,.int .i64 reason] 80)).alloc (Obj.cells #[.int .i64 0,.int .i64 0,.int .i64 0,.int .i64 0,.int .i64 0,.int .i64 0,.int .i64 0,.int .i64 0,.int .i64 0,.int .i64 0,.int .i64 0,.int .i64 0,.int .u64 0,.string ⟨#[]⟩] 182)).heap.size = w.heap.size + 2:=by rw [zf,hs1]
 have hs3:(((w.alloc (Obj.cells #[.int .i64 kind,.int .i64 k,.int .i64 s,.int .i64 t,.int .i64 l,.int .i64 q,.int .i64 i,.float .f64 p,.string g,.int .i64 id,.int .i64 other,.int .i64 qty,.int .i64 price,.int .i64 reason] 80)).alloc (Obj.cells #[.int .i64 0,.int .i64 0,.int .i64 0,.int .i64 0,.int .i64 0,.int .i64 0,.int .i64 0,.int .i64 0,.int .i64 0,.int .i64 0,.int .i64 0,.int .i64 0,.int .u64 0,.string ⟨#[]⟩] 182)).alloc (Obj.cells #[.int .i64 k,.int .i64 s,.int .i64 t,.int .i64 l,.int .i64 q,.int .i64 i,.float .f64 p,.string g] 37)).heap.size = w.heap.size + 3:=by rw [zf,hs2]
 have b1:Below (w.heap.size + 1) (w.alloc (Obj.cells #[.int .i64 kind,.int .i64 k,.int .i64 s,.int .i64 t,.int .i64 l,.int .i64 q,.int .i64 i,.float .f64 p,.string g,.int .i64 id,.int .i64 other,.int .i64 qty,.int .i64 price,.int .i64 reason] 80)) (((w.alloc (Obj.cells #[.int .i64 kind,.int .i64 k,.int .i64 s,.int .i64 t,.int .i64 l,.int .i64 q,.int .i64 i,.float .f64 p,.string g,.int .i64 id,.int .i64 other,.int .i64 qty,.int .i64 price,.int .i64 reason] 80)).alloc (Obj.cells #[.int .i64 0,.int .i64 0,.int .i64 0,.int .i64 0,.int .i64 0,.int .i64 0,.int .i64 0,.int .i64 0,.int .i64 0,.int .i64 0,.int .i64 0,.int .i64 0,.int .u64 0,.string ⟨#[]⟩] 182)).alloc (Obj.cells #[.int .i64 k,.int .i64 s,.int .i64 t,.int .i64 l,.int .i64 q,.int .i64 i,.float .f64 p,.string g] 37)):=(((Below.refl _ _).alloc (by rw [hs1]; omega) _).alloc (by rw [hs2]; omega) _)
 have b2:Below (w.heap.size + 2) ((w.alloc (Obj.cells #[.int .i64 kind,.int .i64 k,.int .i64 s,.int .i64 t,.int .i64 l,.int .i64 q,.int .i64 i,.float .f64 p,.string g,.int .i64 id,.int .i64 other,.int .i64 qty,.int .i64 price,.int .i64 reason] 80)).alloc (Obj.cells #[.int .i64 0,.int .i64 0,.int .i64 0,.int .i64 0,.int .i64 0,.int .i64 0,.int .i64 0,.int .i64 0,.int .i64 0,.int .i64 0,.int .i64 0,.int .i64 0,.int .u64 0,.string ⟨#[]⟩] 182)) (((w.alloc (Obj.cells #[.int .i64 kind,.int .i64 k,.int .i64 s,.int .i64 t,.int .i64 l,.int .i64 q,.int .i64 i,.float .f64 p,.string g,.int .i64 id,.int .i64 other,.int .i64 qty,.int .i64 price,.int .i64 reason] 80)).alloc (Obj.cells #[.int .i64 0,.int .i64 0,.int .i64 0,.int .i64 0,.int .i64 0,.int .i64 0,.int .i64 0,.int .i64 0,.int .i64 0,.int .i64 0,.int .i64 0,.int .i64 0,.int .u64 0,.string ⟨#[]⟩] 182)).alloc (Obj.cells #[.int .i64 k,.int .i64 s,.int .i64 t,.int .i64 l,.int .i64 q,.int .i64 i,.float .f64 p,.string g] 37)):=((Below.refl _ _).alloc (by rw [hs2]; omega) _)
 have r1:=zb (zg w [.int .i64 kind,.int .i64 k,.int .i64 s,.int .i64 t,.int .i64 l,.int .i64 q,.int .i64 i,.float .f64 p,.string g,.int .i64 id,.int .i64 other,.int .i64 qty,.int .i64 price,.int .i64 reason] 80) b1 (by omega)
 have t2:=zw (w.alloc (Obj.cells #[.int .i64 kind,.int .i64 k,.int .i64 s,.int .i64 t,.int .i64 l,.int .i64 q,.int .i64 i,.float .f64 p,.string g,.int .i64 id,.int .i64 other,.int .i64 qty,.int .i64 price,.int .i64 reason] 80)) [.int .i64 0,.int .i64 0,.int .i64 0,.int .i64 0,.int .i64 0,.int .i64 0,.int .i64 0,.int .i64 0,.int .i64 0,.int .i64 0,.int .i64 0,.int .i64 0,.int .u64 0,.string ⟨#[]⟩] 182
 have r3:=zg ((w.alloc (Obj.cells #[.int .i64 kind,.int .i64 k,.int .i64 s,.int .i64 t,.int .i64 l,.int .i64 q,.int .i64 i,.float .f64 p,.string g,.int .i64 id,.int .i64 other,.int .i64 qty,.int .i64 price,.int .i64 reason] 80)).alloc (Obj.cells #[.int .i64 0,.int .i64 0,.int .i64 0,.int .i64 0,.int .i64 0,.int .i64 0,.int .i64 0,.int .i64 0,.int .i64 0,.int .i64 0,.int .i64 0,.int .i64 0,.int .u64 0,.string ⟨#[]⟩] 182)) [.int .i64 k,.int .i64 s,.int .i64 t,.int .i64 l,.int .i64 q,.int .i64 i,.float .f64 p,.string g] 37
 rw [hs1] at t2
 rw [hs2] at r3
 have t2':=zd t2 b2 (by omega)
 have HB3:Hid (Below w.heap.size w (((w.alloc (Obj.cells #[.int .i64 kind,.int .i64 k,.int .i64 s,.int .i64 t,.int .i64 l,.int .i64 q,.int .i64 i,.float .f64 p,.string g,.int .i64 id,.int .i64 other,.int .i64 qty,.int .i64 price,.int .i64 reason] 80)).alloc (Obj.cells #[.int .i64 0,.int .i64 0,.int .i64 0,.int .i64 0,.int .i64 0,.int .i64 0,.int .i64 0,.int .i64 0,.int .i64 0,.int .i64 0,.int .i64 0,.int .i64 0,.int .u64 0,.string ⟨#[]⟩] 182)).alloc (Obj.cells #[.int .i64 k,.int .i64 s,.int .i64 t,.int .i64 l,.int .i64 q,.int .i64 i,.float .f64 p,.string g] 37))):=(((Below.refl _ _).alloc (Nat.le_refl _) _).alloc (by rw [hs1]; omega) _).alloc (by rw [hs2]; omega) _
 have HX:Hid (_∧_∧_):=⟨r1,t2',r3⟩
 clear r1 t2 t2' r3 b1 b2 hs1 hs2 hs3
 go_enter Tryz.func128,Tryz.ntmps128
 go_wp2_with fail
 generalize (((w.alloc (Obj.cells #[.int .i64 kind,.int .i64 k,.int .i64 s,.int .i64 t,.int .i64 l,.int .i64 q,.int .i64 i,.float .f64 p,.string g,.int .i64 id,.int .i64 other,.int .i64 qty,.int .i64 price,.int .i64 reason] 80)).alloc (Obj.cells #[.int .i64 0,.int .i64 0,.int .i64 0,.int .i64 0,.int .i64 0,.int .i64 0,.int .i64 0,.int .i64 0,.int .i64 0,.int .i64 0,.int .i64 0,.int .i64 0,.int .u64 0,.string ⟨#[]⟩] 182)).alloc (Obj.cells #[.int .i64 k,.int .i64 s,.int .i64 t,.int .i64 l,.int .i64 q,.int .i64 i,.float .f64 p,.string g] 37)) = WW at HB3 HX ⊢
 obtain ⟨hr1,ht2,hr3⟩:=za HX
 have x0:=hr1 0 _ rfl
 have x1:=hr1 1 _ rfl
 have x2:=hr1 2 _ rfl
 have x3:=hr1 3 _ rfl
 have x4:=hr1 4 _ rfl
 have x5:=hr1 5 _ rfl
 have x6:=hr1 6 _ rfl
 have x7:=hr1 7 _ rfl
 have x8:=hr1 8 _ rfl
 have x9:=hr1 9 _ rfl
 have x10:=hr1 10 _ rfl
 have x11:=hr1 11 _ rfl
 have x12:=hr1 12 _ rfl
 have x13:=hr1 13 _ rfl
 have y0:=hr3 0 _ rfl
 have y1:=hr3 1 _ rfl
 have y2:=hr3 2 _ rfl
 have y3:=hr3 3 _ rfl
 have y4:=hr3 4 _ rfl
 have y5:=hr3 5 _ rfl
 have y6:=hr3 6 _ rfl
 have y7:=hr3 7 _ rfl
 simp only [Nat.zero_add] at x0 x1 x2 x3 x4 x5 x6 x7 x8 x9 x10 x11 x12 x13 y0 y1 y2 y3 y4 y5 y6 y7
 obtain ⟨v0,z0,f0⟩:=zB ht2 0 (by decide)
 obtain ⟨v1,z1,f1⟩:=zB ht2 1 (by decide)
 obtain ⟨v2,z2,f2⟩:=zB ht2 2 (by decide)
 obtain ⟨v3,z3,f3⟩:=zB ht2 3 (by decide)
 obtain ⟨v4,z4,f4⟩:=zB ht2 4 (by decide)
 obtain ⟨v5,z5,f5⟩:=zB ht2 5 (by decide)
 obtain ⟨v6,z6,f6⟩:=zB ht2 6 (by decide)
 obtain ⟨v7,z7,f7⟩:=zB ht2 7 (by decide)
 obtain ⟨v8,z8,f8⟩:=zB ht2 8 (by decide)
 obtain ⟨v9,z9,f9⟩:=zB ht2 9 (by decide)
 obtain ⟨v10,z10,f10⟩:=zB ht2 10 (by decide)
 obtain ⟨v11,z11,f11⟩:=zB ht2 11 (by decide)
 obtain ⟨v12,z12,f12⟩:=zB ht2 12 (by decide)
 obtain ⟨v13,z13,f13⟩:=zB ht2 13 (by decide)
 simp only [Nat.zero_add] at z0 f0 z1 f1 z2 f2 z3 f3 z4 f4 z5 f5 z6 f6 z7 f7 z8 f8 z9 f9 z10 f10 z11 f11 z12 f12 z13 f13
 have HT:=hide ht2
 clear hr1 ht2 hr3 HX
 refine zbk 30 (by kernel_rfl) (by kernel_rfl) ?_
 simp only [List.take_succ_cons,List.take_zero,List.drop_succ_cons,List.drop_zero]
 repeat still_step
 still_call (za HFB _)
 repeat still_step
 refine wpStill_nil ?_
 go_wp2_with fail
 change bodyPost _ _ _ _ _ (WW.setCells (w.heap.size + 1) 0 [.int .i64 kind,.int .i64 id,.int .i64 other,.int .i64 qty,.int .i64 price,.int .i64 reason,.int .i64 k,.int .i64 s,.int .i64 t,.int .i64 l,.int .i64 q,.int .i64 i,.int .u64 fp,.string g]).drew
 have HRX:=hide (World.rangeAt_setCells_same WW (w.heap.size + 1) 0 [.int .i64 kind,.int .i64 id,.int .i64 other,.int .i64 qty,.int .i64 price,.int .i64 reason,.int .i64 k,.int .i64 s,.int .i64 t,.int .i64 l,.int .i64 q,.int .i64 i,.int .u64 fp,.string g] (fun j hj=>za HT j hj))
 have HBX:=hide (zn (w.heap.size + 1) (by omega) [.int .i64 kind,.int .i64 id,.int .i64 other,.int .i64 qty,.int .i64 price,.int .i64 reason,.int .i64 k,.int .i64 s,.int .i64 t,.int .i64 l,.int .i64 q,.int .i64 i,.int .u64 fp,.string g] 0 WW (za HB3))
 generalize WW.setCells (w.heap.size + 1) 0 [.int .i64 kind,.int .i64 id,.int .i64 other,.int .i64 qty,.int .i64 price,.int .i64 reason,.int .i64 k,.int .i64 s,.int .i64 t,.int .i64 l,.int .i64 q,.int .i64 i,.int .u64 fp,.string g] = WE at HRX HBX ⊢
 have d0:WE.drew.cell? ⟨w.heap.size + 1,0,none⟩ = some (.int .i64 kind):=za HRX 0 _ rfl
 have d1:WE.drew.cell? ⟨w.heap.size + 1,1,none⟩ = some (.int .i64 id):=za HRX 1 _ rfl
 have d2:WE.drew.cell? ⟨w.heap.size + 1,2,none⟩ = some (.int .i64 other):=za HRX 2 _ rfl
 have d3:WE.drew.cell? ⟨w.heap.size + 1,3,none⟩ = some (.int .i64 qty):=za HRX 3 _ rfl
 have d4:WE.drew.cell? ⟨w.heap.size + 1,4,none⟩ = some (.int .i64 price):=za HRX 4 _ rfl
 have d5:WE.drew.cell? ⟨w.heap.size + 1,5,none⟩ = some (.int .i64 reason):=za HRX 5 _ rfl
 have d6:WE.drew.cell? ⟨w.heap.size + 1,6,none⟩ = some (.int .i64 k):=za HRX 6 _ rfl
 have d7:WE.drew.cell? ⟨w.heap.size + 1,7,none⟩ = some (.int .i64 s):=za HRX 7 _ rfl
 have d8:WE.drew.cell? ⟨w.heap.size + 1,8,none⟩ = some (.int .i64 t):=za HRX 8 _ rfl
 have d9:WE.drew.cell? ⟨w.heap.size + 1,9,none⟩ = some (.int .i64 l):=za HRX 9 _ rfl
 have d10:WE.drew.cell? ⟨w.heap.size + 1,10,none⟩ = some (.int .i64 q):=za HRX 10 _ rfl
 have d11:WE.drew.cell? ⟨w.heap.size + 1,11,none⟩ = some (.int .i64 i):=za HRX 11 _ rfl
 have d12:WE.drew.cell? ⟨w.heap.size + 1,12,none⟩ = some (.int .u64 fp):=za HRX 12 _ rfl
 have d13:WE.drew.cell? ⟨w.heap.size + 1,13,none⟩ = some (.string g):=za HRX 13 _ rfl
 try simp only [Exit.inBlock,Exit.then]
 refine bodyPost_ret (by simp [results,Tryz.results128,go_sem,d0,d1,d2,d3,d4,d5,d6,d7,d8,d9,d10,d11,d12,d13]; try rfl) rfl ?_
 exact ⟨rfl,(za HBX).drew⟩
end Go.Proofs.YtdfihaabhichdaaGreat
namespace Go.Proofs.YtdfihaabhichdaaGreat
open Go.RowKit
set_option linter.unusedVariables false

theorem insT_len (s:Bool) (k:Int):∀ T:List Int,(insT s k T).length ≤ T.length + 1
  | []=>by simp [insT]
  | a :: r=>by
    have:=insT_len s k r
    rw [insT]; split
    · simp
    · split <;> simp <;> omega
theorem tks_len (s:Bool):∀ seq:List Od,(tks s seq).length ≤ seq.length
  | []=>by simp [tks]
  | o :: r=>by
    have h1:=insT_len s o.ticks (tks s r)
    have h2:=tks_len s r
    rw [tks]; simp; omega
def backB:Nat→List Oper→Bool
  | _,[]=>true
  | i,o :: r=>o.after.toList.all (fun e=>decide (e.on < i)) && backB (i + 1) r
theorem back_spec:∀ (l:List Oper) (n:Nat),backB n l = true→∀ (i:Nat) (o:Oper),l[i]? = some o→∀ e ∈ o.after,e.on < n + i
  | [],_,_,i,o,h,_,_=>by simp at h
  | a :: r,n,hb,0,o,h,e,he=>by
    simp at h; subst h
    simp only [backB,Bool.and_eq_true,List.all_eq_true,decide_eq_true_eq] at hb
    exact hb.1 e (by simpa using he)
  | a :: r,n,hb,i + 1,o,h,e,he=>by
    simp only [backB,Bool.and_eq_true] at hb
    have:=back_spec r (n + 1) hb.2 i o (by simpa using h) e he
    omega
theorem acyc (l:List Oper) (h:backB 0 l = true):∀ (i:Nat) (o:Oper),l[i]? = some o→∀ e ∈ o.after,e.on < i:=fun i o ho e he=>by
  have:=back_spec l 0 h i o ho e he; omega
def C10 (b1 b2 p5 p6 N1 N2:Nat):Nat→Value→Prop
  | 0,v=>v = .pointer (some ⟨p5,2,none⟩)
  | 1,v=>v = .func (.func 133) #[.pointer (some ⟨b1,0,none⟩)] #[]
  | 2,v=>∃ a c,v = .slice a N1 c
  | 3,v=>v = .int .i64 N1
  | 4,v=>v = .pointer (some ⟨p6,2,none⟩)
  | 5,v=>v = .func (.func 137) #[.pointer (some ⟨b2,0,none⟩)] #[]
  | 6,v=>∃ a c,v = .slice a N2 c
  | 7,v=>v = .int .i64 N2
  | 8,v=>v = .int .i64 ((N1:Int) + N2)
  | 9,v=>v = .int .i64 ((N1:Int) + N2)
  | _,_=>True
set_option maxRecDepth 100000 in
set_option maxHeartbeats 800000 in
theorem countLevels_any (b1 b2:Nat) (sd1 sd2:Int) (s1 s2:List Od) (w:World) (h1:zaj 196 true w b1 sd1 s1) (h2:zaj 199 false w b2 sd2 s2) (n1:s1.length ≤ 20) (n2:s2.length ≤ 20) :
    Calls Tryz.prog 76 #[zca b1,zcb b2] w fun e w'=>e = .returned (.int .i64 (((zbi true sd1 s1).length:Int) + (zbi false sd2 s2).length))∧Below w.heap.size w w':=by
  have hb1:=zae h1
  have hb2:=zae h2
  generalize hL1:(zbi true sd1 s1).length = N1
  generalize hL2:(zbi false sd2 s2).length = N2
  have hN1:N1 ≤ 20:=by rw [← hL1,zbi,List.length_map]; exact Nat.le_trans (tks_len _ _) n1
  have hN2:N2 ≤ 20:=by rw [← hL2,zbi,List.length_map]; exact Nat.le_trans (tks_len _ _) n2
  have HLL:Hid ((zbi true sd1 s1).length = N1∧(zbi false sd2 s2).length = N2):=⟨hL1,hL2⟩
  have hs1:(w.alloc (Obj.cells (sideL_b b1).toArray 117)).heap.size = w.heap.size + 1:=zf _ _
  have hs2:((w.alloc (Obj.cells (sideL_b b1).toArray 117)).alloc (Obj.cells (sideL_s b2).toArray 117)).heap.size = w.heap.size + 1 + 1:=by rw [zf,hs1]
  have r0:=zg w (sideL_b b1) 117
  have r1:=zg (w.alloc (Obj.cells (sideL_b b1).toArray 117)) (sideL_s b2) 117
  rw [hs1] at r1
  have r0':=zb r0 (C:=w.heap.size + 1) ((Below.refl _ _).alloc (by rw [hs1]; omega) (Obj.cells (sideL_s b2).toArray 117)) (by omega)
  have HB0:Hid (Below w.heap.size w ((w.alloc (Obj.cells (sideL_b b1).toArray 117)).alloc (Obj.cells (sideL_s b2).toArray 117))):=((Below.refl _ _).alloc (Nat.le_refl _) _).alloc (by rw [hs1]; omega) _
  have HR5:=hide r0'
  have HR6:=hide r1
  have HS2:=hide hs2
  have HT1:=hide (zJ h1 ((za HB0).block _ hb1))
  have HT2:=hide (zJ h2 ((za HB0).block _ hb2))
  clear r0 r1 r0' hs1 hs2 hL1 hL2 h1 h2
  unfold zca zcb
  go_enter Tryz.func76,Tryz.ntmps76
  go_wp2_with fail
  unfold sideL_b sideL_s at HB0 HR5 HR6 HS2 HT1 HT2
  generalize hW:((w.alloc (Obj.cells (List.toArray [.func (.func 131) #[.pointer (some ⟨b1,0,none⟩)] #[],.func (.func 132) #[.pointer (some ⟨b1,0,none⟩)] #[],.func (.func 133) #[.pointer (some ⟨b1,0,none⟩)] #[]]) 117)).alloc (Obj.cells (List.toArray [.func (.func 135) #[.pointer (some ⟨b2,0,none⟩)] #[],.func (.func 136) #[.pointer (some ⟨b2,0,none⟩)] #[],.func (.func 137) #[.pointer (some ⟨b2,0,none⟩)] #[]]) 117)) = W at HB0 HR5 HR6 HS2 HT1 HT2
  have hb1s:b1 < W.heap.size:=zae (za HT1)
  have hb2s:b2 < W.heap.size:=zae (za HT2)
  have hp5:w.heap.size < W.heap.size:=by rw [za HS2]; omega
  have hp6:w.heap.size + 1 < W.heap.size:=by rw [za HS2]; omega
  refine zaV (RGrow W (fun f=>{ tmps:=#[zca b1,zcb b2,.pointer (some ⟨w.heap.size,0,none⟩),.pointer (some ⟨w.heap.size + 1,0,none⟩),f 9,f 0,f 1,f 2,f 3,f 4,f 5,f 6,f 7,f 8],defers:=[] }) (C10 b1 b2 w.heap.size (w.heap.size + 1) N1 N2)) (by kernel_rfl) ?_ ?_ ?_
  · refine ⟨upd (fun _=>undef) 9 (.int .i64 0),rfl,?_,fun j hj=>by rw [List.getElem?_replicate] at hj; split at hj <;> simp at hj⟩
    rw [← hW]
    exact ⟨rfl,rfl,rfl,Nat.le_refl _,fun _ _=>rfl⟩
  · rintro x A V ⟨f,rfl,hbel,hC⟩ hx hrd
    have hall9:=zY hrd hx (acyc _ (by kernel_rfl)) 9 (by simp)
    have e9:f 9 = .int .i64 ((N1:Int) + N2):=hC 9 hall9
    simp only [e9]
    have HBV:=hide hbel
    clear hC hx hrd hall9 e9 hbel
    go_wp2_with fail
    go_ret
    exact ⟨rfl,(za HB0).trans ((za HBV).mono (za HB0).size)⟩
  · rintro x A V i o ⟨f,rfl,hbel,hC⟩ hx ho hxi hall
    have HBV:=hide hbel
    have HC:=hide hC
    match i,ho with
    | 0,ho =>
      obtain rfl:=Option.some.inj ho
      clear hall hC hbel
      rw [if_pos (by rfl)]
      unfold Oper.wp
      go_simp
      exact ⟨upd f 0 (.pointer (some ⟨w.heap.size,2,none⟩)),by simp [upd],za HBV,zE (za HC) rfl⟩
    | 1,ho =>
      obtain rfl:=Option.some.inj ho
      have g0:C10 b1 b2 w.heap.size (w.heap.size + 1) N1 N2 0 (f 0):=hC 0 (hall ⟨0,.data⟩ (by simp) rfl)
      simp only [C10] at g0
      have d2:=zb (za HR5) hbel hp5 2 _ rfl
      clear hall hC hbel
      rw [if_pos (by rfl)]
      unfold Oper.wp
      go_simp
      exact ⟨upd f 1 (.func (.func 133) #[.pointer (some ⟨b1,0,none⟩)] #[]),by simp [upd,g0],za HBV,zE (za HC) rfl⟩
    | 2,ho =>
      obtain rfl:=Option.some.inj ho
      have g1:C10 b1 b2 w.heap.size (w.heap.size + 1) N1 N2 1 (f 1):=hC 1 (hall ⟨1,.data⟩ (by simp) rfl)
      simp only [C10] at g1
      have ht:=zJ (za HT1) (hbel.block _ hb1s)
      have HTV:=hide ht
      clear hall hC hbel ht
      rw [if_pos (by rfl)]
      unfold Oper.wp
      go_simp
      refine (levels_b b1 sd1 s1 V (za HTV) n1).mono ?_
      rintro e w4 ⟨v4,rfl,⟨al,cp,rfl,-,-⟩,hb4⟩
      rw [(za HLL).1]
      exact ⟨upd f 2 (.slice al N1 cp),by simp [upd,g1],(za HBV).trans (hb4.mono (za HBV).size),zE (za HC) ⟨al,cp,rfl⟩⟩
    | 3,ho =>
      obtain rfl:=Option.some.inj ho
      have g2:C10 b1 b2 w.heap.size (w.heap.size + 1) N1 N2 2 (f 2):=hC 2 (hall ⟨2,.data⟩ (by simp) rfl)
      obtain ⟨al,cp,g2⟩:=g2
      clear hall hC hbel
      rw [if_pos (by rfl)]
      unfold Oper.wp
      go_simp
      exact ⟨upd f 3 (.int .i64 N1),by simp [upd,g2],za HBV,zE (za HC) rfl⟩
    | 4,ho =>
      obtain rfl:=Option.some.inj ho
      clear hall hC hbel
      rw [if_pos (by rfl)]
      unfold Oper.wp
      go_simp
      exact ⟨upd f 4 (.pointer (some ⟨w.heap.size + 1,2,none⟩)),by simp [upd],za HBV,zE (za HC) rfl⟩
    | 5,ho =>
      obtain rfl:=Option.some.inj ho
      have g4:C10 b1 b2 w.heap.size (w.heap.size + 1) N1 N2 4 (f 4):=hC 4 (hall ⟨4,.data⟩ (by simp) rfl)
      simp only [C10] at g4
      have d2:=zb (za HR6) hbel hp6 2 _ rfl
      clear hall hC hbel
      rw [if_pos (by rfl)]
      unfold Oper.wp
      go_simp
      exact ⟨upd f 5 (.func (.func 137) #[.pointer (some ⟨b2,0,none⟩)] #[]),by simp [upd,g4],za HBV,zE (za HC) rfl⟩
    | 6,ho =>
      obtain rfl:=Option.some.inj ho
      have g5:C10 b1 b2 w.heap.size (w.heap.size + 1) N1 N2 5 (f 5):=hC 5 (hall ⟨5,.data⟩ (by simp) rfl)
      simp only [C10] at g5
      have ht:=zJ (za HT2) (hbel.block _ hb2s)
      have HTV:=hide ht
      clear hall hC hbel ht
      rw [if_pos (by rfl)]
      unfold Oper.wp
      go_simp
      refine (levels_s b2 sd2 s2 V (za HTV) n2).mono ?_
      rintro e w4 ⟨v4,rfl,⟨al,cp,rfl,-,-⟩,hb4⟩
      rw [(za HLL).2]
      exact ⟨upd f 6 (.slice al N2 cp),by simp [upd,g5],(za HBV).trans (hb4.mono (za HBV).size),zE (za HC) ⟨al,cp,rfl⟩⟩
    | 7,ho =>
      obtain rfl:=Option.some.inj ho
      have g6:C10 b1 b2 w.heap.size (w.heap.size + 1) N1 N2 6 (f 6):=hC 6 (hall ⟨6,.data⟩ (by simp) rfl)
      obtain ⟨al,cp,g6⟩:=g6
      clear hall hC hbel
      rw [if_pos (by rfl)]
      unfold Oper.wp
      go_simp
      exact ⟨upd f 7 (.int .i64 N2),by simp [upd,g6],za HBV,zE (za HC) rfl⟩
    | 8,ho =>
      obtain rfl:=Option.some.inj ho
      have g3:C10 b1 b2 w.heap.size (w.heap.size + 1) N1 N2 3 (f 3):=hC 3 (hall ⟨3,.data⟩ (by simp) rfl)
      have g7:C10 b1 b2 w.heap.size (w.heap.size + 1) N1 N2 7 (f 7):=hC 7 (hall ⟨7,.data⟩ (by simp) rfl)
      simp only [C10] at g3
      simp only [C10] at g7
      have hwr8:IntKind.i64.wrap ((N1:Int) + N2) = (N1:Int) + N2:=by rw [IntKind.wrap_i64]; omega
      clear hall hC hbel
      rw [if_pos (by rfl)]
      unfold Oper.wp
      go_simp
      exact ⟨upd f 8 (.int .i64 ((N1:Int) + N2)),by simp [upd,g3,g7],za HBV,zE (za HC) rfl⟩
    | 9,ho =>
      obtain rfl:=Option.some.inj ho
      have g8:C10 b1 b2 w.heap.size (w.heap.size + 1) N1 N2 8 (f 8):=hC 8 (hall ⟨8,.data⟩ (by simp) rfl)
      simp only [C10] at g8
      clear hall hC hbel
      rw [if_pos (by rfl)]
      unfold Oper.wp
      go_simp
      exact ⟨upd f 9 (.int .i64 ((N1:Int) + N2)),by simp [upd,g8],za HBV,zE (za HC) rfl⟩
    | n + 10,ho=>simp at ho
end Go.Proofs.YtdfihaabhichdaaGreat
