/-
  A new order asked about itself, by the program: proved by walking the methods.
-/
import Derived.Test.YtdfihaabhichdaaGreatSj04
import Derived.Test.YtdfihaabhichdaaGreatSj05
import Derived.Test.YtdfihaabhichdaaGreatSj08
import Derived.Test.YtdfihaabhichdaaGreatSj12
import Derived.Handy
import Derived.StillTailTactics
namespace Go.Proofs.YtdfihaabhichdaaGreat
open Go.RowKit
set_option linter.unusedVariables false

def noV (c:Cm):Value:=.agg #[.int .i64 c.s,.int .i64 c.t,.int .i64 c.l,.int .i64 c.q,.float .f64 c.p,.string c.g]
def zaM (t:Int):Bool:=decide (t = 1) || decide (t = 5)
def prcB (c:Cm):Bool:=if c.t = 2 then decide (fbit c.p = 0) else tkOk c.p
def zcG (c:Cm) (o:Od):Bool:=if c.t = 2 then true else if c.s = 1 then decide (o.ticks ≤ tk c.p) else decide (tk c.p ≤ o.ticks)
def ordO (c:Cm) (id:Int):Od:=⟨id,c.s,tk c.p,c.q,c.l,c.g⟩
def othS (s:Int):Int:=if s = 1 then 2 else 1
theorem isType_any (t:Int) (w:World) :
  Calls Tryz.prog 139 #[.int .i64 t] w fun e w'=>e = .returned (.bool (betB t 1 5))∧w' = w:=by
 go_enter Tryz.func139,Tryz.ntmps139
 go_wp2_with fail
 refine (zJ t 1 5 w).mono ?_
 rintro e w' ⟨rfl,rfl⟩
 go_wp2_with fail
 go_ret
 exact ⟨rfl,rfl⟩
theorem isQty_any (t:Int) (w:World) :
  Calls Tryz.prog 141 #[.int .i64 t] w fun e w'=>e = .returned (.bool (betB t 1 1000000))∧w' = w:=by
 go_enter Tryz.func141,Tryz.ntmps141
 go_wp2_with fail
 refine (zJ t 1 1000000 w).mono ?_
 rintro e w' ⟨rfl,rfl⟩
 go_wp2_with fail
 go_ret
 exact ⟨rfl,rfl⟩
theorem otherSide_any (s:Int) (w:World) :
  Calls Tryz.prog 144 #[.int .i64 s] w fun e w'=>e = .returned (.int .i64 (othS s))∧w' = w:=by
 by_cases h:s = 1
 ·subst h
  go_enter Tryz.func144,Tryz.ntmps144
  go_wp2_with fail
  go_ret
  exact ⟨rfl,rfl⟩
 ·have h':(s == 1) = false:=by simpa using h
  have HS:Hid (othS s = 1):=if_neg h
  go_enter Tryz.func144,Tryz.ntmps144
  go_wp2_with fail
  go_ret
  exact ⟨zo (za HS).symm,rfl⟩
set_option maxHeartbeats 400000 in
theorem zcn (c:Cm) (w:World) :
  Calls Tryz.prog 119 #[noV c] w fun e w'=>e = .returned (.bool (zaM c.t))∧Below w.heap.size w w':=by
 obtain ⟨k,s,t,l,q,i,p,g⟩:=c
 unfold noV
 simp only
 by_cases h1:t = 1
 ·subst h1
  go_enter Tryz.func119,Tryz.ntmps119
  go_wp2_with fail
  go_ret
  exact ⟨rfl,by go_grown⟩
 ·have b1:(t == 1) = false:=by simpa using h1
  by_cases h5:t = 5
  ·subst h5
   go_enter Tryz.func119,Tryz.ntmps119
   go_wp2_with fail
   go_ret
   exact ⟨rfl,by go_grown⟩
  ·have b5:(t == 5) = false:=by simpa using h5
   have HR:Hid (zaM t = false):=by show zaM t = false; simp [zaM,h1,h5]
   go_enter Tryz.func119,Tryz.ntmps119
   go_wp2_with fail
   go_ret
   exact ⟨zl (za HR).symm,by go_grown⟩
set_option maxHeartbeats 400000 in
theorem hasPrice_any (c:Cm) (w:World) :
  Calls Tryz.prog 140 #[noV c] w fun e w'=>e = .returned (.bool (prcB c))∧Below w.heap.size w w':=by
 obtain ⟨k,s,t,l,q,i,p,g⟩:=c
 unfold noV
 simp only
 have HB:Hid (Below w.heap.size w (w.alloc (Obj.cells #[.int .i64 s,.int .i64 t,.int .i64 l,.int .i64 q,.float .f64 p,.string g] 128))):=(Below.refl _ _).alloc (Nat.le_refl _) _
 by_cases h2:t = 2
 ·subst h2
  have HP:Hid (prcB ⟨k,s,2,l,q,i,p,g⟩ = decide (fbit p = 0)):=if_pos rfl
  go_enter Tryz.func140,Tryz.ntmps140
  go_wp2_with fail
  refine (floatBits_any p _).mono ?_
  rintro e w' ⟨rfl,rfl⟩
  go_wp2_with fail
  go_ret
  exact ⟨zl (by rw [za HP,Bool.eq_iff_iff]; simp),za HB⟩
 ·have b2:(t == 2) = false:=by simpa using h2
  have HP:Hid (prcB ⟨k,s,t,l,q,i,p,g⟩ = tkOk p):=if_neg h2
  go_enter Tryz.func140,Tryz.ntmps140
  go_wp2_with fail
  refine (zbp p _).mono ?_
  rintro e w' ⟨rfl,rfl⟩
  go_wp2_with fail
  go_ret
  exact ⟨zl (za HP).symm,za HB⟩
set_option maxHeartbeats 400000 in
theorem meets_any (c:Cm) (o:Od) (w:World) :
  Calls Tryz.prog 145 #[noV c,.agg #[.int .i64 o.id,.int .i64 o.side,.int .i64 o.ticks,.int .i64 o.left,.int .i64 o.life,.string o.tag]] w fun e w'=>e = .returned (.bool (zcG c o))∧Below w.heap.size w w':=by
 obtain ⟨k,s,t,l,q,i,p,g⟩:=c
 obtain ⟨id,side,ticks,left,life,tag⟩:=o
 unfold noV
 simp only
 have HB:Hid (Below w.heap.size w ((w.alloc (Obj.cells #[.int .i64 s,.int .i64 t,.int .i64 l,.int .i64 q,.float .f64 p,.string g] 128)).alloc (Obj.cells #[.int .i64 id,.int .i64 side,.int .i64 ticks,.int .i64 left,.int .i64 life,.string tag] 100))):=((Below.refl _ _).alloc (Nat.le_refl _) _).alloc (by rw [ze]; omega) _
 by_cases h2:t = 2
 ·subst h2
  have HP:Hid (zcG ⟨k,s,2,l,q,i,p,g⟩ ⟨id,side,ticks,left,life,tag⟩ = true):=if_pos rfl
  go_enter Tryz.func145,Tryz.ntmps145
  go_wp2_with fail
  go_ret
  exact ⟨zl (za HP).symm,za HB⟩
 ·have b2:(t == 2) = false:=by simpa using h2
  by_cases h1:s = 1
  ·subst h1
   have HP:Hid (zcG ⟨k,1,t,l,q,i,p,g⟩ ⟨id,side,ticks,left,life,tag⟩ = decide (ticks ≤ tk p)):=by show _ = _; rw [zcG,if_neg h2]; rfl
   go_enter Tryz.func145,Tryz.ntmps145
   go_wp2_with fail
   refine (zbp p _).mono ?_
   rintro e w' ⟨rfl,rfl⟩
   go_wp2_with fail
   go_ret
   exact ⟨zl (za HP).symm,za HB⟩
  ·have b1:(s == 1) = false:=by simpa using h1
   have HP:Hid (zcG ⟨k,s,t,l,q,i,p,g⟩ ⟨id,side,ticks,left,life,tag⟩ = decide (tk p ≤ ticks)):=by show _ = _; rw [zcG,if_neg h2,if_neg h1]
   go_enter Tryz.func145,Tryz.ntmps145
   go_wp2_with fail
   refine (zbp p _).mono ?_
   rintro e w' ⟨rfl,rfl⟩
   go_wp2_with fail
   go_ret
   exact ⟨zl (za HP).symm,za HB⟩
set_option maxHeartbeats 400000 in
theorem order_any (c:Cm) (id:Int) (w:World) :
  Calls Tryz.prog 143 #[noV c,.int .i64 id] w fun e w'=>e = .returned (.agg #[.int .i64 id,.int .i64 c.s,.int .i64 (tk c.p),.int .i64 c.q,.int .i64 c.l,.string c.g])∧Below w.heap.size w w':=by
 obtain ⟨k,s,t,l,q,i,p,g⟩:=c
 unfold noV
 simp only
 go_enter Tryz.func143,Tryz.ntmps143
 go_wp2_with fail
 refine (zbp p _).mono ?_
 rintro e w' ⟨rfl,rfl⟩
 go_wp2_with fail
 go_returns
 refine ⟨rfl,?_⟩
 go_grown
set_option maxHeartbeats 400000 in
theorem toldNew_any (c:Cm) (w:World) :
  Calls Tryz.prog 118 #[noV c] w fun e w'=>e = .returned (.agg #[.int .i64 1,.int .i64 c.s,.int .i64 c.t,.int .i64 c.l,.int .i64 c.q,.int .i64 0,.float .f64 c.p,.string c.g])∧Below w.heap.size w w':=by
 obtain ⟨k,s,t,l,q,i,p,g⟩:=c
 unfold noV
 have hsf:=sfl
 simp only
 go_enter Tryz.func118,Tryz.ntmps118
 go_wp2_with fail
 go_returns
 refine ⟨rfl,?_⟩
 go_grown
theorem toldCancel_any (i:Int) (w:World) :
  Calls Tryz.prog 174 #[.agg #[.int .i64 i]] w fun e w'=>e = .returned (.agg #[.int .i64 2,.int .i64 0,.int .i64 0,.int .i64 0,.int .i64 0,.int .i64 i,.float .f64 0,.string ⟨#[]⟩])∧Below w.heap.size w w':=by
 have hsf:=sfl
 go_enter Tryz.func174,Tryz.ntmps174
 go_wp2_with fail
 go_returns
 refine ⟨rfl,?_⟩
 go_grown
theorem toldReduce_any (i q:Int) (w:World) :
  Calls Tryz.prog 175 #[.agg #[.int .i64 i,.int .i64 q]] w fun e w'=>e = .returned (.agg #[.int .i64 3,.int .i64 0,.int .i64 0,.int .i64 0,.int .i64 q,.int .i64 i,.float .f64 0,.string ⟨#[]⟩])∧Below w.heap.size w w':=by
 have hsf:=sfl
 go_enter Tryz.func175,Tryz.ntmps175
 go_wp2_with fail
 go_returns
 refine ⟨rfl,?_⟩
 go_grown
theorem toldDay_any (w:World) :
  Calls Tryz.prog 176 #[.agg #[]] w fun e w'=>e = .returned (.agg #[.int .i64 4,.int .i64 0,.int .i64 0,.int .i64 0,.int .i64 0,.int .i64 0,.float .f64 0,.string ⟨#[]⟩])∧Below w.heap.size w w':=by
 have hsf:=sfl
 go_enter Tryz.func176,Tryz.ntmps176
 go_wp2_with fail
 go_returns
 refine ⟨rfl,?_⟩
 go_grown
end Go.Proofs.YtdfihaabhichdaaGreat
namespace Go.Proofs.YtdfihaabhichdaaGreat
open Go.RowKit
set_option linter.unusedVariables false

theorem count_set:∀ (x:List Bool) (i:Nat),x[i]? = some false→(x.set i true).count false + 1 = x.count false
  | [],i,h=>by simp at h
  | b :: r,0,h=>by simp at h; subst h; simp
  | b :: r,i + 1,h=>by
    have ih:=count_set r i (by simpa using h)
    simp only [List.set_cons_succ,List.count_cons]
    omega
theorem no_false {x:List Bool} (h:x.count false = 0) (i:Nat):x[i]? ≠ some false:=fun e=>by
  have:=List.count_pos_iff.2 (List.mem_of_getElem? e)
  omega
section
variable {P:Program} {Q:Exit→Act→World→Prop} {l:List Oper} (R:List Bool→Act→World→Prop)

theorem ready_facts {x:List Bool} (hx:x.length = l.length) {i:Nat} (h:i ∈ Region.ready .any l.toArray x.toArray) :
    ∃ o,l[i]? = some o∧x[i]? = some false∧∀ e ∈ o.after,Region.binds .any e = true→x[e.on]? = some true:=by
  obtain ⟨h1,o,h2,h3⟩:=mem_ready.1 h
  refine ⟨o,by simpa using h2,?_,fun e he hb=>?_⟩
  · by_cases hi:i < x.length
    · simp [hi] at h1; simp [hi,h1]
    · simp [hi] at h1
  · have:=h3 e he hb
    by_cases hi:e.on < x.length
    · simp [hi] at this; simp [hi,this]
    · simp [hi] at this
theorem zao {x:List Bool} (h:Region.ready .any l.toArray x.toArray = []) (hx:x.length = l.length) (i:Nat) (o:Oper) (ho:l[i]? = some o) (hall:∀ e ∈ o.after,Region.binds .any e = true→x[e.on]? = some true):x[i]? = some true:=by
  have hi:i < x.length:=by rw [hx]; exact (List.getElem?_eq_some_iff.1 ho).1
  cases hb:x[i]
  · exfalso
    have:i ∈ Region.ready .any l.toArray x.toArray:=mem_ready.2 ⟨by simp [hi,hb],o,by simpa using ho,fun e he hbd=>by
      have:=hall e he hbd
      obtain ⟨h1,h2⟩:=List.getElem?_eq_some_iff.1 this
      simp [h1,h2]⟩
    rw [h] at this; simp at this
  · simp [hi,hb]
theorem wpAny_inv
    (hend:∀ x a w,R x a w→x.length = l.length→Region.ready .any l.toArray x.toArray = []→Q .normal a w)
    (hstep:∀ x a w i o,R x a w→x.length = l.length→l[i]? = some o→x[i]? = some false→(∀ e ∈ o.after,Region.binds .any e = true→x[e.on]? = some true) →
      (if Region.wanted o (yielded l.toArray a.tmps) then o.wp P a w (fun a' w'=>R (x.set i true) a' w') Q else R (x.set i true) (a.put o.dst undef) w)) :
    ∀ (n:Nat) (x:List Bool) (a:Act) (w:World),x.count false = n→x.length = l.length→R x a w→wpAny P .any l.toArray Q n x.toArray a w
  | 0,x,a,w,hn,hx,hR=>by
    have hr:Region.ready .any l.toArray x.toArray = []:=by
      apply List.eq_nil_iff_forall_not_mem.2
      intro i hi
      obtain ⟨o,_,h2,_⟩:=ready_facts hx hi
      exact no_false hn i h2
    exact ⟨hr,hend x a w hR hx hr⟩
  | n + 1,x,a,w,hn,hx,hR=>by
    refine ⟨fun hr=>hend x a w hR hx hr,fun i hi=>?_⟩
    obtain ⟨o,h1,h2,h3⟩:=ready_facts hx hi
    have hs:=hstep x a w i o hR hx h1 h2 h3
    have hc:=count_set x i h2
    have hnext:∀ a' w',R (x.set i true) a' w'→wpAny P .any l.toArray Q n (x.toArray.setIfInBounds i true) a' w':=fun a' w' h=>by
      have:=wpAny_inv hend hstep n (x.set i true) a' w' (by omega) (by simpa using hx) h
      simpa using this
    have ho:l.toArray[i]? = some o:=by simpa using h1
    unfold wpOp
    rw [ho]
    simp only
    split
    · next hw=>rw [if_pos hw] at hs; exact .inl (Oper.wp_mono hnext hs)
    · next hw=>rw [if_neg hw] at hs; exact hnext _ _ hs
theorem zax {id:Nat} {a:Act} {w:World} (hm:P.follows .mixedOrders = true)
    (h0:R (List.replicate l.length false) a { w with drawn:=w.drawn + 1 })
    (hend:∀ x a w,R x a w→x.length = l.length→Region.ready .any l.toArray x.toArray = []→Q .normal a w)
    (hstep:∀ x a w i o,R x a w→x.length = l.length→l[i]? = some o→x[i]? = some false→(∀ e ∈ o.after,Region.binds .any e = true→x[e.on]? = some true) →
      (if Region.wanted o (yielded l.toArray a.tmps) then o.wp P a w (fun a' w'=>R (x.set i true) a' w') Q else R (x.set i true) (a.put o.dst undef) w)) :
    (Code.region id l.toArray true).wp P Q a w:=by
  refine wp_region_any hm ?_
  have:=wpAny_inv R hend hstep l.length (List.replicate l.length false) a { w with drawn:=w.drawn + 1 } (by simp) (by simp) h0
  simpa using this
end
def RGrow (base:World) (F:(Nat→Value)→Act) (C:Nat→Value→Prop) (x:List Bool) (A:Act) (W:World):Prop :=
  ∃ f,A = F f∧Below base.heap.size base W∧∀ j,x[j]? = some true→C j (f j)
theorem zG {C:Nat→Value→Prop} {x:List Bool} {f:Nat→Value} {i:Nat} {v:Value} (h:∀ j,x[j]? = some true→C j (f j)) (hv:C i v):∀ j,(x.set i true)[j]? = some true→C j (upd f i v j):=fun j hj=>by
  by_cases hji:j = i
  · subst hji; rw [zp]; exact hv
  · rw [zq _ _ hji]; rw [List.getElem?_set_ne (fun e=>hji e.symm)] at hj; exact h j hj
theorem zab {l:List Oper} {x:List Bool} (h:Region.ready .any l.toArray x.toArray = []) (hx:x.length = l.length) (hacy:∀ (i:Nat) (o:Oper),l[i]? = some o→∀ e ∈ o.after,e.on < i):∀ i,i < l.length→x[i]? = some true:=by
  intro i
  induction i using Nat.strongRecOn with
  | _ i ih =>
    intro hi
    refine zao h hx i l[i] (List.getElem?_eq_getElem hi) fun e he _=>?_
    have:=hacy i l[i] (List.getElem?_eq_getElem hi) e he
    exact ih e.on this (by omega)
end Go.Proofs.YtdfihaabhichdaaGreat
namespace Go.Proofs.YtdfihaabhichdaaGreat
open Go.RowKit
set_option linter.unusedVariables false

def RG (base:World) (F:(Nat→Value)→Act) (k:Nat) (D:Prop→World→Nat→Value→Prop) (x:List Bool) (A:Act) (W:World):Prop :=
  ∃ f,A = F f∧Below base.heap.size base W∧∀ j,x[j]? = some true→D (x[k]? = some true) W j (f j)
section
variable {base W W':World} {F:(Nat→Value)→Act} {k:Nat} {D:Prop→World→Nat→Value→Prop} {x:List Bool} {f:Nat→Value}
theorem zas (hm:∀ p W W' j v,Below W.heap.size W W'→D p W j v→D p W' j v) (hb:Below base.heap.size base W) (h:∀ j,x[j]? = some true→D (x[k]? = some true) W j (f j)) (hg:Below W.heap.size W W') {i:Nat} (hik:i ≠ k) {v:Value} (hv:D (x[k]? = some true) W' i v) :
    Below base.heap.size base W'∧∀ j,(x.set i true)[j]? = some true→D ((x.set i true)[k]? = some true) W' j (upd f i v j):=by
  refine ⟨hb.trans (hg.mono hb.size),fun j hj=>?_⟩
  rw [List.getElem?_set_ne hik]
  by_cases hji:j = i
  · subst hji; rw [zp]; exact hv
  · rw [zq _ _ hji]
    rw [List.getElem?_set_ne (fun e=>hji e.symm)] at hj
    exact hm _ _ _ _ _ hg (h j hj)
theorem zc (hb:Below base.heap.size base W) (h:∀ j,x[j]? = some true→D (x[k]? = some true) W j (f j)) {i:Nat} (hik:i ≠ k) {v:Value} (hv:D (x[k]? = some true) W i v) :
    Below base.heap.size base W∧∀ j,(x.set i true)[j]? = some true→D ((x.set i true)[k]? = some true) W j (upd f i v j):=by
  refine ⟨hb,fun j hj=>?_⟩
  rw [List.getElem?_set_ne hik]
  by_cases hji:j = i
  · subst hji; rw [zp]; exact hv
  · rw [zq _ _ hji]
    rw [List.getElem?_set_ne (fun e=>hji e.symm)] at hj
    exact h j hj
end
theorem set_monoG {x:List Bool} {i j:Nat} (h:x[j]? = some true):(x.set i true)[j]? = some true:=by
  by_cases hij:i = j
  · subst hij; exact List.getElem?_set_self (List.getElem?_eq_some_iff.1 h).1
  · rw [List.getElem?_set_ne hij]; exact h
def Closed (l:List Oper) (x:List Bool):Prop:=∀ (i:Nat) (o:Oper),l[i]? = some o→x[i]? = some true→∀ e ∈ o.after,Region.binds .any e = true→x[e.on]? = some true
theorem closed_step {l:List Oper} {x:List Bool} {i:Nat} {o:Oper} (h:Closed l x) (ho:l[i]? = some o) (hall:∀ e ∈ o.after,Region.binds .any e = true→x[e.on]? = some true):Closed l (x.set i true):=by
  intro j o' ho' hj e he hb
  by_cases hji:j = i
  · subst hji
    rw [ho] at ho'
    obtain rfl:=Option.some.inj ho'
    exact set_monoG (hall e he hb)
  · rw [List.getElem?_set_ne (fun e=>hji e.symm)] at hj
    exact set_monoG (h j o' ho' hj e he hb)
theorem zi {P:Program} {Q:Exit→Act→World→Prop} {l:List Oper} (R:List Bool→Act→World→Prop) {id:Nat} {a:Act} {w:World} (hm:P.follows .mixedOrders = true)
    (h0:R (List.replicate l.length false) a { w with drawn:=w.drawn + 1 })
    (hend:∀ x a w,R x a w→x.length = l.length→Region.ready .any l.toArray x.toArray = []→Q .normal a w)
    (hstep:∀ x a w i o,R x a w→Closed l x→x.length = l.length→l[i]? = some o→x[i]? = some false→(∀ e ∈ o.after,Region.binds .any e = true→x[e.on]? = some true) →
      (if Region.wanted o (yielded l.toArray a.tmps) then o.wp P a w (fun a' w'=>R (x.set i true) a' w') Q else R (x.set i true) (a.put o.dst undef) w)) :
    (Code.region id l.toArray true).wp P Q a w:=by
  refine zax (fun x a w=>R x a w∧Closed l x) hm ⟨h0,fun i o _ hi=>by rw [List.getElem?_replicate] at hi; split at hi <;> simp at hi⟩ (fun x a w h=>hend x a w h.1) ?_
  intro x a w i o h hx ho hxi hall
  have hs:=hstep x a w i o h.1 h.2 hx ho hxi hall
  have hc:=closed_step h.2 ho hall
  split
  · next hw=>rw [if_pos hw] at hs; exact Oper.wp_mono (fun a' w' hR=>⟨hR,hc⟩) hs
  · next hw=>rw [if_neg hw] at hs; exact ⟨hs,hc⟩
theorem zbr {P:Program} {id:Nat} {Q:Exit→Act→World→Prop} {a:Act} {w:World} {l:List Oper} (n:Nat) (hm:P.follows .mixedOrders = true) (hB:Region.lexTailB .any l.toArray n = true)
    (h:wpStill P l.toArray w.drew (fun a'=>wpList P l.toArray Q (l.drop n) a' w.drew) (l.take n) a):(Code.region id l.toArray true).wp P Q a w:=wp_region_still_tail n hm hB h
theorem zcC {P:Program} {w:World} {o:Oper} {a:Act} {K:Act→World→Prop} {Q:Exit→Act→World→Prop} (s x:Operand) (t:TypeId)
    (ho:o.op = .call { callee:=.builtin .append,args:=#[s,x],argTypes:=#[t,t] })
    (base:Nat) (e:TypeId) (i:TypeInfo) (size:Nat) (ht:P.underlying t = some (.slice e)) (hi:P.info? e = some i)
    (v:Value) (n:Nat) (xs:List Value) (hs:a.eval s = v) (hown:w.ownsRow base e size v n xs) (hx:a.eval x = .slice none 0 0)
    (h:K (a.put o.dst v) w):o.wp P a w K Q:=by
  have hrun:=run_append_owned_none (P:=P) (w:=w) base t o.type e i size ht hi v n xs hown
  unfold Oper.wp
  simp [execOp,ho,resolve,invoke,builtin,hs,hx,hrun,Result.andThen]
  exact h
end Go.Proofs.YtdfihaabhichdaaGreat
