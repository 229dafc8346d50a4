/-
  Events as values without a float, by the program: proved by walking the function.
-/
import Derived.Test.YtbakanofkghmiaaGreatWj08
import Derived.StillTailTactics
set_option linter.unusedVariables false
set_option maxHeartbeats 6400000
set_option maxRecDepth 100000
namespace Go.Proofs.YtbakanofkghmiaaGreat
open Go.RowKit
theorem dX (w:World) (cs:List Value) (t:TypeId):(w.alloc (Obj.cells cs.toArray t)).rangeAt w.heap.size 0 cs:=fun j u h=>by
 rw [cell_of_row _ w.heap.size (0 + j) cs.toArray t (0,0) (heap_alloc_new w _)]
 simpa using h
theorem dR (w:World) (o:Obj):(w.alloc o).heap.size = w.heap.size + 1:=by simp
theorem there_madeV (w:World) (cs:List Value) (t:TypeId):(w.alloc (Obj.cells cs.toArray t)).there w.heap.size 0 cs.length:=cS (heap_alloc_new w _) (by simp)
theorem valueOf_any (e:Ev) (w:World) :
  Calls Tryz.prog 138 #[evV e] w fun x w'=>x = ym (vlV e)∧yn w w':=by
 obtain ⟨uv,⟨k,s,t,l,q,i,p,g⟩,id,xL,qty,xO,xI⟩:=e
 unfold evV vlV
 have hsf:=sfl
 simp only
 generalize hfb:fbit p = fp
 have HFB:=Y (fun W=>hfb ▸ floatBits_any p W)
 clear hfb
 have xA:(w.alloc (eF (yu uv k s t l q i p g id xL qty xO xI).toArray 46)).heap.size = w.heap.size + 1:=dR _ _
 have ua:((w.alloc (eF (yu uv k s t l q i p g id xL qty xO xI).toArray 46)).alloc (eF #[H 0,H 0,H 0,H 0,H 0,H 0,H 0,H 0,H 0,H 0,H 0,H 0,.int .u64 0,yk ⟨#[]⟩] 187)).heap.size = w.heap.size + 2:=by rw [dR,xA]
 have jt:(((w.alloc (eF (yu uv k s t l q i p g id xL qty xO xI).toArray 46)).alloc (eF #[H 0,H 0,H 0,H 0,H 0,H 0,H 0,H 0,H 0,H 0,H 0,H 0,.int .u64 0,yk ⟨#[]⟩] 187)).alloc (eF (yw k s t l q i p g).toArray 43)).heap.size = w.heap.size + 3:=by rw [dR,ua]
 have b1:Below (w.heap.size + 1) (w.alloc (eF (yu uv k s t l q i p g id xL qty xO xI).toArray 46)) (((w.alloc (eF (yu uv k s t l q i p g id xL qty xO xI).toArray 46)).alloc (eF #[H 0,H 0,H 0,H 0,H 0,H 0,H 0,H 0,H 0,H 0,H 0,H 0,.int .u64 0,yk ⟨#[]⟩] 187)).alloc (eF (yw k s t l q i p g).toArray 43)):=(((Below.refl _ _).alloc (by rw [xA]; omega) _).alloc (by rw [ua]; omega) _)
 have b2:Below (w.heap.size + 2) ((w.alloc (eF (yu uv k s t l q i p g id xL qty xO xI).toArray 46)).alloc (eF #[H 0,H 0,H 0,H 0,H 0,H 0,H 0,H 0,H 0,H 0,H 0,H 0,.int .u64 0,yk ⟨#[]⟩] 187)) (((w.alloc (eF (yu uv k s t l q i p g id xL qty xO xI).toArray 46)).alloc (eF #[H 0,H 0,H 0,H 0,H 0,H 0,H 0,H 0,H 0,H 0,H 0,H 0,.int .u64 0,yk ⟨#[]⟩] 187)).alloc (eF (yw k s t l q i p g).toArray 43)):=((Below.refl _ _).alloc (by rw [ua]; omega) _)
 have r1:=zb (dX w (yu uv k s t l q i p g id xL qty xO xI) 46) b1 (by omega)
 have t2:=there_madeV (w.alloc (eF (yu uv k s t l q i p g id xL qty xO xI).toArray 46)) [H 0,H 0,H 0,H 0,H 0,H 0,H 0,H 0,H 0,H 0,H 0,H 0,.int .u64 0,yk ⟨#[]⟩] 187
 have r3:=dX ((w.alloc (eF (yu uv k s t l q i p g id xL qty xO xI).toArray 46)).alloc (eF #[H 0,H 0,H 0,H 0,H 0,H 0,H 0,H 0,H 0,H 0,H 0,H 0,.int .u64 0,yk ⟨#[]⟩] 187)) (yw k s t l q i p g) 43
 rw [xA] at t2
 rw [ua] at r3
 have t2':=zg t2 b2 (by omega)
 have xV:Hid (yn w (((w.alloc (eF (yu uv k s t l q i p g id xL qty xO xI).toArray 46)).alloc (eF #[H 0,H 0,H 0,H 0,H 0,H 0,H 0,H 0,H 0,H 0,H 0,H 0,.int .u64 0,yk ⟨#[]⟩] 187)).alloc (eF (yw k s t l q i p g).toArray 43))):=((eD _ _).alloc (by rw [xA]; omega) _).alloc (by rw [ua]; omega) _
 have HX:Hid (_∧_∧_):=⟨r1,t2',r3⟩
 clear r1 t2 t2' r3 b1 b2 xA ua jt
 go_enter Tryz.func138,Tryz.ntmps138
 go_wp2_with fail
 generalize (((w.alloc (eF (yu uv k s t l q i p g id xL qty xO xI).toArray 46)).alloc (eF #[H 0,H 0,H 0,H 0,H 0,H 0,H 0,H 0,H 0,H 0,H 0,H 0,.int .u64 0,yk ⟨#[]⟩] 187)).alloc (eF (yw k s t l q i p g).toArray 43)) = WW at xV HX ⊢
 obtain ⟨jD,ju,hr3⟩:=U HX
 have x0:=jD 0 _ rfl
 have x1:=jD 1 _ rfl
 have x2:=jD 2 _ rfl
 have x3:=jD 3 _ rfl
 have x4:=jD 4 _ rfl
 have x5:=jD 5 _ rfl
 have x6:=jD 6 _ rfl
 have x7:=jD 7 _ rfl
 have x8:=jD 8 _ rfl
 have x9:=jD 9 _ rfl
 have x10:=jD 10 _ rfl
 have x11:=jD 11 _ rfl
 have x12:=jD 12 _ rfl
 have x13:=jD 13 _ rfl
 have y0:=hr3 0 _ rfl
 have y1:=hr3 1 _ rfl
 have y2:=hr3 2 _ rfl
 have y3:=hr3 3 _ rfl
 have y4:=hr3 4 _ rfl
 have y5:=hr3 5 _ rfl
 have y6:=hr3 6 _ rfl
 have y7:=hr3 7 _ rfl
 simp only [Nat.zero_add] at x0 x1 x2 x3 x4 x5 x6 x7 x8 x9 x10 x11 x12 x13 y0 y1 y2 y3 y4 y5 y6 y7
 obtain ⟨v0,z0,f0⟩:=zF ju 0 (by decide)
 obtain ⟨v1,z1,f1⟩:=zF ju 1 (by decide)
 obtain ⟨v2,z2,f2⟩:=zF ju 2 (by decide)
 obtain ⟨v3,z3,f3⟩:=zF ju 3 (by decide)
 obtain ⟨v4,z4,f4⟩:=zF ju 4 (by decide)
 obtain ⟨v5,z5,f5⟩:=zF ju 5 (by decide)
 obtain ⟨v6,z6,f6⟩:=zF ju 6 (by decide)
 obtain ⟨v7,z7,f7⟩:=zF ju 7 (by decide)
 obtain ⟨v8,z8,f8⟩:=zF ju 8 (by decide)
 obtain ⟨v9,z9,f9⟩:=zF ju 9 (by decide)
 obtain ⟨v10,z10,f10⟩:=zF ju 10 (by decide)
 obtain ⟨v11,z11,f11⟩:=zF ju 11 (by decide)
 obtain ⟨v12,z12,f12⟩:=zF ju 12 (by decide)
 obtain ⟨v13,z13,f13⟩:=zF ju 13 (by decide)
 simp only [Nat.zero_add] at z0 f0 z1 f1 z2 f2 z3 f3 z4 f4 z5 f5 z6 f6 z7 f7 z8 f8 z9 f9 z10 f10 z11 f11 z12 f12 z13 f13
 have HT:=Y ju
 clear jD ju hr3 HX
 refine wp_region_still_tail 30 (by kernel_rfl) (by kernel_rfl) ?_
 simp only [yT,List.take_zero,yU,List.drop_zero]
 repeat still_step
 still_call (U HFB _)
 repeat still_step
 refine wpStill_nil ?_
 go_wp2_with fail
 change bodyPost _ _ _ _ _ (WW.setCells (w.heap.size + 1) 0 [H uv,H id,H xL,H qty,H xO,H xI,H k,H s,H t,H l,H q,H i,.int .u64 fp,yk g]).drew
 have jH:=Y (yX WW (w.heap.size + 1) 0 [H uv,H id,H xL,H qty,H xO,H xI,H k,H s,H t,H l,H q,H i,.int .u64 fp,yk g] (fun j K=>U HT j K))
 have ux:=Y (zo (w.heap.size + 1) (by omega) [H uv,H id,H xL,H qty,H xO,H xI,H k,H s,H t,H l,H q,H i,.int .u64 fp,yk g] 0 WW (U xV))
 generalize WW.setCells (w.heap.size + 1) 0 [H uv,H id,H xL,H qty,H xO,H xI,H k,H s,H t,H l,H q,H i,.int .u64 fp,yk g] = WE at jH ux ⊢
 obtain ⟨d0,d1,d2,d3,d4,d5,d6,d7,d8,d9,d10,d11,d12,d13⟩:=yF (U jH)
 try simp only [Exit.inBlock,Exit.then]
 refine bodyPost_ret (by simp [results,Tryz.results138,go_sem,d0,d1,d2,d3,d4,d5,d6,d7,d8,d9,d10,d11,d12,d13]; try rfl) rfl ?_
 exact ⟨rfl,(U ux).drew⟩
theorem count_set:∀ (x:List Bool) (i:Nat),x[i]? = some false→(x.set i true).count false + 1 = x.count false
 | [],i,h=>by simp at h
 | b :: r,0,h=>by simp at h; subst h; simp
 | b :: r,i + 1,h=>by
  have ih:=count_set r i (by simpa using h)
  simp only [List.set_cons_succ,List.count_cons]
  omega
theorem no_false {x:List Bool} (h:x.count false = 0) (i:Nat):x[i]? ≠ some false:=fun e=>by
 have:=List.count_pos_iff.2 (yO e)
 omega
section
variable {P:Program} {xj:Exit→Act→World→Prop} {l:List Oper} (R:List Bool→Act→World→Prop)

theorem ready_facts {x:List Bool} (hx:x.length = l.length) {i:Nat} (h:i ∈ Region.ready .any l.toArray x.toArray) :
  ∃ o,l[i]? = some o∧x[i]? = some false∧∀ e ∈ o.after,Region.binds .any e = true→x[e.on]? = some true:=by
 obtain ⟨G,o,E,h3⟩:=mem_ready.1 h
 refine ⟨o,by simpa using E,?_,fun e he F=>?_⟩
 ·by_cases hi:i < x.length
  ·simp [hi] at G; simp [hi,G]
  ·simp [hi] at G
 ·have:=h3 e he F
  by_cases hi:e.on < x.length
  ·simp [hi] at this; simp [hi,this]
  ·simp [hi] at this
theorem ready_none {x:List Bool} (h:Region.ready .any l.toArray x.toArray = []) (hx:x.length = l.length) (i:Nat) (o:Oper) (Z:l[i]? = some o) (Q:∀ e ∈ o.after,Region.binds .any e = true→x[e.on]? = some true):x[i]? = some true:=by
 have hi:i < x.length:=by rw [hx]; exact (yG.1 Z).1
 cases F:x[i]
 ·exfalso
  have:i ∈ Region.ready .any l.toArray x.toArray:=mem_ready.2 ⟨by simp [hi,F],o,by simpa using Z,fun e he po=>by
   have:=Q e he po
   obtain ⟨G,E⟩:=yG.1 this
   simp [G,E]⟩
  rw [h] at this; simp at this
 ·simp [hi,F]
theorem wpAny_inv
  (vW:∀ x a w,R x a w→x.length = l.length→Region.ready .any l.toArray x.toArray = []→xj .normal a w)
  (kK:∀ x a w i o,R x a w→x.length = l.length→l[i]? = some o→x[i]? = some false→(∀ e ∈ o.after,Region.binds .any e = true→x[e.on]? = some true) →
   (if Region.wanted o (yielded l.toArray a.tmps) then o.wp P a w (fun a' w'=>R (x.set i true) a' w') xj else R (x.set i true) (a.put o.dst M) w)) :
  ∀ (n:Nat) (x:List Bool) (a:Act) (w:World),x.count false = n→x.length = l.length→R x a w→wpAny P .any l.toArray xj n x.toArray a w
 | 0,x,a,w,hn,hx,X=>by
  have hr:Region.ready .any l.toArray x.toArray = []:=by
   apply List.eq_nil_iff_forall_not_mem.2
   intro i hi
   obtain ⟨o,_,E,_⟩:=ready_facts hx hi
   exact no_false hn i E
  exact ⟨hr,vW x a w X hx hr⟩
 | n + 1,x,a,w,hn,hx,X=>by
  refine ⟨fun hr=>vW x a w X hx hr,fun i hi=>?_⟩
  obtain ⟨o,G,E,h3⟩:=ready_facts hx hi
  have hs:=kK x a w i o X hx G E h3
  have hc:=count_set x i E
  have hnext:∀ a' w',R (x.set i true) a' w'→wpAny P .any l.toArray xj n (x.toArray.setIfInBounds i true) a' w':=fun a' w' h=>by
   have:=wpAny_inv vW kK n (x.set i true) a' w' (by omega) (by simpa using hx) h
   simpa using this
  have Z:l.toArray[i]? = some o:=by simpa using G
  unfold wpOp
  rw [Z]
  simp only
  split
  ·next hw=>rw [if_pos hw] at hs; exact .inl (Oper.wp_mono hnext hs)
  ·next hw=>rw [if_neg hw] at hs; exact hnext _ _ hs
theorem dK {id:Nat} {a:Act} {w:World} (hm:P.follows .mixedOrders = true)
  (h0:R (List.replicate l.length false) a { w with drawn:=w.drawn + 1 })
  (vW:∀ x a w,R x a w→x.length = l.length→Region.ready .any l.toArray x.toArray = []→xj .normal a w)
  (kK:∀ x a w i o,R x a w→x.length = l.length→l[i]? = some o→x[i]? = some false→(∀ e ∈ o.after,Region.binds .any e = true→x[e.on]? = some true) →
   (if Region.wanted o (yielded l.toArray a.tmps) then o.wp P a w (fun a' w'=>R (x.set i true) a' w') xj else R (x.set i true) (a.put o.dst M) w)) :
  (Code.region id l.toArray true).wp P xj a w:=by
 refine wp_region_any hm ?_
 have:=wpAny_inv R vW kK l.length (List.replicate l.length false) a { w with drawn:=w.drawn + 1 } (by simp) (by simp) h0
 simpa using this
end
def RGrow (base:World) (hb:(Nat→Value)→Act) (C:Nat→Value→Prop) (x:List Bool) (xm:Act) (W:World):Prop :=
 ∃ f,xm = hb f∧yn base W∧∀ j,x[j]? = some true→C j (f j)
theorem zA {C:Nat→Value→Prop} {x:List Bool} {f:Nat→Value} {i:Nat} {v:Value} (h:∀ j,x[j]? = some true→C j (f j)) (hv:C i v):∀ j,(x.set i true)[j]? = some true→C j (upd f i v j):=fun j K=>by
 by_cases hji:j = i
 ·subst hji; rw [zp]; exact hv
 ·rw [zq _ _ hji]; rw [yW (fun e=>hji e.symm)] at K; exact h j K
theorem zV {l:List Oper} {x:List Bool} (h:Region.ready .any l.toArray x.toArray = []) (hx:x.length = l.length) (hacy:∀ (i:Nat) (o:Oper),l[i]? = some o→∀ e ∈ o.after,e.on < i):∀ i,i < l.length→x[i]? = some true:=by
 intro i
 induction i using Nat.strongRecOn with
 | _ i ih =>
  intro hi
  refine ready_none h hx i l[i] (yH hi) fun e he _=>?_
  have:=hacy i l[i] (yH hi) e he
  exact ih e.on this (by omega)
def RG (base:World) (hb:(Nat→Value)→Act) (k:Nat) (eG:Prop→World→Nat→Value→Prop) (x:List Bool) (xm:Act) (W:World):Prop :=
 ∃ f,xm = hb f∧yn base W∧∀ j,x[j]? = some true→eG (x[k]? = some true) W j (f j)
section
variable {base W W':World} {hb:(Nat→Value)→Act} {k:Nat} {eG:Prop→World→Nat→Value→Prop} {x:List Bool} {f:Nat→Value}
theorem dl (hm:∀ p W W' j v,yn W W'→eG p W j v→eG p W' j v) (F:yn base W) (h:∀ j,x[j]? = some true→eG (x[k]? = some true) W j (f j)) (hg:yn W W') {i:Nat} (hik:i ≠ k) {v:Value} (hv:eG (x[k]? = some true) W' i v) :
  yn base W'∧∀ j,(x.set i true)[j]? = some true→eG ((x.set i true)[k]? = some true) W' j (upd f i v j):=by
 refine ⟨F.trans (hg.mono F.size),fun j K=>?_⟩
 rw [yW hik]
 by_cases hji:j = i
 ·subst hji; rw [zp]; exact hv
 ·rw [zq _ _ hji]
  rw [yW (fun e=>hji e.symm)] at K
  exact hm _ _ _ _ _ hg (h j K)
theorem zf (F:yn base W) (h:∀ j,x[j]? = some true→eG (x[k]? = some true) W j (f j)) {i:Nat} (hik:i ≠ k) {v:Value} (hv:eG (x[k]? = some true) W i v) :
  yn base W∧∀ j,(x.set i true)[j]? = some true→eG ((x.set i true)[k]? = some true) W j (upd f i v j):=by
 refine ⟨F,fun j K=>?_⟩
 rw [yW hik]
 by_cases hji:j = i
 ·subst hji; rw [zp]; exact hv
 ·rw [zq _ _ hji]
  rw [yW (fun e=>hji e.symm)] at K
  exact h j K
end
theorem set_monoG {x:List Bool} {i j:Nat} (h:x[j]? = some true):(x.set i true)[j]? = some true:=by
 by_cases kV:i = j
 ·subst kV; exact List.getElem?_set_self (yG.1 h).1
 ·rw [yW kV]; exact h
def Closed (l:List Oper) (x:List Bool):Prop:=∀ (i:Nat) (o:Oper),l[i]? = some o→x[i]? = some true→∀ e ∈ o.after,Region.binds .any e = true→x[e.on]? = some true
theorem closed_step {l:List Oper} {x:List Bool} {i:Nat} {o:Oper} (h:Closed l x) (Z:l[i]? = some o) (Q:∀ e ∈ o.after,Region.binds .any e = true→x[e.on]? = some true):Closed l (x.set i true):=by
 intro j o' vB K e he F
 by_cases hji:j = i
 ·subst hji
  rw [Z] at vB
  obtain rfl:=ya vB
  exact set_monoG (Q e he F)
 ·rw [yW (fun e=>hji e.symm)] at K
  exact set_monoG (h j o' vB K e he F)
theorem zj {P:Program} {xj:Exit→Act→World→Prop} {l:List Oper} (R:List Bool→Act→World→Prop) {id:Nat} {a:Act} {w:World} (hm:P.follows .mixedOrders = true)
  (h0:R (List.replicate l.length false) a { w with drawn:=w.drawn + 1 })
  (vW:∀ x a w,R x a w→x.length = l.length→Region.ready .any l.toArray x.toArray = []→xj .normal a w)
  (kK:∀ x a w i o,R x a w→Closed l x→x.length = l.length→l[i]? = some o→x[i]? = some false→(∀ e ∈ o.after,Region.binds .any e = true→x[e.on]? = some true) →
   (if Region.wanted o (yielded l.toArray a.tmps) then o.wp P a w (fun a' w'=>R (x.set i true) a' w') xj else R (x.set i true) (a.put o.dst M) w)) :
  (Code.region id l.toArray true).wp P xj a w:=by
 refine dK (fun x a w=>R x a w∧Closed l x) hm ⟨h0,fun i o _ hi=>by rw [yI] at hi; split at hi <;> simp at hi⟩ (fun x a w h=>vW x a w h.1) ?_
 intro x a w i o h hx Z xy Q
 have hs:=kK x a w i o h.1 h.2 hx Z xy Q
 have hc:=closed_step h.2 Z Q
 split
 ·next hw=>rw [if_pos hw] at hs; exact Oper.wp_mono (fun a' w' X=>⟨X,hc⟩) hs
 ·next hw=>rw [if_neg hw] at hs; exact ⟨hs,hc⟩
theorem ej {P:Program} {id:Nat} {xj:Exit→Act→World→Prop} {a:Act} {w:World} {l:List Oper} (n:Nat) (hm:P.follows .mixedOrders = true) (hB:Region.lexTailB .any l.toArray n = true)
  (h:wpStill P l.toArray w.drew (fun a'=>wpList P l.toArray xj (l.drop n) a' w.drew) (l.take n) a):(Code.region id l.toArray true).wp P xj a w:=wp_region_still_tail n hm hB h
theorem eC {P:Program} {w:World} {o:Oper} {a:Act} {hj:Act→World→Prop} {xj:Exit→Act→World→Prop} (s x:Operand) (t:TypeId)
  (Z:o.op = .call { callee:=.builtin .append,args:=#[s,x],argTypes:=#[t,t] })
  (base:Nat) (e:TypeId) (i:TypeInfo) (size:Nat) (ht:P.underlying t = some (.slice e)) (hi:P.info? e = some i)
  (v:Value) (n:Nat) (xs:List Value) (hs:a.eval s = v) (xN:w.ownsRow base e size v n xs) (hx:a.eval x = .slice none 0 0)
  (h:hj (a.put o.dst v) w):o.wp P a w hj xj:=by
 have hrun:=run_append_owned_none (P:=P) (w:=w) base t o.type e i size ht hi v n xs xN
 unfold Oper.wp
 simp [execOp,Z,resolve,invoke,builtin,hs,hx,hrun,Result.andThen]
 exact h
theorem yf {l : List Oper} {x : List Bool} (h : Closed l x) (i : Nat) {o : Oper} (Z : l[i]? = some o) (hi : x[i]? = some true) (j : Nat) (hm : (o.after.toList.any fun e => e.on == j && Region.binds .any e) = true) : x[j]? = some true := ye (h i o Z hi) j hm
def sideL_b (b:Nat):List Value:=[.func (.func 122) #[I b 0] #[],.func (.func 123) #[I b 0] #[],.func (.func 124) #[I b 0] #[]]
def sideL_s (b:Nat):List Value:=[.func (.func 126) #[I b 0] #[],.func (.func 127) #[I b 0] #[],.func (.func 128) #[I b 0] #[]]
abbrev Tb (w:World) (b:Nat) (q:List Od):Prop:=aS 176 true w b 1 q
abbrev Ts (w:World) (b:Nat) (q:List Od):Prop:=aS 179 false w b 2 q
section
variable {W0 w w':World} {BV:Value} {q1 q2:List Od} {x:List Bool} {v33 v34 v35 v36 v5 v6:Value} {b1 b2 p5 p6:Nat}
theorem zv (w:World) (cs:List Value) (t:TypeId):(w.alloc (Obj.cells cs.toArray t)).there w.heap.size 0 cs.length:=cS (heap_alloc_new w _) (by simp)
end

theorem insT_len (s:Bool) (k:Int):∀ T:List Int,(insT s k T).length ≤ T.length + 1
 | []=>by simp [insT]
 | a :: r=>by
  have:=insT_len s k r
  rw [insT]; split
  ·simp
  ·split <;> simp <;> omega
theorem tks_len (s:Bool):∀ seq:List Od,(tks s seq).length ≤ seq.length
 | []=>by simp [tks]
 | o :: r=>by
  have G:=insT_len s o.ticks (tks s r)
  have E:=tks_len s r
  rw [tks]; simp; omega
def backB:Nat→List Oper→Bool
 | _,[]=>true
 | i,o :: r=>o.after.toList.all (fun e=>decide (e.on < i)) && backB (i + 1) r
theorem back_spec:∀ (l:List Oper) (n:Nat),backB n l = true→∀ (i:Nat) (o:Oper),l[i]? = some o→∀ e ∈ o.after,e.on < n + i
 | [],_,_,i,o,h,_,_=>by simp at h
 | a :: r,n,F,0,o,h,e,he=>by
  simp at h; subst h
  simp only [backB,xe,List.all_eq_true,xh] at F
  exact F.1 e (by simpa using he)
 | a :: r,n,F,i + 1,o,h,e,he=>by
  simp only [backB,xe] at F
  have:=back_spec r (n + 1) F.2 i o (by simpa using h) e he
  omega
theorem acyc (l:List Oper) (h:backB 0 l = true):∀ (i:Nat) (o:Oper),l[i]? = some o→∀ e ∈ o.after,e.on < i:=fun i o Z e he=>by
 have:=back_spec l 0 h i o Z e he; omega
def C10 (b1 b2 p5 p6 N1 N2:Nat):Nat→Value→Prop
 | 0,v=>v = I p5 2
 | 1,v=>v = .func (.func 124) #[I b1 0] #[]
 | 2,v=>∃ a c,v = .slice a N1 c
 | 3,v=>v = H N1
 | 4,v=>v = I p6 2
 | 5,v=>v = .func (.func 128) #[I b2 0] #[]
 | 6,v=>∃ a c,v = .slice a N2 c
 | 7,v=>v = H N2
 | 8,v=>v = H ((N1:Int) + N2)
 | 9,v=>v = H ((N1:Int) + N2)
 | _,_=>True
theorem countLevels_any (b1 b2:Nat) (sd1 sd2:Int) (s1 s2:List Od) (w:World) (G:aS 176 true w b1 sd1 s1) (E:aS 179 false w b2 sd2 s2) (n1:s1.length ≤ 20) (n2:s2.length ≤ 20) :
  Calls Tryz.prog 39 #[ch b1,cj b2] w fun e w'=>e = ym (H (((aW true sd1 s1).length:Int) + (aW false sd2 s2).length))∧yn w w':=by
 have xW:=bz G
 have xY:=bz E
 generalize hL1:(aW true sd1 s1).length = N1
 generalize hL2:(aW false sd2 s2).length = N2
 have hN1:N1 ≤ 20:=by rw [← hL1,aW,List.length_map]; exact yN (tks_len _ _) n1
 have hN2:N2 ≤ 20:=by rw [← hL2,aW,List.length_map]; exact yN (tks_len _ _) n2
 have HLL:Hid ((aW true sd1 s1).length = N1∧(aW false sd2 s2).length = N2):=⟨hL1,hL2⟩
 have xA:=zh w (eF (sideL_b b1).toArray 81)
 have ua:((w.alloc (eF (sideL_b b1).toArray 81)).alloc (eF (sideL_s b2).toArray 81)).heap.size = w.heap.size + 1 + 1:=by rw [zh,xA]
 have r0:=zi w (sideL_b b1) 81
 have r1:=zi (w.alloc (eF (sideL_b b1).toArray 81)) (sideL_s b2) 81
 rw [xA] at r1
 have r0':=zb r0 (C:=w.heap.size + 1) ((Below.refl _ _).alloc (by rw [xA]; omega) (eF (sideL_s b2).toArray 81)) (by omega)
 have vn:Hid (yn w ((w.alloc (eF (sideL_b b1).toArray 81)).alloc (eF (sideL_s b2).toArray 81))):=(eD _ _).alloc (by rw [xA]; omega) _
 have HR5:=Y r0'
 have HR6:=Y r1
 have jf:=Y ua
 have jm:=Y (zG G ((U vn).block _ xW))
 have vD:=Y (zG E ((U vn).block _ xY))
 clear r0 r1 r0' xA ua hL1 hL2 G E
 unfold ch cj
 go_enter Tryz.func39,Tryz.ntmps39
 go_wp2_with fail
 unfold sideL_b sideL_s at vn HR5 HR6 jf jm vD
 generalize hW:((w.alloc (eF (List.toArray [.func (.func 122) #[I b1 0] #[],.func (.func 123) #[I b1 0] #[],.func (.func 124) #[I b1 0] #[]]) 81)).alloc (eF (List.toArray [.func (.func 126) #[I b2 0] #[],.func (.func 127) #[I b2 0] #[],.func (.func 128) #[I b2 0] #[]]) 81)) = W at vn HR5 HR6 jf jm vD
 have hb1s:b1 < W.heap.size:=bz (U jm)
 have hb2s:b2 < W.heap.size:=bz (U vD)
 have hp5:w.heap.size < W.heap.size:=by rw [U jf]; omega
 have hp6:w.heap.size + 1 < W.heap.size:=by rw [U jf]; omega
 refine dK (RGrow W (fun f=>{ tmps:=#[ch b1,cj b2,yp w 0,I (w.heap.size + 1) 0,f 9,f 0,f 1,f 2,f 3,f 4,f 5,f 6,f 7,f 8],defers:=[] }) (C10 b1 b2 w.heap.size (w.heap.size + 1) N1 N2)) (by kernel_rfl) ?_ ?_ ?_
 ·refine ⟨upd (fun _=>M) 9 (H 0),rfl,?_,fun j K=>by rw [yI] at K; split at K <;> simp at K⟩
  rw [← hW]
  exact ⟨rfl,rfl,rfl,Nat.le_refl _,fun _ _=>rfl⟩
 ·rintro x xm V ⟨f,rfl,xk,hC⟩ hx xP
  have hall9:=zV xP hx (acyc _ (by kernel_rfl)) 9 (by simp)
  have e9:f 9 = H ((N1:Int) + N2):=hC 9 hall9
  simp only [e9]
  have xv:=Y xk
  clear hC hx xP hall9 e9 xk
  go_wp2_with fail
  go_ret
  exact ⟨rfl,(U vn).trans ((U xv).mono (U vn).size)⟩
 ·rintro x xm V i o ⟨f,rfl,xk,hC⟩ hx Z xy Q
  have xv:=Y xk
  have HC:=Y hC
  match i,Z with
  | 0,Z =>
   obtain rfl:=ya Z
   clear Q hC xk
   rw [if_pos (by rfl)];unfold Oper.wp;go_simp
   exact ⟨upd f 0 (yp w 2),by simp [upd],U xv,zA (U HC) rfl⟩
  | 1,Z =>
   obtain rfl:=ya Z
   have g0:C10 b1 b2 w.heap.size (w.heap.size + 1) N1 N2 0 (f 0):=hC 0 (ye Q 0 rfl)
   simp only [C10] at g0
   have d2:=zb (U HR5) xk hp5 2 _ rfl
   clear Q hC xk
   rw [if_pos (by rfl)];unfold Oper.wp;go_simp
   exact ⟨upd f 1 (.func (.func 124) #[I b1 0] #[]),by simp [upd,g0],U xv,zA (U HC) rfl⟩
  | 2,Z =>
   obtain rfl:=ya Z
   have g1:C10 b1 b2 w.heap.size (w.heap.size + 1) N1 N2 1 (f 1):=hC 1 (ye Q 1 rfl)
   simp only [C10] at g1
   have ht:=zG (U jm) (xk.block _ hb1s)
   have qC:=Y ht
   clear Q hC xk ht
   rw [if_pos (by rfl)];unfold Oper.wp;go_simp
   refine (levels_b b1 sd1 s1 V (U qC) n1).mono ?_
   rintro e w4 ⟨v4,rfl,⟨al,cp,rfl,-,-⟩,xC⟩
   rw [(U HLL).1]
   exact ⟨upd f 2 (.slice al N1 cp),by simp [upd,g1],(U xv).trans (xC.mono (U xv).size),zA (U HC) ⟨al,cp,rfl⟩⟩
  | 3,Z =>
   obtain rfl:=ya Z
   have g2:C10 b1 b2 w.heap.size (w.heap.size + 1) N1 N2 2 (f 2):=hC 2 (ye Q 2 rfl)
   obtain ⟨al,cp,g2⟩:=g2
   clear Q hC xk
   rw [if_pos (by rfl)];unfold Oper.wp;go_simp
   exact ⟨upd f 3 (H N1),by simp [upd,g2],U xv,zA (U HC) rfl⟩
  | 4,Z =>
   obtain rfl:=ya Z
   clear Q hC xk
   rw [if_pos (by rfl)];unfold Oper.wp;go_simp
   exact ⟨upd f 4 (I (w.heap.size + 1) 2),by simp [upd],U xv,zA (U HC) rfl⟩
  | 5,Z =>
   obtain rfl:=ya Z
   have g4:C10 b1 b2 w.heap.size (w.heap.size + 1) N1 N2 4 (f 4):=hC 4 (ye Q 4 rfl)
   simp only [C10] at g4
   have d2:=zb (U HR6) xk hp6 2 _ rfl
   clear Q hC xk
   rw [if_pos (by rfl)];unfold Oper.wp;go_simp
   exact ⟨upd f 5 (.func (.func 128) #[I b2 0] #[]),by simp [upd,g4],U xv,zA (U HC) rfl⟩
  | 6,Z =>
   obtain rfl:=ya Z
   have g5:C10 b1 b2 w.heap.size (w.heap.size + 1) N1 N2 5 (f 5):=hC 5 (ye Q 5 rfl)
   simp only [C10] at g5
   have ht:=zG (U vD) (xk.block _ hb2s)
   have qC:=Y ht
   clear Q hC xk ht
   rw [if_pos (by rfl)];unfold Oper.wp;go_simp
   refine (levels_s b2 sd2 s2 V (U qC) n2).mono ?_
   rintro e w4 ⟨v4,rfl,⟨al,cp,rfl,-,-⟩,xC⟩
   rw [(U HLL).2]
   exact ⟨upd f 6 (.slice al N2 cp),by simp [upd,g5],(U xv).trans (xC.mono (U xv).size),zA (U HC) ⟨al,cp,rfl⟩⟩
  | 7,Z =>
   obtain rfl:=ya Z
   have g6:C10 b1 b2 w.heap.size (w.heap.size + 1) N1 N2 6 (f 6):=hC 6 (ye Q 6 rfl)
   obtain ⟨al,cp,g6⟩:=g6
   clear Q hC xk
   rw [if_pos (by rfl)];unfold Oper.wp;go_simp
   exact ⟨upd f 7 (H N2),by simp [upd,g6],U xv,zA (U HC) rfl⟩
  | 8,Z =>
   obtain rfl:=ya Z
   have g3:C10 b1 b2 w.heap.size (w.heap.size + 1) N1 N2 3 (f 3):=hC 3 (ye Q 3 rfl)
   have g7:C10 b1 b2 w.heap.size (w.heap.size + 1) N1 N2 7 (f 7):=hC 7 (ye Q 7 rfl)
   simp only [C10] at g3
   simp only [C10] at g7
   have hwr8:IntKind.i64.wrap ((N1:Int) + N2) = (N1:Int) + N2:=by rw [IntKind.wrap_i64]; omega
   clear Q hC xk
   rw [if_pos (by rfl)];unfold Oper.wp;go_simp
   exact ⟨upd f 8 (H ((N1:Int) + N2)),by simp [upd,g3,g7],U xv,zA (U HC) rfl⟩
  | 9,Z =>
   obtain rfl:=ya Z
   have g8:C10 b1 b2 w.heap.size (w.heap.size + 1) N1 N2 8 (f 8):=hC 8 (ye Q 8 rfl)
   simp only [C10] at g8
   clear Q hC xk
   rw [if_pos (by rfl)];unfold Oper.wp;go_simp
   exact ⟨upd f 9 (H ((N1:Int) + N2)),by simp [upd,g8],U xv,zA (U HC) rfl⟩
  | n + 10,Z=>simp at Z
end Go.Proofs.YtbakanofkghmiaaGreat
