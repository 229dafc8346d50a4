/-
  A region that draws its order, walked by what holds of the operations that have come up: one step an operation serves every order. No function walked.
-/
import Derived.Test.YtbakanofkghmiaaGreatTj05
import Derived.StillTailTactics
import GoSem.Core.Float
set_option linter.unusedVariables false
set_option maxHeartbeats 6400000
set_option maxRecDepth 100000
namespace Go.Proofs.YtbakanofkghmiaaGreat
open Go.RowKit
theorem count_set:∀ (x:List Bool) (i:Nat),x[i]? = some false→(x.set i true).count false + 1 = x.count false
 | [],i,h=>by simp at h
 | b :: r,0,h=>by simp at h; subst h; simp
 | b :: r,i + 1,h=>by
  have ih:=count_set r i (by simpa using h)
  simp only [List.set_cons_succ,List.count_cons]
  omega
theorem no_false {x:List Bool} (h:x.count false = 0) (i:Nat):x[i]? ≠ some false:=fun e=>by
 have:=List.count_pos_iff.2 (yM e)
 omega
section
variable {P:Program} {h1:Exit→Act→World→Prop} {l:List Oper} (hj:List Bool→Act→World→Prop)

theorem ready_facts {x:List Bool} (hx:x.length = l.length) {i:Nat} (h:i ∈ Region.ready .any l.toArray x.toArray) :
  ∃ o,l[i]? = some o∧x[i]? = some false∧∀ e ∈ o.after,Region.binds .any e = true→x[e.on]? = some true:=by
 obtain ⟨Q,o,N,h3⟩:=mem_ready.1 h
 refine ⟨o,by simpa using N,?_,fun e he F=>?_⟩
 ·by_cases hi:i < x.length
  ·simp [hi] at Q; simp [hi,Q]
  ·simp [hi] at Q
 ·have:=h3 e he F
  by_cases hi:e.on < x.length
  ·simp [hi] at this; simp [hi,this]
  ·simp [hi] at this
theorem ready_none {x:List Bool} (h:Region.ready .any l.toArray x.toArray = []) (hx:x.length = l.length) (i:Nat) (o:Oper) (Z:l[i]? = some o) (G:∀ e ∈ o.after,Region.binds .any e = true→x[e.on]? = some true):x[i]? = some true:=by
 have hi:i < x.length:=by rw [hx]; exact (yE.1 Z).1
 cases F:x[i]
 ·exfalso
  have:i ∈ Region.ready .any l.toArray x.toArray:=mem_ready.2 ⟨by simp [hi,F],o,by simpa using Z,fun e he hbd=>by
   have:=G e he hbd
   obtain ⟨Q,N⟩:=yE.1 this
   simp [Q,N]⟩
  rw [h] at this; simp at this
 ·simp [hi,F]
theorem wpAny_inv
  (vP:∀ x a w,hj x a w→x.length = l.length→Region.ready .any l.toArray x.toArray = []→h1 .normal a w)
  (ku:∀ x a w i o,hj x a w→x.length = l.length→l[i]? = some o→x[i]? = some false→(∀ e ∈ o.after,Region.binds .any e = true→x[e.on]? = some true) →
   (if Region.wanted o (yielded l.toArray a.tmps) then o.wp P a w (fun a' w'=>hj (x.set i true) a' w') h1 else hj (x.set i true) (a.put o.dst M) w)) :
  ∀ (n:Nat) (x:List Bool) (a:Act) (w:World),x.count false = n→x.length = l.length→hj x a w→wpAny P .any l.toArray h1 n x.toArray a w
 | 0,x,a,w,hn,hx,A=>by
  have hr:Region.ready .any l.toArray x.toArray = []:=by
   apply List.eq_nil_iff_forall_not_mem.2
   intro i hi
   obtain ⟨o,_,N,_⟩:=ready_facts hx hi
   exact no_false hn i N
  exact ⟨hr,vP x a w A hx hr⟩
 | n + 1,x,a,w,hn,hx,A=>by
  refine ⟨fun hr=>vP x a w A hx hr,fun i hi=>?_⟩
  obtain ⟨o,Q,N,h3⟩:=ready_facts hx hi
  have hs:=ku x a w i o A hx Q N h3
  have hc:=count_set x i N
  have hnext:∀ a' w',hj (x.set i true) a' w'→wpAny P .any l.toArray h1 n (x.toArray.setIfInBounds i true) a' w':=fun a' w' h=>by
   have:=wpAny_inv vP ku n (x.set i true) a' w' (by omega) (by simpa using hx) h
   simpa using this
  have Z:l.toArray[i]? = some o:=by simpa using Q
  unfold wpOp
  rw [Z]
  simp only
  split
  ·next hw=>rw [if_pos hw] at hs; exact .inl (Oper.wp_mono hnext hs)
  ·next hw=>rw [if_neg hw] at hs; exact hnext _ _ hs
theorem cE {id:Nat} {a:Act} {w:World} (hm:P.follows .mixedOrders = true)
  (h0:hj (List.replicate l.length false) a { w with drawn:=w.drawn + 1 })
  (vP:∀ x a w,hj x a w→x.length = l.length→Region.ready .any l.toArray x.toArray = []→h1 .normal a w)
  (ku:∀ x a w i o,hj x a w→x.length = l.length→l[i]? = some o→x[i]? = some false→(∀ e ∈ o.after,Region.binds .any e = true→x[e.on]? = some true) →
   (if Region.wanted o (yielded l.toArray a.tmps) then o.wp P a w (fun a' w'=>hj (x.set i true) a' w') h1 else hj (x.set i true) (a.put o.dst M) w)) :
  (Code.region id l.toArray true).wp P h1 a w:=by
 refine wp_region_any hm ?_
 have:=wpAny_inv hj vP ku l.length (List.replicate l.length false) a { w with drawn:=w.drawn + 1 } (by simp) (by simp) h0
 simpa using this
end
def RGrow (base:World) (hb:(Nat→Value)→Act) (C:Nat→Value→Prop) (x:List Bool) (hR:Act) (W:World):Prop :=
 ∃ f,hR = hb f∧ym base W∧∀ j,x[j]? = some true→C j (f j)
theorem zx {C:Nat→Value→Prop} {x:List Bool} {f:Nat→Value} {i:Nat} {v:Value} (h:∀ j,x[j]? = some true→C j (f j)) (hv:C i v):∀ j,(x.set i true)[j]? = some true→C j (upd f i v j):=fun j R=>by
 by_cases hji:j = i
 ·subst hji; rw [zn]; exact hv
 ·rw [zo _ _ hji]; rw [yU (fun e=>hji e.symm)] at R; exact h j R
theorem zS {l:List Oper} {x:List Bool} (h:Region.ready .any l.toArray x.toArray = []) (hx:x.length = l.length) (hacy:∀ (i:Nat) (o:Oper),l[i]? = some o→∀ e ∈ o.after,e.on < i):∀ i,i < l.length→x[i]? = some true:=by
 intro i
 induction i using Nat.strongRecOn with
 | _ i ih =>
  intro hi
  refine ready_none h hx i l[i] (yF hi) fun e he _=>?_
  have:=hacy i l[i] (yF hi) e he
  exact ih e.on this (by omega)
def RG (base:World) (hb:(Nat→Value)→Act) (k:Nat) (dp:Prop→World→Nat→Value→Prop) (x:List Bool) (hR:Act) (W:World):Prop :=
 ∃ f,hR = hb f∧ym base W∧∀ j,x[j]? = some true→dp (x[k]? = some true) W j (f j)
section
variable {base W W':World} {hb:(Nat→Value)→Act} {k:Nat} {dp:Prop→World→Nat→Value→Prop} {x:List Bool} {f:Nat→Value}
theorem bR (hm:∀ p W W' j v,ym W W'→dp p W j v→dp p W' j v) (F:ym base W) (h:∀ j,x[j]? = some true→dp (x[k]? = some true) W j (f j)) (hg:ym W W') {i:Nat} (hik:i ≠ k) {v:Value} (hv:dp (x[k]? = some true) W' i v) :
  ym base W'∧∀ j,(x.set i true)[j]? = some true→dp ((x.set i true)[k]? = some true) W' j (upd f i v j):=by
 refine ⟨F.trans (hg.mono F.size),fun j R=>?_⟩
 rw [yU hik]
 by_cases hji:j = i
 ·subst hji; rw [zn]; exact hv
 ·rw [zo _ _ hji]
  rw [yU (fun e=>hji e.symm)] at R
  exact hm _ _ _ _ _ hg (h j R)
theorem zd (F:ym base W) (h:∀ j,x[j]? = some true→dp (x[k]? = some true) W j (f j)) {i:Nat} (hik:i ≠ k) {v:Value} (hv:dp (x[k]? = some true) W i v) :
  ym base W∧∀ j,(x.set i true)[j]? = some true→dp ((x.set i true)[k]? = some true) W j (upd f i v j):=by
 refine ⟨F,fun j R=>?_⟩
 rw [yU hik]
 by_cases hji:j = i
 ·subst hji; rw [zn]; exact hv
 ·rw [zo _ _ hji]
  rw [yU (fun e=>hji e.symm)] at R
  exact h j R
end
theorem set_monoG {x:List Bool} {i j:Nat} (h:x[j]? = some true):(x.set i true)[j]? = some true:=by
 by_cases ph:i = j
 ·subst ph; exact List.getElem?_set_self (yE.1 h).1
 ·rw [yU ph]; exact h
def Closed (l:List Oper) (x:List Bool):Prop:=∀ (i:Nat) (o:Oper),l[i]? = some o→x[i]? = some true→∀ e ∈ o.after,Region.binds .any e = true→x[e.on]? = some true
theorem closed_step {l:List Oper} {x:List Bool} {i:Nat} {o:Oper} (h:Closed l x) (Z:l[i]? = some o) (G:∀ e ∈ o.after,Region.binds .any e = true→x[e.on]? = some true):Closed l (x.set i true):=by
 intro j o' vu R e he F
 by_cases hji:j = i
 ·subst hji
  rw [Z] at vu
  obtain rfl:=ya vu
  exact set_monoG (G e he F)
 ·rw [yU (fun e=>hji e.symm)] at R
  exact set_monoG (h j o' vu R e he F)
theorem zh {P:Program} {h1:Exit→Act→World→Prop} {l:List Oper} (hj:List Bool→Act→World→Prop) {id:Nat} {a:Act} {w:World} (hm:P.follows .mixedOrders = true)
  (h0:hj (List.replicate l.length false) a { w with drawn:=w.drawn + 1 })
  (vP:∀ x a w,hj x a w→x.length = l.length→Region.ready .any l.toArray x.toArray = []→h1 .normal a w)
  (ku:∀ x a w i o,hj x a w→Closed l x→x.length = l.length→l[i]? = some o→x[i]? = some false→(∀ e ∈ o.after,Region.binds .any e = true→x[e.on]? = some true) →
   (if Region.wanted o (yielded l.toArray a.tmps) then o.wp P a w (fun a' w'=>hj (x.set i true) a' w') h1 else hj (x.set i true) (a.put o.dst M) w)) :
  (Code.region id l.toArray true).wp P h1 a w:=by
 refine cE (fun x a w=>hj x a w∧Closed l x) hm ⟨h0,fun i o _ hi=>by rw [yG] at hi; split at hi <;> simp at hi⟩ (fun x a w h=>vP x a w h.1) ?_
 intro x a w i o h hx Z xu G
 have hs:=ku x a w i o h.1 h.2 hx Z xu G
 have hc:=closed_step h.2 Z G
 split
 ·next hw=>rw [if_pos hw] at hs; exact Oper.wp_mono (fun a' w' A=>⟨A,hc⟩) hs
 ·next hw=>rw [if_neg hw] at hs; exact ⟨hs,hc⟩
theorem db {P:Program} {id:Nat} {h1:Exit→Act→World→Prop} {a:Act} {w:World} {l:List Oper} (n:Nat) (hm:P.follows .mixedOrders = true) (hB:Region.lexTailB .any l.toArray n = true)
  (h:wpStill P l.toArray w.drew (fun a'=>wpList P l.toArray h1 (l.drop n) a' w.drew) (l.take n) a):(Code.region id l.toArray true).wp P h1 a w:=wp_region_still_tail n hm hB h
theorem dl {P:Program} {w:World} {o:Oper} {a:Act} {tg:Act→World→Prop} {h1:Exit→Act→World→Prop} (s x:Operand) (t:TypeId)
  (Z:o.op = .call { callee:=.builtin .append,args:=#[s,x],argTypes:=#[t,t] })
  (base:Nat) (e:TypeId) (i:TypeInfo) (size:Nat) (ht:P.underlying t = some (.slice e)) (hi:P.info? e = some i)
  (v:Value) (n:Nat) (xs:List Value) (hs:a.eval s = v) (xK:w.ownsRow base e size v n xs) (hx:a.eval x = .slice none 0 0)
  (h:tg (a.put o.dst v) w):o.wp P a w tg h1:=by
 have hrun:=run_append_owned_none (P:=P) (w:=w) base t o.type e i size ht hi v n xs xK
 unfold Oper.wp
 simp [execOp,Z,resolve,invoke,builtin,hs,hx,hrun,Result.andThen]
 exact h
theorem ye {l : List Oper} {x : List Bool} (h : Closed l x) (i : Nat) {o : Oper} (Z : l[i]? = some o) (hi : x[i]? = some true) (j : Nat) (hm : (o.after.toList.any fun e => e.on == j && Region.binds .any e) = true) : x[j]? = some true := yd (h i o Z hi) j hm
theorem count_setT:∀ (x:List Bool) (i:Nat),x[i]? = some false→(x.set i true).count true = x.count true + 1
 | [],i,h=>by simp at h
 | b :: r,0,h=>by simp at h; subst h; simp
 | b :: r,i + 1,h=>by
  have ih:=count_setT r i (by simpa using h)
  simp only [List.set_cons_succ,List.count_cons]
  omega
def RS (B0:Nat→World→Prop) (hb:(Nat→Value)→Act) (k:Nat) (dp:Prop→World→Nat→Value→Prop) (x:List Bool) (hR:Act) (W:World):Prop :=
 ∃ f,hR = hb f∧(¬ x[k]? = some true→B0 (x.count true) W)∧∀ j,x[j]? = some true→dp (x[k]? = some true) W j (f j)
section
variable {B0:Nat→World→Prop} {W W':World} {k:Nat} {dp:Prop→World→Nat→Value→Prop} {x:List Bool} {f:Nat→Value}
theorem aw (h:∀ j,x[j]? = some true→dp (x[k]? = some true) W j (f j)) {i:Nat} (hik:i ≠ k) (xu:x[i]? = some false) (hm:∀ j v,dp (x[k]? = some true) W j v→dp (x[k]? = some true) W' j v) (hB:B0 (x.count true + 1) W') {v:Value} (hv:dp (x[k]? = some true) W' i v) :
  (¬ (x.set i true)[k]? = some true→B0 ((x.set i true).count true) W')∧∀ j,(x.set i true)[j]? = some true→dp ((x.set i true)[k]? = some true) W' j (upd f i v j):=by
 refine ⟨fun _=>by rw [count_setT x i xu]; exact hB,fun j R=>?_⟩
 rw [yU hik]
 by_cases hji:j = i
 ·subst hji; rw [zn]; exact hv
 ·rw [zo _ _ hji]
  rw [yU (fun e=>hji e.symm)] at R
  exact hm _ _ (h j R)
theorem rs_last (h:∀ j,x[j]? = some true→dp (x[k]? = some true) W j (f j)) (hk:x[k]? = some false) (hm:∀ j,j ≠ k→x[j]? = some true→dp False W j (f j)→dp True W' j (f j)) {v:Value} (hv:dp True W' k v) :
  (¬ (x.set k true)[k]? = some true→B0 ((x.set k true).count true) W')∧∀ j,(x.set k true)[j]? = some true→dp ((x.set k true)[k]? = some true) W' j (upd f k v j):=by
 have e:((x.set k true)[k]? = some true) = True:=by
  rw [List.getElem?_set_self (yE.1 hk).1]; simp
 refine ⟨fun hn=>absurd (by rw [e]; trivial) hn,fun j R=>?_⟩
 rw [e]
 by_cases hji:j = k
 ·subst hji; rw [zn]; exact hv
 ·rw [zo _ _ hji]
  rw [yU (fun e=>hji e.symm)] at R
  refine hm j hji R ?_
  have:=h j R
  rw [hk] at this
  simpa using this
end
def PrO (k a b c:Nat):Prop:=∀ W:World,(convert 3 41 (H k)).run Tryz.prog W = .ok (yi a) W∧(binOp .quo 41 (yi a) (yi 4616189618054758400)).run Tryz.prog W = .ok (yi b) W∧(binOp .add 41 (yi 4636666922610458624) (yi b)).run Tryz.prog W = .ok (yi c) W
theorem prO_of {k a b c:Nat} (Q:∀ W:World,(convert 3 41 (H k)).run Tryz.prog W = .ok (yi a) W) (N:FloatKind.f64.format.div a 4616189618054758400 = some b) (h3:FloatKind.f64.format.add 4636666922610458624 b = some c):PrO k a b c :=
 fun W=>⟨Q W,by simp [binOp,Op.floatArith,N],by simp [binOp,Op.floatArith,h3]⟩
theorem prO_0:PrO 0 0 0 4636666922610458624:=prO_of (fun W=>by kernel_rfl) (by kernel_rfl) (by kernel_rfl)
theorem prO_1:PrO 1 4607182418800017408 4598175219545276416 4636684514796503040:=prO_of (fun W=>by kernel_rfl) (by kernel_rfl) (by kernel_rfl)
theorem prO_2:PrO 2 4611686018427387904 4602678819172646912 4636702106982547456:=prO_of (fun W=>by kernel_rfl) (by kernel_rfl) (by kernel_rfl)
theorem prO_3:PrO 3 4613937818241073152 4604930618986332160 4636719699168591872:=prO_of (fun W=>by kernel_rfl) (by kernel_rfl) (by kernel_rfl)
theorem prO_4:PrO 4 4616189618054758400 4607182418800017408 4636737291354636288:=prO_of (fun W=>by kernel_rfl) (by kernel_rfl) (by kernel_rfl)
theorem prO_5:PrO 5 4617315517961601024 4608308318706860032 4636754883540680704:=prO_of (fun W=>by kernel_rfl) (by kernel_rfl) (by kernel_rfl)
theorem prO_6:PrO 6 4618441417868443648 4609434218613702656 4636772475726725120:=prO_of (fun W=>by kernel_rfl) (by kernel_rfl) (by kernel_rfl)
theorem prO_7:PrO 7 4619567317775286272 4610560118520545280 4636790067912769536:=prO_of (fun W=>by kernel_rfl) (by kernel_rfl) (by kernel_rfl)
theorem prO_8:PrO 8 4620693217682128896 4611686018427387904 4636807660098813952:=prO_of (fun W=>by kernel_rfl) (by kernel_rfl) (by kernel_rfl)
theorem prO_any (k:Nat) (h:k < 9):∃ a b c,PrO k a b c:=by
 rcases (by omega:k = 0 ∨ k = 1 ∨ k = 2 ∨ k = 3 ∨ k = 4 ∨ k = 5 ∨ k = 6 ∨ k = 7 ∨ k = 8) with rfl | rfl | rfl | rfl | rfl | rfl | rfl | rfl | rfl
 ·exact ⟨_,_,_,prO_0⟩
 ·exact ⟨_,_,_,prO_1⟩
 ·exact ⟨_,_,_,prO_2⟩
 ·exact ⟨_,_,_,prO_3⟩
 ·exact ⟨_,_,_,prO_4⟩
 ·exact ⟨_,_,_,prO_5⟩
 ·exact ⟨_,_,_,prO_6⟩
 ·exact ⟨_,_,_,prO_7⟩
 ·exact ⟨_,_,_,prO_8⟩
def fbit (x:Nat):Nat:=if nanB x = true then 9221120237041090560 else x
theorem floatBits_any (x:Nat) (w:World) :
  Calls Tryz.prog 161 #[yi x] w fun e w'=>e = yl (.int .u64 (fbit x))∧w' = w:=by
 have F:=fbits
 cases h:nanB x
 case true =>
  have HX:Hid (fbit x = 9221120237041090560):=if_pos h
  go_enter Tryz.func161,Tryz.ntmps161
  go_wp2_with (go_at_call 167; refine (isNaN_any _ _).mono ?_; rintro e w' ⟨rfl,rfl⟩)
  go_ret
  exact ⟨by rw [U HX]; rfl,rfl⟩
 case false =>
  have HX:Hid (fbit x = x):=if_neg (by rw [h]; decide)
  go_enter Tryz.func161,Tryz.ntmps161
  go_wp2_with (go_at_call 167; refine (isNaN_any _ _).mono ?_; rintro e w' ⟨rfl,rfl⟩)
  go_ret
  exact ⟨by rw [U HX]; rfl,rfl⟩
end Go.Proofs.YtbakanofkghmiaaGreat
namespace Go.Proofs.YtbakanofkghmiaaGreat
open Go Ieee

theorem fb:double.fractionBits = 52:=rfl
theorem lp:double.leastPlace = -1074:=by decide
theorem bin:double.binade = 4503599627370496:=by decide
theorem inf:double.infRung = 9218868437227405312:=by decide
theorem sw:double.signWeight = 9223372036854775808:=by decide
theorem read_mag {x:Nat} {s:Bool} {m:Nat} {i:Int} (h:double.read x = .number s m i):m < 9007199254740992:=by
 unfold Format.read at h
 simp only [bin,inf,sw] at h
 split at h
 ·simp only [Datum.number.injEq] at h; omega
 ·split at h
  ·simp only [Datum.number.injEq] at h; omega
  ·split at h <;> cases h
theorem read_zero:double.read 0 = .number false 0 (-1074):=by decide
theorem read_top:double.read 4687829947429945344 = .number false 8589934592000000 (-35):=by decide
theorem read_four:double.read 4616189618054758400 = .number false 4503599627370496 (-50):=by decide
theorem signed_neg (m a:Nat):signed true m a ≤ 0:=by
 show -((m <<< a:Nat):Int) ≤ 0
 exact Int.neg_nonpos_of_nonneg (Int.natCast_nonneg _)
theorem above_zero {x:Nat} (h:double.order x 0 = some .gt):double.read x = .infinity false ∨ ∃ m i,double.read x = .number false m i∧m ≠ 0:=by
 unfold Format.order at h
 rw [read_zero] at h
 cases hx:double.read x with
 | nan s f=>rw [hx] at h; simp [Datum.order] at h
 | infinity s=>cases s with
  | false=>exact .inl rfl
  | true=>rw [hx] at h; simp [Datum.order] at h
 | number s m i =>
  rw [hx] at h
  simp only [Datum.order,Option.some.injEq] at h
  have hz:∀ b,signed false 0 b = 0:=fun b=>by simp [signed]
  rw [hz] at h
  have hgt:=Std.compare_eq_gt.1 h
  cases s with
  | false =>
   refine .inr ⟨m,i,rfl,fun e=>?_⟩
   subst e
   rw [hz] at hgt
   exact absurd hgt (by decide)
  | true =>
   exact absurd hgt (Int.not_lt.2 (signed_neg m _))
theorem log_le {m k:Nat} (hm:m ≠ 0) (h:m < 2 ^ k):m.log2 < k:=(Nat.log2_lt hm).2 h
theorem within {m:Nat} {i:Int} {x:Nat} (hx:double.read x = .number false m i) (hm:m ≠ 0) (h:double.order x 4687829947429945344 = some .lt ∨ double.order x 4687829947429945344 = some .eq):i + m.log2 ≤ 17:=by
 have hmag:=read_mag hx
 unfold Format.order at h
 rw [read_top,hx] at h
 simp only [Datum.order,Option.some.injEq] at h
 have jo:signed false m (i - min i (-35)).toNat ≤ signed false 8589934592000000 (-35 - min i (-35)).toNat:=by
  rcases h with h | h
  ·exact Int.le_of_lt (Std.compare_eq_lt.1 h)
  ·exact Int.le_of_eq (Std.LawfulEqCmp.eq_of_compare h)
 by_cases hi:i < -35
 ·have:=log_le hm (show m < 2 ^ 53 by omega)
  omega
 ·have e1:min i (-35) = -35:=by omega
  rw [e1] at jo
  have e2:((-35:Int) - -35).toNat = 0:=by decide
  rw [e2] at jo
  have hle':(m <<< (i - -35).toNat:Nat) ≤ (8589934592000000 <<< 0:Nat):=by
   have:((m <<< (i - -35).toNat:Nat):Int) ≤ ((8589934592000000 <<< 0:Nat):Int):=jo
   omega
  rw [Nat.shiftLeft_eq,Nat.shiftLeft_zero] at hle'
  have hlog:m.log2 + (i - -35).toNat < 53:=by
   have Q:2 ^ m.log2 ≤ m:=Nat.log2_self_le hm
   have N:2 ^ (m.log2 + (i - -35).toNat) ≤ m * 2 ^ (i - -35).toNat:=by
    rw [Nat.pow_add]; exact Nat.mul_le_mul_right _ Q
   have h3:2 ^ (m.log2 + (i - -35).toNat) < 2 ^ 53:=by omega
   exact (Nat.pow_lt_pow_iff_right (by decide)).1 h3
  omega
theorem log_up {m:Nat} (hm:m ≠ 0):(m * 4503599627370496).log2 = m.log2 + 52:=by
 have h:=(Nat.log2_eq_iff hm).1 rfl
 refine (Nat.log2_eq_iff (by omega)).2 ?_
 rw [Nat.pow_add,show m.log2 + 52 + 1 = (m.log2 + 1) + 52 by omega,Nat.pow_add 2 (m.log2 + 1) 52,show (2:Nat) ^ 52 = 4503599627370496 from rfl]
 exact ⟨Nat.mul_le_mul_right _ h.1,Nat.mul_lt_mul_of_pos_right h.2 (by decide)⟩
theorem cut_le (n p drop:Nat) (hn:n < 2 ^ (p + 53)) (hp:p ≤ drop) (hl:p ≤ n.log2 + 2):Toward.even.cut false n drop ≤ 9007199254740993:=by
 unfold Toward.cut
 simp only
 have hg:2 ^ p ≤ 1 <<< min drop (n.log2 + 2):=by
  rw [Nat.one_shiftLeft]
  exact Nat.pow_le_pow_right (by decide) (by omega)
 have hq:n / (1 <<< min drop (n.log2 + 2)) ≤ 9007199254740992:=by
  refine yL (Nat.div_le_div_left hg (Nat.two_pow_pos p)) ?_
  have:n / 2 ^ p < 2 ^ 53:=by
   rw [Nat.div_lt_iff_lt_mul (Nat.two_pow_pos p),← Nat.pow_add,Nat.add_comm]
   exact hn
  omega
 have F:∀ b:Bool,b.toNat ≤ 1:=by decide
 have:=F (decide (1 <<< min drop (n.log2 + 2) < 2 * (n % 1 <<< min drop (n.log2 + 2))) || (1 <<< min drop (n.log2 + 2) == 2 * (n % 1 <<< min drop (n.log2 + 2)) && n / 1 <<< min drop (n.log2 + 2) % 2 == 1))
 omega
theorem near_le {m:Nat} {i:Int} (hm:m ≠ 0) (hi:i + m.log2 ≤ 17):double.nearest false (m * 4503599627370496) (i + -50) < 1075 * 4503599627370496:=by
 have hmag:¬ m * 4503599627370496 = 0:=by omega
 have hlog:=log_up hm
 have xH:m * 4503599627370496 < 2 ^ (m.log2 + 53):=by
  have h:=((Nat.log2_eq_iff hm).1 rfl).2
  rw [show m.log2 + 53 = (m.log2 + 1) + 52 by omega,Nat.pow_add 2 (m.log2 + 1) 52,show (2:Nat) ^ 52 = 4503599627370496 from rfl]
  exact Nat.mul_lt_mul_of_pos_right h (by decide)
 unfold Format.nearest
 rw [if_neg hmag]
 simp only [hlog,fb,lp,bin,inf,Format.word,Bool.false_eq_true,if_false]
 have hlast:i + -50 + ((m.log2 + 52:Nat):Int) - (52:Nat) ≤ max (i + -50 + ((m.log2 + 52:Nat):Int) - (52:Nat)) (-1074):=Int.le_max_left _ _
 have hup:max (i + -50 + ((m.log2 + 52:Nat):Int) - (52:Nat)) (-1074) ≤ -33:=Int.max_le.2 ⟨by omega,by omega⟩
 generalize max (i + -50 + ((m.log2 + 52:Nat):Int) - (52:Nat)) (-1074) = last at *
 have e0:(i + -50 - last).toNat = 0:=by omega
 rw [e0,Nat.shiftLeft_zero]
 have hc:=cut_le (m * 4503599627370496) m.log2 (last - (i + -50)).toNat xH (by omega) (by omega)
 generalize Toward.even.cut false (m * 4503599627370496) (last - (i + -50)).toNat = kept at *
 have e1:(last - -1074).toNat ≤ 1041:=by omega
 have e2:(last - -1074).toNat * 4503599627370496 ≤ 1041 * 4503599627370496:=Nat.mul_le_mul_right _ e1
 omega
theorem whole {r:Nat} (h:r < 1075 * 4503599627370496):∃ n:Nat,(double.read r).toInt .zero = some (n:Int)∧n < 9007199254740992:=by
 have hneg:(r / 9223372036854775808 % 2 == 1) = false:=by simp; omega
 have hr:r % 9223372036854775808 = r:=by omega
 have cutz:∀ (n d:Nat),Toward.zero.cut false n d ≤ n:=by
  intro n d
  unfold Toward.cut
  simp only [Bool.toNat_false,Nat.add_zero]
  exact Nat.div_le_self _ _
 unfold Format.read
 simp only [bin,inf,sw,hneg,hr,lp]
 split
 ·refine ⟨Toward.zero.cut false (r <<< (-1074:Int).toNat) (1074:Int).toNat,?_,?_⟩
  ·simp [Datum.toInt,Datum.integral,signed]
  ·have:=cutz (r <<< (-1074:Int).toNat) (1074:Int).toNat
   rw [show (-1074:Int).toNat = 0 from rfl,Nat.shiftLeft_zero] at this ⊢
   omega
 ·rw [if_pos (by omega)]
  have hi:(-1074 + ((r / 4503599627370496 - 1:Nat):Int)).toNat = 0:=by omega
  refine ⟨Toward.zero.cut false ((4503599627370496 + r % 4503599627370496) <<< (-1074 + ((r / 4503599627370496 - 1:Nat):Int)).toNat) (-(-1074 + ((r / 4503599627370496 - 1:Nat):Int))).toNat,?_,?_⟩
  ·simp [Datum.toInt,Datum.integral,signed]
  ·have:=cutz ((4503599627370496 + r % 4503599627370496) <<< (-1074 + ((r / 4503599627370496 - 1:Nat):Int)).toNat) (-(-1074 + ((r / 4503599627370496 - 1:Nat):Int))).toNat
   rw [hi,Nat.shiftLeft_zero] at this ⊢
   omega
theorem price_four {x:Nat} (h0:double.order x 0 = some .gt) (Q:double.order x 4687829947429945344 = some .lt ∨ double.order x 4687829947429945344 = some .eq) :
  ∃ (r n:Nat),double.mul x 4616189618054758400 = some r∧(double.read r).toInt .zero = some (n:Int)∧n < 9007199254740992:=by
 rcases above_zero h0 with hx | ⟨m,i,hx,hm⟩
 ·exfalso
  unfold Format.order at Q
  rw [hx,read_top] at Q
  simp [Datum.order] at Q
 ·have hw:=within hx hm Q
  have jq:double.mul x 4616189618054758400 = some (double.nearest false (m * 4503599627370496) (i + -50)):=by
   unfold Format.mul
   rw [hx,read_four]
   rfl
  obtain ⟨n,N,h3⟩:=whole (near_le hm hw)
  exact ⟨_,n,jq,N,h3⟩
end Go.Proofs.YtbakanofkghmiaaGreat
