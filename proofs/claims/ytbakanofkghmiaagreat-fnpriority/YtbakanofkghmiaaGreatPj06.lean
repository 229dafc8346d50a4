/-
  A region that draws its order, with one operation that writes: what holds of each value that has come up, world by world. No function walked.
-/
import Derived.Test.YtbakanofkghmiaaGreatPj05
import Derived.StillTailTactics
set_option linter.unusedVariables false
set_option maxHeartbeats 6400000
set_option maxRecDepth 100000
namespace Go.Proofs.YtbakanofkghmiaaGreat
open Go.RowKit
def RG (base:World) (xh:(Nat→Value)→Act) (k:Nat) (xd:Prop→World→Nat→Value→Prop) (x:List Bool) (hR:Act) (W:World):Prop :=
 ∃ f,hR = xh f∧yl base W∧∀ j,x[j]? = some true→xd (x[k]? = some true) W j (f j)
section
variable {base W W':World} {xh:(Nat→Value)→Act} {k:Nat} {xd:Prop→World→Nat→Value→Prop} {x:List Bool} {f:Nat→Value}
theorem bP (hm:∀ p W W' j v,yl W W'→xd p W j v→xd p W' j v) (hb:yl base W) (h:∀ j,x[j]? = some true→xd (x[k]? = some true) W j (f j)) (hg:yl W W') {i:Nat} (hik:i ≠ k) {v:Value} (hv:xd (x[k]? = some true) W' i v) :
  yl base W'∧∀ j,(x.set i true)[j]? = some true→xd ((x.set i true)[k]? = some true) W' j (upd f i v j):=by
 refine ⟨hb.trans (hg.mono hb.size),fun j L=>?_⟩
 rw [yT hik]
 by_cases hji:j = i
 ·subst hji; rw [zp]; exact hv
 ·rw [zr _ _ hji]
  rw [yT (fun e=>hji e.symm)] at L
  exact hm _ _ _ _ _ hg (h j L)
theorem zc (hb:yl base W) (h:∀ j,x[j]? = some true→xd (x[k]? = some true) W j (f j)) {i:Nat} (hik:i ≠ k) {v:Value} (hv:xd (x[k]? = some true) W i v) :
  yl base W∧∀ j,(x.set i true)[j]? = some true→xd ((x.set i true)[k]? = some true) W j (upd f i v j):=by
 refine ⟨hb,fun j L=>?_⟩
 rw [yT hik]
 by_cases hji:j = i
 ·subst hji; rw [zp]; exact hv
 ·rw [zr _ _ hji]
  rw [yT (fun e=>hji e.symm)] at L
  exact h j L
end
theorem set_monoG {x:List Bool} {i j:Nat} (h:x[j]? = some true):(x.set i true)[j]? = some true:=by
 by_cases ar:i = j
 ·subst ar; exact List.getElem?_set_self (yD.1 h).1
 ·rw [yT ar]; exact h
def Closed (l:List Oper) (x:List Bool):Prop:=∀ (i:Nat) (o:Oper),l[i]? = some o→x[i]? = some true→∀ e ∈ o.after,Region.binds .any e = true→x[e.on]? = some true
theorem closed_step {l:List Oper} {x:List Bool} {i:Nat} {o:Oper} (h:Closed l x) (Y:l[i]? = some o) (D:∀ e ∈ o.after,Region.binds .any e = true→x[e.on]? = some true):Closed l (x.set i true):=by
 intro j o' vk L e he hb
 by_cases hji:j = i
 ·subst hji
  rw [Y] at vk
  obtain rfl:=hD vk
  exact set_monoG (D e he hb)
 ·rw [yT (fun e=>hji e.symm)] at L
  exact set_monoG (h j o' vk L e he hb)
theorem zi {P:Program} {ya:Exit→Act→World→Prop} {l:List Oper} (R:List Bool→Act→World→Prop) {id:Nat} {a:Act} {w:World} (hm:P.follows .mixedOrders = true)
  (h0:R (List.replicate l.length false) a { w with drawn:=w.drawn + 1 })
  (vT:∀ x a w,R x a w→x.length = l.length→Region.ready .any l.toArray x.toArray = []→ya .normal a w)
  (kq:∀ x a w i o,R x a w→Closed l x→x.length = l.length→l[i]? = some o→x[i]? = some false→(∀ e ∈ o.after,Region.binds .any e = true→x[e.on]? = some true) →
   (if Region.wanted o (yielded l.toArray a.tmps) then o.wp P a w (fun a' w'=>R (x.set i true) a' w') ya else R (x.set i true) (a.put o.dst Z) w)) :
  (Code.region id l.toArray true).wp P ya a w:=by
 refine dl (fun x a w=>R x a w∧Closed l x) hm ⟨h0,fun i o _ hi=>by rw [yF] at hi; split at hi <;> simp at hi⟩ (fun x a w h=>vT x a w h.1) ?_
 intro x a w i o h hx Y xq D
 have hs:=kq x a w i o h.1 h.2 hx Y xq D
 have hc:=closed_step h.2 Y D
 split
 ·next hw=>rw [if_pos hw] at hs; exact Oper.wp_mono (fun a' w' A=>⟨A,hc⟩) hs
 ·next hw=>rw [if_neg hw] at hs; exact ⟨hs,hc⟩
theorem ek {P:Program} {id:Nat} {ya:Exit→Act→World→Prop} {a:Act} {w:World} {l:List Oper} (n:Nat) (hm:P.follows .mixedOrders = true) (hB:Region.lexTailB .any l.toArray n = true)
  (h:wpStill P l.toArray w.drew (fun a'=>wpList P l.toArray ya (l.drop n) a' w.drew) (l.take n) a):(Code.region id l.toArray true).wp P ya a w:=wp_region_still_tail n hm hB h
theorem eC {P:Program} {w:World} {o:Oper} {a:Act} {h2:Act→World→Prop} {ya:Exit→Act→World→Prop} (s x:Operand) (t:TypeId)
  (Y:o.op = .call { callee:=.builtin .append,args:=#[s,x],argTypes:=#[t,t] })
  (base:Nat) (e:TypeId) (i:TypeInfo) (size:Nat) (ht:P.underlying t = some (.slice e)) (hi:P.info? e = some i)
  (v:Value) (n:Nat) (xs:List Value) (hs:a.eval s = v) (xN:w.ownsRow base e size v n xs) (hx:a.eval x = .slice none 0 0)
  (h:h2 (a.put o.dst v) w):o.wp P a w h2 ya:=by
 have hrun:=run_append_owned_none (P:=P) (w:=w) base t o.type e i size ht hi v n xs xN
 unfold Oper.wp
 simp [execOp,Y,resolve,invoke,builtin,hs,hx,hrun,Result.andThen]
 exact h
theorem yd {l : List Oper} {x : List Bool} (h : Closed l x) (i : Nat) {o : Oper} (Y : l[i]? = some o) (hi : x[i]? = some true) (j : Nat) (hm : (o.after.toList.any fun e => e.on == j && Region.binds .any e) = true) : x[j]? = some true := yc (h i o Y hi) j hm
theorem count_setT:∀ (x:List Bool) (i:Nat),x[i]? = some false→(x.set i true).count true = x.count true + 1
 | [],i,h=>by simp at h
 | b :: r,0,h=>by simp at h; subst h; simp
 | b :: r,i + 1,h=>by
  have ih:=count_setT r i (by simpa using h)
  simp only [List.set_cons_succ,List.count_cons]
  omega
def RS (B0:Nat→World→Prop) (xh:(Nat→Value)→Act) (k:Nat) (xd:Prop→World→Nat→Value→Prop) (x:List Bool) (hR:Act) (W:World):Prop :=
 ∃ f,hR = xh f∧(¬ x[k]? = some true→B0 (x.count true) W)∧∀ j,x[j]? = some true→xd (x[k]? = some true) W j (f j)
section
variable {B0:Nat→World→Prop} {W W':World} {k:Nat} {xd:Prop→World→Nat→Value→Prop} {x:List Bool} {f:Nat→Value}
theorem aX (h:∀ j,x[j]? = some true→xd (x[k]? = some true) W j (f j)) {i:Nat} (hik:i ≠ k) (xq:x[i]? = some false) (hm:∀ j v,xd (x[k]? = some true) W j v→xd (x[k]? = some true) W' j v) (hB:B0 (x.count true + 1) W') {v:Value} (hv:xd (x[k]? = some true) W' i v) :
  (¬ (x.set i true)[k]? = some true→B0 ((x.set i true).count true) W')∧∀ j,(x.set i true)[j]? = some true→xd ((x.set i true)[k]? = some true) W' j (upd f i v j):=by
 refine ⟨fun _=>by rw [count_setT x i xq]; exact hB,fun j L=>?_⟩
 rw [yT hik]
 by_cases hji:j = i
 ·subst hji; rw [zp]; exact hv
 ·rw [zr _ _ hji]
  rw [yT (fun e=>hji e.symm)] at L
  exact hm _ _ (h j L)
theorem rs_last (h:∀ j,x[j]? = some true→xd (x[k]? = some true) W j (f j)) (hk:x[k]? = some false) (hm:∀ j,j ≠ k→x[j]? = some true→xd False W j (f j)→xd True W' j (f j)) {v:Value} (hv:xd True W' k v) :
  (¬ (x.set k true)[k]? = some true→B0 ((x.set k true).count true) W')∧∀ j,(x.set k true)[j]? = some true→xd ((x.set k true)[k]? = some true) W' j (upd f k v j):=by
 have e:((x.set k true)[k]? = some true) = True:=by
  rw [List.getElem?_set_self (yD.1 hk).1]; simp
 refine ⟨fun hn=>absurd (by rw [e]; trivial) hn,fun j L=>?_⟩
 rw [e]
 by_cases hji:j = k
 ·subst hji; rw [zp]; exact hv
 ·rw [zr _ _ hji]
  rw [yT (fun e=>hji e.symm)] at L
  refine hm j hji L ?_
  have:=h j L
  rw [hk] at this
  simpa using this
end
def PrO (k a b c:Nat):Prop:=∀ W:World,(convert 3 41 (H k)).run Tryz.prog W = .ok (yh a) W∧(binOp .quo 41 (yh a) (yh 4616189618054758400)).run Tryz.prog W = .ok (yh b) W∧(binOp .add 41 (yh 4636666922610458624) (yh b)).run Tryz.prog W = .ok (yh c) W
theorem prO_of {k a b c:Nat} (z:∀ W:World,(convert 3 41 (H k)).run Tryz.prog W = .ok (yh a) W) (K:FloatKind.f64.format.div a 4616189618054758400 = some b) (h3:FloatKind.f64.format.add 4636666922610458624 b = some c):PrO k a b c :=
 fun W=>⟨z W,by simp [binOp,Op.floatArith,K],by simp [binOp,Op.floatArith,h3]⟩
theorem prO_0:PrO 0 0 0 4636666922610458624:=prO_of (fun W=>by kernel_rfl) (by kernel_rfl) (by kernel_rfl)
theorem prO_1:PrO 1 4607182418800017408 4598175219545276416 4636684514796503040:=prO_of (fun W=>by kernel_rfl) (by kernel_rfl) (by kernel_rfl)
theorem prO_2:PrO 2 4611686018427387904 4602678819172646912 4636702106982547456:=prO_of (fun W=>by kernel_rfl) (by kernel_rfl) (by kernel_rfl)
theorem prO_3:PrO 3 4613937818241073152 4604930618986332160 4636719699168591872:=prO_of (fun W=>by kernel_rfl) (by kernel_rfl) (by kernel_rfl)
theorem prO_4:PrO 4 4616189618054758400 4607182418800017408 4636737291354636288:=prO_of (fun W=>by kernel_rfl) (by kernel_rfl) (by kernel_rfl)
theorem prO_5:PrO 5 4617315517961601024 4608308318706860032 4636754883540680704:=prO_of (fun W=>by kernel_rfl) (by kernel_rfl) (by kernel_rfl)
theorem prO_6:PrO 6 4618441417868443648 4609434218613702656 4636772475726725120:=prO_of (fun W=>by kernel_rfl) (by kernel_rfl) (by kernel_rfl)
theorem prO_7:PrO 7 4619567317775286272 4610560118520545280 4636790067912769536:=prO_of (fun W=>by kernel_rfl) (by kernel_rfl) (by kernel_rfl)
theorem prO_8:PrO 8 4620693217682128896 4611686018427387904 4636807660098813952:=prO_of (fun W=>by kernel_rfl) (by kernel_rfl) (by kernel_rfl)
theorem prO_any (k:Nat) (h:k < 9):∃ a b c,PrO k a b c∧PrW c:=by
 rcases (by omega:k = 0 ∨ k = 1 ∨ k = 2 ∨ k = 3 ∨ k = 4 ∨ k = 5 ∨ k = 6 ∨ k = 7 ∨ k = 8) with rfl | rfl | rfl | rfl | rfl | rfl | rfl | rfl | rfl
 ·exact ⟨_,_,_,prO_0,bi (by kernel_rfl)⟩
 ·exact ⟨_,_,_,prO_1,bi (by kernel_rfl)⟩
 ·exact ⟨_,_,_,prO_2,bi (by kernel_rfl)⟩
 ·exact ⟨_,_,_,prO_3,bi (by kernel_rfl)⟩
 ·exact ⟨_,_,_,prO_4,bi (by kernel_rfl)⟩
 ·exact ⟨_,_,_,prO_5,bi (by kernel_rfl)⟩
 ·exact ⟨_,_,_,prO_6,bi (by kernel_rfl)⟩
 ·exact ⟨_,_,_,prO_7,bi (by kernel_rfl)⟩
 ·exact ⟨_,_,_,prO_8,bi (by kernel_rfl)⟩
def insT (s:Bool) (k:Int):List Int→List Int
 | []=>[k]
 | a :: r=>if bt s k a then k :: a :: r else if k = a then a :: r else a :: insT s k r
theorem insT_mem (s:Bool) (k x:Int):∀ T:List Int,x ∈ insT s k T ↔ x = k ∨ x ∈ T
 | []=>by simp [insT]
 | a :: r=>by
  rw [insT]
  split
  ·simp
  ·split
   ·next h=>subst h; simp
   ·simp [insT_mem s k x r]; constructor
    ·rintro (h | h | h) <;> simp [h]
    ·rintro (h | h | h) <;> simp [h]
theorem insT_sorted (s:Bool) (k:Int):∀ T:List Int,T.Pairwise (bt s)→(insT s k T).Pairwise (bt s)
 | [],_=>by simp [insT]
 | a :: r,h=>by
  obtain ⟨p1,p2⟩:=List.pairwise_cons.1 h
  rw [insT]
  split
  ·next hk=>exact List.pairwise_cons.2 ⟨fun x hx=>by
    rcases List.mem_cons.1 hx with rfl | hx
    ·exact hk
    ·exact bt_trans hk (p1 x hx),h⟩
  ·next hk =>
   split
   ·exact h
   ·next xA =>
    refine List.pairwise_cons.2 ⟨fun x hx=>?_,insT_sorted s k r p2⟩
    rcases (insT_mem s k x r).1 hx with rfl | hx
    ·rcases bt_total s x a with z | z | z
     ·exact absurd z hk
     ·exact absurd z xA
     ·exact z
    ·exact p1 x hx
def tks (s:Bool):List Od→List Int
 | []=>[]
 | o :: r=>insT s o.ticks (tks s r)
theorem aW (s:Bool):∀ seq:List Od,IsT s seq (tks s seq)
 | []=>⟨by simp [tks],by simp [tks]⟩
 | o :: r=>by
  have ih:=aW s r
  refine ⟨insT_sorted s _ _ ih.sorted,fun k=>?_⟩
  rw [tks,insT_mem,ih.mem]
  constructor
  ·rintro (rfl | ⟨o',z,K⟩)
   ·exact ⟨o,by simp,rfl⟩
   ·exact ⟨o',by simp [z],K⟩
  ·rintro ⟨o',z,K⟩
   rcases List.mem_cons.1 z with rfl | z
   ·exact .inl K.symm
   ·exact .inr ⟨o',z,K⟩
theorem eB {s:Bool}:∀ {hR B:List Int},hR.Pairwise (bt s)→B.Pairwise (bt s)→(∀ k,k ∈ hR ↔ k ∈ B)→hR = B
 | [],B,_,_,h=>by
  cases B with
  | nil=>rfl
  | cons b r=>exact absurd ((h b).2 (by simp)) (by simp)
 | a :: hR,[],_,_,h=>absurd ((h a).1 (by simp)) (by simp)
 | a :: hR,b :: B,hA,hB,h=>by
  obtain ⟨p1,p2⟩:=List.pairwise_cons.1 hA
  obtain ⟨q1,q2⟩:=List.pairwise_cons.1 hB
  have hab:a = b:=by
   rcases List.mem_cons.1 ((h a).1 (by simp)) with e | e
   ·exact e
   ·rcases List.mem_cons.1 ((h b).2 (by simp)) with e' | e'
    ·exact e'.symm
    ·exact absurd (p1 b e') (bt_asymm (q1 a e))
  subst hab
  rw [eB p2 q2 fun k=>⟨fun hk=>?_,fun hk=>?_⟩]
  ·rcases List.mem_cons.1 ((h k).1 (by simp [hk])) with e | e
   ·subst e; exact absurd (p1 _ hk) (cn _ _)
   ·exact e
  ·rcases List.mem_cons.1 ((h k).2 (by simp [hk])) with e | e
   ·subst e; exact absurd (q1 _ hk) (cn _ _)
   ·exact e
theorem isT_unique {s:Bool} {seq:List Od} {hR:List Int} (hA:IsT s seq hR):hR = tks s seq :=
 eB hA.sorted (aW s seq).sorted fun k=>(hA.mem k).trans ((aW s seq).mem k).symm
structure Lv where
 side:Int
 ticks:Int
 qty:Int
 count:Int
def Lv.vs (n:Lv):List Value:=[H n.side,H n.ticks,H n.qty,H n.count]
theorem Lv.len (o:Lv):o.vs.length = 4:=rfl
def lvAt (sd:Int) (seq:List Od) (k:Int):Lv:=⟨sd,k,sumL (atK seq k),(atK seq k).length⟩
def aB (s:Bool) (sd:Int) (seq:List Od):List Lv:=(tks s seq).map (lvAt sd seq)
def quOf (s:Bool) (seq:List Od):List Od:=(tks s seq).flatMap (atK seq)
def Nd.lv (n:Nd):Lv:=⟨n.side,n.ticks,n.qty,n.count⟩
theorem dZ {s:Bool} {S:TS} {t:Tr} {sd:Int} {seq:List Od} (hi:TI s S t) (hq:QI S t sd seq):(t.hs.map fun h=>(S.nd h).lv) = aB s sd seq:=by
 rw [aB,← isT_unique (isT_of hi hq),List.map_map]
 refine List.map_congr_left fun h hh=>?_
 have hQ:=hq.q h hh
 show Lv.mk _ _ _ _ = Lv.mk _ _ _ _
 rw [hQ.side,hQ.qty,hQ.cnt]
theorem tree_orders {s:Bool} {S:TS} {t:Tr} {sd:Int} {seq:List Od} (hi:TI s S t) (hq:QI S t sd seq):(t.hs.flatMap fun h=>(qs seq (S.nd h).ticks).map fun i=>(S.qo i).od) = quOf s seq:=by
 rw [quOf,← isT_unique (isT_of hi hq),List.flatMap_map]
 rw [List.flatMap_def,List.flatMap_def]
 congr 1
 refine List.map_congr_left fun h hh=>?_
 exact qsF_map _ _ seq 1 (fun i o Y=>hq.od i o Y)
def zOdv:Value:=.agg (yt 0 0 0 0 0 ⟨#[]⟩).toArray
def frOf (q:List Od):Value:=match q.head? with
 | some o=>.tuple #[o.val,.bool true]
 | none=>.tuple #[zOdv,.bool false]
def betB (n a b:Int):Bool:=decide (a ≤ n) && decide (n ≤ b)
theorem zE (n a b:Int) (w:World) :
  Calls Tryz.prog 35 #[H n,H a,H b] w fun e w'=>e = yk (.bool (betB n a b))∧w' = w:=by
 go_enter Tryz.func35,Tryz.ntmps35
 go_wp2
 all_goals go_ret
 all_goals exact ⟨zl (by rw [Bool.eq_iff_iff]; simp [betB]; omega),rfl⟩
theorem cW (n:Int) (w:World) :
  Calls Tryz.prog 72 #[H n] w fun e w'=>e = yk (.bool (betB n 1 2))∧w' = w:=by
 go_enter Tryz.func72,Tryz.ntmps72
 go_wp2
 all_goals go_ret
 all_goals exact ⟨zl (by rw [Bool.eq_iff_iff]; simp [betB]; omega),rfl⟩
theorem cV (n:Int) (w:World) :
  Calls Tryz.prog 73 #[H n] w fun e w'=>e = yk (.bool (betB n 0 1))∧w' = w:=by
 go_enter Tryz.func73,Tryz.ntmps73
 go_wp2
 all_goals go_ret
 all_goals exact ⟨zl (by rw [Bool.eq_iff_iff]; simp [betB]; omega),rfl⟩
def tagC (c:UInt8):Bool:=betB c.toNat 32 126
def tagB (s:ByteArray):Bool:=decide (s.size ≤ 12) && s.data.toList.all tagC
theorem drop_cons (s:ByteArray) (k:Nat) (h:k < s.size):s.data.toList.drop k = s[k] :: s.data.toList.drop (k + 1):=by
 rw [get_nat s k h]
 exact yZ (by rw [data_len]; exact h)
theorem tag_yes (s:ByteArray) (h:s.size ≤ 12) (hk:s.data.toList.all tagC = true):tagB s = true:=by simp only [tagB,hk,decide_eq_true h,Bool.and_true]
theorem tag_long (s:ByteArray) (h:¬ s.size ≤ 12):tagB s = false:=by simp only [tagB,decide_eq_false h,Bool.false_and]
theorem tag_no (s:ByteArray) (hk:s.data.toList.all tagC = false):tagB s = false:=by simp only [tagB,hk,Bool.and_false]
theorem isTag_any (s:ByteArray) (w:World) (hs:s.size ≤ maxLen) :
  Calls Tryz.prog 74 #[yi s] w fun e w'=>e = yk (.bool (tagB s))∧w' = w:=by
 unfold maxLen at hs
 by_cases hl:s.size ≤ 12
 ·have hl':¬ ((12:Int) < s.size):=by omega
  go_enter Tryz.func74,Tryz.ntmps74
  go_wp2_with fail
  go_loop [9] (fun i=>∃ k:Nat,k ≤ s.size∧i = H k∧Hid (s.data.toList.all tagC = (s.data.toList.drop k).all tagC)) (fun i=>s.size - (intOf i).toNat)
  case atStart=>exact ⟨0,Nat.zero_le _,rfl,by simp [Hid]⟩
  case round =>
   obtain ⟨k,hk,rfl,D⟩:=hrel
   by_cases xL:k < s.size
   ·have uO:(k:Int) < s.size:=by omega
    have jW:=drop_cons s k xL
    have hgen:∃ c,c = s[k]:=⟨_,rfl⟩
    obtain ⟨c,hc⟩:=hgen
    have hw:betB (wrap64 (s[k].toNat:Int)) 32 126 = tagC c:=by
     have hlt256:=UInt8.toNat_lt s[k]
     rw [hc,show wrap64 (s[k].toNat:Int) = (s[k].toNat:Int) by unfold wrap64; omega]; rfl
    cases ht:tagC c
    ·rw [ht] at hw
     have HT:Hid (s.data.toList.all tagC = false):=by
      have:=M D
      rw [jW,List.all_cons,← hc,ht,Bool.false_and] at this
      exact this
     clear jW hc ht
     go_wp2_with fail
     refine (zE (wrap64 (s[k].toNat:Int)) 32 126 w).mono ?_
     rintro e w1 ⟨rfl,rfl⟩
     go_wp2_with fail
     go_ret
     exact ⟨zl (tag_no s (M HT)).symm,rfl⟩
    ·rw [ht] at hw
     have HN:Hid (s.data.toList.all tagC = (s.data.toList.drop (k + 1)).all tagC):=by
      have:=M D
      rw [jW,List.all_cons,← hc,ht,Bool.true_and] at this
      exact this
     clear jW hc ht
     go_wp2_with fail
     refine (zE (wrap64 (s[k].toNat:Int)) 32 126 w).mono ?_
     rintro e w1 ⟨rfl,rfl⟩
     go_wp2_with fail
     go_round
     case rel=>exact ⟨k + 1,by omega,by go_num,M HN⟩
     case measure=>simp [intOf]; omega
   ·go_wp2_with fail
    go_ret
    have h:=M D
    rw [yX (by rw [data_len]; omega)] at h
    exact ⟨zl (tag_yes s hl (by rw [h]; rfl)).symm,rfl⟩
 ·have hl':(12:Int) < s.size:=by omega
  go_enter Tryz.func74,Tryz.ntmps74
  go_wp2_with fail
  go_ret
  exact ⟨zl (tag_long s hl).symm,rfl⟩
def ordB (o:Od):Bool:=betB o.side 1 2 && betB o.life 0 1 && tagB o.tag && betB o.ticks 1 1000000 && betB o.left 1 1000000
theorem orderOK_any (o:Od) (w:World) (hs:o.tag.size ≤ maxLen) :
  Calls Tryz.prog 37 #[.agg (yt o.id o.side o.ticks o.left o.life o.tag).toArray] w fun e w'=>e = yk (.bool (ordB o))∧yl w w':=by
 have HT:=Q (fun W=>isTag_any o.tag W hs)
 clear hs
 cases z:betB o.side 1 2
 ·go_enter Tryz.func37,Tryz.ntmps37
  go_wp2_with (first | (go_at_call 72; refine (cW _ _).mono ?_; rintro e w' ⟨rfl,rfl⟩) | (go_at_call 73; refine (cV _ _).mono ?_; rintro e w' ⟨rfl,rfl⟩) | (go_at_call 74; refine (M HT _).mono ?_; rintro e w' ⟨rfl,rfl⟩) | (go_at_call 35; refine (zE _ _ _ _).mono ?_; rintro e w' ⟨rfl,rfl⟩))
  go_ret
  exact ⟨zl (by simp [ordB,z]),by go_grown⟩
 ·
  cases K:betB o.life 0 1
  ·go_enter Tryz.func37,Tryz.ntmps37
   go_wp2_with (first | (go_at_call 72; refine (cW _ _).mono ?_; rintro e w' ⟨rfl,rfl⟩) | (go_at_call 73; refine (cV _ _).mono ?_; rintro e w' ⟨rfl,rfl⟩) | (go_at_call 74; refine (M HT _).mono ?_; rintro e w' ⟨rfl,rfl⟩) | (go_at_call 35; refine (zE _ _ _ _).mono ?_; rintro e w' ⟨rfl,rfl⟩))
   go_ret
   exact ⟨zl (by simp [ordB,z,K]),by go_grown⟩
  ·
   cases h3:tagB o.tag
   ·go_enter Tryz.func37,Tryz.ntmps37
    go_wp2_with (first | (go_at_call 72; refine (cW _ _).mono ?_; rintro e w' ⟨rfl,rfl⟩) | (go_at_call 73; refine (cV _ _).mono ?_; rintro e w' ⟨rfl,rfl⟩) | (go_at_call 74; refine (M HT _).mono ?_; rintro e w' ⟨rfl,rfl⟩) | (go_at_call 35; refine (zE _ _ _ _).mono ?_; rintro e w' ⟨rfl,rfl⟩))
    go_ret
    exact ⟨zl (by simp [ordB,z,K,h3]),by go_grown⟩
   ·
    cases h4:betB o.ticks 1 1000000
    ·go_enter Tryz.func37,Tryz.ntmps37
     go_wp2_with (first | (go_at_call 72; refine (cW _ _).mono ?_; rintro e w' ⟨rfl,rfl⟩) | (go_at_call 73; refine (cV _ _).mono ?_; rintro e w' ⟨rfl,rfl⟩) | (go_at_call 74; refine (M HT _).mono ?_; rintro e w' ⟨rfl,rfl⟩) | (go_at_call 35; refine (zE _ _ _ _).mono ?_; rintro e w' ⟨rfl,rfl⟩))
     go_ret
     exact ⟨zl (by simp [ordB,z,K,h3,h4]),by go_grown⟩
    ·
     cases h5:betB o.left 1 1000000
     ·go_enter Tryz.func37,Tryz.ntmps37
      go_wp2_with (first | (go_at_call 72; refine (cW _ _).mono ?_; rintro e w' ⟨rfl,rfl⟩) | (go_at_call 73; refine (cV _ _).mono ?_; rintro e w' ⟨rfl,rfl⟩) | (go_at_call 74; refine (M HT _).mono ?_; rintro e w' ⟨rfl,rfl⟩) | (go_at_call 35; refine (zE _ _ _ _).mono ?_; rintro e w' ⟨rfl,rfl⟩))
      go_ret
      exact ⟨zl (by simp [ordB,z,K,h3,h4,h5]),by go_grown⟩
     ·go_enter Tryz.func37,Tryz.ntmps37
      go_wp2_with (first | (go_at_call 72; refine (cW _ _).mono ?_; rintro e w' ⟨rfl,rfl⟩) | (go_at_call 73; refine (cV _ _).mono ?_; rintro e w' ⟨rfl,rfl⟩) | (go_at_call 74; refine (M HT _).mono ?_; rintro e w' ⟨rfl,rfl⟩) | (go_at_call 35; refine (zE _ _ _ _).mono ?_; rintro e w' ⟨rfl,rfl⟩))
      go_ret
      exact ⟨zl (by simp [ordB,z,K,h3,h4,h5]),by go_grown⟩
end Go.Proofs.YtbakanofkghmiaaGreat
