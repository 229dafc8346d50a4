/-
  A region that draws its order, with one operation that writes: what holds of each value that has come up, world by world. No function walked.
-/
import Derived.Test.YtopjoogdpjaocaaGreatTj08
set_option linter.unusedVariables false
set_option maxHeartbeats 6400000
set_option maxRecDepth 100000
namespace Go.Proofs.YtopjoogdpjaocaaGreat
open Go.RowKit
def RG (base:World) (F:(Nat→Value)→Act) (k:Nat) (D:Prop→World→Nat→Value→Prop) (x:List Bool) (A:Act) (W:World):Prop :=
 ∃ f,A = F f∧Below base.heap.size base W∧∀ j,x[j]? = some true→D (x[k]? = some true) W j (f j)
section
variable {base W W':World} {F:(Nat→Value)→Act} {k:Nat} {D:Prop→World→Nat→Value→Prop} {x:List Bool} {f:Nat→Value}
theorem zcr (hm:∀ p W W' j v,Below W.heap.size W W'→D p W j v→D p W' j v) (hb:Below base.heap.size base W) (h:∀ j,x[j]? = some true→D (x[k]? = some true) W j (f j)) (hg:Below W.heap.size W W') {i:Nat} (hik:i ≠ k) {v:Value} (hv:D (x[k]? = some true) W' i v) :
  Below base.heap.size base W'∧∀ j,(x.set i true)[j]? = some true→D ((x.set i true)[k]? = some true) W' j (upd f i v j):=by
 refine ⟨hb.trans (hg.mono hb.size),fun j hj=>?_⟩
 rw [List.getElem?_set_ne hik]
 by_cases hji:j = i
 ·subst hji; rw [zp]; exact hv
 ·rw [zq _ _ hji]
  rw [List.getElem?_set_ne (fun e=>hji e.symm)] at hj
  exact hm _ _ _ _ _ hg (h j hj)
theorem zn (hb:Below base.heap.size base W) (h:∀ j,x[j]? = some true→D (x[k]? = some true) W j (f j)) {i:Nat} (hik:i ≠ k) {v:Value} (hv:D (x[k]? = some true) W i v) :
  Below base.heap.size base W∧∀ j,(x.set i true)[j]? = some true→D ((x.set i true)[k]? = some true) W j (upd f i v j):=by
 refine ⟨hb,fun j hj=>?_⟩
 rw [List.getElem?_set_ne hik]
 by_cases hji:j = i
 ·subst hji; rw [zp]; exact hv
 ·rw [zq _ _ hji]
  rw [List.getElem?_set_ne (fun e=>hji e.symm)] at hj
  exact h j hj
end
theorem set_monoG {x:List Bool} {i j:Nat} (h:x[j]? = some true):(x.set i true)[j]? = some true:=by
 by_cases hij:i = j
 ·subst hij; exact List.getElem?_set_self (List.getElem?_eq_some_iff.1 h).1
 ·rw [List.getElem?_set_ne hij]; exact h
def Closed (l:List Oper) (x:List Bool):Prop:=∀ (i:Nat) (o:Oper),l[i]? = some o→x[i]? = some true→∀ e ∈ o.after,Region.binds .any e = true→x[e.on]? = some true
theorem closed_step {l:List Oper} {x:List Bool} {i:Nat} {o:Oper} (h:Closed l x) (ho:l[i]? = some o) (hall:∀ e ∈ o.after,Region.binds .any e = true→x[e.on]? = some true):Closed l (x.set i true):=by
 intro j o' ho' hj e he hb
 by_cases hji:j = i
 ·subst hji
  rw [ho] at ho'
  obtain rfl:=Option.some.inj ho'
  exact set_monoG (hall e he hb)
 ·rw [List.getElem?_set_ne (fun e=>hji e.symm)] at hj
  exact set_monoG (h j o' ho' hj e he hb)
theorem zo {P:Program} {Q:Exit→Act→World→Prop} {l:List Oper} (R:List Bool→Act→World→Prop) {id:Nat} {a:Act} {w:World} (hm:P.follows .mixedOrders = true)
  (h0:R (List.replicate l.length false) a { w with drawn:=w.drawn + 1 })
  (hend:∀ x a w,R x a w→x.length = l.length→Region.ready .any l.toArray x.toArray = []→Q .normal a w)
  (hstep:∀ x a w i o,R x a w→Closed l x→x.length = l.length→l[i]? = some o→x[i]? = some false→(∀ e ∈ o.after,Region.binds .any e = true→x[e.on]? = some true) →
   (if Region.wanted o (yielded l.toArray a.tmps) then o.wp P a w (fun a' w'=>R (x.set i true) a' w') Q else R (x.set i true) (a.put o.dst undef) w)) :
  (Code.region id l.toArray true).wp P Q a w:=by
 refine zay (fun x a w=>R x a w∧Closed l x) hm ⟨h0,fun i o _ hi=>by rw [List.getElem?_replicate] at hi; split at hi <;> simp at hi⟩ (fun x a w h=>hend x a w h.1) ?_
 intro x a w i o h hx ho hxi hall
 have hs:=hstep x a w i o h.1 h.2 hx ho hxi hall
 have hc:=closed_step h.2 ho hall
 split
 ·next hw=>rw [if_pos hw] at hs; exact Oper.wp_mono (fun a' w' hR=>⟨hR,hc⟩) hs
 ·next hw=>rw [if_neg hw] at hs; exact ⟨hs,hc⟩
theorem zbO {P:Program} {id:Nat} {Q:Exit→Act→World→Prop} {a:Act} {w:World} {l:List Oper} (n:Nat) (hm:P.follows .mixedOrders = true) (hB:Region.lexTailB .any l.toArray n = true)
  (h:wpStill P l.toArray w.drew (fun a'=>wpList P l.toArray Q (l.drop n) a' w.drew) (l.take n) a):(Code.region id l.toArray true).wp P Q a w:=wp_region_still_tail n hm hB h
theorem zcj {P:Program} {w:World} {o:Oper} {a:Act} {K:Act→World→Prop} {Q:Exit→Act→World→Prop} (s x:Operand) (t:TypeId)
  (ho:o.op = .call { callee:=.builtin .append,args:=#[s,x],argTypes:=#[t,t] })
  (base:Nat) (e:TypeId) (i:TypeInfo) (size:Nat) (ht:P.underlying t = some (.slice e)) (hi:P.info? e = some i)
  (v:Value) (n:Nat) (xs:List Value) (hs:a.eval s = v) (hown:w.ownsRow base e size v n xs) (hx:a.eval x = .slice none 0 0)
  (h:K (a.put o.dst v) w):o.wp P a w K Q:=by
 have hrun:=run_append_owned_none (P:=P) (w:=w) base t o.type e i size ht hi v n xs hown
 unfold Oper.wp
 simp [execOp,ho,resolve,invoke,builtin,hs,hx,hrun,Result.andThen]
 exact h
def sideL_b (b:Nat):List Value:=[.func (.func 111) #[.pointer (some ⟨b,0,none⟩)] #[],.func (.func 112) #[.pointer (some ⟨b,0,none⟩)] #[],.func (.func 113) #[.pointer (some ⟨b,0,none⟩)] #[]]
def sideL_s (b:Nat):List Value:=[.func (.func 115) #[.pointer (some ⟨b,0,none⟩)] #[],.func (.func 116) #[.pointer (some ⟨b,0,none⟩)] #[],.func (.func 117) #[.pointer (some ⟨b,0,none⟩)] #[]]
abbrev Tb (w:World) (b:Nat) (q:List Od):Prop:=zak 171 true w b 1 q
abbrev Ts (w:World) (b:Nat) (q:List Od):Prop:=zak 173 false w b 2 q
section
variable {W0 w w':World} {BV:Value} {q1 q2:List Od} {x:List Bool} {v33 v34 v35 v36 v5 v6:Value} {b1 b2 p5 p6:Nat}
theorem zw (w:World) (cs:List Value) (t:TypeId):(w.alloc (Obj.cells cs.toArray t)).there w.heap.size 0 cs.length:=zaq (heap_alloc_new w _) (by simp)
end

theorem insT_len (s:Bool) (k:Int):∀ T:List Int,(insT s k T).length ≤ T.length + 1
 | []=>by simp [insT]
 | a :: r=>by
  have:=insT_len s k r
  rw [insT]; split
  ·simp
  ·split <;> simp <;> omega
theorem tks_len (s:Bool):∀ seq:List Od,(tks s seq).length ≤ seq.length
 | []=>by simp [tks]
 | o :: r=>by
  have h1:=insT_len s o.ticks (tks s r)
  have h2:=tks_len s r
  rw [tks]; simp; omega
def backB:Nat→List Oper→Bool
 | _,[]=>true
 | i,o :: r=>o.after.toList.all (fun e=>decide (e.on < i)) && backB (i + 1) r
theorem back_spec:∀ (l:List Oper) (n:Nat),backB n l = true→∀ (i:Nat) (o:Oper),l[i]? = some o→∀ e ∈ o.after,e.on < n + i
 | [],_,_,i,o,h,_,_=>by simp at h
 | a :: r,n,hb,0,o,h,e,he=>by
  simp at h; subst h
  simp only [backB,Bool.and_eq_true,List.all_eq_true,decide_eq_true_eq] at hb
  exact hb.1 e (by simpa using he)
 | a :: r,n,hb,i + 1,o,h,e,he=>by
  simp only [backB,Bool.and_eq_true] at hb
  have:=back_spec r (n + 1) hb.2 i o (by simpa using h) e he
  omega
theorem acyc (l:List Oper) (h:backB 0 l = true):∀ (i:Nat) (o:Oper),l[i]? = some o→∀ e ∈ o.after,e.on < i:=fun i o ho e he=>by
 have:=back_spec l 0 h i o ho e he; omega
def C10 (b1 b2 p5 p6 N1 N2:Nat):Nat→Value→Prop
 | 0,v=>v = .pointer (some ⟨p5,2,none⟩)
 | 1,v=>v = .func (.func 113) #[.pointer (some ⟨b1,0,none⟩)] #[]
 | 2,v=>∃ a c,v = .slice a N1 c
 | 3,v=>v = .int .i64 N1
 | 4,v=>v = .pointer (some ⟨p6,2,none⟩)
 | 5,v=>v = .func (.func 117) #[.pointer (some ⟨b2,0,none⟩)] #[]
 | 6,v=>∃ a c,v = .slice a N2 c
 | 7,v=>v = .int .i64 N2
 | 8,v=>v = .int .i64 ((N1:Int) + N2)
 | 9,v=>v = .int .i64 ((N1:Int) + N2)
 | _,_=>True
set_option maxRecDepth 100000 in
set_option maxHeartbeats 800000 in
theorem countLevels_any (b1 b2:Nat) (sd1 sd2:Int) (s1 s2:List Od) (w:World) (h1:zak 171 true w b1 sd1 s1) (h2:zak 173 false w b2 sd2 s2) (n1:s1.length ≤ 20) (n2:s2.length ≤ 20) :
  Calls Tryz.prog 110 #[zbY b1,zbZ b2] w fun e w'=>e = .returned (.int .i64 (((zbg true sd1 s1).length:Int) + (zbg false sd2 s2).length))∧Below w.heap.size w w':=by
 have hb1:=zaf h1
 have hb2:=zaf h2
 generalize hL1:(zbg true sd1 s1).length = N1
 generalize hL2:(zbg false sd2 s2).length = N2
 have hN1:N1 ≤ 20:=by rw [← hL1,zbg,List.length_map]; exact Nat.le_trans (tks_len _ _) n1
 have hN2:N2 ≤ 20:=by rw [← hL2,zbg,List.length_map]; exact Nat.le_trans (tks_len _ _) n2
 have HLL:Hid ((zbg true sd1 s1).length = N1∧(zbg false sd2 s2).length = N2):=⟨hL1,hL2⟩
 have hs1:(w.alloc (Obj.cells (sideL_b b1).toArray 145)).heap.size = w.heap.size + 1:=ze _ _
 have hs2:((w.alloc (Obj.cells (sideL_b b1).toArray 145)).alloc (Obj.cells (sideL_s b2).toArray 145)).heap.size = w.heap.size + 1 + 1:=by rw [ze,hs1]
 have r0:=zh w (sideL_b b1) 145
 have r1:=zh (w.alloc (Obj.cells (sideL_b b1).toArray 145)) (sideL_s b2) 145
 rw [hs1] at r1
 have r0':=zb r0 (C:=w.heap.size + 1) ((Below.refl _ _).alloc (by rw [hs1]; omega) (Obj.cells (sideL_s b2).toArray 145)) (by omega)
 have HB0:Hid (Below w.heap.size w ((w.alloc (Obj.cells (sideL_b b1).toArray 145)).alloc (Obj.cells (sideL_s b2).toArray 145))):=((Below.refl _ _).alloc (Nat.le_refl _) _).alloc (by rw [hs1]; omega) _
 have HR5:=hide r0'
 have HR6:=hide r1
 have HS2:=hide hs2
 have HT1:=hide (zG h1 ((za HB0).block _ hb1))
 have HT2:=hide (zG h2 ((za HB0).block _ hb2))
 clear r0 r1 r0' hs1 hs2 hL1 hL2 h1 h2
 unfold zbY zbZ
 go_enter Tryz.func110,Tryz.ntmps110
 go_wp2_with fail
 unfold sideL_b sideL_s at HB0 HR5 HR6 HS2 HT1 HT2
 generalize hW:((w.alloc (Obj.cells (List.toArray [.func (.func 111) #[.pointer (some ⟨b1,0,none⟩)] #[],.func (.func 112) #[.pointer (some ⟨b1,0,none⟩)] #[],.func (.func 113) #[.pointer (some ⟨b1,0,none⟩)] #[]]) 145)).alloc (Obj.cells (List.toArray [.func (.func 115) #[.pointer (some ⟨b2,0,none⟩)] #[],.func (.func 116) #[.pointer (some ⟨b2,0,none⟩)] #[],.func (.func 117) #[.pointer (some ⟨b2,0,none⟩)] #[]]) 145)) = W at HB0 HR5 HR6 HS2 HT1 HT2
 have hb1s:b1 < W.heap.size:=zaf (za HT1)
 have hb2s:b2 < W.heap.size:=zaf (za HT2)
 have hp5:w.heap.size < W.heap.size:=by rw [za HS2]; omega
 have hp6:w.heap.size + 1 < W.heap.size:=by rw [za HS2]; omega
 refine zay (RGrow W (fun f=>{ tmps:=#[zbY b1,zbZ b2,.pointer (some ⟨w.heap.size,0,none⟩),.pointer (some ⟨w.heap.size + 1,0,none⟩),f 9,f 0,f 1,f 2,f 3,f 4,f 5,f 6,f 7,f 8],defers:=[] }) (C10 b1 b2 w.heap.size (w.heap.size + 1) N1 N2)) (by kernel_rfl) ?_ ?_ ?_
 ·refine ⟨upd (fun _=>undef) 9 (.int .i64 0),rfl,?_,fun j hj=>by rw [List.getElem?_replicate] at hj; split at hj <;> simp at hj⟩
  rw [← hW]
  exact ⟨rfl,rfl,rfl,Nat.le_refl _,fun _ _=>rfl⟩
 ·rintro x A V ⟨f,rfl,hbel,hC⟩ hx hrd
  have hall9:=zab hrd hx (acyc _ (by kernel_rfl)) 9 (by simp)
  have e9:f 9 = .int .i64 ((N1:Int) + N2):=hC 9 hall9
  simp only [e9]
  have HBV:=hide hbel
  clear hC hx hrd hall9 e9 hbel
  go_wp2_with fail
  go_ret
  exact ⟨rfl,(za HB0).trans ((za HBV).mono (za HB0).size)⟩
 ·rintro x A V i o ⟨f,rfl,hbel,hC⟩ hx ho hxi hall
  have HBV:=hide hbel
  have HC:=hide hC
  match i,ho with
  | 0,ho =>
   obtain rfl:=Option.some.inj ho
   clear hall hC hbel
   rw [if_pos (by rfl)]
   unfold Oper.wp
   go_simp
   exact ⟨upd f 0 (.pointer (some ⟨w.heap.size,2,none⟩)),by simp [upd],za HBV,zv (za HC) rfl⟩
  | 1,ho =>
   obtain rfl:=Option.some.inj ho
   have g0:C10 b1 b2 w.heap.size (w.heap.size + 1) N1 N2 0 (f 0):=hC 0 (hall ⟨0,.data⟩ (by simp) rfl)
   simp only [C10] at g0
   have d2:=zb (za HR5) hbel hp5 2 _ rfl
   clear hall hC hbel
   rw [if_pos (by rfl)]
   unfold Oper.wp
   go_simp
   exact ⟨upd f 1 (.func (.func 113) #[.pointer (some ⟨b1,0,none⟩)] #[]),by simp [upd,g0],za HBV,zv (za HC) rfl⟩
  | 2,ho =>
   obtain rfl:=Option.some.inj ho
   have g1:C10 b1 b2 w.heap.size (w.heap.size + 1) N1 N2 1 (f 1):=hC 1 (hall ⟨1,.data⟩ (by simp) rfl)
   simp only [C10] at g1
   have ht:=zG (za HT1) (hbel.block _ hb1s)
   have HTV:=hide ht
   clear hall hC hbel ht
   rw [if_pos (by rfl)]
   unfold Oper.wp
   go_simp
   refine (levels_b b1 sd1 s1 V (za HTV) n1).mono ?_
   rintro e w4 ⟨v4,rfl,⟨al,cp,rfl,-,-⟩,hb4⟩
   rw [(za HLL).1]
   exact ⟨upd f 2 (.slice al N1 cp),by simp [upd,g1],(za HBV).trans (hb4.mono (za HBV).size),zv (za HC) ⟨al,cp,rfl⟩⟩
  | 3,ho =>
   obtain rfl:=Option.some.inj ho
   have g2:C10 b1 b2 w.heap.size (w.heap.size + 1) N1 N2 2 (f 2):=hC 2 (hall ⟨2,.data⟩ (by simp) rfl)
   obtain ⟨al,cp,g2⟩:=g2
   clear hall hC hbel
   rw [if_pos (by rfl)]
   unfold Oper.wp
   go_simp
   exact ⟨upd f 3 (.int .i64 N1),by simp [upd,g2],za HBV,zv (za HC) rfl⟩
  | 4,ho =>
   obtain rfl:=Option.some.inj ho
   clear hall hC hbel
   rw [if_pos (by rfl)]
   unfold Oper.wp
   go_simp
   exact ⟨upd f 4 (.pointer (some ⟨w.heap.size + 1,2,none⟩)),by simp [upd],za HBV,zv (za HC) rfl⟩
  | 5,ho =>
   obtain rfl:=Option.some.inj ho
   have g4:C10 b1 b2 w.heap.size (w.heap.size + 1) N1 N2 4 (f 4):=hC 4 (hall ⟨4,.data⟩ (by simp) rfl)
   simp only [C10] at g4
   have d2:=zb (za HR6) hbel hp6 2 _ rfl
   clear hall hC hbel
   rw [if_pos (by rfl)]
   unfold Oper.wp
   go_simp
   exact ⟨upd f 5 (.func (.func 117) #[.pointer (some ⟨b2,0,none⟩)] #[]),by simp [upd,g4],za HBV,zv (za HC) rfl⟩
  | 6,ho =>
   obtain rfl:=Option.some.inj ho
   have g5:C10 b1 b2 w.heap.size (w.heap.size + 1) N1 N2 5 (f 5):=hC 5 (hall ⟨5,.data⟩ (by simp) rfl)
   simp only [C10] at g5
   have ht:=zG (za HT2) (hbel.block _ hb2s)
   have HTV:=hide ht
   clear hall hC hbel ht
   rw [if_pos (by rfl)]
   unfold Oper.wp
   go_simp
   refine (levels_s b2 sd2 s2 V (za HTV) n2).mono ?_
   rintro e w4 ⟨v4,rfl,⟨al,cp,rfl,-,-⟩,hb4⟩
   rw [(za HLL).2]
   exact ⟨upd f 6 (.slice al N2 cp),by simp [upd,g5],(za HBV).trans (hb4.mono (za HBV).size),zv (za HC) ⟨al,cp,rfl⟩⟩
  | 7,ho =>
   obtain rfl:=Option.some.inj ho
   have g6:C10 b1 b2 w.heap.size (w.heap.size + 1) N1 N2 6 (f 6):=hC 6 (hall ⟨6,.data⟩ (by simp) rfl)
   obtain ⟨al,cp,g6⟩:=g6
   clear hall hC hbel
   rw [if_pos (by rfl)]
   unfold Oper.wp
   go_simp
   exact ⟨upd f 7 (.int .i64 N2),by simp [upd,g6],za HBV,zv (za HC) rfl⟩
  | 8,ho =>
   obtain rfl:=Option.some.inj ho
   have g3:C10 b1 b2 w.heap.size (w.heap.size + 1) N1 N2 3 (f 3):=hC 3 (hall ⟨3,.data⟩ (by simp) rfl)
   have g7:C10 b1 b2 w.heap.size (w.heap.size + 1) N1 N2 7 (f 7):=hC 7 (hall ⟨7,.data⟩ (by simp) rfl)
   simp only [C10] at g3
   simp only [C10] at g7
   have hwr8:IntKind.i64.wrap ((N1:Int) + N2) = (N1:Int) + N2:=by rw [IntKind.wrap_i64]; omega
   clear hall hC hbel
   rw [if_pos (by rfl)]
   unfold Oper.wp
   go_simp
   exact ⟨upd f 8 (.int .i64 ((N1:Int) + N2)),by simp [upd,g3,g7],za HBV,zv (za HC) rfl⟩
  | 9,ho =>
   obtain rfl:=Option.some.inj ho
   have g8:C10 b1 b2 w.heap.size (w.heap.size + 1) N1 N2 8 (f 8):=hC 8 (hall ⟨8,.data⟩ (by simp) rfl)
   simp only [C10] at g8
   clear hall hC hbel
   rw [if_pos (by rfl)]
   unfold Oper.wp
   go_simp
   exact ⟨upd f 9 (.int .i64 ((N1:Int) + N2)),by simp [upd,g8],za HBV,zv (za HC) rfl⟩
  | n + 10,ho=>simp at ho
def ofC (c:Cm):Ev:=⟨0,c,0,0,0,0,0⟩
def zaz (c d:Cm):Bool:=(c.k == d.k) && ((c.s == d.s) && ((c.t == d.t) && ((c.l == d.l) && ((c.q == d.q) && ((c.i == d.i) && ((fbit c.p == fbit d.p) && decide (c.g.toList = d.g.toList)))))))
theorem eqVl (c d:Cm) (W:World):(binOp .eql 110 (vlV (ofC c)) (vlV (ofC d))).run Tryz.prog W = .ok (.bool (zaz c d)) W:=by
 unfold vlV ofC
 simp only
 go_simp
 unfold zaz
 by_cases h1:c.k = d.k
 ·by_cases h2:c.s = d.s
  ·by_cases h3:c.t = d.t
   ·by_cases h4:c.l = d.l
    ·by_cases h5:c.q = d.q
     ·by_cases h6:c.i = d.i
      ·by_cases h7:fbit c.p = fbit d.p
       ·by_cases h8:c.g.toList = d.g.toList
        ·simp [h1,h2,h3,h4,h5,h6,h7,h8]
        ·simp [h1,h2,h3,h4,h5,h6,h7,h8]
       ·have h7':¬ ((fbit c.p:Int) = fbit d.p):=by omega
        have h7b:(fbit c.p == fbit d.p) = false:=by simpa using h7
        rw [if_neg h7',h7b]
        simp [h1,h2,h3,h4,h5,h6]
      ·simp [h1,h2,h3,h4,h5,h6]
     ·simp [h1,h2,h3,h4,h5]
    ·simp [h1,h2,h3,h4]
   ·simp [h1,h2,h3]
  ·simp [h1,h2]
 ·simp [h1]
theorem eqGd (c d:Cm) (W:World):(eqGuard .eql 110 (.tmp 7) (.tmp 10) (vlV (ofC c)) (vlV (ofC d))).run Tryz.prog W = .ok () W:=by
 unfold vlV ofC
 simp only
 go_simp
def CS (c d:Cm):Nat→Value→Prop
 | 0,v=>v = cmV c
 | 1,v=>v = evV (ofC c)
 | 2,v=>v = vlV (ofC c)
 | 3,v=>v = cmV d
 | 4,v=>v = evV (ofC d)
 | 5,v=>v = vlV (ofC d)
 | 6,v=>v = .bool (zaz c d)
 | 7,v=>v = .bool (zaz c d)
 | _,_=>True
set_option maxRecDepth 100000 in
set_option maxHeartbeats 1600000 in
theorem zbH (c d:Cm) (w:World) :
  Calls Tryz.prog 65 #[cmV c,cmV d] w fun e w'=>e = .returned (.bool (zaz c d))∧Below w.heap.size w w':=by
 have hs1:(w.alloc (Obj.cells c.vs.toArray 39)).heap.size = w.heap.size + 1:=ze _ _
 have hs2:((w.alloc (Obj.cells c.vs.toArray 39)).alloc (Obj.cells d.vs.toArray 39)).heap.size = w.heap.size + 1 + 1:=by rw [ze,hs1]
 have r0:=zb (zh w c.vs 39) (C:=w.heap.size + 1) ((Below.refl _ _).alloc (by rw [hs1]; omega) (Obj.cells d.vs.toArray 39)) (by omega)
 have r1:=zh (w.alloc (Obj.cells c.vs.toArray 39)) d.vs 39
 rw [hs1] at r1
 have HB0:Hid (Below w.heap.size w ((w.alloc (Obj.cells c.vs.toArray 39)).alloc (Obj.cells d.vs.toArray 39))):=((Below.refl _ _).alloc (Nat.le_refl _) _).alloc (by rw [hs1]; omega) _
 have HX:Hid (_∧_):=⟨r0,r1⟩
 have HS2:=hide hs2
 clear r0 r1 hs1 hs2
 unfold cmV
 go_enter Tryz.func65,Tryz.ntmps65
 go_wp2_with fail
 unfold Cm.vs at HB0 HX HS2
 generalize hW:((w.alloc (Obj.cells (List.toArray [.int .i64 c.k,.int .i64 c.s,.int .i64 c.t,.int .i64 c.l,.int .i64 c.q,.int .i64 c.i,.float .f64 c.p,.string c.g]) 39)).alloc (Obj.cells (List.toArray [.int .i64 d.k,.int .i64 d.s,.int .i64 d.t,.int .i64 d.l,.int .i64 d.q,.int .i64 d.i,.float .f64 d.p,.string d.g]) 39)) = W at HB0 HX HS2
 refine zay (RGrow W (fun f=>{ tmps:=#[cmV c,cmV d,.pointer (some ⟨w.heap.size,0,none⟩),.pointer (some ⟨w.heap.size + 1,0,none⟩),f 7,f 0,f 1,f 2,f 3,f 4,f 5,f 6],defers:=[] }) (CS c d)) (by kernel_rfl) ?_ ?_ ?_
 ·refine ⟨upd (fun _=>undef) 7 (.bool false),rfl,?_,fun j hj=>by rw [List.getElem?_replicate] at hj; split at hj <;> simp at hj⟩
  rw [← hW]
  exact ⟨rfl,rfl,rfl,Nat.le_refl _,fun _ _=>rfl⟩
 ·rintro x A V ⟨f,rfl,hbel,hC⟩ hx hrd
  have hall7:=zab hrd hx (acyc _ (by kernel_rfl)) 7 (by simp)
  have e7:f 7 = .bool (zaz c d):=hC 7 hall7
  simp only [e7]
  have HBV:=hide hbel
  clear hC hx hrd hall7 e7 hbel
  go_wp2_with fail
  go_ret
  exact ⟨rfl,(za HB0).trans ((za HBV).mono (za HB0).size)⟩
 ·rintro x A V i o ⟨f,rfl,hbel,hC⟩ hx ho hxi hall
  have HBV:=hide hbel
  have HC:=hide hC
  have hw0:w.heap.size < W.heap.size:=by rw [za HS2]; omega
  have hw1:w.heap.size + 1 < W.heap.size:=by rw [za HS2]; omega
  match i,ho with
  | 0,ho =>
   obtain rfl:=Option.some.inj ho
   obtain ⟨x0,x1,x2,x3,x4,x5,x6,x7⟩:=cm_cells (c:=c) (zb (za HX).1 hbel hw0)
   simp only [Nat.zero_add] at x0 x1 x2 x3 x4 x5 x6 x7
   clear hall hC hbel
   rw [if_pos (by rfl)]
   unfold Oper.wp
   go_simp
   exact ⟨upd f 0 (cmV c),by simp [upd,cmV],za HBV,zv (za HC) rfl⟩
  | 1,ho =>
   obtain rfl:=Option.some.inj ho
   have g0:f 0 = cmV c:=hC 0 (hall ⟨0,.data⟩ (by simp) rfl)
   clear hall hC hbel
   rw [if_pos (by rfl)]
   unfold Oper.wp
   unfold cmV at g0
   go_simp
   exact ⟨upd f 1 (evV (ofC c)),by simp [upd,evV,ofC,cmV,g0],za HBV,zv (za HC) rfl⟩
  | 2,ho =>
   obtain rfl:=Option.some.inj ho
   have g1:f 1 = evV (ofC c):=hC 1 (hall ⟨1,.data⟩ (by simp) rfl)
   clear hall hC hbel
   rw [if_pos (by rfl)]
   unfold Oper.wp
   go_simp
   refine (zbN (ofC c) V).mono ?_
   rintro e w4 ⟨rfl,hb4⟩
   exact ⟨upd f 2 (vlV (ofC c)),by simp [upd,g1],(za HBV).trans (hb4.mono (za HBV).size),zv (za HC) rfl⟩
  | 3,ho =>
   obtain rfl:=Option.some.inj ho
   obtain ⟨x0,x1,x2,x3,x4,x5,x6,x7⟩:=cm_cells (c:=d) (zb (za HX).2 hbel hw1)
   simp only [Nat.zero_add] at x0 x1 x2 x3 x4 x5 x6 x7
   clear hall hC hbel
   rw [if_pos (by rfl)]
   unfold Oper.wp
   go_simp
   exact ⟨upd f 3 (cmV d),by simp [upd,cmV],za HBV,zv (za HC) rfl⟩
  | 4,ho =>
   obtain rfl:=Option.some.inj ho
   have g0:f 3 = cmV d:=hC 3 (hall ⟨3,.data⟩ (by simp) rfl)
   clear hall hC hbel
   rw [if_pos (by rfl)]
   unfold Oper.wp
   unfold cmV at g0
   go_simp
   exact ⟨upd f 4 (evV (ofC d)),by simp [upd,evV,ofC,cmV,g0],za HBV,zv (za HC) rfl⟩
  | 5,ho =>
   obtain rfl:=Option.some.inj ho
   have g1:f 4 = evV (ofC d):=hC 4 (hall ⟨4,.data⟩ (by simp) rfl)
   clear hall hC hbel
   rw [if_pos (by rfl)]
   unfold Oper.wp
   go_simp
   refine (zbN (ofC d) V).mono ?_
   rintro e w4 ⟨rfl,hb4⟩
   exact ⟨upd f 5 (vlV (ofC d)),by simp [upd,g1],(za HBV).trans (hb4.mono (za HBV).size),zv (za HC) rfl⟩
  | 6,ho =>
   obtain rfl:=Option.some.inj ho
   have g2:f 2 = vlV (ofC c):=hC 2 (hall ⟨2,.data⟩ (by simp) rfl)
   have g5:f 5 = vlV (ofC d):=hC 5 (hall ⟨5,.data⟩ (by simp) rfl)
   have he:=eqVl c d V
   have hg:=eqGd c d V
   clear hall hC hbel
   rw [if_pos (by rfl)]
   unfold Oper.wp
   go_simp
   exact ⟨upd f 6 (.bool (zaz c d)),by simp [upd,g2,g5],za HBV,zv (za HC) rfl⟩
  | 7,ho =>
   obtain rfl:=Option.some.inj ho
   have g6:f 6 = .bool (zaz c d):=hC 6 (hall ⟨6,.data⟩ (by simp) rfl)
   clear hall hC hbel
   rw [if_pos (by rfl)]
   unfold Oper.wp
   go_simp
   exact ⟨upd f 7 (.bool (zaz c d)),by simp [upd,g6],za HBV,zv (za HC) rfl⟩
  | n + 8,ho=>simp at ho
structure Bx (W:World) (b:Nat) (vs:List Value):Prop where
 r:W.rangeAt b 0 vs
 t:W.there b 0 vs.length
theorem zaK (w:World) (vs:List Value) (t:TypeId):Bx (w.alloc (Obj.cells vs.toArray t)) w.heap.size vs :=
 ⟨fun j u h=>by
  rw [cell_of_row _ w.heap.size (0 + j) vs.toArray t (0,0) (heap_alloc_new w _)]
  simpa using h,zaq (heap_alloc_new w _) (by simp)⟩
theorem zP {C b:Nat} {W V:World} {vs:List Value} (h:Bx W b vs) (hb:Below C W V) (hC:b < C):Bx V b vs:=⟨zb h.r hb hC,zf h.t hb hC⟩
theorem zd {W:World} {b:Nat} {vs:List Value} (h:Bx W b vs) (j:Nat) {u:Value} (hj:vs[j]? = some u):W.cell? ⟨b,j,none⟩ = some u:=by
 have:=h.r j u hj; rwa [Nat.zero_add] at this
theorem zg {W:World} {b:Nat} {vs:List Value} (h:Bx W b vs) (j:Nat) (hj:j < vs.length):W.frozen? ⟨b,j,none⟩ = false:=by
 have:=(h.t j hj).2; rwa [Nat.zero_add] at this
theorem zbs {W:World} {b j:Nat} {vs:List Value} {u:Value} (h:Bx W b vs) (hj:j < vs.length):Bx (W.setCell ⟨b,j,none⟩ u) b (vs.set j u):=by
 refine ⟨fun i v hi=>?_,by rw [List.length_set]; exact World.there_setCells (vs:=[u]) h.t b j⟩
 rw [Nat.zero_add]
 by_cases hij:j = i
 ·subst hij
  rw [List.getElem?_set_self hj] at hi
  cases hi
  have:=h.r j _ (List.getElem?_eq_getElem hj)
  rw [Nat.zero_add] at this
  exact World.cell?_setCell_same _ _ _ this
 ·rw [List.getElem?_set_ne hij] at hi
  have:=h.r i v hi
  rw [Nat.zero_add] at this
  rw [World.cell?_setCell_other _ _ _ _ (zX hij)]
  exact this
theorem zad {W:World} {b:Nat} {vs us:List Value} (h:Bx W b vs) (hl:us.length = vs.length):Bx (W.setCells b 0 us) b us :=
 ⟨World.rangeAt_setCells_same W b 0 us (fun j hj=>h.t j (by omega)),by rw [hl]; exact World.there_setCells h.t b 0 us⟩
theorem bx_blk {W V:World} {b:Nat} {vs:List Value} (h:Bx W b vs) (hb:V.heap[b]? = W.heap[b]?):Bx V b vs :=
 ⟨fun j u hj=>by rw [World.cell?_of_block (a:=⟨b,0 + j,none⟩) hb]; exact h.r j u hj,
  fun j hj=>by rw [World.cell?_of_block (a:=⟨b,0 + j,none⟩) hb,World.frozen?_of_block (a:=⟨b,0 + j,none⟩) hb]; exact h.t j hj⟩
theorem zY {W:World} {b c j:Nat} {vs:List Value} {u:Value} (h:Bx W b vs) (hc:b ≠ c):Bx (W.setCell ⟨c,j,none⟩ u) b vs:=bx_blk h (Below.heap_setCell _ _ _ _ hc)
theorem takeR {α:Type} (l:List α) (k:Nat) (c:α) (h:l[k]? = some c):l.take (k + 1) = l.take k ++ [c]:=by
 obtain ⟨hk,rfl⟩:=List.getElem?_eq_some_iff.1 h
 rw [List.take_succ_eq_append_getElem hk]
theorem Tryz.infoOrder:(Tryz.prog.info? 78).map (fun i=>(i.zero,i.size,i.bytes)) = some (some (.agg #[.int .i64 0,.int .i64 0,.int .i64 0,.int .i64 0,.int .i64 0,.string ⟨#[]⟩]),6,56):=by kernel_rfl

end Go.Proofs.YtopjoogdpjaocaaGreat
