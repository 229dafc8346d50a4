/-
  A command by its kind, and the place of an order in a book, by the program: proved by walking the functions.
-/
import Derived.Test.YtdliebbfcmdmaaaGreatMj10
import Derived.Laws.AppendOwnNone
set_option linter.unusedVariables false
set_option maxHeartbeats 6400000
set_option maxRecDepth 100000
namespace Go.Proofs.YtdliebbfcmdmaaaGreat
open Go.RowKit
def cmdI (c:Cm):Value:=if c.k = 1 then .iface 74 (noV c) else if c.k = 2 then .iface 77 (.agg #[H c.i]) else if c.k = 3 then .iface 80 (.agg #[H c.i,H c.q]) else if c.k = 4 then .iface 83 (.agg #[]) else .nilIface
theorem newOrderOf_any (c:Cm) (w:World) :
  Calls Tryz.prog 53 #[cmV c] w fun e w'=>e = ym (noV c)∧yn w w':=by
 obtain ⟨k,s,t,l,q,i,p,g⟩:=c
 unfold cmV noV
 simp only
 have hsf:=sfl
 go_enter Tryz.func53,Tryz.ntmps53
 go_wp2_with fail
 go_returns
 exact ⟨rfl,by go_grown⟩
theorem bU (c:Cm) (w:World) :
  Calls Tryz.prog 31 #[cmV c] w fun e w'=>e = ym (cmdI c)∧yn w w':=by
 obtain ⟨k,s,t,l,q,i,p,g⟩:=c
 unfold cmV
 simp only
 by_cases Q:k = 1
 ·subst Q
  have xW:Hid (yn w (w.alloc (E (yw 1 s t l q i p g).toArray 27))):=ed _ _
  go_enter Tryz.func31,Tryz.ntmps31
  go_wp2_with fail
  refine (newOrderOf_any ⟨1,s,t,l,q,i,p,g⟩ _).mono ?_
  rintro e w' ⟨rfl,L⟩
  have xF:=Y (eh (U xW) L)
  clear L
  go_wp2_with fail
  go_ret
  exact ⟨rfl,U xF⟩
 have b1:(k == 1) = false:=by simpa using Q
 by_cases N:k = 2
 ·subst N
  go_enter Tryz.func31,Tryz.ntmps31
  go_wp2_with fail
  go_ret
  exact ⟨rfl,by go_grown⟩
 have b2:(k == 2) = false:=by simpa using N
 by_cases h3:k = 3
 ·subst h3
  go_enter Tryz.func31,Tryz.ntmps31
  go_wp2_with fail
  go_ret
  exact ⟨rfl,by go_grown⟩
 have b3:(k == 3) = false:=by simpa using h3
 by_cases h4:k = 4
 ·subst h4
  go_enter Tryz.func31,Tryz.ntmps31
  go_wp2_with fail
  go_ret
  exact ⟨rfl,by go_grown⟩
 have b4:(k == 4) = false:=by simpa using h4
 have HC:Hid (cmdI ⟨k,s,t,l,q,i,p,g⟩ = .nilIface):=by show _ = _; simp [cmdI,Q,N,h3,h4]
 go_enter Tryz.func31,Tryz.ntmps31
 go_wp2_with fail
 go_ret
 exact ⟨by rw [U HC]; rfl,by go_grown⟩
def plcF (id:Int):List Od→Nat→Int
 | [],_=>-1
 | o :: r,k=>if o.id = id then k else plcF id r (k + 1)
def plc (l:List Od) (id:Int):Int:=plcF id l 0
theorem plcF_spec (id:Int):∀ (l:List Od) (k:Nat),(plcF id l k = -1∧∀ o ∈ l,o.id ≠ id) ∨ ∃ i o,plcF id l k = ((k + i:Nat):Int)∧l[i]? = some o∧o.id = id∧∀ j o',j < i→l[j]? = some o'→o'.id ≠ id
 | [],k=>.inl ⟨rfl,by simp⟩
 | o :: r,k=>by
  by_cases h:o.id = id
  ·exact .inr ⟨0,o,by rw [plcF,if_pos h]; rfl,rfl,h,by simp⟩
  ·rcases plcF_spec id r (k + 1) with ⟨Q,N⟩ | ⟨i,o',Q,N,h3,h4⟩
   ·refine .inl ⟨by rw [plcF,if_neg h,Q],fun x hx=>?_⟩
    rcases List.mem_cons.1 hx with rfl | hx
    ·exact h
    ·exact N x hx
   ·refine .inr ⟨i + 1,o',by rw [plcF,if_neg h,Q]; congr 1; omega,N,h3,fun j x R hx=>?_⟩
    cases j with
    | zero=>simp at hx; subst hx; exact h
    | succ j=>exact h4 j x (by omega) (by simpa using hx)
theorem drop_get {l:List Od} {k:Nat} {c:Od} (h:l[k]? = some c):l.drop k = c :: l.drop (k + 1):=by
 obtain ⟨Q,rfl⟩:=yG.1 h
 exact xc Q
theorem place1_any (o:Od) (B:Nat) (id:Int) (w:World) (hB:w.cell? (J B 0) = some (H id)) :
  Calls Tryz.prog 89 #[.agg (yv o.id o.side o.ticks o.left o.life o.tag).toArray,I B 0] w fun e w'=>e = ym (.bool (o.id == id))∧yn w w':=by
 obtain ⟨uK,side,ticks,left,life,tag⟩:=o
 simp only
 have hB':(w.alloc (E (yv uK side ticks left life tag).toArray 66)).cell? (J B 0) = some (H id):=(yV _ _ (J B 0) (yK w _ hB)).trans hB
 go_enter Tryz.func89,Tryz.ntmps89
 go_wp2_with fail
 go_ret
 exact ⟨rfl,by go_grown⟩
theorem indexFunc_any (v:Value) (l:List Od) (B:Nat) (id:Int) (w:World) (hr:RdR Od.vs 6 w v l) (hB:w.cell? (J B 0) = some (H id)) :
  Calls Tryz.prog 88 #[v,.func (.func 89) #[] #[I B 0]] w fun e w'=>e = ym (H (plc l id))∧yn w w':=by
 obtain ⟨a,A,rfl,xD,hc⟩:=hr
 have xq:∀ (k:Nat) (c:Od),l[k]? = some c→∃ b off,a = some (J b off)∧b < w.heap.size∧w.rangeAt b (off + k * 6) c.vs:=by
  intro k c hk
  obtain ⟨b,off,Q,N,h3⟩:=hc (by intro h; rw [h] at hk; simp at hk)
  exact ⟨b,off,Q,N,h3 k c hk⟩
 have HC:=Y xq
 have HBC:=Y hB
 have hBl:=yK w _ hB
 simp only at hBl
 clear xq hc hB
 go_enter Tryz.func88,Tryz.ntmps88
 go_wp2_with fail
 go_loopw [8] (fun iv wr=>∃ (k:Nat),k ≤ l.length∧iv = H k∧Hid (plc l id = plcF id (l.drop k) k)∧yn w wr) (fun iv _=>l.length - (intOf iv).toNat)
 case atStart=>exact ⟨0,Nat.zero_le _,rfl,rfl,Below.refl _ _⟩
 case round =>
  obtain ⟨k,hk,rfl,jZ,xk⟩:=hrel
  have HB:=Y xk
  clear xk
  by_cases xK:k < l.length
  ·obtain ⟨c,vd⟩:∃ c,l[k]? = some c:=⟨_,yH xK⟩
   have HP:Hid (plc l id = if c.id = id then (k:Int) else plcF id (l.drop (k + 1)) (k + 1)):=by
    have:=U jZ
    rw [drop_get vd] at this
    exact this
   obtain ⟨b,off,rfl,L,xo⟩:=U HC k c vd
   obtain ⟨g0,g1,g2,g3,g4,g5⟩:=zC (zb xo (U HB) L)
   have uv:(k:Int) < l.length:=by omega
   have uB:=Y (((U HB).cell (p:=(J B 0)) hBl).trans (U HBC))
   clear vd xo L jZ
   go_wp2_with fail
   refine (place1_any c B id wr (U uB)).mono ?_
   rintro e w3 ⟨rfl,uH⟩
   have xT:=Y (eh (U HB) uH)
   clear uH
   by_cases qE:c.id = id
   ·have L:(c.id == id) = true:=by simpa using qE
    have HK:Hid (plc l id = k):=by have:=U HP; rw [if_pos qE] at this; exact this
    clear qE
    go_wp2_with fail
    go_ret
    exact ⟨zp (U HK).symm,U xT⟩
   ·have L:(c.id == id) = false:=by simpa using qE
    have HK:Hid (plc l id = plcF id (l.drop (k + 1)) (k + 1)):=by have:=U HP; rw [if_neg qE] at this; exact this
    clear qE
    go_wp2_with fail
    go_roundw
    case rel=>exact ⟨k + 1,by omega,by go_num,U HK,U xT⟩
    case measure=>simp [intOf]; omega
  ·have HK:Hid (plc l id = -1):=by
    have h:=U jZ
    rw [xa (by omega)] at h
    exact h
   go_wp2_with fail
   go_ret
   exact ⟨zp (U HK).symm,U HB⟩
theorem dn (next:Int) (v:Value) (l:List Od) (id:Int) (w:World) (hr:RdR Od.vs 6 w v l) :
  Calls Tryz.prog 58 #[.agg #[H next,v],H id] w fun e w'=>e = ym (H (plc l id))∧yn w w':=by
 have HR:=Y hr
 obtain ⟨a,A,rfl,xD,hc⟩:=hr
 have hmf:∀ (fn:Fn) (first A:Array Value) (w:World),(Instr.makeFunc fn first A).run Tryz.prog w = .ok (.func fn first A) w:=fun _ _ _ _=>rfl
 have xA:=ze w (E #[H next,.slice a l.length A] 31)
 have r1:=zg (w.alloc (E #[H next,.slice a l.length A] 31)) [H id] 3
 rw [xA] at r1
 have HX:=Y (r1 0 _ rfl)
 have vj:Hid (yn w ((w.alloc (E #[H next,.slice a l.length A] 31)).alloc (E #[H id] 3))):=(ed _ _).alloc (by rw [xA]; omega) _
 clear hc r1 xA
 go_enter Tryz.func58,Tryz.ntmps58
 go_wp2_with fail
 have HX:Hid (World.cell? ((w.alloc (E #[H next,.slice a l.length A] 31)).alloc (E #[H id] 3)) (J (w.heap.size + 1) 0) = some (H id)):=U HX
 generalize ((w.alloc (E #[H next,.slice a l.length A] 31)).alloc (E #[H id] 3)) = W2 at HX vj ⊢
 refine (indexFunc_any _ l (w.heap.size + 1) id W2 (zl (U HR) (U vj) tg) (U HX)).mono ?_
 rintro e w3 ⟨rfl,uH⟩
 have xT:=Y (eh (U vj) uH)
 clear uH
 go_wp2_with fail
 go_ret
 exact ⟨rfl,U xT⟩
def fdyF:List Od→Nat→Int
 | [],_=>-1
 | o :: r,k=>if o.life = 1 then k else fdyF r (k + 1)
def fdy (l:List Od):Int:=fdyF l 0
theorem dT (o:Od) (w:World) :
  Calls Tryz.prog 60 #[.agg (yv o.id o.side o.ticks o.left o.life o.tag).toArray] w fun e w'=>e = ym (.bool (o.life == 1))∧yn w w':=by
 obtain ⟨uK,side,ticks,left,life,tag⟩:=o
 simp only
 go_enter Tryz.func60,Tryz.ntmps60
 go_wp2_with fail
 go_ret
 exact ⟨rfl,by go_grown⟩
theorem indexDay_any (v:Value) (l:List Od) (w:World) (hr:RdR Od.vs 6 w v l) :
  Calls Tryz.prog 88 #[v,.func (.func 60) #[] #[]] w fun e w'=>e = ym (H (fdy l))∧yn w w':=by
 obtain ⟨a,A,rfl,xD,hc⟩:=hr
 have xq:∀ (k:Nat) (c:Od),l[k]? = some c→∃ b off,a = some (J b off)∧b < w.heap.size∧w.rangeAt b (off + k * 6) c.vs:=by
  intro k c hk
  obtain ⟨b,off,Q,N,h3⟩:=hc (by intro h; rw [h] at hk; simp at hk)
  exact ⟨b,off,Q,N,h3 k c hk⟩
 have HC:=Y xq
 clear xq hc
 go_enter Tryz.func88,Tryz.ntmps88
 go_wp2_with fail
 go_loopw [8] (fun iv wr=>∃ (k:Nat),k ≤ l.length∧iv = H k∧Hid (fdy l = fdyF (l.drop k) k)∧yn w wr) (fun iv _=>l.length - (intOf iv).toNat)
 case atStart=>exact ⟨0,Nat.zero_le _,rfl,rfl,Below.refl _ _⟩
 case round =>
  obtain ⟨k,hk,rfl,jZ,xk⟩:=hrel
  have HB:=Y xk
  clear xk
  by_cases xK:k < l.length
  ·obtain ⟨c,vd⟩:∃ c,l[k]? = some c:=⟨_,yH xK⟩
   have HP:Hid (fdy l = if c.life = 1 then (k:Int) else fdyF (l.drop (k + 1)) (k + 1)):=by
    have:=U jZ
    rw [drop_get vd] at this
    exact this
   obtain ⟨b,off,rfl,L,xo⟩:=U HC k c vd
   obtain ⟨g0,g1,g2,g3,g4,g5⟩:=zC (zb xo (U HB) L)
   have uv:(k:Int) < l.length:=by omega
   clear vd xo L jZ
   go_wp2_with fail
   refine (dT c wr).mono ?_
   rintro e w3 ⟨rfl,uH⟩
   have xT:=Y (eh (U HB) uH)
   clear uH
   by_cases qE:c.life = 1
   ·have L:(c.life == 1) = true:=by simpa using qE
    have HK:Hid (fdy l = k):=by have:=U HP; rw [if_pos qE] at this; exact this
    clear qE
    go_wp2_with fail
    go_ret
    exact ⟨zp (U HK).symm,U xT⟩
   ·have L:(c.life == 1) = false:=by simpa using qE
    have HK:Hid (fdy l = fdyF (l.drop (k + 1)) (k + 1)):=by have:=U HP; rw [if_neg qE] at this; exact this
    clear qE
    go_wp2_with fail
    go_roundw
    case rel=>exact ⟨k + 1,by omega,by go_num,U HK,U xT⟩
    case measure=>simp [intOf]; omega
  ·have HK:Hid (fdy l = -1):=by
    have h:=U jZ
    rw [xa (by omega)] at h
    exact h
   go_wp2_with fail
   go_ret
   exact ⟨zp (U HK).symm,U HB⟩
abbrev ORow (W:World) (B:Nat) (v:Value) (l:List Od):Prop:=W.ownsRow B 66 6 v l.length (l.flatMap Od.vs)
theorem zK {W:World} {B:Nat} {v:Value} {l:List Od} (h:ORow W B v l) (hl:l.length ≤ 1073741824):RdR Od.vs 6 W v l:=ownR_rd (bS Od.len hl h)
theorem bT (w:World) (cs:List Value) (t:TypeId) (j:Nat) (u:Value) (h:cs[j]? = some u):(w.alloc (Obj.cells cs.toArray t)).cell? (((yq w 0):Addr).add j) = some u:=by
 rw [Addr.add_mid,cell_of_row _ w.heap.size (0 + j) cs.toArray t (0,0) (heap_alloc_new w _)]
 simpa using h
theorem cJ {W:World} {g off:Nat} {l:List Od} (h:∀ i c,l[i]? = some c→W.rangeAt g (off + i * 6) c.vs) (a n:Nat):∀ j u,(((l.drop a).take n).flatMap Od.vs)[j]? = some u→W.cell? (((J g (off + a * 6)):Addr).add j) = some u:=by
 intro j u hu
 have xK:=(yG.1 hu).1
 rw [zH Od.len] at xK
 have hq:j / 6 < ((l.drop a).take n).length:=by omega
 obtain ⟨c,hc⟩:∃ c,((l.drop a).take n)[j / 6]? = some c:=⟨_,yH hq⟩
 have Q:=flat_get Od.len _ (j / 6) (j % 6) c hc (by omega)
 rw [show j / 6 * 6 + j % 6 = j by omega,hu] at Q
 have hc':l[a + j / 6]? = some c:=by
  rw [List.getElem?_take] at hc
  split at hc
  ·rw [List.getElem?_drop] at hc; exact hc
  ·cases hc
 have:=h _ c hc' (j % 6) u Q.symm
 rw [Addr.add_mid]
 rw [show off + (a + j / 6) * 6 + j % 6 = off + a * 6 + j by omega] at this
 exact this
theorem bd (l:List Od):∀ u ∈ l.flatMap Od.vs,u.oneCell' = true:=by
 intro u hu
 obtain ⟨o,_,Z⟩:=List.mem_flatMap.1 hu
 simp [Od.vs] at Z
 rcases Z with rfl | rfl | rfl | rfl | rfl | rfl <;> rfl
structure R7 (LV:Value) (W0:World) (C:Nat→Value→Prop) (L1 L2:List Od) (x:List Bool) (f:Nat→Value) (W:World):Prop where
 bel:Below W0.heap.size W0 W
 c:∀ j,x[j]? = some true→C j (f j)
 s5:x[10]? = some false→f 10 = LV
 m0:x[0]? = some true→x[4]? = some false→ORow W W0.heap.size (f 0) []
 m4:x[4]? = some true→x[9]? = some false→ORow W W0.heap.size (f 4) L1
 m9:x[9]? = some true→ORow W W0.heap.size (f 9) L2
 m10:x[10]? = some true→f 10 = f 9
 o4:x[4]? = some true→x[0]? = some true
 o9:x[9]? = some true→x[4]? = some true
 o10:x[10]? = some true→∀ j,j < 10→x[j]? = some true
theorem gq {x:List Bool} {i j:Nat} (h:i ≠ j):(x.set i true)[j]? = x[j]?:=yW h
theorem set_mono {x:List Bool} {i j:Nat} (h:x[j]? = some true):(x.set i true)[j]? = some true:=by
 by_cases pD:i = j
 ·subst pD; exact List.getElem?_set_self (yG.1 h).1
 ·rw [yW pD]; exact h
theorem gqs {x:List Bool} {i:Nat} (h:x[i]? = some false):(x.set i true)[i]? = some true:=List.getElem?_set_self (yG.1 h).1
section
variable {LV:Value} {W0 W W':World} {C:Nat→Value→Prop} {L1 L2:List Od} {x:List Bool} {f:Nat→Value}
theorem bc (h:R7 LV W0 C L1 L2 x f W) (i:Nat) (v:Value) (hv:C i v) (h0:i ≠ 0) (h4:i ≠ 4) (h9:i ≠ 9) (vS:i ≠ 10):R7 LV W0 C L1 L2 (x.set i true) (upd f i v) W:=by
 refine ⟨h.bel,zx h.c hv,?_,?_,?_,?_,?_,?_,?_,?_⟩ <;> simp only [gq h0,gq h4,gq h9,gq vS,zo f v h0.symm,zo f v h4.symm,zo f v h9.symm,zo f v vS.symm]
 ·exact h.s5
 ·exact h.m0
 ·exact h.m4
 ·exact h.m9
 ·exact h.m10
 ·exact h.o4
 ·exact h.o9
 ·exact fun e j R=>set_mono (h.o10 e j R)
theorem no_of {b:Option Bool} (h:b = some false):b ≠ some true:=by rw [h]; simp
theorem r7_0 (h:R7 LV W0 C L1 L2 x f W) (h0:x[0]? = some false) (hv:∀ v,C 0 v):R7 LV W0 C L1 L2 (x.set 0 true) (upd f 0 (.slice (some (yq W 0)) 0 0)) (W.alloc (E #[] 66)):=by
 have n4:x[4]? ≠ some true:=fun e=>no_of h0 (h.o4 e)
 have n9:x[9]? ≠ some true:=fun e=>n4 (h.o9 e)
 have pP:x[10]? ≠ some true:=fun e=>n9 (h.o10 e 9 (by omega))
 refine ⟨h.bel.alloc h.bel.size _,zx h.c (hv _),?_,?_,?_,?_,?_,?_,?_,?_⟩ <;> try simp only [gq (show 0 ≠ 4 by decide),gq (show 0 ≠ 9 by decide),gq (show 0 ≠ 10 by decide),zo f _ (show 10 ≠ 0 by decide),zo f _ (show 9 ≠ 0 by decide),zo f _ (show 4 ≠ 0 by decide)]
 ·exact h.s5
 ·intro _ _; rw [zn]; exact World.ownsRow_made W #[] 0 h.bel.size (by decide) rfl
 ·exact fun e=>absurd e n4
 ·exact fun e=>absurd e n9
 ·exact fun e=>absurd e pP
 ·exact fun e=>absurd e n4
 ·exact h.o9
 ·exact fun e j R=>set_mono (h.o10 e j R)
theorem r7_4 (h:R7 LV W0 C L1 L2 x f W) (h0:x[0]? = some true) (h4:x[4]? = some false) (hv:∀ v,C 4 v) {v':Value} (Z:ORow W' W0.heap.size v' L1) (hg:W.grownBy W' (f 0).ownBlock):R7 LV W0 C L1 L2 (x.set 4 true) (upd f 4 v') W':=by
 have n9:x[9]? ≠ some true:=fun e=>no_of h4 (h.o9 e)
 have pP:x[10]? ≠ some true:=fun e=>n9 (h.o10 e 9 (by omega))
 refine ⟨h.bel.grown hg h.bel.size (fun k hk=>((h.m0 h0 h4).lt k hk).1),zx h.c (hv _),?_,?_,?_,?_,?_,?_,?_,?_⟩ <;> try simp only [gq (show 4 ≠ 0 by decide),gq (show 4 ≠ 9 by decide),gq (show 4 ≠ 10 by decide),zo f _ (show 10 ≠ 4 by decide),zo f _ (show 9 ≠ 4 by decide),zo f _ (show 0 ≠ 4 by decide)]
 ·exact h.s5
 ·intro _ e; rw [gqs h4] at e; cases e
 ·intro _ _; rw [zn]; exact Z
 ·exact fun e=>absurd e n9
 ·exact fun e=>absurd e pP
 ·exact fun _=>h0
 ·exact fun e=>absurd e n9
 ·exact fun e j R=>set_mono (h.o10 e j R)
theorem r7_9 (h:R7 LV W0 C L1 L2 x f W) (h4:x[4]? = some true) (h9:x[9]? = some false) (hv:∀ v,C 9 v) {v':Value} (Z:ORow W' W0.heap.size v' L2) (hg:W.grownBy W' (f 4).ownBlock):R7 LV W0 C L1 L2 (x.set 9 true) (upd f 9 v') W':=by
 have pP:x[10]? ≠ some true:=fun e=>no_of h9 (h.o10 e 9 (by omega))
 refine ⟨h.bel.grown hg h.bel.size (fun k hk=>((h.m4 h4 h9).lt k hk).1),zx h.c (hv _),?_,?_,?_,?_,?_,?_,?_,?_⟩ <;> try simp only [gq (show 9 ≠ 0 by decide),gq (show 9 ≠ 4 by decide),gq (show 9 ≠ 10 by decide),zo f _ (show 10 ≠ 9 by decide),zo f _ (show 4 ≠ 9 by decide),zo f _ (show 0 ≠ 9 by decide)]
 ·exact h.s5
 ·exact fun _ e=>absurd e (by rw [h4]; simp)
 ·intro _ e; rw [gqs h9] at e; cases e
 ·intro _; rw [zn]; exact Z
 ·exact fun e=>absurd e pP
 ·exact h.o4
 ·exact fun _=>h4
 ·exact fun e=>absurd e pP
theorem r7_10 (h:R7 LV W0 C L1 L2 x f W) (hA:∀ j,j < 10→x[j]? = some true) (vS:x[10]? = some false) (hv:∀ v,C 10 v):R7 LV W0 C L1 L2 (x.set 10 true) (upd f 10 (f 9)) W:=by
 refine ⟨h.bel,zx h.c (hv _),?_,?_,?_,?_,?_,?_,?_,?_⟩ <;> try simp only [gq (show 10 ≠ 0 by decide),gq (show 10 ≠ 4 by decide),gq (show 10 ≠ 9 by decide),zo f _ (show 9 ≠ 10 by decide),zo f _ (show 4 ≠ 10 by decide),zo f _ (show 0 ≠ 10 by decide)]
 ·intro e; rw [gqs vS] at e; cases e
 ·exact h.m0
 ·exact h.m4
 ·exact h.m9
 ·exact fun _=>zn _ _ _
 ·exact h.o4
 ·exact h.o9
 ·exact fun _ j R=>set_mono (hA j R)
end
def C7 (LV:Value) (g n cp i:Nat):Nat→Value→Prop
 | 1,v=>v = LV
 | 2,v=>v = H i
 | 3,v=>v = .slice (some (J g 0)) i cp
 | 5,v=>v = LV
 | 6,v=>v = H i
 | 7,v=>v = H ((i:Int) + 1)
 | 8,v=>∃ ad c,v = .slice (some ad) (n - (i + 1)) c∧(i + 1 < n→ad = (J g ((i + 1) * 6)))
 | _,_=>True
def R7A (LV:Value) (W0:World) (C:Nat→Value→Prop) (L1 L2:List Od) (qt:(Nat→Value)→Act) (x:List Bool) (xm:Act) (W:World):Prop:=∃ f,xm = qt f∧R7 LV W0 C L1 L2 x f W
theorem df {W:World} {B:Nat} {v:Value} {l:List Od} (h:ORow W B v l) (xB:l ≠ []):∃ g A,v = .slice (some (J g 0)) l.length A∧l.length ≤ A∧B ≤ g∧g < W.heap.size:=by
 rcases h.2 with ⟨rfl,h0⟩ | ⟨g,A,xr,rfl,L,hg,vY,_⟩
 ·exact absurd (List.length_eq_zero_iff.1 h0) xB
 ·exact ⟨g,A,rfl,vY,L,(yY.1 hg).1⟩
def SlOk (v:Value):Prop:=v = .slice none 0 0 ∨ ∃ ad n c,v = .slice (some ad) n c
theorem oRow_sl {W:World} {B:Nat} {v:Value} {l:List Od} (h:ORow W B v l):SlOk v:=by
 rcases h.2 with ⟨Q,_⟩ | ⟨g,A,xr,Q,_⟩
 ·exact .inl Q
 ·exact .inr ⟨_,_,_,Q⟩
theorem rd_src {W:World} {ad:Addr} {A:Nat} {l:List Od} (hr:RdR Od.vs 6 W (.slice (some ad) l.length A) l):∀ j u,(l.flatMap Od.vs)[j]? = some u→W.cell? (ad.add j) = some u:=by
 intro j u hu
 obtain ⟨a',pw,e1,_,hc⟩:=hr
 simp only [Value.slice.injEq] at e1
 have xB:l ≠ []:=by rintro rfl; simp at hu
 obtain ⟨b,off,e2,L,xo⟩:=hc xB
 rw [e2] at e1
 simp only [Option.some.injEq] at e1
 obtain ⟨rfl,-,-⟩:=e1
 have h:=cJ (W:=W) (g:=b) (off:=off) (l:=l) xo 0 l.length j u (by simpa using hu)
 simpa using h
theorem rd_lenF {W:World} {v:Value} {l:List Od} (h:RdR Od.vs 6 W v l):∃ a c,v = .slice a l.length c:=by
 obtain ⟨a,c,Q,_⟩:=h; exact ⟨a,c,Q⟩
theorem zB {W:World} {b c o k j:Nat} {u:Value} (h:W.there b o k):(W.setCell (J c j) u).there b o k:=xb (vs:=[u]) h c j
theorem bw {W:World} {B:Nat} {v:Value} {l:List Od} (h:ORow W B v l) {b:Nat} (L:b < B) (o:Nat) (u:Value):ORow (W.setCell (J b o) u) B v l :=
 ownsRow_setCell_below h (a:=(J b o)) L u
theorem copy_mid {w W2 w3:World} {S:Nat} {v3 sv:Value} {next:Int} {l:List Od} (hS:S = w.heap.size) (Q:Below S w W2) (N:W2.heap.size = S + 2) (h3:W2.rangeAt S 0 [H next,sv]) (h4:W2.there S 0 2) (h5:W2.there (S + 1) 0 2) (hl:l.length ≤ 1000)
  (h6:w3.ownsRow (S + 2) 66 6 v3 (0 + l.length) ([] ++ l.flatMap Od.vs)) (h7:W2.grownBy w3 (Value.slice none 0 0).ownBlock) :
  ∃ a3 c3,v3 = .slice a3 l.length c3∧ORow w3 (S + 2) v3 l∧w3.cell? (J S 0) = some (H next)∧w3.cell? (J S 1) = some sv∧w3.frozen? (J S 1) = false∧w3.there (S + 1) 0 2∧Below S w w3∧S + 2 ≤ w3.heap.size:=by
 have h6':ORow w3 (S + 2) v3 l:=by
  show w3.ownsRow _ _ _ _ l.length _
  simpa using h6
 obtain ⟨a3,c3,e⟩:=rd_lenF (zK h6' (by omega))
 have r:=zq h3 h7 (by omega) (by simp [Value.ownBlock])
 refine ⟨a3,c3,e,h6',r 0 _ rfl,r 1 _ rfl,?_,zZ h5 h7 (by omega) (by simp [Value.ownBlock]),Q.grown h7 (by omega) (fun k hk=>by simp [Value.ownBlock] at hk),by have:=h7.size; omega⟩
 have:=(zZ h4 h7 (by omega) (by simp [Value.ownBlock]) 1 (by omega)).2
 rwa [Nat.zero_add] at this
theorem copyBook_any (next:Int) (v:Value) (l:List Od) (w:World) (hr:RdR Od.vs 6 w v l) (hs:SlOk v) (hn:l.length ≤ 1000) :
  Calls Tryz.prog 82 #[.agg #[H next,v]] w fun e w'=>∃ v',e = ym (.agg #[H next,v'])∧ORow w' w.heap.size v' l∧yn w w':=by
 have HR:=Y hr
 obtain ⟨i0,uE,uA,uC,uM⟩:=info_parts Tryz.infoOrder
 obtain ⟨a,A,rfl,xD,hc⟩:=hr
 have xA:=ze w (E #[H next,.slice a l.length A] 31)
 have uc:((w.alloc (E #[H next,.slice a l.length A] 31)).alloc (E #[H 0,.slice none 0 0] 31)).heap.size = w.heap.size + 2:=by rw [ze,xA]
 have t1:=zu w [H next,.slice a l.length A] 31
 have r1:=zg w [H next,.slice a l.length A] 31
 have b1:Below (w.heap.size + 1) (w.alloc (E #[H next,.slice a l.length A] 31)) ((w.alloc (E #[H next,.slice a l.length A] 31)).alloc (E #[H 0,.slice none 0 0] 31)):=(Below.refl _ _).alloc (by rw [xA]; omega) _
 have t2:=zu (w.alloc (E #[H next,.slice a l.length A] 31)) [H 0,.slice none 0 0] 31
 rw [xA] at t2
 have HX:Hid (_∧_∧_):=⟨zb r1 b1 (by omega),zf t1 b1 (by omega),t2⟩
 have vj:Hid (yn w ((w.alloc (E #[H next,.slice a l.length A] 31)).alloc (E #[H 0,.slice none 0 0] 31))):=(ed _ _).alloc (by rw [xA]; omega) _
 have qY:=Y uc
 clear hc t1 r1 b1 t2 xA uc
 go_enter Tryz.func82,Tryz.ntmps82
 rcases hs with hs | ⟨ad,nn,cc,hs⟩
 ·simp only [Value.slice.injEq] at hs
  obtain ⟨rfl,pG,rfl⟩:=hs
  obtain rfl:=List.length_eq_zero_iff.1 pG
  go_wp2_with (at_builtin; go_must (refine wpList_append_own_none rfl _ _ 29 rfl (w.heap.size + 2) 66 i0 6 Tryz.underlying29 uE (.slice none 0 0) 0 [] rfl (World.ownsRow_nil _ _ _ _) rfl ?_))
  go_returns
  refine ⟨_,rfl,World.ownsRow_nil _ _ _ _,?_⟩
  go_grown
 ·simp only [Value.slice.injEq] at hs
  obtain ⟨rfl,rfl,rfl⟩:=hs
  have uZ:Hid (∀ j u,(l.flatMap Od.vs)[j]? = some u→World.cell? (((w.alloc (E #[H next,.slice (some ad) l.length A] 31)).alloc (E #[H 0,.slice none 0 0] 31))) (ad.add j) = some u):=rd_src (zl (U HR) (U vj) tg)
  go_wp2_with (at_builtin; go_must (refine wpList_append_own _ rfl _ _ 29 rfl (w.heap.size + 2) 66 i0 _ 6 56 Tryz.underlying29 uE uA uC uM rfl (by decide) (.slice none 0 0) 0 [] rfl (World.ownsRow_nil _ _ _ _) ad l.length A (l.flatMap Od.vs) rfl (by rw [zH Od.len]) (U uZ) (bd l) (by unfold maxLen; omega) (by omega) (by rw [U qY]; omega) ?_); intro v3 w3 hown3 uW _; obtain ⟨a3,c3,rfl,ho3,c0,c1,f1,ht3,uH,qG⟩:=copy_mid rfl (U vj) (U qY) (U HX).1 (U HX).2.1 (U HX).2.2 hn hown3 uW; have qL:=Y ho3; have jU:=Y ht3; have xT:=Y uH; obtain ⟨v0,z0,q0⟩:=zD ht3 0 (by omega); obtain ⟨v1,z1,q1⟩:=zD ht3 1 (by omega); clear ho3 ht3 uH hown3 uW)
  have z0:w3.cell? (J (w.heap.size + 1) 0) = some v0:=z0
  have z1:w3.cell? (J (w.heap.size + 1) 1) = some v1:=by rw [Nat.zero_add] at z1; exact z1
  have q0:w3.frozen? (J (w.heap.size + 1) 0) = false:=q0
  have q1:w3.frozen? (J (w.heap.size + 1) 1) = false:=by rw [Nat.zero_add] at q1; exact q1
  have jE:=Y (yX (w3.setCell (yq w 1) (.slice a3 l.length c3)) (w.heap.size + 1) 0 [H next,.slice a3 l.length c3] (fun j R=>(zB (U jU)) j R))
  have HOX:=Y (bw (bw (bw (U qL) (b:=w.heap.size) (by omega) 1 (.slice a3 l.length c3)) (b:=w.heap.size + 1) (by omega) 0 (H next)) (b:=w.heap.size + 1) (by omega) 1 (.slice a3 l.length c3))
  have uB:=Y ((((U xT).setCell (p:=(yq w 1)) tg (.slice a3 l.length c3)).setCell (p:=(J (w.heap.size + 1) 0)) (by simp) (H next)).setCell (p:=(J (w.heap.size + 1) 1)) (by simp) (.slice a3 l.length c3))
  go_wp2_with fail
  have jE:Hid (World.rangeAt (((w3.setCell (yq w 1) (.slice a3 l.length c3)).setCell (J (w.heap.size + 1) 0) (H next)).setCell (J (w.heap.size + 1) 1) (.slice a3 l.length c3)) (w.heap.size + 1) 0 [H next,.slice a3 l.length c3]):=U jE
  generalize (((w3.setCell (yq w 1) (.slice a3 l.length c3)).setCell (J (w.heap.size + 1) 0) (H next)).setCell (J (w.heap.size + 1) 1) (.slice a3 l.length c3)) = WE at jE HOX uB ⊢
  have d0:WE.cell? (J (w.heap.size + 1) 0) = some (H next):=U jE 0 _ rfl
  have d1:WE.cell? (J (w.heap.size + 1) 1) = some (.slice a3 l.length c3):=U jE 1 _ rfl
  try simp only [Exit.inBlock,Exit.then]
  refine bodyPost_ret (by simp [results,Tryz.results82,go_sem,d0,d1]; try rfl) rfl ?_
  exact ⟨_,rfl,bO (U HOX) (by omega),U uB⟩
end Go.Proofs.YtdliebbfcmdmaaaGreat
