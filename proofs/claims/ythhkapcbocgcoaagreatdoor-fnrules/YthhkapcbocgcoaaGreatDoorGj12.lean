/-
  A command by its kind, and the place of an order in a book, by the program: proved by walking the functions.
-/
import Derived.Test.YthhkapcbocgcoaaGreatDoorGj11
import Derived.Laws.AppendOwnNone
import Derived.Laws.CopyOwn
set_option linter.unusedVariables false
set_option maxHeartbeats 6400000
set_option maxRecDepth 100000
namespace Go.Proofs.YthhkapcbocgcoaaGreatDoor
open Go.RowKit
def cmdI (c:Cm):Value:=if c.k = 1 then .iface 63 (noV c) else if c.k = 2 then .iface 214 (.agg #[H c.i]) else if c.k = 3 then .iface 216 (.agg #[H c.i,H c.q]) else if c.k = 4 then .iface 241 (.agg #[]) else .nilIface
theorem gW (c:Cm) (w:World) :
  Calls Tryz.prog 150 #[cmV c] w fun e w'=>e = ym (noV c)∧yn w w':=by
 obtain ⟨k,s,t,l,q,i,p,g⟩:=c
 unfold cmV noV
 simp only
 have hsf:=sfl
 go_enter Tryz.func150,Tryz.ntmps150
 go_wp2_with fail
 go_returns
 exact ⟨rfl,by go_grown⟩
theorem fM (c:Cm) (w:World) :
  Calls Tryz.prog 184 #[cmV c] w fun e w'=>e = ym (cmdI c)∧yn w w':=by
 obtain ⟨k,s,t,l,q,i,p,g⟩:=c
 unfold cmV
 simp only
 by_cases Q:k = 1
 ·subst Q
  have xU:Hid (yn w (w.alloc (O (yx 1 s t l q i p g).toArray 33))):=gZ _ _
  go_enter Tryz.func184,Tryz.ntmps184
  go_wp2_with fail
  refine (gW ⟨1,s,t,l,q,i,p,g⟩ _).mono ?_
  rintro e w' ⟨rfl,A⟩
  have xt:=M (ia (U xU) A)
  clear A
  go_wp2_with fail
  go_ret
  exact ⟨rfl,U xt⟩
 have b1:(k == 1) = false:=by simpa using Q
 by_cases D:k = 2
 ·subst D
  go_enter Tryz.func184,Tryz.ntmps184
  go_wp2_with fail
  go_ret
  exact ⟨rfl,by go_grown⟩
 have b2:(k == 2) = false:=by simpa using D
 by_cases X:k = 3
 ·subst X
  go_enter Tryz.func184,Tryz.ntmps184
  go_wp2_with fail
  go_ret
  exact ⟨rfl,by go_grown⟩
 have b3:(k == 3) = false:=by simpa using X
 by_cases h4:k = 4
 ·subst h4
  go_enter Tryz.func184,Tryz.ntmps184
  go_wp2_with fail
  go_ret
  exact ⟨rfl,by go_grown⟩
 have b4:(k == 4) = false:=by simpa using h4
 have HC:Hid (cmdI ⟨k,s,t,l,q,i,p,g⟩ = .nilIface):=by show _ = _; simp [cmdI,Q,D,X,h4]
 go_enter Tryz.func184,Tryz.ntmps184
 go_wp2_with fail
 go_ret
 exact ⟨by rw [U HC]; rfl,by go_grown⟩
def plcF (id:Int):List Od→Nat→Int
 | [],_=>-1
 | o :: r,k=>if o.id = id then k else plcF id r (k + 1)
def plc (l:List Od) (id:Int):Int:=plcF id l 0
theorem plcF_spec (id:Int):∀ (l:List Od) (k:Nat),(plcF id l k = -1∧∀ o ∈ l,o.id ≠ id) ∨ ∃ i o,plcF id l k = ((k + i:Nat):Int)∧l[i]? = some o∧o.id = id∧∀ j o',j < i→l[j]? = some o'→o'.id ≠ id
 | [],k=>.inl ⟨rfl,by simp⟩
 | o :: r,k=>by
  by_cases h:o.id = id
  ·exact .inr ⟨0,o,by rw [plcF,if_pos h]; rfl,rfl,h,by simp⟩
  ·rcases plcF_spec id r (k + 1) with ⟨Q,D⟩ | ⟨i,o',Q,D,X,h4⟩
   ·refine .inl ⟨by rw [plcF,if_neg h,Q],fun x hx=>?_⟩
    rcases List.mem_cons.1 hx with rfl | hx
    ·exact h
    ·exact D x hx
   ·refine .inr ⟨i + 1,o',by rw [plcF,if_neg h,Q]; congr 1; omega,D,X,fun j x hj hx=>?_⟩
    cases j with
    | zero=>simp at hx; subst hx; exact h
    | succ j=>exact h4 j x (by omega) (by simpa using hx)
theorem drop_get {l:List Od} {k:Nat} {c:Od} (h:l[k]? = some c):l.drop k = c :: l.drop (k + 1):=by
 obtain ⟨Q,rfl⟩:=yH.1 h
 exact xd Q
theorem place1_any (o:Od) (B:Nat) (id:Int) (w:World) (hB:w.cell? (J B 0) = some (H id)) :
  Calls Tryz.prog 190 #[.agg (yw o.id o.side o.ticks o.left o.life o.tag).toArray,I B 0] w fun e w'=>e = ym (.bool (o.id == id))∧yn w w':=by
 obtain ⟨uH,side,ticks,left,life,tag⟩:=o
 simp only
 have hB':(w.alloc (O (yw uH side ticks left life tag).toArray 65)).cell? (J B 0) = some (H id):=(yW _ _ (J B 0) (yL w _ hB)).trans hB
 go_enter Tryz.func190,Tryz.ntmps190
 go_wp2_with fail
 go_ret
 exact ⟨rfl,by go_grown⟩
theorem indexFunc_any (v:Value) (l:List Od) (B:Nat) (id:Int) (w:World) (hr:RdR Od.vs 6 w v l) (hB:w.cell? (J B 0) = some (H id)) :
  Calls Tryz.prog 107 #[v,.func (.func 190) #[] #[I B 0]] w fun e w'=>e = ym (H (plc l id))∧yn w w':=by
 obtain ⟨a,cap,rfl,xD,hc⟩:=hr
 have xr:∀ (k:Nat) (c:Od),l[k]? = some c→∃ b off,a = some (J b off)∧b < w.heap.size∧w.rangeAt b (off + k * 6) c.vs:=by
  intro k c E
  obtain ⟨b,off,Q,D,X⟩:=hc (by intro h; rw [h] at E; simp at E)
  exact ⟨b,off,Q,D,X k c E⟩
 have HC:=M xr
 have HBC:=M hB
 have hBl:=yL w _ hB
 simp only at hBl
 clear xr hc hB
 go_enter Tryz.func107,Tryz.ntmps107
 go_wp2_with fail
 go_loopw [8] (fun iv wr=>∃ (k:Nat),k ≤ l.length∧iv = H k∧Hid (plc l id = plcF id (l.drop k) k)∧yn w wr) (fun iv _=>l.length - (intOf iv).toNat)
 case atStart=>exact ⟨0,Nat.zero_le _,rfl,rfl,Below.refl _ _⟩
 case round =>
  obtain ⟨k,E,rfl,vD,xi⟩:=hrel
  have HB:=M xi
  clear xi
  by_cases xM:k < l.length
  ·obtain ⟨c,uV⟩:∃ c,l[k]? = some c:=⟨_,yI xM⟩
   have HP:Hid (plc l id = if c.id = id then (k:Int) else plcF id (l.drop (k + 1)) (k + 1)):=by
    have:=U vD
    rw [drop_get uV] at this
    exact this
   obtain ⟨b,off,rfl,A,xo⟩:=U HC k c uV
   obtain ⟨g0,g1,g2,g3,g4,g5⟩:=zC (zc xo (U HB) A)
   have vj:(k:Int) < l.length:=by omega
   have qC:=M (((U HB).cell (p:=(J B 0)) hBl).trans (U HBC))
   clear uV xo A vD
   go_wp2_with fail
   refine (place1_any c B id wr (U qC)).mono ?_
   rintro e w3 ⟨rfl,xQ⟩
   have xG:=M (ia (U HB) xQ)
   clear xQ
   by_cases uN:c.id = id
   ·have A:(c.id == id) = true:=by simpa using uN
    have HK:Hid (plc l id = k):=by have:=U HP; rw [if_pos uN] at this; exact this
    clear uN
    go_wp2_with fail
    go_ret
    exact ⟨zw (U HK).symm,U xG⟩
   ·have A:(c.id == id) = false:=by simpa using uN
    have HK:Hid (plc l id = plcF id (l.drop (k + 1)) (k + 1)):=by have:=U HP; rw [if_neg uN] at this; exact this
    clear uN
    go_wp2_with fail
    go_roundw
    case rel=>exact ⟨k + 1,by omega,by go_num,U HK,U xG⟩
    case measure=>simp [intOf]; omega
  ·have HK:Hid (plc l id = -1):=by
    have h:=U vD
    rw [xb (by omega)] at h
    exact h
   go_wp2_with fail
   go_ret
   exact ⟨zw (U HK).symm,U HB⟩
theorem fR (next:Int) (v:Value) (l:List Od) (id:Int) (w:World) (hr:RdR Od.vs 6 w v l) :
  Calls Tryz.prog 156 #[.agg #[H next,v],H id] w fun e w'=>e = ym (H (plc l id))∧yn w w':=by
 have HR:=M hr
 obtain ⟨a,cap,rfl,xD,hc⟩:=hr
 have hmf:∀ (fn:Fn) (first cap:Array Value) (w:World),(Instr.makeFunc fn first cap).run Tryz.prog w = .ok (.func fn first cap) w:=fun _ _ _ _=>rfl
 have xF:=zi w (O #[H next,.slice a l.length cap] 27)
 have r1:=zm (w.alloc (O #[H next,.slice a l.length cap] 27)) [H id] 3
 rw [xF] at r1
 have HX:=M (r1 0 _ rfl)
 have xZ:Hid (yn w ((w.alloc (O #[H next,.slice a l.length cap] 27)).alloc (O #[H id] 3))):=(gZ _ _).alloc (by rw [xF]; omega) _
 clear hc r1 xF
 go_enter Tryz.func156,Tryz.ntmps156
 go_wp2_with fail
 have HX:Hid (World.cell? ((w.alloc (O #[H next,.slice a l.length cap] 27)).alloc (O #[H id] 3)) (J (w.heap.size + 1) 0) = some (H id)):=U HX
 generalize ((w.alloc (O #[H next,.slice a l.length cap] 27)).alloc (O #[H id] 3)) = W2 at HX xZ ⊢
 refine (indexFunc_any _ l (w.heap.size + 1) id W2 (zh (U HR) (U xZ) hU) (U HX)).mono ?_
 rintro e w3 ⟨rfl,xQ⟩
 have xG:=M (ia (U xZ) xQ)
 clear xQ
 go_wp2_with fail
 go_ret
 exact ⟨rfl,U xG⟩
abbrev ORow (W:World) (B:Nat) (v:Value) (l:List Od):Prop:=W.ownsRow B 65 6 v l.length (l.flatMap Od.vs)
theorem zV {W:World} {B:Nat} {v:Value} {l:List Od} (h:ORow W B v l) (hl:l.length ≤ 1073741824):RdR Od.vs 6 W v l:=ownR_rd (eu Od.len hl h)
theorem cellsQ (w:World) (cs:List Value) (t:TypeId) (j:Nat) (u:Value) (h:cs[j]? = some u):(w.alloc (Obj.cells cs.toArray t)).cell? (((yq w 0):Addr).add j) = some u:=by
 rw [Addr.add_mid,cell_of_row _ w.heap.size (0 + j) cs.toArray t (0,0) (heap_alloc_new w _)]
 simpa using h
theorem eZ {W:World} {g off:Nat} {l:List Od} (h:∀ i c,l[i]? = some c→W.rangeAt g (off + i * 6) c.vs) (a n:Nat):∀ j u,(((l.drop a).take n).flatMap Od.vs)[j]? = some u→W.cell? (((J g (off + a * 6)):Addr).add j) = some u:=by
 intro j u hu
 have xM:=(yH.1 hu).1
 rw [zL Od.len] at xM
 have hq:j / 6 < ((l.drop a).take n).length:=by omega
 obtain ⟨c,hc⟩:∃ c,((l.drop a).take n)[j / 6]? = some c:=⟨_,yI hq⟩
 have Q:=flat_get Od.len _ (j / 6) (j % 6) c hc (by omega)
 rw [show j / 6 * 6 + j % 6 = j by omega,hu] at Q
 have hc':l[a + j / 6]? = some c:=by
  rw [List.getElem?_take] at hc
  split at hc
  ·rw [List.getElem?_drop] at hc; exact hc
  ·cases hc
 have:=h _ c hc' (j % 6) u Q.symm
 rw [Addr.add_mid]
 rw [show off + (a + j / 6) * 6 + j % 6 = off + a * 6 + j by omega] at this
 exact this
theorem dj (l:List Od):∀ u ∈ l.flatMap Od.vs,u.oneCell' = true:=by
 intro u hu
 obtain ⟨o,_,Y⟩:=List.mem_flatMap.1 hu
 simp [Od.vs] at Y
 rcases Y with rfl | rfl | rfl | rfl | rfl | rfl <;> rfl
structure R7 (LV:Value) (W0:World) (C:Nat→Value→Prop) (L1 L2:List Od) (x:List Bool) (f:Nat→Value) (W:World):Prop where
 bel:Below W0.heap.size W0 W
 c:∀ j,x[j]? = some true→C j (f j)
 s5:x[10]? = some false→f 10 = LV
 m0:x[0]? = some true→x[4]? = some false→ORow W W0.heap.size (f 0) []
 m4:x[4]? = some true→x[9]? = some false→ORow W W0.heap.size (f 4) L1
 m9:x[9]? = some true→ORow W W0.heap.size (f 9) L2
 m10:x[10]? = some true→f 10 = f 9
 o4:x[4]? = some true→x[0]? = some true
 o9:x[9]? = some true→x[4]? = some true
 o10:x[10]? = some true→∀ j,j < 10→x[j]? = some true
theorem gq {x:List Bool} {i j:Nat} (h:i ≠ j):(x.set i true)[j]? = x[j]?:=yX h
theorem set_mono {x:List Bool} {i j:Nat} (h:x[j]? = some true):(x.set i true)[j]? = some true:=by
 by_cases oT:i = j
 ·subst oT; exact List.getElem?_set_self (yH.1 h).1
 ·rw [yX oT]; exact h
theorem gqs {x:List Bool} {i:Nat} (h:x[i]? = some false):(x.set i true)[i]? = some true:=List.getElem?_set_self (yH.1 h).1
section
variable {LV:Value} {W0 W W':World} {C:Nat→Value→Prop} {L1 L2:List Od} {x:List Bool} {f:Nat→Value}
theorem cW (h:R7 LV W0 C L1 L2 x f W) (i:Nat) (v:Value) (hv:C i v) (h0:i ≠ 0) (h4:i ≠ 4) (h9:i ≠ 9) (vi:i ≠ 10):R7 LV W0 C L1 L2 (x.set i true) (upd f i v) W:=by
 refine ⟨h.bel,zF h.c hv,?_,?_,?_,?_,?_,?_,?_,?_⟩ <;> simp only [gq h0,gq h4,gq h9,gq vi,zq f v h0.symm,zq f v h4.symm,zq f v h9.symm,zq f v vi.symm]
 ·exact h.s5
 ·exact h.m0
 ·exact h.m4
 ·exact h.m9
 ·exact h.m10
 ·exact h.o4
 ·exact h.o9
 ·exact fun e j hj=>set_mono (h.o10 e j hj)
theorem no_of {b:Option Bool} (h:b = some false):b ≠ some true:=by rw [h]; simp
theorem r7_0 (h:R7 LV W0 C L1 L2 x f W) (h0:x[0]? = some false) (hv:∀ v,C 0 v):R7 LV W0 C L1 L2 (x.set 0 true) (upd f 0 (.slice (some (yq W 0)) 0 0)) (W.alloc (O #[] 65)):=by
 have n4:x[4]? ≠ some true:=fun e=>no_of h0 (h.o4 e)
 have n9:x[9]? ≠ some true:=fun e=>n4 (h.o9 e)
 have n10:x[10]? ≠ some true:=fun e=>n9 (h.o10 e 9 (by omega))
 refine ⟨h.bel.alloc h.bel.size _,zF h.c (hv _),?_,?_,?_,?_,?_,?_,?_,?_⟩ <;> try simp only [gq (show 0 ≠ 4 by decide),gq (show 0 ≠ 9 by decide),gq (show 0 ≠ 10 by decide),zq f _ (show 10 ≠ 0 by decide),zq f _ (show 9 ≠ 0 by decide),zq f _ (show 4 ≠ 0 by decide)]
 ·exact h.s5
 ·intro _ _; rw [zt]; exact World.ownsRow_made W #[] 0 h.bel.size (by decide) rfl
 ·exact fun e=>absurd e n4
 ·exact fun e=>absurd e n9
 ·exact fun e=>absurd e n10
 ·exact fun e=>absurd e n4
 ·exact h.o9
 ·exact fun e j hj=>set_mono (h.o10 e j hj)
theorem r7_4 (h:R7 LV W0 C L1 L2 x f W) (h0:x[0]? = some true) (h4:x[4]? = some false) (hv:∀ v,C 4 v) {v':Value} (Y:ORow W' W0.heap.size v' L1) (hg:W.grownBy W' (f 0).ownBlock):R7 LV W0 C L1 L2 (x.set 4 true) (upd f 4 v') W':=by
 have n9:x[9]? ≠ some true:=fun e=>no_of h4 (h.o9 e)
 have n10:x[10]? ≠ some true:=fun e=>n9 (h.o10 e 9 (by omega))
 refine ⟨h.bel.grown hg h.bel.size (fun k E=>((h.m0 h0 h4).lt k E).1),zF h.c (hv _),?_,?_,?_,?_,?_,?_,?_,?_⟩ <;> try simp only [gq (show 4 ≠ 0 by decide),gq (show 4 ≠ 9 by decide),gq (show 4 ≠ 10 by decide),zq f _ (show 10 ≠ 4 by decide),zq f _ (show 9 ≠ 4 by decide),zq f _ (show 0 ≠ 4 by decide)]
 ·exact h.s5
 ·intro _ e; rw [gqs h4] at e; cases e
 ·intro _ _; rw [zt]; exact Y
 ·exact fun e=>absurd e n9
 ·exact fun e=>absurd e n10
 ·exact fun _=>h0
 ·exact fun e=>absurd e n9
 ·exact fun e j hj=>set_mono (h.o10 e j hj)
theorem r7_9 (h:R7 LV W0 C L1 L2 x f W) (h4:x[4]? = some true) (h9:x[9]? = some false) (hv:∀ v,C 9 v) {v':Value} (Y:ORow W' W0.heap.size v' L2) (hg:W.grownBy W' (f 4).ownBlock):R7 LV W0 C L1 L2 (x.set 9 true) (upd f 9 v') W':=by
 have n10:x[10]? ≠ some true:=fun e=>no_of h9 (h.o10 e 9 (by omega))
 refine ⟨h.bel.grown hg h.bel.size (fun k E=>((h.m4 h4 h9).lt k E).1),zF h.c (hv _),?_,?_,?_,?_,?_,?_,?_,?_⟩ <;> try simp only [gq (show 9 ≠ 0 by decide),gq (show 9 ≠ 4 by decide),gq (show 9 ≠ 10 by decide),zq f _ (show 10 ≠ 9 by decide),zq f _ (show 4 ≠ 9 by decide),zq f _ (show 0 ≠ 9 by decide)]
 ·exact h.s5
 ·exact fun _ e=>absurd e (by rw [h4]; simp)
 ·intro _ e; rw [gqs h9] at e; cases e
 ·intro _; rw [zt]; exact Y
 ·exact fun e=>absurd e n10
 ·exact h.o4
 ·exact fun _=>h4
 ·exact fun e=>absurd e n10
theorem r7_10 (h:R7 LV W0 C L1 L2 x f W) (hA:∀ j,j < 10→x[j]? = some true) (vi:x[10]? = some false) (hv:∀ v,C 10 v):R7 LV W0 C L1 L2 (x.set 10 true) (upd f 10 (f 9)) W:=by
 refine ⟨h.bel,zF h.c (hv _),?_,?_,?_,?_,?_,?_,?_,?_⟩ <;> try simp only [gq (show 10 ≠ 0 by decide),gq (show 10 ≠ 4 by decide),gq (show 10 ≠ 9 by decide),zq f _ (show 9 ≠ 10 by decide),zq f _ (show 4 ≠ 10 by decide),zq f _ (show 0 ≠ 10 by decide)]
 ·intro e; rw [gqs vi] at e; cases e
 ·exact h.m0
 ·exact h.m4
 ·exact h.m9
 ·exact fun _=>zt _ _ _
 ·exact h.o4
 ·exact h.o9
 ·exact fun _ j hj=>set_mono (hA j hj)
end
def C7 (LV:Value) (g n cp i:Nat):Nat→Value→Prop
 | 1,v=>v = LV
 | 2,v=>v = H i
 | 3,v=>v = .slice (some (J g 0)) i cp
 | 5,v=>v = LV
 | 6,v=>v = H i
 | 7,v=>v = H ((i:Int) + 1)
 | 8,v=>∃ ad c,v = .slice (some ad) (n - (i + 1)) c∧(i + 1 < n→ad = (J g ((i + 1) * 6)))
 | _,_=>True
def R7A (LV:Value) (W0:World) (C:Nat→Value→Prop) (L1 L2:List Od) (hR:(Nat→Value)→Act) (x:List Bool) (hb:Act) (W:World):Prop:=∃ f,hb = hR f∧R7 LV W0 C L1 L2 x f W
theorem fE {W:World} {B:Nat} {v:Value} {l:List Od} (h:ORow W B v l) (xC:l ≠ []):∃ g cap,v = .slice (some (J g 0)) l.length cap∧l.length ≤ cap∧B ≤ g∧g < W.heap.size:=by
 rcases h.2 with ⟨rfl,h0⟩ | ⟨g,cap,xz,rfl,A,hg,uq,_⟩
 ·exact absurd (List.length_eq_zero_iff.1 h0) xC
 ·exact ⟨g,cap,rfl,uq,A,(yZ.1 hg).1⟩
def SlOk (v:Value):Prop:=v = .slice none 0 0 ∨ ∃ ad n c,v = .slice (some ad) n c
theorem oRow_sl {W:World} {B:Nat} {v:Value} {l:List Od} (h:ORow W B v l):SlOk v:=by
 rcases h.2 with ⟨Q,_⟩ | ⟨g,cap,xz,Q,_⟩
 ·exact .inl Q
 ·exact .inr ⟨_,_,_,Q⟩
theorem rd_src {W:World} {ad:Addr} {cap:Nat} {l:List Od} (hr:RdR Od.vs 6 W (.slice (some ad) l.length cap) l):∀ j u,(l.flatMap Od.vs)[j]? = some u→W.cell? (ad.add j) = some u:=by
 intro j u hu
 obtain ⟨a',jJ,e1,_,hc⟩:=hr
 simp only [Value.slice.injEq] at e1
 have xC:l ≠ []:=by rintro rfl; simp at hu
 obtain ⟨b,off,e2,A,xo⟩:=hc xC
 rw [e2] at e1
 simp only [Option.some.injEq] at e1
 obtain ⟨rfl,-,-⟩:=e1
 have h:=eZ (W:=W) (g:=b) (off:=off) (l:=l) xo 0 l.length j u (by simpa using hu)
 simpa using h
theorem rd_lenF {W:World} {v:Value} {l:List Od} (h:RdR Od.vs 6 W v l):∃ a c,v = .slice a l.length c:=by
 obtain ⟨a,c,Q,_⟩:=h; exact ⟨a,c,Q⟩
theorem gf {W:World} {b c o k j:Nat} {u:Value} (h:W.there b o k):(W.setCell (J c j) u).there b o k:=xc (vs:=[u]) h c j
theorem dw {W:World} {B:Nat} {v:Value} {l:List Od} (h:ORow W B v l) {b:Nat} (A:b < B) (o:Nat) (u:Value):ORow (W.setCell (J b o) u) B v l :=
 ownsRow_setCell_below h (a:=(J b o)) A u
theorem copy_mid {w W2 w3:World} {S:Nat} {v3 sv:Value} {next:Int} {l:List Od} (hS:S = w.heap.size) (Q:Below S w W2) (D:W2.heap.size = S + 2) (X:W2.rangeAt S 0 [H next,sv]) (h4:W2.there S 0 2) (h5:W2.there (S + 1) 0 2) (hl:l.length ≤ 1000)
  (h6:w3.ownsRow (S + 2) 65 6 v3 (0 + l.length) ([] ++ l.flatMap Od.vs)) (h7:W2.grownBy w3 (Value.slice none 0 0).ownBlock) :
  ∃ a3 c3,v3 = .slice a3 l.length c3∧ORow w3 (S + 2) v3 l∧w3.cell? (J S 0) = some (H next)∧w3.cell? (J S 1) = some sv∧w3.frozen? (J S 1) = false∧w3.there (S + 1) 0 2∧Below S w w3∧S + 2 ≤ w3.heap.size:=by
 have h6':ORow w3 (S + 2) v3 l:=by
  show w3.ownsRow _ _ _ _ l.length _
  simpa using h6
 obtain ⟨a3,c3,e⟩:=rd_lenF (zV h6' (by omega))
 have r:=zv X h7 (by omega) (by simp [Value.ownBlock])
 refine ⟨a3,c3,e,h6',r 0 _ rfl,r 1 _ rfl,?_,eD h5 h7 (by omega) (by simp [Value.ownBlock]),Q.grown h7 (by omega) (fun k E=>by simp [Value.ownBlock] at E),by have:=h7.size; omega⟩
 have:=(eD h4 h7 (by omega) (by simp [Value.ownBlock]) 1 (by omega)).2
 rwa [Nat.zero_add] at this
theorem copyBook_any (next:Int) (v:Value) (l:List Od) (w:World) (hr:RdR Od.vs 6 w v l) (hs:SlOk v) (hn:l.length ≤ 1000) :
  Calls Tryz.prog 103 #[.agg #[H next,v]] w fun e w'=>∃ v',e = ym (.agg #[H next,v'])∧ORow w' w.heap.size v' l∧yn w w':=by
 have HR:=M hr
 obtain ⟨i0,uJ,uD,uz,uM⟩:=info_parts Tryz.infoOrder
 obtain ⟨a,cap,rfl,xD,hc⟩:=hr
 have xF:=zi w (O #[H next,.slice a l.length cap] 27)
 have ug:((w.alloc (O #[H next,.slice a l.length cap] 27)).alloc (O #[H 0,.slice none 0 0] 27)).heap.size = w.heap.size + 2:=by rw [zi,xF]
 have t1:=zM w [H next,.slice a l.length cap] 27
 have r1:=zm w [H next,.slice a l.length cap] 27
 have b1:Below (w.heap.size + 1) (w.alloc (O #[H next,.slice a l.length cap] 27)) ((w.alloc (O #[H next,.slice a l.length cap] 27)).alloc (O #[H 0,.slice none 0 0] 27)):=(Below.refl _ _).alloc (by rw [xF]; omega) _
 have t2:=zM (w.alloc (O #[H next,.slice a l.length cap] 27)) [H 0,.slice none 0 0] 27
 rw [xF] at t2
 have HX:Hid (_∧_∧_):=⟨zc r1 b1 (by omega),zk t1 b1 (by omega),t2⟩
 have xZ:Hid (yn w ((w.alloc (O #[H next,.slice a l.length cap] 27)).alloc (O #[H 0,.slice none 0 0] 27))):=(gZ _ _).alloc (by rw [xF]; omega) _
 have vZ:=M ug
 clear hc t1 r1 b1 t2 xF ug
 go_enter Tryz.func103,Tryz.ntmps103
 rcases hs with hs | ⟨ad,nn,cc,hs⟩
 ·simp only [Value.slice.injEq] at hs
  obtain ⟨rfl,jk,rfl⟩:=hs
  obtain rfl:=List.length_eq_zero_iff.1 jk
  go_wp2_with (at_builtin; go_must (refine wpList_append_own_none rfl _ _ 25 rfl (w.heap.size + 2) 65 i0 6 Tryz.underlying25 uJ (.slice none 0 0) 0 [] rfl (World.ownsRow_nil _ _ _ _) rfl ?_))
  go_returns
  refine ⟨_,rfl,World.ownsRow_nil _ _ _ _,?_⟩
  go_grown
 ·simp only [Value.slice.injEq] at hs
  obtain ⟨rfl,rfl,rfl⟩:=hs
  have vf:Hid (∀ j u,(l.flatMap Od.vs)[j]? = some u→World.cell? (((w.alloc (O #[H next,.slice (some ad) l.length cap] 27)).alloc (O #[H 0,.slice none 0 0] 27))) (ad.add j) = some u):=rd_src (zh (U HR) (U xZ) hU)
  go_wp2_with (at_builtin; go_must (refine wpList_append_own _ rfl _ _ 25 rfl (w.heap.size + 2) 65 i0 _ 6 56 Tryz.underlying25 uJ uD uz uM rfl (by decide) (.slice none 0 0) 0 [] rfl (World.ownsRow_nil _ _ _ _) ad l.length cap (l.flatMap Od.vs) rfl (by rw [zL Od.len]) (U vf) (dj l) (by unfold maxLen; omega) (by omega) (by rw [U vZ]; omega) ?_); intro v3 w3 hown3 uF _; obtain ⟨a3,c3,rfl,bM,c0,c1,f1,ht3,xQ,jZ⟩:=copy_mid rfl (U xZ) (U vZ) (U HX).1 (U HX).2.1 (U HX).2.2 hn hown3 uF; have qW:=M bM; have jx:=M ht3; have xG:=M xQ; obtain ⟨v0,z0,q0⟩:=zE ht3 0 (by omega); obtain ⟨v1,z1,q1⟩:=zE ht3 1 (by omega); clear bM ht3 xQ hown3 uF)
  have z0:w3.cell? (J (w.heap.size + 1) 0) = some v0:=z0
  have z1:w3.cell? (J (w.heap.size + 1) 1) = some v1:=by rw [Nat.zero_add] at z1; exact z1
  have q0:w3.frozen? (J (w.heap.size + 1) 0) = false:=q0
  have q1:w3.frozen? (J (w.heap.size + 1) 1) = false:=by rw [Nat.zero_add] at q1; exact q1
  have jS:=M (yY (w3.setCell (yq w 1) (.slice a3 l.length c3)) (w.heap.size + 1) 0 [H next,.slice a3 l.length c3] (fun j hj=>(gf (U jx)) j hj))
  have HOX:=M (dw (dw (dw (U qW) (b:=w.heap.size) (by omega) 1 (.slice a3 l.length c3)) (b:=w.heap.size + 1) (by omega) 0 (H next)) (b:=w.heap.size + 1) (by omega) 1 (.slice a3 l.length c3))
  have qC:=M ((((U xG).setCell (p:=(yq w 1)) hU (.slice a3 l.length c3)).setCell (p:=(J (w.heap.size + 1) 0)) (by simp) (H next)).setCell (p:=(J (w.heap.size + 1) 1)) (by simp) (.slice a3 l.length c3))
  go_wp2_with fail
  have jS:Hid (World.rangeAt (((w3.setCell (yq w 1) (.slice a3 l.length c3)).setCell (J (w.heap.size + 1) 0) (H next)).setCell (J (w.heap.size + 1) 1) (.slice a3 l.length c3)) (w.heap.size + 1) 0 [H next,.slice a3 l.length c3]):=U jS
  generalize (((w3.setCell (yq w 1) (.slice a3 l.length c3)).setCell (J (w.heap.size + 1) 0) (H next)).setCell (J (w.heap.size + 1) 1) (.slice a3 l.length c3)) = WE at jS HOX qC ⊢
  have d0:WE.cell? (J (w.heap.size + 1) 0) = some (H next):=U jS 0 _ rfl
  have d1:WE.cell? (J (w.heap.size + 1) 1) = some (.slice a3 l.length c3):=U jS 1 _ rfl
  try simp only [Exit.inBlock,Exit.then]
  refine bodyPost_ret (by simp [results,Tryz.results103,go_sem,d0,d1]; try rfl) rfl ?_
  exact ⟨_,rfl,dE (U HOX) (by omega),U qC⟩
theorem gQ {P:Program} {w:World} {ops:Array Oper} {rest:List Oper} {o:Oper} {a:Act} {h1:Exit→Act→World→Prop} (hgd:o.guard = none) (s x:Operand) (t:TypeId)
  (Y:o.op = .call { callee:=.builtin .append,args:=#[s,x],argTypes:=#[t,t] })
  (e:TypeId) (i:TypeInfo) (size:Nat) (ht:P.underlying t = some (.slice e)) (hi:P.info? e = some i) (jE:i.size = size)
  (g qU pA:Nat) (xz:Array Value) (hg:w.heap[g]? = some (.cells xz e (0,0))) (hs:a.eval s = .slice (some (J g 0)) qU pA)
  (ad:Addr) (m c:Nat) (news:List Value) (hx:a.eval x = .slice (some ad) m c) (hl:news.length = m * size) (hnews:∀ j u,news[j]? = some u→w.cell? (ad.add j) = some u) (Q:∀ u ∈ news,u.oneCell' = true)
  (py:qU + m ≤ pA) (po:qU * size + news.length ≤ xz.size)
  (h:wpList P ops h1 rest (a.put o.dst (.slice (some (J g 0)) (qU + m) pA)) (w.setRow g (xz.toList.take (qU * size) ++ news ++ xz.toList.drop (qU * size + news.length)).toArray)):wpList P ops h1 (o :: rest) a w:=by
 subst jE
 refine wpList_plain hgd fun xh hK=>?_
 have hrun:=run_append_room (P:=P) w t o.type e i ht hi g qU pA xz hg ad m c news hl hnews Q py po
 unfold Oper.wp execOp
 simp only [Y,resolve,invoke,builtin,Sem.run_bind,Sem.run_pure,Result.andThen_ok,List.map_toArray,List.map_cons,List.map_nil,hs,hx,hrun]
 exact hK _ _ h
theorem clear_row {P:Program} (w:World) (T ty e:TypeId) (i:TypeInfo) (z:Value) (ht:P.underlying T = some (.slice e)) (hi:P.info? e = some i) (hz:i.zero = some z) (g o c:Nat) (xz:Array Value) (hg:w.heap[g]? = some (.cells xz e (0,0)))
  (po:o + z.cells.toList.length ≤ xz.size) (Q:∀ v ∈ z.cells.toList,v.oneCell' = true) :
  (Builtin.clear_ #[T] ty #[.slice (some (J g o)) 1 c]).run P w = .ok (.tuple #[]) (w.setRow g (xz.toList.take o ++ z.cells.toList ++ xz.toList.drop (o + z.cells.toList.length)).toArray):=by
 have vd:=run_storeCells_at P g o e z.cells.toList 0 xz w hg (by simpa using po) Q
 simp only [Nat.add_zero] at vd
 have hzc:(Builtin.zeroCells z.cells 1).toList = z.cells.toList:=by
  refine List.ext_getElem (by simp [Builtin.zeroCells]) fun j Q D=>?_
  have hj:j < z.cells.size:=by simpa using D
  simp [Builtin.zeroCells,Nat.mod_eq_of_lt hj,hj]
 simp [Builtin.clear_,run_underlying ht,zeroValue,typeInfo,hi,hz,hzc,vd]
abbrev zOdL:List Value:=(yw 0 0 0 0 0 ⟨#[]⟩)
theorem row_gone {xz:Array Value} {l:List Od} {i m cap:Nat} {zs:List Value} (hl:l.length = i + 1 + m) (hc:l.length ≤ cap) (hs:xz.size = cap * 6) (ht:xz.toList.take (l.length * 6) = l.flatMap Od.vs) (hz:zs.length = 6) :
  (((xz.toList.take (i * 6) ++ (l.drop (i + 1)).flatMap Od.vs ++ xz.toList.drop (i * 6 + m * 6)).take ((i + m) * 6) ++ zs ++ (xz.toList.take (i * 6) ++ (l.drop (i + 1)).flatMap Od.vs ++ xz.toList.drop (i * 6 + m * 6)).drop ((i + m) * 6 + zs.length)).take ((i + m) * 6) = (l.take i ++ l.drop (i + 1)).flatMap Od.vs) ∧
  (xz.toList.take (i * 6) ++ (l.drop (i + 1)).flatMap Od.vs ++ xz.toList.drop (i * 6 + m * 6)).length = cap * 6:=by
 have xo:xz.toList.length = cap * 6:=by simpa using hs
 have hdl:((l.drop (i + 1)).flatMap Od.vs).length = m * 6:=by rw [zL Od.len,List.length_drop]; congr 1; omega
 have hti:xz.toList.take (i * 6) = (l.take i).flatMap Od.vs:=by
  have h:=congrArg (List.take (i * 6)) ht
  rw [List.take_take,show min (i * 6) (l.length * 6) = i * 6 by omega] at h
  rw [h]
  conv=>lhs; rw [← List.take_append_drop i l,List.flatMap_append]
  rw [List.take_append_of_le_length (by rw [zL Od.len,List.length_take]; omega),xa (by rw [zL Od.len,List.length_take]; omega)]
 have xD:(xz.toList.take (i * 6) ++ (l.drop (i + 1)).flatMap Od.vs).length = (i + m) * 6:=by
  rw [yQ,hdl,List.length_take,xo]; omega
 refine ⟨?_,?_⟩
 ·rw [List.append_assoc ((List.take _ _)),List.take_append_of_le_length (by rw [List.length_take,yQ,xD,List.length_drop,xo]; omega),List.take_take,Nat.min_self,List.take_append_of_le_length (by rw [xD]; omega),xa (by rw [xD]; omega),hti,List.flatMap_append]
 ·rw [yQ,xD,List.length_drop,xo]; omega
theorem delete_any (g i m cap B:Nat) (xz:Array Value) (l:List Od) (w:World) (hl:l.length = i + 1 + m) (hn:l.length ≤ 1000) (hg:w.heap[g]? = some (.cells xz 65 (0,0))) (uq:l.length ≤ cap) (hmx:cap ≤ maxLen) (bN:xz.size = cap * 6) (pT:xz.toList.take (l.length * 6) = l.flatMap Od.vs) (hB:B ≤ g) :
  Calls Tryz.prog 189 #[.slice (some (J g 0)) (i + 1 + m) cap,H i,H ((i:Int) + 1)] w fun e w'=>e = ym (.slice (some (J g 0)) (i + m) cap)∧ORow w' B (.slice (some (J g 0)) (i + m) cap) (l.take i ++ l.drop (i + 1))∧w.grownBy w' (some g):=by
 obtain ⟨i0,uJ,uD,uz,uM⟩:=info_parts Tryz.infoOrder
 have HG:=M hg
 have HRC:Hid (∀ j c,l[j]? = some c→w.drew.rangeAt g (0 + j * 6) c.vs):=by
  have Y:ORow w B (.slice (some (J g 0)) l.length cap) l:=⟨by rw [zL Od.len],.inr ⟨g,cap,xz,rfl,hB,hg,uq,hmx,bN,pT⟩⟩
  obtain ⟨a',c',e,_,h⟩:=zV Y (by omega)
  intro j c hj
  obtain ⟨b',jQ,e2,_,h⟩:=h (by intro h; rw [h] at hj; simp at hj)
  rw [e2] at e
  simp only [Value.slice.injEq,Option.some.injEq,Addr.mk.injEq,and_true,true_and] at e
  obtain ⟨⟨rfl,rfl⟩,-⟩:=e
  exact h j c hj
 have uY:=M pT
 have HSZ:=M bN
 have HL:=M hl
 have Q:(i:Int) + 1 ≤ (i:Int) + 1 + m:=by omega
 have D:(i:Int) + 1 + m ≤ cap:=by omega
 have X:(0:Int) ≤ i:=by omega
 have h4:(i:Int) ≤ (i:Int) + 1:=by omega
 have h5:(0:Int) ≤ (i:Int) + 1:=by omega
 have h6:(i:Int) ≤ cap:=by omega
 have b1:((i:Int) == (i:Int) + 1) = false:=by rw [xe]; omega
 clear hg pT bN hl
 go_enter Tryz.func189,Tryz.ntmps189
 go_wp2_with fail
 refine zS 6 (by kernel_rfl) (by kernel_rfl) ?_
 simp only [yU,List.take_zero,yV,List.drop_zero]
 by_cases hcc:cap = i + 1
 ·have hm0:m = 0:=by have:=U HL; omega
  subst hm0
  subst hcc
  repeat still_step
  refine wpStill_nil ?_
  refine gQ rfl (.tmp 22) (.tmp 25) 25 rfl 65 i0 6 Tryz.underlying25 uJ uz g i (i + 1) xz (U HG) rfl (J g 0) 0 0 ((l.drop (i + 1)).flatMap Od.vs) rfl (by rw [zL Od.len,List.length_drop]; congr 1; have:=U HL; omega) (by rw [xb (by have:=U HL; omega)]; simp) (dj _) (by omega) (by rw [zL Od.len,List.length_drop,U HSZ]; have:=U HL; omega) ?_
  have hdl:((l.drop (i + 1)).flatMap Od.vs).length = 0 * 6:=by rw [zL Od.len,List.length_drop]; congr 1; have:=U HL; omega
  rw [hdl]
  obtain ⟨pp,jf⟩:=row_gone (zs:=zOdL) (U HL) uq (U HSZ) (U uY) rfl
  have oY:=M pp
  generalize hC1:(xz.toList.take (i * 6) ++ (l.drop (i + 1)).flatMap Od.vs ++ xz.toList.drop (i * 6 + 0 * 6)) = C1 at oY jf ⊢
  have hx1:(w.drew.setRow g C1.toArray).heap[g]? = some (.cells C1.toArray 65 (0,0)):=setRow_heap w.drew g xz C1.toArray 65 (0,0) (U HG)
  have oN:Hid (w.grownBy (w.drew.setRow g C1.toArray) (some g)):=⟨rfl,rfl,rfl,by simp,fun k E xC=>setRow_other w.drew g k C1.toArray (fun e=>xC (by rw [e]))⟩
  have vw:=M hx1
  clear hx1 hC1 pp hdl
  generalize w.drew.setRow g C1.toArray = X1 at vw oN ⊢
  have xo:∀ (ty:TypeId) (c:Nat),(Builtin.clear_ #[25] ty #[.slice (some (J g (i * 6))) 1 c]).run Tryz.prog X1 = .ok (.tuple #[]) (X1.setRow g (C1.take (i * 6) ++ zOdL ++ C1.drop (i * 6 + 6)).toArray):=fun ty c=>by
   have:=clear_row X1 25 ty 65 i0 _ Tryz.underlying25 uJ uD g (i * 6) c C1.toArray (U vw) (by show i * 6 + 6 ≤ C1.toArray.size; rw [List.size_toArray,jf]; omega) (by simp [Value.cells,Value.oneCell'])
   simpa [Value.cells] using this
  have xW:=M (setRow_heap X1 g C1.toArray (C1.take (i * 6) ++ zOdL ++ C1.drop (i * 6 + 6)).toArray 65 (0,0) (U vw))
  have uo:Hid (w.grownBy (X1.setRow g (C1.take (i * 6) ++ zOdL ++ C1.drop (i * 6 + 6)).toArray) (some g)):=(U oN).trans ⟨rfl,rfl,rfl,by simp,fun k E xC=>setRow_other X1 g k _ (fun e=>xC (by rw [e]))⟩
  generalize hC2:(C1.take (i * 6) ++ zOdL ++ C1.drop (i * 6 + 6)).toArray = C2 at xo xW uo
  have kE:=M hC2
  have kf:=M jf
  clear hC2
  have k1:¬ i + 1 = i:=by omega
  have k2:i + 1 - i = 1:=by omega
  clear jf
  go_wp2_with fail
  go_ret
  have jX:(l.take i ++ l.drop (i + 1)).length = i + 0:=by have:=U HL; simp; omega
  refine ⟨rfl,⟨by rw [zL Od.len],.inr ⟨g,i + 1,_,by rw [jX],hB,U xW,by rw [jX]; omega,hmx,?_,?_⟩⟩,U uo⟩
  ·rw [← U kE]; simp [U kf]; omega
  ·rw [jX,← U kE]; simpa using U oY
 ·repeat still_step
  refine wpStill_nil ?_
  refine gQ rfl (.tmp 22) (.tmp 25) 25 rfl 65 i0 6 Tryz.underlying25 uJ uz g i cap xz (U HG) rfl (J g ((i + 1) * 6)) m (cap - (i + 1)) ((l.drop (i + 1)).flatMap Od.vs) rfl (by rw [zL Od.len,List.length_drop]; congr 1; have:=U HL; omega) (by have h:=eZ (W:=w.drew) (g:=g) (off:=0) (l:=l) (U HRC) (i + 1) l.length; rw [xa (by rw [List.length_drop]; omega),Nat.zero_add] at h; exact h) (dj _) (by omega) (by rw [zL Od.len,List.length_drop,U HSZ]; have:=U HL; omega) ?_
  have hdl:((l.drop (i + 1)).flatMap Od.vs).length = m * 6:=by rw [zL Od.len,List.length_drop]; congr 1; have:=U HL; omega
  rw [hdl]
  obtain ⟨pp,jf⟩:=row_gone (zs:=zOdL) (U HL) uq (U HSZ) (U uY) rfl
  have oY:=M pp
  generalize hC1:(xz.toList.take (i * 6) ++ (l.drop (i + 1)).flatMap Od.vs ++ xz.toList.drop (i * 6 + m * 6)) = C1 at oY jf ⊢
  have hx1:(w.drew.setRow g C1.toArray).heap[g]? = some (.cells C1.toArray 65 (0,0)):=setRow_heap w.drew g xz C1.toArray 65 (0,0) (U HG)
  have oN:Hid (w.grownBy (w.drew.setRow g C1.toArray) (some g)):=⟨rfl,rfl,rfl,by simp,fun k E xC=>setRow_other w.drew g k C1.toArray (fun e=>xC (by rw [e]))⟩
  have vw:=M hx1
  clear hx1 hC1 pp hdl
  generalize w.drew.setRow g C1.toArray = X1 at vw oN ⊢
  have xo:∀ (ty:TypeId) (c:Nat),(Builtin.clear_ #[25] ty #[.slice (some (J g ((i + m) * 6))) 1 c]).run Tryz.prog X1 = .ok (.tuple #[]) (X1.setRow g (C1.take ((i + m) * 6) ++ zOdL ++ C1.drop ((i + m) * 6 + 6)).toArray):=fun ty c=>by
   have:=clear_row X1 25 ty 65 i0 _ Tryz.underlying25 uJ uD g ((i + m) * 6) c C1.toArray (U vw) (by show (i + m) * 6 + 6 ≤ C1.toArray.size; rw [List.size_toArray,jf]; omega) (by simp [Value.cells,Value.oneCell'])
   simpa [Value.cells] using this
  have xW:=M (setRow_heap X1 g C1.toArray (C1.take ((i + m) * 6) ++ zOdL ++ C1.drop ((i + m) * 6 + 6)).toArray 65 (0,0) (U vw))
  have uo:Hid (w.grownBy (X1.setRow g (C1.take ((i + m) * 6) ++ zOdL ++ C1.drop ((i + m) * 6 + 6)).toArray) (some g)):=(U oN).trans ⟨rfl,rfl,rfl,by simp,fun k E xC=>setRow_other X1 g k _ (fun e=>xC (by rw [e]))⟩
  generalize hC2:(C1.take ((i + m) * 6) ++ zOdL ++ C1.drop ((i + m) * 6 + 6)).toArray = C2 at xo xW uo
  have kE:=M hC2
  have kf:=M jf
  clear hC2
  have k1:¬ cap = i + m:=by have:=U HL; omega
  have k2:i + 1 + m - (i + m) = 1:=by omega
  have k3:(i:Int) + m ≤ (i:Int) + 1 + m:=by omega
  have k4:(0:Int) ≤ (i:Int) + m:=by omega
  clear jf
  go_wp2_with fail
  go_ret
  have jX:(l.take i ++ l.drop (i + 1)).length = i + m:=by have:=U HL; simp; omega
  refine ⟨rfl,⟨by rw [zL Od.len],.inr ⟨g,cap,_,by rw [jX],hB,U xW,by rw [jX]; omega,hmx,?_,?_⟩⟩,U uo⟩
  ·rw [← U kE]; simp [U kf]; omega
  ·rw [jX,← U kE]; simpa using U oY
theorem flat_set {α:Type} {f:α→List Value} {sz:Nat} (hf:∀ c,(f c).length = sz):∀ (l:List α) (i j:Nat) (c c':α) (u:Value),l[i]? = some c→j < sz→f c' = (f c).set j u→(l.flatMap f).set (i * sz + j) u = (l.set i c').flatMap f
 | [],_,_,_,_,_,h,_,_=>by simp at h
 | a :: l,0,j,c,c',u,h,hj,hc=>by
  simp at h; subst h
  rw [List.set_cons_zero,List.flatMap_cons,List.flatMap_cons,hc,Nat.zero_mul,Nat.zero_add,List.set_append_left _ _ (by rw [hf]; exact hj)]
 | a :: l,i + 1,j,c,c',u,h,hj,hc=>by
  simp at h
  rw [List.set_cons_succ,List.flatMap_cons,List.flatMap_cons,← flat_set hf l i j c c' u h hj hc,List.set_append_right _ _ (by rw [hf,Nat.add_mul]; omega),hf]
  congr 2
  rw [Nat.add_mul]; omega
def bQ (l:List Od) (k:Nat) (c:Od) (qty:Int):List Od:=if c.left = qty then l.take k ++ l.drop (k + 1) else l.set k { c with left:=c.left - qty }
structure TookAt (p o:Nat) (G:Option Nat) (w w':World):Prop where
 os:w'.os = w.os
 tape:w'.tape = w.tape
 output:w'.output = w.output
 size:w.heap.size ≤ w'.heap.size
 block:∀ k,k < w.heap.size→k ≠ p→some k ≠ G→w'.heap[k]? = w.heap[k]?
 cell:∀ j,j ≠ o + 1→w'.cell? ⟨p,j,none⟩ = w.cell? ⟨p,j,none⟩
 frozen:∀ j,w'.frozen? ⟨p,j,none⟩ = w.frozen? ⟨p,j,none⟩
 kind:∀ cur t x,w.heap[p]? = some (.cells cur t x)→∃ cur',w'.heap[p]? = some (.cells cur' t x)
theorem dh (w:World) (p o:Nat) (u:Value) {xz:Array Value} {t:TypeId} {x:Nat × Nat} (h:w.heap[p]? = some (.cells xz t x)):∃ cur',(w.setCell (J p o) u).heap[p]? = some (.cells cur' t x):=by
 simp [World.setCell,Array.getElem?_modify,h]
theorem cw {W:World} {B e sz n:Nat} {v:Value} {xs:List Value} (h:W.ownsRow B e sz v n xs) {b:Nat} (A:some b ≠ v.ownBlock) (o:Nat) (u:Value):(W.setCell (J b o) u).ownsRow B e sz v n xs :=
 h.kept (row:=some b) ⟨rfl,rfl,rfl,by simp [World.setCell],fun k _ E=>yT _ _ _ _ (fun e=>E (by rw [e]))⟩ (.inr (Ne.symm A))
theorem eE {p o:Nat} {G:Option Nat} {w w':World} (h:w.grownBy w' G) (hp:p < w.heap.size) (xC:some p ≠ G):TookAt p o G w w' :=
 ⟨h.os,h.tape,h.output,h.size,fun k E _ hG=>h.block k E hG,fun j _=>yR (a:=(J p j)) (h.block p hp xC),fun j=>World.frozen?_of_block (a:=(J p j)) (h.block p hp xC),fun xz t x hh=>⟨xz,(h.block p hp xC).trans hh⟩⟩
theorem eT {p o:Nat} {G:Option Nat} {w w1 w2:World} (Q:TookAt p o G w w1) (D:TookAt p o G w1 w2):TookAt p o G w w2 :=
 ⟨D.os.trans Q.os,D.tape.trans Q.tape,D.output.trans Q.output,yO Q.size D.size,fun k E hp hG=>(D.block k (yK E Q.size) hp hG).trans (Q.block k E hp hG),fun j hj=>(D.cell j hj).trans (Q.cell j hj),fun j=>(D.frozen j).trans (Q.frozen j),fun xz t x hh=>by obtain ⟨c1,X⟩:=Q.kind xz t x hh; exact D.kind c1 t x X⟩
theorem took_set {p o:Nat} {G:Option Nat} (w:World) (u:Value):TookAt p o G w (w.setCell (J p (o + 1)) u) :=
 ⟨rfl,rfl,rfl,by simp [World.setCell],fun k _ hp _=>yT _ _ _ _ hp,fun j hj=>yM _ _ _ _ (bZ (fun e=>hj e.symm)),fun j=>World.frozen?_setCell _ _ _ _,fun xz t x hh=>dh w p (o + 1) u hh⟩
theorem zp {W W':World} {B:Nat} {v:Value} {l:List Od} (h:ORow W B v l) (A:yn W W'):ORow W' B v l :=
 World.ownsRow.kept h (row:=none) (ep A hU) (by cases v.ownBlock <;> simp)
theorem oRow_left {W:World} {B g n cap k:Nat} {l:List Od} {c:Od} (h:ORow W B (.slice (some (J g 0)) n cap) l) (hn:l.length = n) (E:l[k]? = some c) (x:Int) :
  ORow (W.setCell (J g (k * 6 + 3)) (H x)) B (.slice (some (J g 0)) n cap) (l.set k { c with left:=x })∧W.grownBy (W.setCell (J g (k * 6 + 3)) (H x)) (some g):=by
 subst hn
 have s:=World.ownsRow.stored h (k * 6 + 3) (H x)
 refine ⟨?_,s.2⟩
 have e:=flat_set Od.len l k 3 c { c with left:=x } (H x) E (by omega) rfl
 show World.ownsRow _ _ _ _ _ (l.set k _).length _
 rw [List.length_set,← e]; exact s.1
theorem gm (p o B:Nat) (next id qty:Int) (vq:Value) (l:List Od) (k:Nat) (c:Od) (w:World) (c0:w.cell? (J p o) = some (H next)) (c1:w.cell? (J p (o + 1)) = some vq) (f1:w.frozen? (J p (o + 1)) = false)
  (Y:ORow w B vq l) (hp:some p ≠ vq.ownBlock) (hpw:p < w.heap.size) (hB:B ≤ w.heap.size) (hn:l.length ≤ 1000) (E:plc l id = k) (hc:l[k]? = some c) (jO:0 ≤ qty) (jl:qty ≤ c.left) (xo:c.left ≤ 1000000) :
  Calls Tryz.prog 154 #[I p o,H id,H qty] w fun e w'=>∃ uG,e = ym (.tuple #[])∧w'.cell? (J p (o + 1)) = some uG∧ORow w' B uG (bQ l k c qty)∧TookAt p o vq.ownBlock w w':=by
 have xC:l ≠ []:=by rintro rfl; simp at hc
 have pP:=(yH.1 hc).1
 have HO:=M Y
 obtain ⟨g,cap,rfl,uq,hBg,hgw⟩:=fE Y xC
 have HK:=M E
 have HC:=M hc
 clear Y E hc xC
 go_enter Tryz.func154,Tryz.ntmps154
 go_wp2_with fail
 refine (fR next _ l id w (zV (U HO) (by omega))).mono ?_
 rintro e w1 ⟨rfl,ub⟩
 rw [U HK]
 have xU:=M ub
 have vv:=M (zp (U HO) ub)
 have d1:w1.cell? (J p (o + 1)) = some (.slice (some (J g 0)) l.length cap):=(ub.cell (p:=(J p (o + 1))) hpw).trans c1
 have e1:w1.frozen? (J p (o + 1)) = false:=(ub.frozen (p:=(J p (o + 1))) hpw).trans f1
 have hsz1:=ub.size
 obtain ⟨a',cp',ee,_,aR⟩:=zV (U vv) (by omega)
 obtain ⟨b',jQ,e2,_,aR⟩:=aR (by intro h; rw [h] at pP; simp at pP)
 rw [e2] at ee
 simp only [Value.slice.injEq,Option.some.injEq,Addr.mk.injEq,and_true,true_and] at ee
 obtain ⟨⟨rfl,rfl⟩,-⟩:=ee
 have hcc:=aR k c (U HC)
 rw [Nat.zero_add] at hcc
 obtain ⟨-,-,-,y3,-⟩:=zC hcc
 have fz:=World.ownsRow.frozenAt (U vv) (k * 6 + 3)
 have bK:(k:Int) < l.length:=by omega
 have oG:(0:Int) ≤ k:=by omega
 have bd:IntKind.i64.wrap (c.left - qty) = c.left - qty:=by rw [IntKind.wrap_i64]; omega
 have hpg:p ≠ g:=by simpa [Value.ownBlock] using hp
 have HS:=M (oRow_left (U vv) rfl (U HC) (c.left - qty))
 have d2:(w1.setCell (J g (k * 6 + 3)) (H (c.left - qty))).cell? (J p (o + 1)) = some (.slice (some (J g 0)) l.length cap):=(yM _ _ _ _ (fun e=>hpg (by have:=congrArg Addr.block e; simpa using this.symm))).trans d1
 have d3:(w1.setCell (J g (k * 6 + 3)) (H (c.left - qty))).cell? (J g (k * 6 + 3)) = some (H (c.left - qty)):=yN _ _ _ y3
 have d4:(w1.setCell (J g (k * 6 + 3)) (H (c.left - qty))).frozen? (J p (o + 1)) = false:=(World.frozen?_setCell _ _ _ _).trans e1
 clear ub hcc aR c0 c1 f1
 by_cases hz:c.left = qty
 ·have uD:c.left - qty = 0:=by omega
  have HH:Hid (bQ l k c qty = l.take k ++ l.drop (k + 1)):=if_pos hz
  obtain ⟨m,hm⟩:∃ m,l.length = k + 1 + m:=⟨l.length - (k + 1),by omega⟩
  have jX:(l.set k { c with left:=c.left - qty }).length = k + 1 + m:=by rw [List.length_set,hm]
  have hdel:(l.set k { c with left:=c.left - qty }).take k ++ (l.set k { c with left:=c.left - qty }).drop (k + 1) = l.take k ++ l.drop (k + 1):=by
   rw [List.take_set_of_le hU,List.drop_set_of_lt (by omega)]
  have HDEL:=M hdel
  have HM:=M hm
  have xR:(c.left - qty == 0) = true:=by rw [beq_iff_eq]; exact uD
  obtain ⟨-,D | ⟨g',jJ,xz,D,X,h4,h5,h6,h7,h8⟩⟩:=(U HS).1
  ·simp at D
  simp only [Value.slice.injEq,Option.some.injEq,Addr.mk.injEq,and_true] at D
  obtain ⟨rfl,h9,rfl⟩:=D
  have HDC:Hid (Calls Tryz.prog 189 #[.slice (some (J g 0)) (k + 1 + m) cap,H k,H ((k:Int) + 1)] (w1.setCell (J g (k * 6 + 3)) (H (c.left - qty))) _):=delete_any g k m cap B xz (l.set k { c with left:=c.left - qty }) _ jX (by rw [List.length_set]; exact hn) h4 h5 h6 h7 h8 hBg
  have uo:=M (U HS).2
  have kW:p < (w1.setCell (J g (k * 6 + 3)) (H (c.left - qty))).heap.size:=by simp [World.setCell]; omega
  clear hdel hz jX X h4 h5 h6 h7 h8 h9 uq uD
  rw [hm] at d1 d2 bK ⊢
  clear hm
  go_wp2_with fail
  refine (U HDC).mono ?_
  rw [U HDEL]
  rintro e w3 ⟨rfl,bM,uF⟩
  have s1:=uF.cell d2 (by simpa using hpg)
  have s2:w3.frozen? (J p (o + 1)) = false:=(World.frozen?_of_block (a:=(J p (o + 1))) (uF.block p kW (by simpa using hpg))).trans d4
  have qW:=M bM
  have uS:=M uF
  clear bM uF
  go_wp2_with fail
  go_end0
  refine ⟨_,rfl,yN _ _ _ s1,?_,?_⟩
  ·rw [U HH]
   exact cw (U qW) (by simpa [Value.ownBlock] using hpg) (o + 1) _
  ·exact eT (eT (eT (eE (ep (U xU) hU) hpw (by simpa [Value.ownBlock] using hpg)) (eE (U uo) (by omega) (by simpa [Value.ownBlock] using hpg))) (eE (U uS) kW (by simpa [Value.ownBlock] using hpg))) (took_set _ _)
 ·have uD:(c.left - qty == 0) = false:=by rw [xe]; omega
  have HH:Hid (bQ l k c qty = l.set k { c with left:=c.left - qty }):=if_neg hz
  go_wp2_with fail
  go_end0
  refine ⟨_,rfl,d2,by rw [U HH]; exact (U HS).1,?_⟩
  exact eT (eE (ep (U xU) hU) hpw (by simpa [Value.ownBlock] using hpg)) (eE (U HS).2 (by omega) (by simpa [Value.ownBlock] using hpg))
end Go.Proofs.YthhkapcbocgcoaaGreatDoor
