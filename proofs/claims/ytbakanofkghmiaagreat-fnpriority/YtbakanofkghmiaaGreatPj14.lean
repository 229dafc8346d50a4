/-
  The program and the model say the same of every book; no function walked.
-/
import Derived.Test.YtbakanofkghmiaaGreatPj13
import Derived.Laws.AppendOwnNone
set_option linter.unusedVariables false
set_option maxHeartbeats 6400000
set_option maxRecDepth 100000
namespace Go.Proofs.YtbakanofkghmiaaGreat
open Go.RowKit
theorem allR_eq (next:Int):∀ (l:List Od) (last:Int),allR next last l = (idsR next last l && l.all ordB)
 | [],_=>rfl
 | a :: r,last=>by
  rw [allR,idsR,List.all_cons,allR_eq next r a.id]
  cases ordB a <;> cases decide (last < a.id) <;> cases decide (a.id < next) <;> simp
theorem dM {s:Bool} {l:List Od} {sd:Int} (hr:aH l):((quOf s (zn l sd)).head? = none∧∀ o ∈ l,o.side ≠ sd) ∨ ∃ i o,(quOf s (zn l sd)).head? = some o∧dg s l sd i o:=by
 cases h:(quOf s (zn l sd)).head? with
 | none=>exact .inl ⟨rfl,queue_none (aW s _) h⟩
 | some o =>
  obtain ⟨i,hi⟩:=queue_front hr (aW s _) h
  exact .inr ⟨i,o,rfl,hi⟩
theorem meet_noX {l:List Od} (hr:aH l):(!meetB (quOf true (zn l 1)) (quOf false (zn l 2))) = noX l:=by
 rcases dM (s:=true) (sd:=1) hr with ⟨z,hn⟩ | ⟨i,a,z,hf1⟩
 ·rw [noX_none1 hn]; simp [meetB,hdF,z]
 ·rcases dM (s:=false) (sd:=2) hr with ⟨K,hn⟩ | ⟨j,b,K,hf2⟩
  ·rw [noX_none2 hn]; simp [meetB,hdF,K]
  ·rw [noX_fronts hf1 hf2]
   simp only [meetB,hdF,hdO,z,K,Option.isSome_some,Option.getD_some,Bool.true_and]
   rw [Bool.eq_iff_iff]; simp
theorem okI_eq (next:Int) (l:List Od):okI next l = okS next l:=by
 unfold okI okS
 rw [allR_eq]
 cases h:(idsR next 0 l && l.all ordB)
 ·rw [Bool.and_assoc (betB next 1 1000000 && decide (l.length ≤ 20)) (idsR next 0 l),h]; simp
 ·have D:allR next 0 l = true:=by rw [allR_eq]; exact h
  have hr:=(dG D).1
  have hs:∀ o ∈ l,o.side = 1 ∨ o.side = 2:=fun o Y=>by
   have:=dK D o Y
   simp [ordB,betB] at this
   omega
  rw [Bool.and_assoc (betB next 1 1000000 && decide (l.length ≤ 20)) (idsR next 0 l),h,meet_noX hr]
  have:=nlev_eq hs (aW true _) (aW false _)
  rw [aB,aB,List.length_map,List.length_map,this]
def cmdI (c:Cm):Value:=if c.k = 1 then .iface 112 (noV c) else if c.k = 2 then .iface 115 (.agg #[H c.i]) else if c.k = 3 then .iface 118 (.agg #[H c.i,H c.q]) else if c.k = 4 then .iface 121 (.agg #[]) else .nilIface
theorem newOrderOf_any (c:Cm) (w:World) :
  Calls Tryz.prog 111 #[cmV c] w fun e w'=>e = yk (noV c)∧yl w w':=by
 obtain ⟨k,s,t,l,q,i,p,g⟩:=c
 unfold cmV noV
 simp only
 have hsf:=sfl
 go_enter Tryz.func111,Tryz.ntmps111
 go_wp2_with fail
 go_returns
 exact ⟨rfl,by go_grown⟩
theorem cx (c:Cm) (w:World) :
  Calls Tryz.prog 66 #[cmV c] w fun e w'=>e = yk (cmdI c)∧yl w w':=by
 obtain ⟨k,s,t,l,q,i,p,g⟩:=c
 unfold cmV
 simp only
 by_cases z:k = 1
 ·subst z
  have xT:Hid (yl w (w.alloc (E (yu 1 s t l q i p g).toArray 43))):=eD _ _
  go_enter Tryz.func66,Tryz.ntmps66
  go_wp2_with fail
  refine (newOrderOf_any ⟨1,s,t,l,q,i,p,g⟩ _).mono ?_
  rintro e w' ⟨rfl,hb⟩
  have xC:=Q (eG (M xT) hb)
  clear hb
  go_wp2_with fail
  go_ret
  exact ⟨rfl,M xC⟩
 have b1:(k == 1) = false:=by simpa using z
 by_cases K:k = 2
 ·subst K
  go_enter Tryz.func66,Tryz.ntmps66
  go_wp2_with fail
  go_ret
  exact ⟨rfl,by go_grown⟩
 have b2:(k == 2) = false:=by simpa using K
 by_cases h3:k = 3
 ·subst h3
  go_enter Tryz.func66,Tryz.ntmps66
  go_wp2_with fail
  go_ret
  exact ⟨rfl,by go_grown⟩
 have b3:(k == 3) = false:=by simpa using h3
 by_cases h4:k = 4
 ·subst h4
  go_enter Tryz.func66,Tryz.ntmps66
  go_wp2_with fail
  go_ret
  exact ⟨rfl,by go_grown⟩
 have b4:(k == 4) = false:=by simpa using h4
 have HC:Hid (cmdI ⟨k,s,t,l,q,i,p,g⟩ = .nilIface):=by show _ = _; simp [cmdI,z,K,h3,h4]
 go_enter Tryz.func66,Tryz.ntmps66
 go_wp2_with fail
 go_ret
 exact ⟨by rw [M HC]; rfl,by go_grown⟩
def plcF (id:Int):List Od→Nat→Int
 | [],_=>-1
 | o :: r,k=>if o.id = id then k else plcF id r (k + 1)
def plc (l:List Od) (id:Int):Int:=plcF id l 0
theorem plcF_spec (id:Int):∀ (l:List Od) (k:Nat),(plcF id l k = -1∧∀ o ∈ l,o.id ≠ id) ∨ ∃ i o,plcF id l k = ((k + i:Nat):Int)∧l[i]? = some o∧o.id = id∧∀ j o',j < i→l[j]? = some o'→o'.id ≠ id
 | [],k=>.inl ⟨rfl,by simp⟩
 | o :: r,k=>by
  by_cases h:o.id = id
  ·exact .inr ⟨0,o,by rw [plcF,if_pos h]; rfl,rfl,h,by simp⟩
  ·rcases plcF_spec id r (k + 1) with ⟨z,K⟩ | ⟨i,o',z,K,h3,h4⟩
   ·refine .inl ⟨by rw [plcF,if_neg h,z],fun x hx=>?_⟩
    rcases List.mem_cons.1 hx with rfl | hx
    ·exact h
    ·exact K x hx
   ·refine .inr ⟨i + 1,o',by rw [plcF,if_neg h,z]; congr 1; omega,K,h3,fun j x L hx=>?_⟩
    cases j with
    | zero=>simp at hx; subst hx; exact h
    | succ j=>exact h4 j x (by omega) (by simpa using hx)
theorem drop_get {l:List Od} {k:Nat} {c:Od} (h:l[k]? = some c):l.drop k = c :: l.drop (k + 1):=by
 obtain ⟨z,rfl⟩:=yD.1 h
 exact yZ z
theorem place1_any (o:Od) (B:Nat) (id:Int) (w:World) (hB:w.cell? (J B 0) = some (H id)) :
  Calls Tryz.prog 153 #[.agg (yt o.id o.side o.ticks o.left o.life o.tag).toArray,I B 0] w fun e w'=>e = yk (.bool (o.id == id))∧yl w w':=by
 obtain ⟨uy,side,ticks,left,life,tag⟩:=o
 simp only
 have hB':(w.alloc (E (yt uy side ticks left life tag).toArray 49)).cell? (J B 0) = some (H id):=(yS _ _ (J B 0) (yH w _ hB)).trans hB
 go_enter Tryz.func153,Tryz.ntmps153
 go_wp2_with fail
 go_ret
 exact ⟨rfl,by go_grown⟩
theorem indexFunc_any (v:Value) (l:List Od) (B:Nat) (id:Int) (w:World) (hr:RdR Od.vs 6 w v l) (hB:w.cell? (J B 0) = some (H id)) :
  Calls Tryz.prog 152 #[v,.func (.func 153) #[] #[I B 0]] w fun e w'=>e = yk (H (plc l id))∧yl w w':=by
 obtain ⟨a,F,rfl,xD,hc⟩:=hr
 have xn:∀ (k:Nat) (c:Od),l[k]? = some c→∃ b off,a = some (J b off)∧b < w.heap.size∧w.rangeAt b (off + k * 6) c.vs:=by
  intro k c hk
  obtain ⟨b,off,z,K,h3⟩:=hc (by intro h; rw [h] at hk; simp at hk)
  exact ⟨b,off,z,K,h3 k c hk⟩
 have HC:=Q xn
 have HBC:=Q hB
 have hBl:=yH w _ hB
 simp only at hBl
 clear xn hc hB
 go_enter Tryz.func152,Tryz.ntmps152
 go_wp2_with fail
 go_loopw [8] (fun iv wr=>∃ (k:Nat),k ≤ l.length∧iv = H k∧Hid (plc l id = plcF id (l.drop k) k)∧yl w wr) (fun iv _=>l.length - (intOf iv).toNat)
 case atStart=>exact ⟨0,Nat.zero_le _,rfl,rfl,Below.refl _ _⟩
 case round =>
  obtain ⟨k,hk,rfl,qN,xe⟩:=hrel
  have HB:=Q xe
  clear xe
  by_cases xL:k < l.length
  ·obtain ⟨c,uC⟩:∃ c,l[k]? = some c:=⟨_,yE xL⟩
   have HP:Hid (plc l id = if c.id = id then (k:Int) else plcF id (l.drop (k + 1)) (k + 1)):=by
    have:=M qN
    rw [drop_get uC] at this
    exact this
   obtain ⟨b,off,rfl,hb,xk⟩:=M HC k c uC
   obtain ⟨g0,g1,g2,g3,g4,g5⟩:=zx (zb xk (M HB) hb)
   have uO:(k:Int) < l.length:=by omega
   have uE:=Q (((M HB).cell (p:=(J B 0)) hBl).trans (M HBC))
   clear uC xk hb qN
   go_wp2_with fail
   refine (place1_any c B id wr (M uE)).mono ?_
   rintro e w3 ⟨rfl,uf⟩
   have xM:=Q (eG (M HB) uf)
   clear uf
   by_cases vM:c.id = id
   ·have hb:(c.id == id) = true:=by simpa using vM
    have HK:Hid (plc l id = k):=by have:=M HP; rw [if_pos vM] at this; exact this
    clear vM
    go_wp2_with fail
    go_ret
    exact ⟨zv (M HK).symm,M xM⟩
   ·have hb:(c.id == id) = false:=by simpa using vM
    have HK:Hid (plc l id = plcF id (l.drop (k + 1)) (k + 1)):=by have:=M HP; rw [if_neg vM] at this; exact this
    clear vM
    go_wp2_with fail
    go_roundw
    case rel=>exact ⟨k + 1,by omega,by go_num,M HK,M xM⟩
    case measure=>simp [intOf]; omega
  ·have HK:Hid (plc l id = -1):=by
    have h:=M qN
    rw [yX (by omega)] at h
    exact h
   go_wp2_with fail
   go_ret
   exact ⟨zv (M HK).symm,M HB⟩
theorem dJ (next:Int) (v:Value) (l:List Od) (id:Int) (w:World) (hr:RdR Od.vs 6 w v l) :
  Calls Tryz.prog 116 #[.agg #[H next,v],H id] w fun e w'=>e = yk (H (plc l id))∧yl w w':=by
 have HR:=Q hr
 obtain ⟨a,F,rfl,xD,hc⟩:=hr
 have hmf:∀ (fn:Fn) (first F:Array Value) (w:World),(Instr.makeFunc fn first F).run Tryz.prog w = .ok (.func fn first F) w:=fun _ _ _ _=>rfl
 have xz:=ze w (E #[H next,.slice a l.length F] 28)
 have r1:=zg (w.alloc (E #[H next,.slice a l.length F] 28)) [H id] 3
 rw [xz] at r1
 have HX:=Q (r1 0 _ rfl)
 have ua:Hid (yl w ((w.alloc (E #[H next,.slice a l.length F] 28)).alloc (E #[H id] 3))):=(eD _ _).alloc (by rw [xz]; omega) _
 clear hc r1 xz
 go_enter Tryz.func116,Tryz.ntmps116
 go_wp2_with fail
 have HX:Hid (World.cell? ((w.alloc (E #[H next,.slice a l.length F] 28)).alloc (E #[H id] 3)) (J (w.heap.size + 1) 0) = some (H id)):=M HX
 generalize ((w.alloc (E #[H next,.slice a l.length F] 28)).alloc (E #[H id] 3)) = W2 at HX ua ⊢
 refine (indexFunc_any _ l (w.heap.size + 1) id W2 (zh (M HR) (M ua) tg) (M HX)).mono ?_
 rintro e w3 ⟨rfl,uf⟩
 have xM:=Q (eG (M ua) uf)
 clear uf
 go_wp2_with fail
 go_ret
 exact ⟨rfl,M xM⟩
abbrev ORow (W:World) (B:Nat) (v:Value) (l:List Od):Prop:=W.ownsRow B 49 6 v l.length (l.flatMap Od.vs)
theorem zT {W:World} {B:Nat} {v:Value} {l:List Od} (h:ORow W B v l) (hl:l.length ≤ 1073741824):RdR Od.vs 6 W v l:=bO (bc Od.len hl h)
theorem bQ (w:World) (cs:List Value) (t:TypeId) (j:Nat) (u:Value) (h:cs[j]? = some u):(w.alloc (Obj.cells cs.toArray t)).cell? (((yn w 0):Addr).add j) = some u:=by
 rw [Addr.add_mid,cell_of_row _ w.heap.size (0 + j) cs.toArray t (0,0) (heap_alloc_new w _)]
 simpa using h
theorem cZ {W:World} {g off:Nat} {l:List Od} (h:∀ i c,l[i]? = some c→W.rangeAt g (off + i * 6) c.vs) (a n:Nat):∀ j u,(((l.drop a).take n).flatMap Od.vs)[j]? = some u→W.cell? (((J g (off + a * 6)):Addr).add j) = some u:=by
 intro j u hu
 have xL:=(yD.1 hu).1
 rw [zM Od.len] at xL
 have hq:j / 6 < ((l.drop a).take n).length:=by omega
 obtain ⟨c,hc⟩:∃ c,((l.drop a).take n)[j / 6]? = some c:=⟨_,yE hq⟩
 have z:=flat_get Od.len _ (j / 6) (j % 6) c hc (by omega)
 rw [show j / 6 * 6 + j % 6 = j by omega,hu] at z
 have hc':l[a + j / 6]? = some c:=by
  rw [List.getElem?_take] at hc
  split at hc
  ·rw [List.getElem?_drop] at hc; exact hc
  ·cases hc
 have:=h _ c hc' (j % 6) u z.symm
 rw [Addr.add_mid]
 rw [show off + (a + j / 6) * 6 + j % 6 = off + a * 6 + j by omega] at this
 exact this
theorem bh (l:List Od):∀ u ∈ l.flatMap Od.vs,u.oneCell' = true:=by
 intro u hu
 obtain ⟨o,_,Y⟩:=List.mem_flatMap.1 hu
 simp [Od.vs] at Y
 rcases Y with rfl | rfl | rfl | rfl | rfl | rfl <;> rfl
structure R7 (LV:Value) (W0:World) (C:Nat→Value→Prop) (L1 L2:List Od) (x:List Bool) (f:Nat→Value) (W:World):Prop where
 bel:Below W0.heap.size W0 W
 c:∀ j,x[j]? = some true→C j (f j)
 s5:x[10]? = some false→f 10 = LV
 m0:x[0]? = some true→x[4]? = some false→ORow W W0.heap.size (f 0) []
 m4:x[4]? = some true→x[9]? = some false→ORow W W0.heap.size (f 4) L1
 m9:x[9]? = some true→ORow W W0.heap.size (f 9) L2
 m10:x[10]? = some true→f 10 = f 9
 o4:x[4]? = some true→x[0]? = some true
 o9:x[9]? = some true→x[4]? = some true
 o10:x[10]? = some true→∀ j,j < 10→x[j]? = some true
theorem gq {x:List Bool} {i j:Nat} (h:i ≠ j):(x.set i true)[j]? = x[j]?:=yT h
theorem set_mono {x:List Bool} {i j:Nat} (h:x[j]? = some true):(x.set i true)[j]? = some true:=by
 by_cases ar:i = j
 ·subst ar; exact List.getElem?_set_self (yD.1 h).1
 ·rw [yT ar]; exact h
theorem gqs {x:List Bool} {i:Nat} (h:x[i]? = some false):(x.set i true)[i]? = some true:=List.getElem?_set_self (yD.1 h).1
section
variable {LV:Value} {W0 W W':World} {C:Nat→Value→Prop} {L1 L2:List Od} {x:List Bool} {f:Nat→Value}
theorem aY (h:R7 LV W0 C L1 L2 x f W) (i:Nat) (v:Value) (hv:C i v) (h0:i ≠ 0) (h4:i ≠ 4) (h9:i ≠ 9) (vL:i ≠ 10):R7 LV W0 C L1 L2 (x.set i true) (upd f i v) W:=by
 refine ⟨h.bel,zz h.c hv,?_,?_,?_,?_,?_,?_,?_,?_⟩ <;> simp only [gq h0,gq h4,gq h9,gq vL,zr f v h0.symm,zr f v h4.symm,zr f v h9.symm,zr f v vL.symm]
 ·exact h.s5
 ·exact h.m0
 ·exact h.m4
 ·exact h.m9
 ·exact h.m10
 ·exact h.o4
 ·exact h.o9
 ·exact fun e j L=>set_mono (h.o10 e j L)
theorem no_of {b:Option Bool} (h:b = some false):b ≠ some true:=by rw [h]; simp
theorem r7_0 (h:R7 LV W0 C L1 L2 x f W) (h0:x[0]? = some false) (hv:∀ v,C 0 v):R7 LV W0 C L1 L2 (x.set 0 true) (upd f 0 (.slice (some (yn W 0)) 0 0)) (W.alloc (E #[] 49)):=by
 have n4:x[4]? ≠ some true:=fun e=>no_of h0 (h.o4 e)
 have n9:x[9]? ≠ some true:=fun e=>n4 (h.o9 e)
 have n10:x[10]? ≠ some true:=fun e=>n9 (h.o10 e 9 (by omega))
 refine ⟨h.bel.alloc h.bel.size _,zz h.c (hv _),?_,?_,?_,?_,?_,?_,?_,?_⟩ <;> try simp only [gq (show 0 ≠ 4 by decide),gq (show 0 ≠ 9 by decide),gq (show 0 ≠ 10 by decide),zr f _ (show 10 ≠ 0 by decide),zr f _ (show 9 ≠ 0 by decide),zr f _ (show 4 ≠ 0 by decide)]
 ·exact h.s5
 ·intro _ _; rw [zp]; exact World.ownsRow_made W #[] 0 h.bel.size (by decide) rfl
 ·exact fun e=>absurd e n4
 ·exact fun e=>absurd e n9
 ·exact fun e=>absurd e n10
 ·exact fun e=>absurd e n4
 ·exact h.o9
 ·exact fun e j L=>set_mono (h.o10 e j L)
theorem r7_4 (h:R7 LV W0 C L1 L2 x f W) (h0:x[0]? = some true) (h4:x[4]? = some false) (hv:∀ v,C 4 v) {v':Value} (Y:ORow W' W0.heap.size v' L1) (hg:W.grownBy W' (f 0).ownBlock):R7 LV W0 C L1 L2 (x.set 4 true) (upd f 4 v') W':=by
 have n9:x[9]? ≠ some true:=fun e=>no_of h4 (h.o9 e)
 have n10:x[10]? ≠ some true:=fun e=>n9 (h.o10 e 9 (by omega))
 refine ⟨h.bel.grown hg h.bel.size (fun k hk=>((h.m0 h0 h4).lt k hk).1),zz h.c (hv _),?_,?_,?_,?_,?_,?_,?_,?_⟩ <;> try simp only [gq (show 4 ≠ 0 by decide),gq (show 4 ≠ 9 by decide),gq (show 4 ≠ 10 by decide),zr f _ (show 10 ≠ 4 by decide),zr f _ (show 9 ≠ 4 by decide),zr f _ (show 0 ≠ 4 by decide)]
 ·exact h.s5
 ·intro _ e; rw [gqs h4] at e; cases e
 ·intro _ _; rw [zp]; exact Y
 ·exact fun e=>absurd e n9
 ·exact fun e=>absurd e n10
 ·exact fun _=>h0
 ·exact fun e=>absurd e n9
 ·exact fun e j L=>set_mono (h.o10 e j L)
theorem r7_9 (h:R7 LV W0 C L1 L2 x f W) (h4:x[4]? = some true) (h9:x[9]? = some false) (hv:∀ v,C 9 v) {v':Value} (Y:ORow W' W0.heap.size v' L2) (hg:W.grownBy W' (f 4).ownBlock):R7 LV W0 C L1 L2 (x.set 9 true) (upd f 9 v') W':=by
 have n10:x[10]? ≠ some true:=fun e=>no_of h9 (h.o10 e 9 (by omega))
 refine ⟨h.bel.grown hg h.bel.size (fun k hk=>((h.m4 h4 h9).lt k hk).1),zz h.c (hv _),?_,?_,?_,?_,?_,?_,?_,?_⟩ <;> try simp only [gq (show 9 ≠ 0 by decide),gq (show 9 ≠ 4 by decide),gq (show 9 ≠ 10 by decide),zr f _ (show 10 ≠ 9 by decide),zr f _ (show 4 ≠ 9 by decide),zr f _ (show 0 ≠ 9 by decide)]
 ·exact h.s5
 ·exact fun _ e=>absurd e (by rw [h4]; simp)
 ·intro _ e; rw [gqs h9] at e; cases e
 ·intro _; rw [zp]; exact Y
 ·exact fun e=>absurd e n10
 ·exact h.o4
 ·exact fun _=>h4
 ·exact fun e=>absurd e n10
theorem r7_10 (h:R7 LV W0 C L1 L2 x f W) (hA:∀ j,j < 10→x[j]? = some true) (vL:x[10]? = some false) (hv:∀ v,C 10 v):R7 LV W0 C L1 L2 (x.set 10 true) (upd f 10 (f 9)) W:=by
 refine ⟨h.bel,zz h.c (hv _),?_,?_,?_,?_,?_,?_,?_,?_⟩ <;> try simp only [gq (show 10 ≠ 0 by decide),gq (show 10 ≠ 4 by decide),gq (show 10 ≠ 9 by decide),zr f _ (show 9 ≠ 10 by decide),zr f _ (show 4 ≠ 10 by decide),zr f _ (show 0 ≠ 10 by decide)]
 ·intro e; rw [gqs vL] at e; cases e
 ·exact h.m0
 ·exact h.m4
 ·exact h.m9
 ·exact fun _=>zp _ _ _
 ·exact h.o4
 ·exact h.o9
 ·exact fun _ j L=>set_mono (hA j L)
end
def C7 (LV:Value) (g n cp i:Nat):Nat→Value→Prop
 | 1,v=>v = LV
 | 2,v=>v = H i
 | 3,v=>v = .slice (some (J g 0)) i cp
 | 5,v=>v = LV
 | 6,v=>v = H i
 | 7,v=>v = H ((i:Int) + 1)
 | 8,v=>∃ ad c,v = .slice (some ad) (n - (i + 1)) c∧(i + 1 < n→ad = (J g ((i + 1) * 6)))
 | _,_=>True
def R7A (LV:Value) (W0:World) (C:Nat→Value→Prop) (L1 L2:List Od) (xh:(Nat→Value)→Act) (x:List Bool) (hR:Act) (W:World):Prop:=∃ f,hR = xh f∧R7 LV W0 C L1 L2 x f W
theorem dt {W:World} {B:Nat} {v:Value} {l:List Od} (h:ORow W B v l) (xA:l ≠ []):∃ g F,v = .slice (some (J g 0)) l.length F∧l.length ≤ F∧B ≤ g∧g < W.heap.size:=by
 rcases h.2 with ⟨rfl,h0⟩ | ⟨g,F,xp,rfl,hb,hg,vR,_⟩
 ·exact absurd (List.length_eq_zero_iff.1 h0) xA
 ·exact ⟨g,F,rfl,vR,hb,(yV.1 hg).1⟩
def SlOk (v:Value):Prop:=v = .slice none 0 0 ∨ ∃ ad n c,v = .slice (some ad) n c
theorem cD {W:World} {B:Nat} {v:Value} {l:List Od} (h:ORow W B v l):SlOk v:=by
 rcases h.2 with ⟨z,_⟩ | ⟨g,F,xp,z,_⟩
 ·exact .inl z
 ·exact .inr ⟨_,_,_,z⟩
theorem rd_src {W:World} {ad:Addr} {F:Nat} {l:List Od} (hr:RdR Od.vs 6 W (.slice (some ad) l.length F) l):∀ j u,(l.flatMap Od.vs)[j]? = some u→W.cell? (ad.add j) = some u:=by
 intro j u hu
 obtain ⟨a',po,e1,_,hc⟩:=hr
 simp only [Value.slice.injEq] at e1
 have xA:l ≠ []:=by rintro rfl; simp at hu
 obtain ⟨b,off,e2,hb,xk⟩:=hc xA
 rw [e2] at e1
 simp only [Option.some.injEq] at e1
 obtain ⟨rfl,-,-⟩:=e1
 have h:=cZ (W:=W) (g:=b) (off:=off) (l:=l) xk 0 l.length j u (by simpa using hu)
 simpa using h
theorem rd_lenF {W:World} {v:Value} {l:List Od} (h:RdR Od.vs 6 W v l):∃ a c,v = .slice a l.length c:=by
 obtain ⟨a,c,z,_⟩:=h; exact ⟨a,c,z⟩
theorem bj {W:World} {b c o k j:Nat} {u:Value} (h:W.there b o k):(W.setCell (J c j) u).there b o k:=yY (vs:=[u]) h c j
theorem br {W:World} {B:Nat} {v:Value} {l:List Od} (h:ORow W B v l) {b:Nat} (hb:b < B) (o:Nat) (u:Value):ORow (W.setCell (J b o) u) B v l :=
 ownsRow_setCell_below h (a:=(J b o)) hb u
theorem copy_mid {w W2 w3:World} {S:Nat} {v3 sv:Value} {next:Int} {l:List Od} (hS:S = w.heap.size) (z:Below S w W2) (K:W2.heap.size = S + 2) (h3:W2.rangeAt S 0 [H next,sv]) (h4:W2.there S 0 2) (h5:W2.there (S + 1) 0 2) (hl:l.length ≤ 1000)
  (h6:w3.ownsRow (S + 2) 49 6 v3 (0 + l.length) ([] ++ l.flatMap Od.vs)) (h7:W2.grownBy w3 (Value.slice none 0 0).ownBlock) :
  ∃ a3 c3,v3 = .slice a3 l.length c3∧ORow w3 (S + 2) v3 l∧w3.cell? (J S 0) = some (H next)∧w3.cell? (J S 1) = some sv∧w3.frozen? (J S 1) = false∧w3.there (S + 1) 0 2∧Below S w w3∧S + 2 ≤ w3.heap.size:=by
 have h6':ORow w3 (S + 2) v3 l:=by
  show w3.ownsRow _ _ _ _ l.length _
  simpa using h6
 obtain ⟨a3,c3,e⟩:=rd_lenF (zT h6' (by omega))
 have r:=zm h3 h7 (by omega) (by simp [Value.ownBlock])
 refine ⟨a3,c3,e,h6',r 0 _ rfl,r 1 _ rfl,?_,bC h5 h7 (by omega) (by simp [Value.ownBlock]),z.grown h7 (by omega) (fun k hk=>by simp [Value.ownBlock] at hk),by have:=h7.size; omega⟩
 have:=(bC h4 h7 (by omega) (by simp [Value.ownBlock]) 1 (by omega)).2
 rwa [Nat.zero_add] at this
theorem copyBook_any (next:Int) (v:Value) (l:List Od) (w:World) (hr:RdR Od.vs 6 w v l) (hs:SlOk v) (hn:l.length ≤ 1000) :
  Calls Tryz.prog 41 #[.agg #[H next,v]] w fun e w'=>∃ v',e = yk (.agg #[H next,v'])∧ORow w' w.heap.size v' l∧yl w w':=by
 have HR:=Q hr
 obtain ⟨i0,uv,uq,uw,uM⟩:=info_parts Tryz.infoOrder
 obtain ⟨a,F,rfl,xD,hc⟩:=hr
 have xz:=ze w (E #[H next,.slice a l.length F] 28)
 have xY:((w.alloc (E #[H next,.slice a l.length F] 28)).alloc (E #[H 0,.slice none 0 0] 28)).heap.size = w.heap.size + 2:=by rw [ze,xz]
 have t1:=zH w [H next,.slice a l.length F] 28
 have r1:=zg w [H next,.slice a l.length F] 28
 have b1:Below (w.heap.size + 1) (w.alloc (E #[H next,.slice a l.length F] 28)) ((w.alloc (E #[H next,.slice a l.length F] 28)).alloc (E #[H 0,.slice none 0 0] 28)):=(Below.refl _ _).alloc (by rw [xz]; omega) _
 have t2:=zH (w.alloc (E #[H next,.slice a l.length F] 28)) [H 0,.slice none 0 0] 28
 rw [xz] at t2
 have HX:Hid (_∧_∧_):=⟨zb r1 b1 (by omega),zf t1 b1 (by omega),t2⟩
 have ua:Hid (yl w ((w.alloc (E #[H next,.slice a l.length F] 28)).alloc (E #[H 0,.slice none 0 0] 28))):=(eD _ _).alloc (by rw [xz]; omega) _
 have vK:=Q xY
 clear hc t1 r1 b1 t2 xz xY
 go_enter Tryz.func41,Tryz.ntmps41
 rcases hs with hs | ⟨ad,nn,cc,hs⟩
 ·simp only [Value.slice.injEq] at hs
  obtain ⟨rfl,oT,rfl⟩:=hs
  obtain rfl:=List.length_eq_zero_iff.1 oT
  go_wp2_with (at_builtin; go_must (refine wpList_append_own_none rfl _ _ 26 rfl (w.heap.size + 2) 49 i0 6 Tryz.underlying26 uv (.slice none 0 0) 0 [] rfl (World.ownsRow_nil _ _ _ _) rfl ?_))
  go_returns
  refine ⟨_,rfl,World.ownsRow_nil _ _ _ _,?_⟩
  go_grown
 ·simp only [Value.slice.injEq] at hs
  obtain ⟨rfl,rfl,rfl⟩:=hs
  have uQ:Hid (∀ j u,(l.flatMap Od.vs)[j]? = some u→World.cell? (((w.alloc (E #[H next,.slice (some ad) l.length F] 28)).alloc (E #[H 0,.slice none 0 0] 28))) (ad.add j) = some u):=rd_src (zh (M HR) (M ua) tg)
  go_wp2_with (at_builtin; go_must (refine wpList_append_own _ rfl _ _ 26 rfl (w.heap.size + 2) 49 i0 _ 6 56 Tryz.underlying26 uv uq uw uM rfl (by decide) (.slice none 0 0) 0 [] rfl (World.ownsRow_nil _ _ _ _) ad l.length F (l.flatMap Od.vs) rfl (by rw [zM Od.len]) (M uQ) (bh l) (by unfold maxLen; omega) (by omega) (by rw [M vK]; omega) ?_); intro v3 w3 hown3 uz _; obtain ⟨a3,c3,rfl,ho3,c0,c1,f1,ht3,uf,kp⟩:=copy_mid rfl (M ua) (M vK) (M HX).1 (M HX).2.1 (M HX).2.2 hn hown3 uz; have qB:=Q ho3; have qE:=Q ht3; have xM:=Q uf; obtain ⟨v0,z0,q0⟩:=zF ht3 0 (by omega); obtain ⟨v1,z1,q1⟩:=zF ht3 1 (by omega); clear ho3 ht3 uf hown3 uz)
  have z0:w3.cell? (J (w.heap.size + 1) 0) = some v0:=z0
  have z1:w3.cell? (J (w.heap.size + 1) 1) = some v1:=by rw [Nat.zero_add] at z1; exact z1
  have q0:w3.frozen? (J (w.heap.size + 1) 0) = false:=q0
  have q1:w3.frozen? (J (w.heap.size + 1) 1) = false:=by rw [Nat.zero_add] at q1; exact q1
  have jo:=Q (yU (w3.setCell (yn w 1) (.slice a3 l.length c3)) (w.heap.size + 1) 0 [H next,.slice a3 l.length c3] (fun j L=>(bj (M qE)) j L))
  have HOX:=Q (br (br (br (M qB) (b:=w.heap.size) (by omega) 1 (.slice a3 l.length c3)) (b:=w.heap.size + 1) (by omega) 0 (H next)) (b:=w.heap.size + 1) (by omega) 1 (.slice a3 l.length c3))
  have uE:=Q ((((M xM).setCell (p:=(yn w 1)) tg (.slice a3 l.length c3)).setCell (p:=(J (w.heap.size + 1) 0)) (by simp) (H next)).setCell (p:=(J (w.heap.size + 1) 1)) (by simp) (.slice a3 l.length c3))
  go_wp2_with fail
  have jo:Hid (World.rangeAt (((w3.setCell (yn w 1) (.slice a3 l.length c3)).setCell (J (w.heap.size + 1) 0) (H next)).setCell (J (w.heap.size + 1) 1) (.slice a3 l.length c3)) (w.heap.size + 1) 0 [H next,.slice a3 l.length c3]):=M jo
  generalize (((w3.setCell (yn w 1) (.slice a3 l.length c3)).setCell (J (w.heap.size + 1) 0) (H next)).setCell (J (w.heap.size + 1) 1) (.slice a3 l.length c3)) = WE at jo HOX uE ⊢
  have d0:WE.cell? (J (w.heap.size + 1) 0) = some (H next):=M jo 0 _ rfl
  have d1:WE.cell? (J (w.heap.size + 1) 1) = some (.slice a3 l.length c3):=M jo 1 _ rfl
  try simp only [Exit.inBlock,Exit.then]
  refine bodyPost_ret (by simp [results,Tryz.results41,go_sem,d0,d1]; try rfl) rfl ?_
  exact ⟨_,rfl,bV (M HOX) (by omega),M uE⟩
end Go.Proofs.YtbakanofkghmiaaGreat
