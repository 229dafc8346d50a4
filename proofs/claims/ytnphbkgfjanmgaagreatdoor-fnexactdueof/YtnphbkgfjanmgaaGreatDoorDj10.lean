/-
  Whether a book is right, as the model says it: proved by walking the function.
-/
import Derived.Test.YtnphbkgfjanmgaaGreatDoorDj09
import Derived.Laws.AppendOwnNone
import Derived.Laws.CopyOwn
set_option linter.unusedVariables false
set_option maxHeartbeats 6400000
set_option maxRecDepth 100000
namespace Go.Proofs.YtnphbkgfjanmgaaGreatDoor
open Go.RowKit
def allR (next:Int):Int→List Od→Bool
 | _,[]=>true
 | last,o :: r=>ordB o && decide (last < o.id) && decide (o.id < next) && allR next o.id r
theorem eu {next:Int}:∀ {l:List Od} {last:Int},allR next last l = true→bu l∧∀ o ∈ l,last < o.id
 | [],_,_=>⟨by simp [bu],by simp⟩
 | a :: r,last,h=>by
  simp only [allR,xf,xg] at h
  obtain ⟨ih1,ih2⟩:=eu h.2
  refine ⟨List.pairwise_cons.2 ⟨ih2,ih1⟩,fun o Z=>?_⟩
  rcases List.mem_cons.1 Z with rfl | Z
  ·exact h.1.1.2
  ·have:=ih2 o Z; have:=h.1.1.2; omega
theorem eD {next:Int}:∀ {l:List Od} {last:Int},allR next last l = true→∀ o ∈ l,ordB o = true
 | [],_,_=>by simp
 | a :: r,last,h=>by
  simp only [allR,xf,xg] at h
  intro o Z
  rcases List.mem_cons.1 Z with rfl | Z
  ·exact h.1.1.1
  ·exact eD h.2 o Z
def xB (a b:Od):Bool:=!(decide (a.side = 1) && decide (b.side = 2)) || decide (a.ticks < b.ticks)
def noX (l:List Od):Bool:=l.all fun a=>l.all fun b=>xB a b
theorem noX_iff (l:List Od):noX l = true ↔ ∀ a ∈ l,a.side = 1→∀ b ∈ l,b.side = 2→a.ticks < b.ticks:=by
 simp only [noX,List.all_eq_true,xB,Bool.or_eq_true,Bool.not_eq_true',Bool.and_eq_false_iff,decide_eq_false_iff_not,xg]
 constructor
 ·intro h a ha N b E Y
  rcases h a ha b E with (h3 | h3) | h3
  ·exact absurd N h3
  ·exact absurd Y h3
  ·exact h3
 ·intro h a ha b E
  by_cases N:a.side = 1
  ·by_cases Y:b.side = 2
   ·exact .inr (h a ha N b E Y)
   ·exact .inl (.inr Y)
  ·exact .inl (.inl N)
theorem noX_none1 {l:List Od} (h:∀ o ∈ l,o.side ≠ 1):noX l = true:=(noX_iff l).2 fun a ha N=>absurd N (h a ha)
theorem noX_none2 {l:List Od} (h:∀ o ∈ l,o.side ≠ 2):noX l = true:=(noX_iff l).2 fun a ha N b E Y=>absurd Y (h b E)
theorem noX_fronts {l:List Od} {i j:Nat} {a b:Od} (ha:dD true l 1 i a) (E:dD false l 2 j b):noX l = decide (a.ticks < b.ticks):=by
 rw [Bool.eq_iff_iff,noX_iff,xg]
 constructor
 ·exact fun h=>h a (yP ha.1) ha.2.1 b (yP E.1) E.2.1
 ·intro h x hx N y hy Y
  obtain ⟨m,hm⟩:=List.mem_iff_getElem?.1 hx
  obtain ⟨n,hn⟩:=List.mem_iff_getElem?.1 hy
  have hxa:x.ticks ≤ a.ticks:=by
   by_cases pW:m = i
   ·subst pW; rw [ha.1] at hm; obtain rfl:=Option.some.inj hm; exact Int.le_refl _
   ·rcases ha.2.2 m x hm N pW with h3 | h3
    ·simp only [bt] at h3; omega
    ·omega
  have hyb:b.ticks ≤ y.ticks:=by
   by_cases hnj:n = j
   ·subst hnj; rw [E.1] at hn; obtain rfl:=Option.some.inj hn; exact Int.le_refl _
   ·rcases E.2.2 n y hn Y hnj with h3 | h3
    ·simp only [bt] at h3; omega
    ·omega
  omega
theorem frPre_end {l:List Od} {sd:Int} {k:Int} (h:FrPre l sd l.length k):(k = -1∧∀ o ∈ l,o.side ≠ sd) ∨ ∃ (i:Nat) (o:Od),k = i∧i < l.length∧dD (decide (sd = 1)) l sd i o:=by
 rcases h with ⟨rfl,h⟩ | ⟨i,o,rfl,N,Y,h3,h4⟩
 ·refine .inl ⟨rfl,fun o Z=>?_⟩
  obtain ⟨j,V⟩:=List.mem_iff_getElem?.1 Z
  exact h j o (yH.1 V).1 V
 ·exact .inr ⟨i,o,rfl,N,Y,h3,fun j o' Z hs xD=>h4 j o' (yH.1 Z).1 Z hs xD⟩
def okS (next:Int) (l:List Od):Bool:=betB next 1 1000000 && decide (l.length ≤ 20) && allR next 0 l && (decide (nlev l ≤ 8) && noX l)
theorem allR_eq (next:Int):∀ (l:List Od) (last:Int),allR next last l = (idsR next last l && l.all ordB)
 | [],_=>rfl
 | a :: r,last=>by
  rw [allR,idsR,List.all_cons,allR_eq next r a.id]
  cases ordB a <;> cases decide (last < a.id) <;> cases decide (a.id < next) <;> simp
theorem eG {s:Bool} {l:List Od} {sd:Int} (hr:bu l):((quOf s (zt l sd)).head? = none∧∀ o ∈ l,o.side ≠ sd) ∨ ∃ i o,(quOf s (zt l sd)).head? = some o∧dD s l sd i o:=by
 cases h:(quOf s (zt l sd)).head? with
 | none=>exact .inl ⟨rfl,queue_none (cI s _) h⟩
 | some o =>
  obtain ⟨i,hi⟩:=queue_front hr (cI s _) h
  exact .inr ⟨i,o,rfl,hi⟩
theorem meet_noX {l:List Od} (hr:bu l):(!meetB (quOf true (zt l 1)) (quOf false (zt l 2))) = noX l:=by
 rcases eG (s:=true) (sd:=1) hr with ⟨N,hn⟩ | ⟨i,a,N,oH⟩
 ·rw [noX_none1 hn]; simp [meetB,hdF,N]
 ·rcases eG (s:=false) (sd:=2) hr with ⟨Y,hn⟩ | ⟨j,b,Y,hf2⟩
  ·rw [noX_none2 hn]; simp [meetB,hdF,Y]
  ·rw [noX_fronts oH hf2]
   simp only [meetB,hdF,hdO,N,Y,Option.isSome_some,Option.getD_some,Bool.true_and]
   rw [Bool.eq_iff_iff]; simp
theorem okI_eq (next:Int) (l:List Od):okI next l = okS next l:=by
 unfold okI okS
 rw [allR_eq]
 cases h:(idsR next 0 l && l.all ordB)
 ·rw [Bool.and_assoc (betB next 1 1000000 && decide (l.length ≤ 20)) (idsR next 0 l),h]; simp
 ·have D:allR next 0 l = true:=by rw [allR_eq]; exact h
  have hr:=(eu D).1
  have hs:∀ o ∈ l,o.side = 1 ∨ o.side = 2:=fun o Z=>by
   have:=eD D o Z
   simp [ordB,betB] at this
   omega
  rw [Bool.and_assoc (betB next 1 1000000 && decide (l.length ≤ 20)) (idsR next 0 l),h,meet_noX hr]
  have:=nlev_eq hs (cI true _) (cI false _)
  rw [aU,aU,List.length_map,List.length_map,this]
def cmdI (c:Cm):Value:=if c.k = 1 then .iface 85 (noV c) else if c.k = 2 then .iface 211 (.agg #[I c.i]) else if c.k = 3 then .iface 213 (.agg #[I c.i,I c.q]) else if c.k = 4 then .iface 231 (.agg #[]) else .nilIface
theorem ft (c:Cm) (w:World) :
  Calls Tryz.prog 134 #[cmV c] w fun e w'=>e = yn (noV c)∧yp w w':=by
 obtain ⟨k,s,t,l,q,i,p,g⟩:=c
 unfold cmV noV
 simp only
 have hsf:=sfl
 go_enter Tryz.func134,Tryz.ntmps134
 go_wp2_with fail
 go_returns
 exact ⟨rfl,by go_grown⟩
theorem dV (c:Cm) (w:World) :
  Calls Tryz.prog 175 #[cmV c] w fun e w'=>e = yn (cmdI c)∧yp w w':=by
 obtain ⟨k,s,t,l,q,i,p,g⟩:=c
 unfold cmV
 simp only
 by_cases N:k = 1
 ·subst N
  have ue:Hid (yp w (w.alloc (L (yy 1 s t l q i p g).toArray 50))):=fw _ _
  go_enter Tryz.func175,Tryz.ntmps175
  go_wp2_with fail
  refine (ft ⟨1,s,t,l,q,i,p,g⟩ _).mono ?_
  rintro e w' ⟨rfl,E⟩
  have xw:=H (fC (U ue) E)
  clear E
  go_wp2_with fail
  go_ret
  exact ⟨rfl,U xw⟩
 have b1:(k == 1) = false:=by simpa using N
 by_cases Y:k = 2
 ·subst Y
  go_enter Tryz.func175,Tryz.ntmps175
  go_wp2_with fail
  go_ret
  exact ⟨rfl,by go_grown⟩
 have b2:(k == 2) = false:=by simpa using Y
 by_cases h3:k = 3
 ·subst h3
  go_enter Tryz.func175,Tryz.ntmps175
  go_wp2_with fail
  go_ret
  exact ⟨rfl,by go_grown⟩
 have b3:(k == 3) = false:=by simpa using h3
 by_cases h4:k = 4
 ·subst h4
  go_enter Tryz.func175,Tryz.ntmps175
  go_wp2_with fail
  go_ret
  exact ⟨rfl,by go_grown⟩
 have b4:(k == 4) = false:=by simpa using h4
 have HC:Hid (cmdI ⟨k,s,t,l,q,i,p,g⟩ = .nilIface):=by show _ = _; simp [cmdI,N,Y,h3,h4]
 go_enter Tryz.func175,Tryz.ntmps175
 go_wp2_with fail
 go_ret
 exact ⟨by rw [U HC]; rfl,by go_grown⟩
def plcF (id:Int):List Od→Nat→Int
 | [],_=>-1
 | o :: r,k=>if o.id = id then k else plcF id r (k + 1)
def plc (l:List Od) (id:Int):Int:=plcF id l 0
theorem plcF_spec (id:Int):∀ (l:List Od) (k:Nat),(plcF id l k = -1∧∀ o ∈ l,o.id ≠ id) ∨ ∃ i o,plcF id l k = ((k + i:Nat):Int)∧l[i]? = some o∧o.id = id∧∀ j o',j < i→l[j]? = some o'→o'.id ≠ id
 | [],k=>.inl ⟨rfl,by simp⟩
 | o :: r,k=>by
  by_cases h:o.id = id
  ·exact .inr ⟨0,o,by rw [plcF,if_pos h]; rfl,rfl,h,by simp⟩
  ·rcases plcF_spec id r (k + 1) with ⟨N,Y⟩ | ⟨i,o',N,Y,h3,h4⟩
   ·refine .inl ⟨by rw [plcF,if_neg h,N],fun x hx=>?_⟩
    rcases List.mem_cons.1 hx with rfl | hx
    ·exact h
    ·exact Y x hx
   ·refine .inr ⟨i + 1,o',by rw [plcF,if_neg h,N]; congr 1; omega,Y,h3,fun j x V hx=>?_⟩
    cases j with
    | zero=>simp at hx; subst hx; exact h
    | succ j=>exact h4 j x (by omega) (by simpa using hx)
theorem drop_get {l:List Od} {k:Nat} {c:Od} (h:l[k]? = some c):l.drop k = c :: l.drop (k + 1):=by
 obtain ⟨N,rfl⟩:=yH.1 h
 exact xd N
theorem place1_any (o:Od) (B:Nat) (id:Int) (w:World) (hB:w.cell? (Q B 0) = some (I id)) :
  Calls Tryz.prog 181 #[.agg (yx o.id o.side o.ticks o.left o.life o.tag).toArray,J B 0] w fun e w'=>e = yn (.bool (o.id == id))∧yp w w':=by
 obtain ⟨uJ,side,ticks,left,life,tag⟩:=o
 simp only
 have hB':(w.alloc (L (yx uJ side ticks left life tag).toArray 78)).cell? (Q B 0) = some (I id):=(yW _ _ (Q B 0) (yL w _ hB)).trans hB
 go_enter Tryz.func181,Tryz.ntmps181
 go_wp2_with fail
 go_ret
 exact ⟨rfl,by go_grown⟩
theorem indexFunc_any (v:Value) (l:List Od) (B:Nat) (id:Int) (w:World) (hr:RdR Od.vs 6 w v l) (hB:w.cell? (Q B 0) = some (I id)) :
  Calls Tryz.prog 100 #[v,.func (.func 181) #[] #[J B 0]] w fun e w'=>e = yn (I (plc l id))∧yp w w':=by
 obtain ⟨a,cap,rfl,xA,hc⟩:=hr
 have xt:∀ (k:Nat) (c:Od),l[k]? = some c→∃ b off,a = some (Q b off)∧b < w.heap.size∧w.rangeAt b (off + k * 6) c.vs:=by
  intro k c hk
  obtain ⟨b,off,N,Y,h3⟩:=hc (by intro h; rw [h] at hk; simp at hk)
  exact ⟨b,off,N,Y,h3 k c hk⟩
 have HC:=H xt
 have HBC:=H hB
 have hBl:=yL w _ hB
 simp only at hBl
 clear xt hc hB
 go_enter Tryz.func100,Tryz.ntmps100
 go_wp2_with fail
 go_loopw [8] (fun iv wr=>∃ (k:Nat),k ≤ l.length∧iv = I k∧Hid (plc l id = plcF id (l.drop k) k)∧yp w wr) (fun iv _=>l.length - (intOf iv).toNat)
 case atStart=>exact ⟨0,Nat.zero_le _,rfl,rfl,Below.refl _ _⟩
 case round =>
  obtain ⟨k,hk,rfl,uM,xl⟩:=hrel
  have HB:=H xl
  clear xl
  by_cases xJ:k < l.length
  ·obtain ⟨c,ur⟩:∃ c,l[k]? = some c:=⟨_,yI xJ⟩
   have HP:Hid (plc l id = if c.id = id then (k:Int) else plcF id (l.drop (k + 1)) (k + 1)):=by
    have:=U uM
    rw [drop_get ur] at this
    exact this
   obtain ⟨b,off,rfl,E,X⟩:=U HC k c ur
   obtain ⟨g0,g1,g2,g3,g4,g5⟩:=zB (zc X (U HB) E)
   have uF:(k:Int) < l.length:=by omega
   have qB:=H (((U HB).cell (p:=(Q B 0)) hBl).trans (U HBC))
   clear ur X E uM
   go_wp2_with fail
   refine (place1_any c B id wr (U qB)).mono ?_
   rintro e w3 ⟨rfl,xQ⟩
   have xN:=H (fC (U HB) xQ)
   clear xQ
   by_cases ui:c.id = id
   ·have E:(c.id == id) = true:=by simpa using ui
    have HK:Hid (plc l id = k):=by have:=U HP; rw [if_pos ui] at this; exact this
    clear ui
    go_wp2_with fail
    go_ret
    exact ⟨zA (U HK).symm,U xN⟩
   ·have E:(c.id == id) = false:=by simpa using ui
    have HK:Hid (plc l id = plcF id (l.drop (k + 1)) (k + 1)):=by have:=U HP; rw [if_neg ui] at this; exact this
    clear ui
    go_wp2_with fail
    go_roundw
    case rel=>exact ⟨k + 1,by omega,by go_num,U HK,U xN⟩
    case measure=>simp [intOf]; omega
  ·have HK:Hid (plc l id = -1):=by
    have h:=U uM
    rw [xb (by omega)] at h
    exact h
   go_wp2_with fail
   go_ret
   exact ⟨zA (U HK).symm,U HB⟩
theorem dY (next:Int) (v:Value) (l:List Od) (id:Int) (w:World) (hr:RdR Od.vs 6 w v l) :
  Calls Tryz.prog 140 #[.agg #[I next,v],I id] w fun e w'=>e = yn (I (plc l id))∧yp w w':=by
 have HR:=H hr
 obtain ⟨a,cap,rfl,xA,hc⟩:=hr
 have hmf:∀ (fn:Fn) (first cap:Array Value) (w:World),(Instr.makeFunc fn first cap).run Tryz.prog w = .ok (.func fn first cap) w:=fun _ _ _ _=>rfl
 have xK:=zj w (L #[I next,.slice a l.length cap] 34)
 have r1:=zn (w.alloc (L #[I next,.slice a l.length cap] 34)) [I id] 3
 rw [xK] at r1
 have HX:=H (r1 0 _ rfl)
 have xW:Hid (yp w ((w.alloc (L #[I next,.slice a l.length cap] 34)).alloc (L #[I id] 3))):=(fw _ _).alloc (by rw [xK]; omega) _
 clear hc r1 xK
 go_enter Tryz.func140,Tryz.ntmps140
 go_wp2_with fail
 have HX:Hid (World.cell? ((w.alloc (L #[I next,.slice a l.length cap] 34)).alloc (L #[I id] 3)) (Q (w.heap.size + 1) 0) = some (I id)):=U HX
 generalize ((w.alloc (L #[I next,.slice a l.length cap] 34)).alloc (L #[I id] 3)) = W2 at HX xW ⊢
 refine (indexFunc_any _ l (w.heap.size + 1) id W2 (zh (U HR) (U xW) yb) (U HX)).mono ?_
 rintro e w3 ⟨rfl,xQ⟩
 have xN:=H (fC (U xW) xQ)
 clear xQ
 go_wp2_with fail
 go_ret
 exact ⟨rfl,U xN⟩
abbrev ORow (W:World) (B:Nat) (v:Value) (l:List Od):Prop:=W.ownsRow B 78 6 v l.length (l.flatMap Od.vs)
theorem zK {W:World} {B:Nat} {v:Value} {l:List Od} (h:ORow W B v l) (hl:l.length ≤ 1073741824):RdR Od.vs 6 W v l:=dE (ownR_row Od.len hl h)
theorem cellsQ (w:World) (A:List Value) (t:TypeId) (j:Nat) (u:Value) (h:A[j]? = some u):(w.alloc (Obj.cells A.toArray t)).cell? (((yr w 0):Addr).add j) = some u:=by
 rw [Addr.add_mid,cell_of_row _ w.heap.size (0 + j) A.toArray t (0,0) (heap_alloc_new w _)]
 simpa using h
theorem dv {W:World} {g off:Nat} {l:List Od} (h:∀ i c,l[i]? = some c→W.rangeAt g (off + i * 6) c.vs) (a n:Nat):∀ j u,(((l.drop a).take n).flatMap Od.vs)[j]? = some u→W.cell? (((Q g (off + a * 6)):Addr).add j) = some u:=by
 intro j u hu
 have xJ:=(yH.1 hu).1
 rw [zZ Od.len] at xJ
 have hq:j / 6 < ((l.drop a).take n).length:=by omega
 obtain ⟨c,hc⟩:∃ c,((l.drop a).take n)[j / 6]? = some c:=⟨_,yI hq⟩
 have N:=flat_get Od.len _ (j / 6) (j % 6) c hc (by omega)
 rw [show j / 6 * 6 + j % 6 = j by omega,hu] at N
 have hc':l[a + j / 6]? = some c:=by
  rw [List.getElem?_take] at hc
  split at hc
  ·rw [List.getElem?_drop] at hc; exact hc
  ·cases hc
 have:=h _ c hc' (j % 6) u N.symm
 rw [Addr.add_mid]
 rw [show off + (a + j / 6) * 6 + j % 6 = off + a * 6 + j by omega] at this
 exact this
theorem bZ (l:List Od):∀ u ∈ l.flatMap Od.vs,u.oneCell' = true:=by
 intro u hu
 obtain ⟨o,_,Z⟩:=List.mem_flatMap.1 hu
 simp [Od.vs] at Z
 rcases Z with rfl | rfl | rfl | rfl | rfl | rfl <;> rfl
structure R7 (LV:Value) (W0:World) (C:Nat→Value→Prop) (L1 L2:List Od) (x:List Bool) (f:Nat→Value) (W:World):Prop where
 bel:Below W0.heap.size W0 W
 c:∀ j,x[j]? = some true→C j (f j)
 s5:x[10]? = some false→f 10 = LV
 m0:x[0]? = some true→x[4]? = some false→ORow W W0.heap.size (f 0) []
 m4:x[4]? = some true→x[9]? = some false→ORow W W0.heap.size (f 4) L1
 m9:x[9]? = some true→ORow W W0.heap.size (f 9) L2
 m10:x[10]? = some true→f 10 = f 9
 o4:x[4]? = some true→x[0]? = some true
 o9:x[9]? = some true→x[4]? = some true
 o10:x[10]? = some true→∀ j,j < 10→x[j]? = some true
theorem gq {x:List Bool} {i j:Nat} (h:i ≠ j):(x.set i true)[j]? = x[j]?:=yX h
theorem set_mono {x:List Bool} {i j:Nat} (h:x[j]? = some true):(x.set i true)[j]? = some true:=by
 by_cases aG:i = j
 ·subst aG; exact List.getElem?_set_self (yH.1 h).1
 ·rw [yX aG]; exact h
theorem gqs {x:List Bool} {i:Nat} (h:x[i]? = some false):(x.set i true)[i]? = some true:=List.getElem?_set_self (yH.1 h).1
section
variable {LV:Value} {W0 W W':World} {C:Nat→Value→Prop} {L1 L2:List Od} {x:List Bool} {f:Nat→Value}
theorem bH (h:R7 LV W0 C L1 L2 x f W) (i:Nat) (v:Value) (hv:C i v) (h0:i ≠ 0) (h4:i ≠ 4) (h9:i ≠ 9) (uV:i ≠ 10):R7 LV W0 C L1 L2 (x.set i true) (upd f i v) W:=by
 refine ⟨h.bel,zC h.c hv,?_,?_,?_,?_,?_,?_,?_,?_⟩ <;> simp only [gq h0,gq h4,gq h9,gq uV,zk f v h0.symm,zk f v h4.symm,zk f v h9.symm,zk f v uV.symm]
 ·exact h.s5
 ·exact h.m0
 ·exact h.m4
 ·exact h.m9
 ·exact h.m10
 ·exact h.o4
 ·exact h.o9
 ·exact fun e j V=>set_mono (h.o10 e j V)
theorem no_of {b:Option Bool} (h:b = some false):b ≠ some true:=by rw [h]; simp
theorem r7_0 (h:R7 LV W0 C L1 L2 x f W) (h0:x[0]? = some false) (hv:∀ v,C 0 v):R7 LV W0 C L1 L2 (x.set 0 true) (upd f 0 (.slice (some (yr W 0)) 0 0)) (W.alloc (L #[] 78)):=by
 have n4:x[4]? ≠ some true:=fun e=>no_of h0 (h.o4 e)
 have n9:x[9]? ≠ some true:=fun e=>n4 (h.o9 e)
 have n10:x[10]? ≠ some true:=fun e=>n9 (h.o10 e 9 (by omega))
 refine ⟨h.bel.alloc h.bel.size _,zC h.c (hv _),?_,?_,?_,?_,?_,?_,?_,?_⟩ <;> try simp only [gq (show 0 ≠ 4 by decide),gq (show 0 ≠ 9 by decide),gq (show 0 ≠ 10 by decide),zk f _ (show 10 ≠ 0 by decide),zk f _ (show 9 ≠ 0 by decide),zk f _ (show 4 ≠ 0 by decide)]
 ·exact h.s5
 ·intro _ _; rw [zr]; exact World.ownsRow_made W #[] 0 h.bel.size (by decide) rfl
 ·exact fun e=>absurd e n4
 ·exact fun e=>absurd e n9
 ·exact fun e=>absurd e n10
 ·exact fun e=>absurd e n4
 ·exact h.o9
 ·exact fun e j V=>set_mono (h.o10 e j V)
theorem r7_4 (h:R7 LV W0 C L1 L2 x f W) (h0:x[0]? = some true) (h4:x[4]? = some false) (hv:∀ v,C 4 v) {v':Value} (Z:ORow W' W0.heap.size v' L1) (hg:W.grownBy W' (f 0).ownBlock):R7 LV W0 C L1 L2 (x.set 4 true) (upd f 4 v') W':=by
 have n9:x[9]? ≠ some true:=fun e=>no_of h4 (h.o9 e)
 have n10:x[10]? ≠ some true:=fun e=>n9 (h.o10 e 9 (by omega))
 refine ⟨h.bel.grown hg h.bel.size (fun k hk=>((h.m0 h0 h4).lt k hk).1),zC h.c (hv _),?_,?_,?_,?_,?_,?_,?_,?_⟩ <;> try simp only [gq (show 4 ≠ 0 by decide),gq (show 4 ≠ 9 by decide),gq (show 4 ≠ 10 by decide),zk f _ (show 10 ≠ 4 by decide),zk f _ (show 9 ≠ 4 by decide),zk f _ (show 0 ≠ 4 by decide)]
 ·exact h.s5
 ·intro _ e; rw [gqs h4] at e; cases e
 ·intro _ _; rw [zr]; exact Z
 ·exact fun e=>absurd e n9
 ·exact fun e=>absurd e n10
 ·exact fun _=>h0
 ·exact fun e=>absurd e n9
 ·exact fun e j V=>set_mono (h.o10 e j V)
theorem r7_9 (h:R7 LV W0 C L1 L2 x f W) (h4:x[4]? = some true) (h9:x[9]? = some false) (hv:∀ v,C 9 v) {v':Value} (Z:ORow W' W0.heap.size v' L2) (hg:W.grownBy W' (f 4).ownBlock):R7 LV W0 C L1 L2 (x.set 9 true) (upd f 9 v') W':=by
 have n10:x[10]? ≠ some true:=fun e=>no_of h9 (h.o10 e 9 (by omega))
 refine ⟨h.bel.grown hg h.bel.size (fun k hk=>((h.m4 h4 h9).lt k hk).1),zC h.c (hv _),?_,?_,?_,?_,?_,?_,?_,?_⟩ <;> try simp only [gq (show 9 ≠ 0 by decide),gq (show 9 ≠ 4 by decide),gq (show 9 ≠ 10 by decide),zk f _ (show 10 ≠ 9 by decide),zk f _ (show 4 ≠ 9 by decide),zk f _ (show 0 ≠ 9 by decide)]
 ·exact h.s5
 ·exact fun _ e=>absurd e (by rw [h4]; simp)
 ·intro _ e; rw [gqs h9] at e; cases e
 ·intro _; rw [zr]; exact Z
 ·exact fun e=>absurd e n10
 ·exact h.o4
 ·exact fun _=>h4
 ·exact fun e=>absurd e n10
theorem r7_10 (h:R7 LV W0 C L1 L2 x f W) (hA:∀ j,j < 10→x[j]? = some true) (uV:x[10]? = some false) (hv:∀ v,C 10 v):R7 LV W0 C L1 L2 (x.set 10 true) (upd f 10 (f 9)) W:=by
 refine ⟨h.bel,zC h.c (hv _),?_,?_,?_,?_,?_,?_,?_,?_⟩ <;> try simp only [gq (show 10 ≠ 0 by decide),gq (show 10 ≠ 4 by decide),gq (show 10 ≠ 9 by decide),zk f _ (show 9 ≠ 10 by decide),zk f _ (show 4 ≠ 10 by decide),zk f _ (show 0 ≠ 10 by decide)]
 ·intro e; rw [gqs uV] at e; cases e
 ·exact h.m0
 ·exact h.m4
 ·exact h.m9
 ·exact fun _=>zr _ _ _
 ·exact h.o4
 ·exact h.o9
 ·exact fun _ j V=>set_mono (hA j V)
end
def C7 (LV:Value) (g n O i:Nat):Nat→Value→Prop
 | 1,v=>v = LV
 | 2,v=>v = I i
 | 3,v=>v = .slice (some (Q g 0)) i O
 | 5,v=>v = LV
 | 6,v=>v = I i
 | 7,v=>v = I ((i:Int) + 1)
 | 8,v=>∃ ad c,v = .slice (some ad) (n - (i + 1)) c∧(i + 1 < n→ad = (Q g ((i + 1) * 6)))
 | _,_=>True
def R7A (LV:Value) (W0:World) (C:Nat→Value→Prop) (L1 L2:List Od) (cl:(Nat→Value)→Act) (x:List Bool) (cs:Act) (W:World):Prop:=∃ f,cs = cl f∧R7 LV W0 C L1 L2 x f W
theorem cB {W:World} {B:Nat} {v:Value} {l:List Od} (h:ORow W B v l) (xD:l ≠ []):∃ g cap,v = .slice (some (Q g 0)) l.length cap∧l.length ≤ cap∧B ≤ g∧g < W.heap.size:=by
 rcases h.2 with ⟨rfl,h0⟩ | ⟨g,cap,xF,rfl,E,hg,uq,_⟩
 ·exact absurd (List.length_eq_zero_iff.1 h0) xD
 ·exact ⟨g,cap,rfl,uq,E,(yZ.1 hg).1⟩
def SlOk (v:Value):Prop:=v = .slice none 0 0 ∨ ∃ ad n c,v = .slice (some ad) n c
theorem oRow_sl {W:World} {B:Nat} {v:Value} {l:List Od} (h:ORow W B v l):SlOk v:=by
 rcases h.2 with ⟨N,_⟩ | ⟨g,cap,xF,N,_⟩
 ·exact .inl N
 ·exact .inr ⟨_,_,_,N⟩
theorem rd_src {W:World} {ad:Addr} {cap:Nat} {l:List Od} (hr:RdR Od.vs 6 W (.slice (some ad) l.length cap) l):∀ j u,(l.flatMap Od.vs)[j]? = some u→W.cell? (ad.add j) = some u:=by
 intro j u hu
 obtain ⟨a',uB,e1,_,hc⟩:=hr
 simp only [Value.slice.injEq] at e1
 have xD:l ≠ []:=by rintro rfl; simp at hu
 obtain ⟨b,off,e2,E,X⟩:=hc xD
 rw [e2] at e1
 simp only [Option.some.injEq] at e1
 obtain ⟨rfl,-,-⟩:=e1
 have h:=dv (W:=W) (g:=b) (off:=off) (l:=l) X 0 l.length j u (by simpa using hu)
 simpa using h
theorem cd {W:World} {v:Value} {l:List Od} (h:RdR Od.vs 6 W v l):∃ a c,v = .slice a l.length c:=by
 obtain ⟨a,c,N,_⟩:=h; exact ⟨a,c,N⟩
theorem ei {W:World} {b c o k j:Nat} {u:Value} (h:W.there b o k):(W.setCell (Q c j) u).there b o k:=xc (vs:=[u]) h c j
theorem oRow_set {W:World} {B:Nat} {v:Value} {l:List Od} (h:ORow W B v l) {b:Nat} (E:b < B) (o:Nat) (u:Value):ORow (W.setCell (Q b o) u) B v l :=
 ownsRow_setCell_below h (a:=(Q b o)) E u
theorem copy_mid {w W2 w3:World} {S:Nat} {v3 sv:Value} {next:Int} {l:List Od} (hS:S = w.heap.size) (N:Below S w W2) (Y:W2.heap.size = S + 2) (h3:W2.rangeAt S 0 [I next,sv]) (h4:W2.there S 0 2) (h5:W2.there (S + 1) 0 2) (hl:l.length ≤ 1000)
  (h6:w3.ownsRow (S + 2) 78 6 v3 (0 + l.length) ([] ++ l.flatMap Od.vs)) (h7:W2.grownBy w3 (Value.slice none 0 0).ownBlock) :
  ∃ a3 c3,v3 = .slice a3 l.length c3∧ORow w3 (S + 2) v3 l∧w3.cell? (Q S 0) = some (I next)∧w3.cell? (Q S 1) = some sv∧w3.frozen? (Q S 1) = false∧w3.there (S + 1) 0 2∧Below S w w3∧S + 2 ≤ w3.heap.size:=by
 have h6':ORow w3 (S + 2) v3 l:=by
  show w3.ownsRow _ _ _ _ l.length _
  simpa using h6
 obtain ⟨a3,c3,e⟩:=cd (zK h6' (by omega))
 have r:=zx h3 h7 (by omega) (by simp [Value.ownBlock])
 refine ⟨a3,c3,e,h6',r 0 _ rfl,r 1 _ rfl,?_,eA h5 h7 (by omega) (by simp [Value.ownBlock]),N.grown h7 (by omega) (fun k hk=>by simp [Value.ownBlock] at hk),by have:=h7.size; omega⟩
 have:=(eA h4 h7 (by omega) (by simp [Value.ownBlock]) 1 (by omega)).2
 rwa [Nat.zero_add] at this
theorem copyBook_any (next:Int) (v:Value) (l:List Od) (w:World) (hr:RdR Od.vs 6 w v l) (hs:SlOk v) (hn:l.length ≤ 1000) :
  Calls Tryz.prog 96 #[.agg #[I next,v]] w fun e w'=>∃ v',e = yn (.agg #[I next,v'])∧ORow w' w.heap.size v' l∧yp w w':=by
 have HR:=H hr
 obtain ⟨i0,vA,uH,uI,uW⟩:=info_parts Tryz.infoOrder
 obtain ⟨a,cap,rfl,xA,hc⟩:=hr
 have xK:=zj w (L #[I next,.slice a l.length cap] 34)
 have uf:((w.alloc (L #[I next,.slice a l.length cap] 34)).alloc (L #[I 0,.slice none 0 0] 34)).heap.size = w.heap.size + 2:=by rw [zj,xK]
 have t1:=zY w [I next,.slice a l.length cap] 34
 have r1:=zn w [I next,.slice a l.length cap] 34
 have b1:Below (w.heap.size + 1) (w.alloc (L #[I next,.slice a l.length cap] 34)) ((w.alloc (L #[I next,.slice a l.length cap] 34)).alloc (L #[I 0,.slice none 0 0] 34)):=(Below.refl _ _).alloc (by rw [xK]; omega) _
 have t2:=zY (w.alloc (L #[I next,.slice a l.length cap] 34)) [I 0,.slice none 0 0] 34
 rw [xK] at t2
 have HX:Hid (_∧_∧_):=⟨zc r1 b1 (by omega),zo t1 b1 (by omega),t2⟩
 have xW:Hid (yp w ((w.alloc (L #[I next,.slice a l.length cap] 34)).alloc (L #[I 0,.slice none 0 0] 34))):=(fw _ _).alloc (by rw [xK]; omega) _
 have qf:=H uf
 clear hc t1 r1 b1 t2 xK uf
 go_enter Tryz.func96,Tryz.ntmps96
 rcases hs with hs | ⟨ad,nn,cc,hs⟩
 ·simp only [Value.slice.injEq] at hs
  obtain ⟨rfl,jH,rfl⟩:=hs
  obtain rfl:=List.length_eq_zero_iff.1 jH
  go_wp2_with (at_builtin; go_must (refine wpList_append_own_none rfl _ _ 32 rfl (w.heap.size + 2) 78 i0 6 Tryz.underlying32 vA (.slice none 0 0) 0 [] rfl (World.ownsRow_nil _ _ _ _) rfl ?_))
  go_returns
  refine ⟨_,rfl,World.ownsRow_nil _ _ _ _,?_⟩
  go_grown
 ·simp only [Value.slice.injEq] at hs
  obtain ⟨rfl,rfl,rfl⟩:=hs
  have qO:Hid (∀ j u,(l.flatMap Od.vs)[j]? = some u→World.cell? (((w.alloc (L #[I next,.slice (some ad) l.length cap] 34)).alloc (L #[I 0,.slice none 0 0] 34))) (ad.add j) = some u):=rd_src (zh (U HR) (U xW) yb)
  go_wp2_with (at_builtin; go_must (refine wpList_append_own _ rfl _ _ 32 rfl (w.heap.size + 2) 78 i0 _ 6 56 Tryz.underlying32 vA uH uI uW rfl (by decide) (.slice none 0 0) 0 [] rfl (World.ownsRow_nil _ _ _ _) ad l.length cap (l.flatMap Od.vs) rfl (by rw [zZ Od.len]) (U qO) (bZ l) (by unfold maxLen; omega) (by omega) (by rw [U qf]; omega) ?_); intro v3 w3 hown3 uD _; obtain ⟨a3,c3,rfl,aI,c0,c1,f1,ht3,xQ,jJ⟩:=copy_mid rfl (U xW) (U qf) (U HX).1 (U HX).2.1 (U HX).2.2 hn hown3 uD; have pF:=H aI; have js:=H ht3; have xN:=H xQ; obtain ⟨v0,z0,q0⟩:=zG ht3 0 (by omega); obtain ⟨v1,z1,q1⟩:=zG ht3 1 (by omega); clear aI ht3 xQ hown3 uD)
  have z0:w3.cell? (Q (w.heap.size + 1) 0) = some v0:=z0
  have z1:w3.cell? (Q (w.heap.size + 1) 1) = some v1:=by rw [Nat.zero_add] at z1; exact z1
  have q0:w3.frozen? (Q (w.heap.size + 1) 0) = false:=q0
  have q1:w3.frozen? (Q (w.heap.size + 1) 1) = false:=by rw [Nat.zero_add] at q1; exact q1
  have jM:=H (yY (w3.setCell (yr w 1) (.slice a3 l.length c3)) (w.heap.size + 1) 0 [I next,.slice a3 l.length c3] (fun j V=>(ei (U js)) j V))
  have HOX:=H (oRow_set (oRow_set (oRow_set (U pF) (b:=w.heap.size) (by omega) 1 (.slice a3 l.length c3)) (b:=w.heap.size + 1) (by omega) 0 (I next)) (b:=w.heap.size + 1) (by omega) 1 (.slice a3 l.length c3))
  have qB:=H ((((U xN).setCell (p:=(yr w 1)) yb (.slice a3 l.length c3)).setCell (p:=(Q (w.heap.size + 1) 0)) (by simp) (I next)).setCell (p:=(Q (w.heap.size + 1) 1)) (by simp) (.slice a3 l.length c3))
  go_wp2_with fail
  have jM:Hid (World.rangeAt (((w3.setCell (yr w 1) (.slice a3 l.length c3)).setCell (Q (w.heap.size + 1) 0) (I next)).setCell (Q (w.heap.size + 1) 1) (.slice a3 l.length c3)) (w.heap.size + 1) 0 [I next,.slice a3 l.length c3]):=U jM
  generalize (((w3.setCell (yr w 1) (.slice a3 l.length c3)).setCell (Q (w.heap.size + 1) 0) (I next)).setCell (Q (w.heap.size + 1) 1) (.slice a3 l.length c3)) = WE at jM HOX qB ⊢
  have d0:WE.cell? (Q (w.heap.size + 1) 0) = some (I next):=U jM 0 _ rfl
  have d1:WE.cell? (Q (w.heap.size + 1) 1) = some (.slice a3 l.length c3):=U jM 1 _ rfl
  try simp only [Exit.inBlock,Exit.then]
  refine bodyPost_ret (by simp [results,Tryz.results96,go_sem,d0,d1]; try rfl) rfl ?_
  exact ⟨_,rfl,zS (U HOX) (by omega),U qB⟩
theorem fh {P:Program} {w:World} {ops:Array Oper} {rest:List Oper} {o:Oper} {a:Act} {ya:Exit→Act→World→Prop} (hgd:o.guard = none) (s x:Operand) (t:TypeId)
  (Z:o.op = .call { callee:=.builtin .append,args:=#[s,x],argTypes:=#[t,t] })
  (e:TypeId) (i:TypeInfo) (size:Nat) (ht:P.underlying t = some (.slice e)) (hi:P.info? e = some i) (jw:i.size = size)
  (g qU pj:Nat) (xF:Array Value) (hg:w.heap[g]? = some (.cells xF e (0,0))) (hs:a.eval s = .slice (some (Q g 0)) qU pj)
  (ad:Addr) (m c:Nat) (news:List Value) (hx:a.eval x = .slice (some ad) m c) (hl:news.length = m * size) (hnews:∀ j u,news[j]? = some u→w.cell? (ad.add j) = some u) (N:∀ u ∈ news,u.oneCell' = true)
  (pe:qU + m ≤ pj) (ke:qU * size + news.length ≤ xF.size)
  (h:wpList P ops ya rest (a.put o.dst (.slice (some (Q g 0)) (qU + m) pj)) (w.setRow g (xF.toList.take (qU * size) ++ news ++ xF.toList.drop (qU * size + news.length)).toArray)):wpList P ops ya (o :: rest) a w:=by
 subst jw
 refine wpList_plain hgd fun zb hK=>?_
 have hrun:=run_append_room (P:=P) w t o.type e i ht hi g qU pj xF hg ad m c news hl hnews N pe ke
 unfold Oper.wp execOp
 simp only [Z,resolve,invoke,builtin,Sem.run_bind,Sem.run_pure,Result.andThen_ok,List.map_toArray,List.map_cons,List.map_nil,hs,hx,hrun]
 exact hK _ _ h
theorem clear_row {P:Program} (w:World) (T ty e:TypeId) (i:TypeInfo) (z:Value) (ht:P.underlying T = some (.slice e)) (hi:P.info? e = some i) (hz:i.zero = some z) (g o c:Nat) (xF:Array Value) (hg:w.heap[g]? = some (.cells xF e (0,0)))
  (ke:o + z.cells.toList.length ≤ xF.size) (N:∀ v ∈ z.cells.toList,v.oneCell' = true) :
  (Builtin.clear_ #[T] ty #[.slice (some (Q g o)) 1 c]).run P w = .ok (.tuple #[]) (w.setRow g (xF.toList.take o ++ z.cells.toList ++ xF.toList.drop (o + z.cells.toList.length)).toArray):=by
 have ji:=run_storeCells_at P g o e z.cells.toList 0 xF w hg (by simpa using ke) N
 simp only [Nat.add_zero] at ji
 have hzc:(Builtin.zeroCells z.cells 1).toList = z.cells.toList:=by
  refine List.ext_getElem (by simp [Builtin.zeroCells]) fun j N Y=>?_
  have V:j < z.cells.size:=by simpa using Y
  simp [Builtin.zeroCells,Nat.mod_eq_of_lt V,V]
 simp [Builtin.clear_,run_underlying ht,zeroValue,typeInfo,hi,hz,hzc,ji]
abbrev zOdL:List Value:=(yx 0 0 0 0 0 ⟨#[]⟩)
theorem row_gone {xF:Array Value} {l:List Od} {i m cap:Nat} {zs:List Value} (hl:l.length = i + 1 + m) (hc:l.length ≤ cap) (hs:xF.size = cap * 6) (ht:xF.toList.take (l.length * 6) = l.flatMap Od.vs) (hz:zs.length = 6) :
  (((xF.toList.take (i * 6) ++ (l.drop (i + 1)).flatMap Od.vs ++ xF.toList.drop (i * 6 + m * 6)).take ((i + m) * 6) ++ zs ++ (xF.toList.take (i * 6) ++ (l.drop (i + 1)).flatMap Od.vs ++ xF.toList.drop (i * 6 + m * 6)).drop ((i + m) * 6 + zs.length)).take ((i + m) * 6) = (l.take i ++ l.drop (i + 1)).flatMap Od.vs) ∧
  (xF.toList.take (i * 6) ++ (l.drop (i + 1)).flatMap Od.vs ++ xF.toList.drop (i * 6 + m * 6)).length = cap * 6:=by
 have X:xF.toList.length = cap * 6:=by simpa using hs
 have aE:((l.drop (i + 1)).flatMap Od.vs).length = m * 6:=by rw [zZ Od.len,List.length_drop]; congr 1; omega
 have hti:xF.toList.take (i * 6) = (l.take i).flatMap Od.vs:=by
  have h:=congrArg (List.take (i * 6)) ht
  rw [List.take_take,show min (i * 6) (l.length * 6) = i * 6 by omega] at h
  rw [h]
  conv=>lhs; rw [← List.take_append_drop i l,List.flatMap_append]
  rw [List.take_append_of_le_length (by rw [zZ Od.len,List.length_take]; omega),xa (by rw [zZ Od.len,List.length_take]; omega)]
 have xA:(xF.toList.take (i * 6) ++ (l.drop (i + 1)).flatMap Od.vs).length = (i + m) * 6:=by
  rw [yQ,aE,List.length_take,X]; omega
 refine ⟨?_,?_⟩
 ·rw [List.append_assoc ((List.take _ _)),List.take_append_of_le_length (by rw [List.length_take,yQ,xA,List.length_drop,X]; omega),List.take_take,Nat.min_self,List.take_append_of_le_length (by rw [xA]; omega),xa (by rw [xA]; omega),hti,List.flatMap_append]
 ·rw [yQ,xA,List.length_drop,X]; omega
theorem delete_any (g i m cap B:Nat) (xF:Array Value) (l:List Od) (w:World) (hl:l.length = i + 1 + m) (hn:l.length ≤ 1000) (hg:w.heap[g]? = some (.cells xF 78 (0,0))) (uq:l.length ≤ cap) (hmx:cap ≤ maxLen) (kO:xF.size = cap * 6) (kR:xF.toList.take (l.length * 6) = l.flatMap Od.vs) (hB:B ≤ g) :
  Calls Tryz.prog 180 #[.slice (some (Q g 0)) (i + 1 + m) cap,I i,I ((i:Int) + 1)] w fun e w'=>e = yn (.slice (some (Q g 0)) (i + m) cap)∧ORow w' B (.slice (some (Q g 0)) (i + m) cap) (l.take i ++ l.drop (i + 1))∧w.grownBy w' (some g):=by
 obtain ⟨i0,vA,uH,uI,uW⟩:=info_parts Tryz.infoOrder
 have HG:=H hg
 have HRC:Hid (∀ j c,l[j]? = some c→w.drew.rangeAt g (0 + j * 6) c.vs):=by
  have Z:ORow w B (.slice (some (Q g 0)) l.length cap) l:=⟨by rw [zZ Od.len],.inr ⟨g,cap,xF,rfl,hB,hg,uq,hmx,kO,kR⟩⟩
  obtain ⟨a',c',e,_,h⟩:=zK Z (by omega)
  intro j c V
  obtain ⟨b',qr,e2,_,h⟩:=h (by intro h; rw [h] at V; simp at V)
  rw [e2] at e
  simp only [Value.slice.injEq,Option.some.injEq,Addr.mk.injEq,and_true,true_and] at e
  obtain ⟨⟨rfl,rfl⟩,-⟩:=e
  exact h j c V
 have uT:=H kR
 have HSZ:=H kO
 have HL:=H hl
 have N:(i:Int) + 1 ≤ (i:Int) + 1 + m:=by omega
 have Y:(i:Int) + 1 + m ≤ cap:=by omega
 have h3:(0:Int) ≤ i:=by omega
 have h4:(i:Int) ≤ (i:Int) + 1:=by omega
 have h5:(0:Int) ≤ (i:Int) + 1:=by omega
 have h6:(i:Int) ≤ cap:=by omega
 have b1:((i:Int) == (i:Int) + 1) = false:=by rw [xe]; omega
 clear hg kR kO hl
 go_enter Tryz.func180,Tryz.ntmps180
 go_wp2_with fail
 refine zE 6 (by kernel_rfl) (by kernel_rfl) ?_
 simp only [yU,List.take_zero,yV,List.drop_zero]
 by_cases hcc:cap = i + 1
 ·have hm0:m = 0:=by have:=U HL; omega
  subst hm0
  subst hcc
  repeat still_step
  refine wpStill_nil ?_
  refine fh rfl (.tmp 22) (.tmp 25) 32 rfl 78 i0 6 Tryz.underlying32 vA uI g i (i + 1) xF (U HG) rfl (Q g 0) 0 0 ((l.drop (i + 1)).flatMap Od.vs) rfl (by rw [zZ Od.len,List.length_drop]; congr 1; have:=U HL; omega) (by rw [xb (by have:=U HL; omega)]; simp) (bZ _) (by omega) (by rw [zZ Od.len,List.length_drop,U HSZ]; have:=U HL; omega) ?_
  have aE:((l.drop (i + 1)).flatMap Od.vs).length = 0 * 6:=by rw [zZ Od.len,List.length_drop]; congr 1; have:=U HL; omega
  rw [aE]
  obtain ⟨oU,jf⟩:=row_gone (zs:=zOdL) (U HL) uq (U HSZ) (U uT) rfl
  have oO:=H oU
  generalize hC1:(xF.toList.take (i * 6) ++ (l.drop (i + 1)).flatMap Od.vs ++ xF.toList.drop (i * 6 + 0 * 6)) = C1 at oO jf ⊢
  have hx1:(w.drew.setRow g C1.toArray).heap[g]? = some (.cells C1.toArray 78 (0,0)):=setRow_heap w.drew g xF C1.toArray 78 (0,0) (U HG)
  have HG1:Hid (w.grownBy (w.drew.setRow g C1.toArray) (some g)):=⟨rfl,rfl,rfl,by simp,fun k hk xD=>setRow_other w.drew g k C1.toArray (fun e=>xD (by rw [e]))⟩
  have uA:=H hx1
  clear hx1 hC1 oU aE
  generalize w.drew.setRow g C1.toArray = X1 at uA HG1 ⊢
  have X:∀ (ty:TypeId) (c:Nat),(Builtin.clear_ #[32] ty #[.slice (some (Q g (i * 6))) 1 c]).run Tryz.prog X1 = .ok (.tuple #[]) (X1.setRow g (C1.take (i * 6) ++ zOdL ++ C1.drop (i * 6 + 6)).toArray):=fun ty c=>by
   have:=clear_row X1 32 ty 78 i0 _ Tryz.underlying32 vA uH g (i * 6) c C1.toArray (U uA) (by show i * 6 + 6 ≤ C1.toArray.size; rw [List.size_toArray,jf]; omega) (by simp [Value.cells,Value.oneCell'])
   simpa [Value.cells] using this
  have xI:=H (setRow_heap X1 g C1.toArray (C1.take (i * 6) ++ zOdL ++ C1.drop (i * 6 + 6)).toArray 78 (0,0) (U uA))
  have ug:Hid (w.grownBy (X1.setRow g (C1.take (i * 6) ++ zOdL ++ C1.drop (i * 6 + 6)).toArray) (some g)):=(U HG1).trans ⟨rfl,rfl,rfl,by simp,fun k hk xD=>setRow_other X1 g k _ (fun e=>xD (by rw [e]))⟩
  generalize hC2:(C1.take (i * 6) ++ zOdL ++ C1.drop (i * 6 + 6)).toArray = C2 at X xI ug
  have HC2:=H hC2
  have jV:=H jf
  clear hC2
  have k1:¬ i + 1 = i:=by omega
  have k2:i + 1 - i = 1:=by omega
  clear jf
  go_wp2_with fail
  go_ret
  have kG:(l.take i ++ l.drop (i + 1)).length = i + 0:=by have:=U HL; simp; omega
  refine ⟨rfl,⟨by rw [zZ Od.len],.inr ⟨g,i + 1,_,by rw [kG],hB,U xI,by rw [kG]; omega,hmx,?_,?_⟩⟩,U ug⟩
  ·rw [← U HC2]; simp [U jV]; omega
  ·rw [kG,← U HC2]; simpa using U oO
 ·repeat still_step
  refine wpStill_nil ?_
  refine fh rfl (.tmp 22) (.tmp 25) 32 rfl 78 i0 6 Tryz.underlying32 vA uI g i cap xF (U HG) rfl (Q g ((i + 1) * 6)) m (cap - (i + 1)) ((l.drop (i + 1)).flatMap Od.vs) rfl (by rw [zZ Od.len,List.length_drop]; congr 1; have:=U HL; omega) (by have h:=dv (W:=w.drew) (g:=g) (off:=0) (l:=l) (U HRC) (i + 1) l.length; rw [xa (by rw [List.length_drop]; omega),Nat.zero_add] at h; exact h) (bZ _) (by omega) (by rw [zZ Od.len,List.length_drop,U HSZ]; have:=U HL; omega) ?_
  have aE:((l.drop (i + 1)).flatMap Od.vs).length = m * 6:=by rw [zZ Od.len,List.length_drop]; congr 1; have:=U HL; omega
  rw [aE]
  obtain ⟨oU,jf⟩:=row_gone (zs:=zOdL) (U HL) uq (U HSZ) (U uT) rfl
  have oO:=H oU
  generalize hC1:(xF.toList.take (i * 6) ++ (l.drop (i + 1)).flatMap Od.vs ++ xF.toList.drop (i * 6 + m * 6)) = C1 at oO jf ⊢
  have hx1:(w.drew.setRow g C1.toArray).heap[g]? = some (.cells C1.toArray 78 (0,0)):=setRow_heap w.drew g xF C1.toArray 78 (0,0) (U HG)
  have HG1:Hid (w.grownBy (w.drew.setRow g C1.toArray) (some g)):=⟨rfl,rfl,rfl,by simp,fun k hk xD=>setRow_other w.drew g k C1.toArray (fun e=>xD (by rw [e]))⟩
  have uA:=H hx1
  clear hx1 hC1 oU aE
  generalize w.drew.setRow g C1.toArray = X1 at uA HG1 ⊢
  have X:∀ (ty:TypeId) (c:Nat),(Builtin.clear_ #[32] ty #[.slice (some (Q g ((i + m) * 6))) 1 c]).run Tryz.prog X1 = .ok (.tuple #[]) (X1.setRow g (C1.take ((i + m) * 6) ++ zOdL ++ C1.drop ((i + m) * 6 + 6)).toArray):=fun ty c=>by
   have:=clear_row X1 32 ty 78 i0 _ Tryz.underlying32 vA uH g ((i + m) * 6) c C1.toArray (U uA) (by show (i + m) * 6 + 6 ≤ C1.toArray.size; rw [List.size_toArray,jf]; omega) (by simp [Value.cells,Value.oneCell'])
   simpa [Value.cells] using this
  have xI:=H (setRow_heap X1 g C1.toArray (C1.take ((i + m) * 6) ++ zOdL ++ C1.drop ((i + m) * 6 + 6)).toArray 78 (0,0) (U uA))
  have ug:Hid (w.grownBy (X1.setRow g (C1.take ((i + m) * 6) ++ zOdL ++ C1.drop ((i + m) * 6 + 6)).toArray) (some g)):=(U HG1).trans ⟨rfl,rfl,rfl,by simp,fun k hk xD=>setRow_other X1 g k _ (fun e=>xD (by rw [e]))⟩
  generalize hC2:(C1.take ((i + m) * 6) ++ zOdL ++ C1.drop ((i + m) * 6 + 6)).toArray = C2 at X xI ug
  have HC2:=H hC2
  have jV:=H jf
  clear hC2
  have k1:¬ cap = i + m:=by have:=U HL; omega
  have k2:i + 1 + m - (i + m) = 1:=by omega
  have k3:(i:Int) + m ≤ (i:Int) + 1 + m:=by omega
  have k4:(0:Int) ≤ (i:Int) + m:=by omega
  clear jf
  go_wp2_with fail
  go_ret
  have kG:(l.take i ++ l.drop (i + 1)).length = i + m:=by have:=U HL; simp; omega
  refine ⟨rfl,⟨by rw [zZ Od.len],.inr ⟨g,cap,_,by rw [kG],hB,U xI,by rw [kG]; omega,hmx,?_,?_⟩⟩,U ug⟩
  ·rw [← U HC2]; simp [U jV]; omega
  ·rw [kG,← U HC2]; simpa using U oO
end Go.Proofs.YtnphbkgfjanmgaaGreatDoor
