/-
  How many levels orders have, as the model counts them: proved by walking the function.
-/
import Derived.Test.YtbakanofkghmiaaGreatUj12
import Derived.Laws.AppendOwnNone
set_option linter.unusedVariables false
set_option maxHeartbeats 6400000
set_option maxRecDepth 100000
namespace Go.Proofs.YtbakanofkghmiaaGreat
open Go.RowKit
def difB (c y:Od):Bool:=decide (y.side ≠ c.side) || decide (y.ticks ≠ c.ticks)
def bN (c:Od) (tg:List Od):Bool:=tg.all (difB c)
theorem nlev_fresh (l:List Od) (x:Od):nlev (l ++ [x]) = nlev l + (bN x l).toNat:=by
 rw [nlev_snoc]
 congr 1
 by_cases h:∃ y ∈ l,y.side = x.side∧y.ticks = x.ticks
 ·rw [if_pos h]
  have:bN x l = false:=by
   obtain ⟨y,G,D,h3⟩:=h
   rw [bN,List.all_eq_false]
   exact ⟨y,G,by simp [difB,D,h3]⟩
  rw [this]; rfl
 ·rw [if_neg h]
  have:bN x l = true:=by
   rw [bN,List.all_eq_true]
   intro y hy
   simp only [difB,ne_eq,Bool.or_eq_true,xd]
   by_cases G:y.side = x.side
   ·exact .inr fun D=>h ⟨y,hy,G,D⟩
   ·exact .inl G
  rw [this]; rfl
def allR (next:Int):Int→List Od→Bool
 | _,[]=>true
 | last,o :: r=>ordB o && decide (last < o.id) && decide (o.id < next) && allR next o.id r
theorem ei {next:Int}:∀ {l:List Od} {last:Int},allR next last l = true→aK l∧∀ o ∈ l,last < o.id
 | [],_,_=>⟨by simp [aK],by simp⟩
 | a :: r,last,h=>by
  simp only [allR,xc,xd] at h
  obtain ⟨ih1,ih2⟩:=ei h.2
  refine ⟨List.pairwise_cons.2 ⟨ih2,ih1⟩,fun o Z=>?_⟩
  rcases List.mem_cons.1 Z with rfl | Z
  ·exact h.1.1.2
  ·have:=ih2 o Z; have:=h.1.1.2; omega
theorem allR_sides {next:Int}:∀ {l:List Od} {last:Int},allR next last l = true→∀ o ∈ l,ordB o = true
 | [],_,_=>by simp
 | a :: r,last,h=>by
  simp only [allR,xc,xd] at h
  intro o Z
  rcases List.mem_cons.1 Z with rfl | Z
  ·exact h.1.1.1
  ·exact allR_sides h.2 o Z
def xB (a b:Od):Bool:=!(decide (a.side = 1) && decide (b.side = 2)) || decide (a.ticks < b.ticks)
def noX (l:List Od):Bool:=l.all fun a=>l.all fun b=>xB a b
theorem noX_iff (l:List Od):noX l = true ↔ ∀ a ∈ l,a.side = 1→∀ b ∈ l,b.side = 2→a.ticks < b.ticks:=by
 simp only [noX,List.all_eq_true,xB,Bool.or_eq_true,Bool.not_eq_true',Bool.and_eq_false_iff,decide_eq_false_iff_not,xd]
 constructor
 ·intro h a ha G b O D
  rcases h a ha b O with (h3 | h3) | h3
  ·exact absurd G h3
  ·exact absurd D h3
  ·exact h3
 ·intro h a ha b O
  by_cases G:a.side = 1
  ·by_cases D:b.side = 2
   ·exact .inr (h a ha G b O D)
   ·exact .inl (.inr D)
  ·exact .inl (.inl G)
theorem noX_none1 {l:List Od} (h:∀ o ∈ l,o.side ≠ 1):noX l = true:=(noX_iff l).2 fun a ha G=>absurd G (h a ha)
theorem noX_none2 {l:List Od} (h:∀ o ∈ l,o.side ≠ 2):noX l = true:=(noX_iff l).2 fun a ha G b O D=>absurd D (h b O)
theorem noX_fronts {l:List Od} {i j:Nat} {a b:Od} (ha:da true l 1 i a) (O:da false l 2 j b):noX l = decide (a.ticks < b.ticks):=by
 rw [Bool.eq_iff_iff,noX_iff,xd]
 constructor
 ·exact fun h=>h a (yM ha.1) ha.2.1 b (yM O.1) O.2.1
 ·intro h x hx G y hy D
  obtain ⟨m,hm⟩:=List.mem_iff_getElem?.1 hx
  obtain ⟨n,hn⟩:=List.mem_iff_getElem?.1 hy
  have hxa:x.ticks ≤ a.ticks:=by
   by_cases pH:m = i
   ·subst pH; rw [ha.1] at hm; obtain rfl:=Option.some.inj hm; exact Int.le_refl _
   ·rcases ha.2.2 m x hm G pH with h3 | h3
    ·simp only [bt] at h3; omega
    ·omega
  have hyb:b.ticks ≤ y.ticks:=by
   by_cases hnj:n = j
   ·subst hnj; rw [O.1] at hn; obtain rfl:=Option.some.inj hn; exact Int.le_refl _
   ·rcases O.2.2 n y hn D hnj with h3 | h3
    ·simp only [bt] at h3; omega
    ·omega
  omega
theorem frPre_end {l:List Od} {sd:Int} {k:Int} (h:FrPre l sd l.length k):(k = -1∧∀ o ∈ l,o.side ≠ sd) ∨ ∃ (i:Nat) (o:Od),k = i∧i < l.length∧da (decide (sd = 1)) l sd i o:=by
 rcases h with ⟨rfl,h⟩ | ⟨i,o,rfl,G,D,h3,h4⟩
 ·refine .inl ⟨rfl,fun o Z=>?_⟩
  obtain ⟨j,K⟩:=List.mem_iff_getElem?.1 Z
  exact h j o (yE.1 K).1 K
 ·exact .inr ⟨i,o,rfl,G,D,h3,fun j o' Z hs xA=>h4 j o' (yE.1 Z).1 Z hs xA⟩
def okS (next:Int) (l:List Od):Bool:=betB next 1 1000000 && decide (l.length ≤ 20) && allR next 0 l && (decide (nlev l ≤ 8) && noX l)
theorem allR_eq (next:Int):∀ (l:List Od) (last:Int),allR next last l = (idsR next last l && l.all ordB)
 | [],_=>rfl
 | a :: r,last=>by
  rw [allR,idsR,List.all_cons,allR_eq next r a.id]
  cases ordB a <;> cases decide (last < a.id) <;> cases decide (a.id < next) <;> simp
theorem dJ {s:Bool} {l:List Od} {sd:Int} (hr:aK l):((quOf s (zo l sd)).head? = none∧∀ o ∈ l,o.side ≠ sd) ∨ ∃ i o,(quOf s (zo l sd)).head? = some o∧da s l sd i o:=by
 cases h:(quOf s (zo l sd)).head? with
 | none=>exact .inl ⟨rfl,queue_none (aZ s _) h⟩
 | some o =>
  obtain ⟨i,hi⟩:=queue_front hr (aZ s _) h
  exact .inr ⟨i,o,rfl,hi⟩
theorem meet_noX {l:List Od} (hr:aK l):(!meetB (quOf true (zo l 1)) (quOf false (zo l 2))) = noX l:=by
 rcases dJ (s:=true) (sd:=1) hr with ⟨G,hn⟩ | ⟨i,a,G,hf1⟩
 ·rw [noX_none1 hn]; simp [meetB,hdF,G]
 ·rcases dJ (s:=false) (sd:=2) hr with ⟨D,hn⟩ | ⟨j,b,D,hf2⟩
  ·rw [noX_none2 hn]; simp [meetB,hdF,D]
  ·rw [noX_fronts hf1 hf2]
   simp only [meetB,hdF,hdO,G,D,Option.isSome_some,Option.getD_some,Bool.true_and]
   rw [Bool.eq_iff_iff]; simp
theorem okI_eq (next:Int) (l:List Od):okI next l = okS next l:=by
 unfold okI okS
 rw [allR_eq]
 cases h:(idsR next 0 l && l.all ordB)
 ·rw [Bool.and_assoc (betB next 1 1000000 && decide (l.length ≤ 20)) (idsR next 0 l),h]; simp
 ·have Q:allR next 0 l = true:=by rw [allR_eq]; exact h
  have hr:=(ei Q).1
  have hs:∀ o ∈ l,o.side = 1 ∨ o.side = 2:=fun o Z=>by
   have:=allR_sides Q o Z
   simp [ordB,betB] at this
   omega
  rw [Bool.and_assoc (betB next 1 1000000 && decide (l.length ≤ 20)) (idsR next 0 l),h,meet_noX hr]
  have:=nlev_eq hs (aZ true _) (aZ false _)
  rw [aE,aE,List.length_map,List.length_map,this]
def cmdI (c:Cm):Value:=if c.k = 1 then .iface 112 (noV c) else if c.k = 2 then .iface 115 (.agg #[H c.i]) else if c.k = 3 then .iface 118 (.agg #[H c.i,H c.q]) else if c.k = 4 then .iface 121 (.agg #[]) else .nilIface
theorem newOrderOf_any (c:Cm) (w:World) :
  Calls Tryz.prog 111 #[cmV c] w fun e w'=>e = yl (noV c)∧ym w w':=by
 obtain ⟨k,s,t,l,q,i,p,g⟩:=c
 unfold cmV noV
 simp only
 have hsf:=sfl
 go_enter Tryz.func111,Tryz.ntmps111
 go_wp2_with fail
 go_returns
 exact ⟨rfl,by go_grown⟩
theorem bY (c:Cm) (w:World) :
  Calls Tryz.prog 66 #[cmV c] w fun e w'=>e = yl (cmdI c)∧ym w w':=by
 obtain ⟨k,s,t,l,q,i,p,g⟩:=c
 unfold cmV
 simp only
 by_cases G:k = 1
 ·subst G
  have xW:Hid (ym w (w.alloc (N (yv 1 s t l q i p g).toArray 43))):=eB _ _
  go_enter Tryz.func66,Tryz.ntmps66
  go_wp2_with fail
  refine (newOrderOf_any ⟨1,s,t,l,q,i,p,g⟩ _).mono ?_
  rintro e w' ⟨rfl,O⟩
  have xD:=Y (eE (U xW) O)
  clear O
  go_wp2_with fail
  go_ret
  exact ⟨rfl,U xD⟩
 have b1:(k == 1) = false:=by simpa using G
 by_cases D:k = 2
 ·subst D
  go_enter Tryz.func66,Tryz.ntmps66
  go_wp2_with fail
  go_ret
  exact ⟨rfl,by go_grown⟩
 have b2:(k == 2) = false:=by simpa using D
 by_cases h3:k = 3
 ·subst h3
  go_enter Tryz.func66,Tryz.ntmps66
  go_wp2_with fail
  go_ret
  exact ⟨rfl,by go_grown⟩
 have b3:(k == 3) = false:=by simpa using h3
 by_cases h4:k = 4
 ·subst h4
  go_enter Tryz.func66,Tryz.ntmps66
  go_wp2_with fail
  go_ret
  exact ⟨rfl,by go_grown⟩
 have b4:(k == 4) = false:=by simpa using h4
 have HC:Hid (cmdI ⟨k,s,t,l,q,i,p,g⟩ = .nilIface):=by show _ = _; simp [cmdI,G,D,h3,h4]
 go_enter Tryz.func66,Tryz.ntmps66
 go_wp2_with fail
 go_ret
 exact ⟨by rw [U HC]; rfl,by go_grown⟩
def plcF (id:Int):List Od→Nat→Int
 | [],_=>-1
 | o :: r,k=>if o.id = id then k else plcF id r (k + 1)
def plc (l:List Od) (id:Int):Int:=plcF id l 0
theorem plcF_spec (id:Int):∀ (l:List Od) (k:Nat),(plcF id l k = -1∧∀ o ∈ l,o.id ≠ id) ∨ ∃ i o,plcF id l k = ((k + i:Nat):Int)∧l[i]? = some o∧o.id = id∧∀ j o',j < i→l[j]? = some o'→o'.id ≠ id
 | [],k=>.inl ⟨rfl,by simp⟩
 | o :: r,k=>by
  by_cases h:o.id = id
  ·exact .inr ⟨0,o,by rw [plcF,if_pos h]; rfl,rfl,h,by simp⟩
  ·rcases plcF_spec id r (k + 1) with ⟨G,D⟩ | ⟨i,o',G,D,h3,h4⟩
   ·refine .inl ⟨by rw [plcF,if_neg h,G],fun x hx=>?_⟩
    rcases List.mem_cons.1 hx with rfl | hx
    ·exact h
    ·exact D x hx
   ·refine .inr ⟨i + 1,o',by rw [plcF,if_neg h,G]; congr 1; omega,D,h3,fun j x K hx=>?_⟩
    cases j with
    | zero=>simp at hx; subst hx; exact h
    | succ j=>exact h4 j x (by omega) (by simpa using hx)
theorem drop_get {l:List Od} {k:Nat} {c:Od} (h:l[k]? = some c):l.drop k = c :: l.drop (k + 1):=by
 obtain ⟨G,rfl⟩:=yE.1 h
 exact xa G
theorem place1_any (o:Od) (B:Nat) (id:Int) (w:World) (hB:w.cell? (J B 0) = some (H id)) :
  Calls Tryz.prog 153 #[.agg (yu o.id o.side o.ticks o.left o.life o.tag).toArray,I B 0] w fun e w'=>e = yl (.bool (o.id == id))∧ym w w':=by
 obtain ⟨uL,side,ticks,left,life,tag⟩:=o
 simp only
 have hB':(w.alloc (N (yu uL side ticks left life tag).toArray 49)).cell? (J B 0) = some (H id):=(yT _ _ (J B 0) (yI w _ hB)).trans hB
 go_enter Tryz.func153,Tryz.ntmps153
 go_wp2_with fail
 go_ret
 exact ⟨rfl,by go_grown⟩
theorem indexFunc_any (v:Value) (l:List Od) (B:Nat) (id:Int) (w:World) (hr:RdR Od.vs 6 w v l) (hB:w.cell? (J B 0) = some (H id)) :
  Calls Tryz.prog 152 #[v,.func (.func 153) #[] #[I B 0]] w fun e w'=>e = yl (H (plc l id))∧ym w w':=by
 obtain ⟨a,A,rfl,xC,hc⟩:=hr
 have xo:∀ (k:Nat) (c:Od),l[k]? = some c→∃ b off,a = some (J b off)∧b < w.heap.size∧w.rangeAt b (off + k * 6) c.vs:=by
  intro k c hk
  obtain ⟨b,off,G,D,h3⟩:=hc (by intro h; rw [h] at hk; simp at hk)
  exact ⟨b,off,G,D,h3 k c hk⟩
 have HC:=Y xo
 have HBC:=Y hB
 have hBl:=yI w _ hB
 simp only at hBl
 clear xo hc hB
 go_enter Tryz.func152,Tryz.ntmps152
 go_wp2_with fail
 go_loopw [8] (fun iv wr=>∃ (k:Nat),k ≤ l.length∧iv = H k∧Hid (plc l id = plcF id (l.drop k) k)∧ym w wr) (fun iv _=>l.length - (intOf iv).toNat)
 case atStart=>exact ⟨0,Nat.zero_le _,rfl,rfl,Below.refl _ _⟩
 case round =>
  obtain ⟨k,hk,rfl,jp,xh⟩:=hrel
  have HB:=Y xh
  clear xh
  by_cases xI:k < l.length
  ·obtain ⟨c,uJ⟩:∃ c,l[k]? = some c:=⟨_,yF xI⟩
   have HP:Hid (plc l id = if c.id = id then (k:Int) else plcF id (l.drop (k + 1)) (k + 1)):=by
    have:=U jp
    rw [drop_get uJ] at this
    exact this
   obtain ⟨b,off,rfl,O,X⟩:=U HC k c uJ
   obtain ⟨g0,g1,g2,g3,g4,g5⟩:=zz (zb X (U HB) O)
   have uu:(k:Int) < l.length:=by omega
   have uy:=Y (((U HB).cell (p:=(J B 0)) hBl).trans (U HBC))
   clear uJ X O jp
   go_wp2_with fail
   refine (place1_any c B id wr (U uy)).mono ?_
   rintro e w3 ⟨rfl,uw⟩
   have xP:=Y (eE (U HB) uw)
   clear uw
   by_cases qG:c.id = id
   ·have O:(c.id == id) = true:=by simpa using qG
    have HK:Hid (plc l id = k):=by have:=U HP; rw [if_pos qG] at this; exact this
    clear qG
    go_wp2_with fail
    go_ret
    exact ⟨zv (U HK).symm,U xP⟩
   ·have O:(c.id == id) = false:=by simpa using qG
    have HK:Hid (plc l id = plcF id (l.drop (k + 1)) (k + 1)):=by have:=U HP; rw [if_neg qG] at this; exact this
    clear qG
    go_wp2_with fail
    go_roundw
    case rel=>exact ⟨k + 1,by omega,by go_num,U HK,U xP⟩
    case measure=>simp [intOf]; omega
  ·have HK:Hid (plc l id = -1):=by
    have h:=U jp
    rw [yY (by omega)] at h
    exact h
   go_wp2_with fail
   go_ret
   exact ⟨zv (U HK).symm,U HB⟩
theorem dy (next:Int) (v:Value) (l:List Od) (id:Int) (w:World) (hr:RdR Od.vs 6 w v l) :
  Calls Tryz.prog 116 #[.agg #[H next,v],H id] w fun e w'=>e = yl (H (plc l id))∧ym w w':=by
 have HR:=Y hr
 obtain ⟨a,A,rfl,xC,hc⟩:=hr
 have hmf:∀ (fn:Fn) (first A:Array Value) (w:World),(Instr.makeFunc fn first A).run Tryz.prog w = .ok (.func fn first A) w:=fun _ _ _ _=>rfl
 have xz:=zf w (N #[H next,.slice a l.length A] 28)
 have r1:=zg (w.alloc (N #[H next,.slice a l.length A] 28)) [H id] 3
 rw [xz] at r1
 have HX:=Y (r1 0 _ rfl)
 have uB:Hid (ym w ((w.alloc (N #[H next,.slice a l.length A] 28)).alloc (N #[H id] 3))):=(eB _ _).alloc (by rw [xz]; omega) _
 clear hc r1 xz
 go_enter Tryz.func116,Tryz.ntmps116
 go_wp2_with fail
 have HX:Hid (World.cell? ((w.alloc (N #[H next,.slice a l.length A] 28)).alloc (N #[H id] 3)) (J (w.heap.size + 1) 0) = some (H id)):=U HX
 generalize ((w.alloc (N #[H next,.slice a l.length A] 28)).alloc (N #[H id] 3)) = W2 at HX uB ⊢
 refine (indexFunc_any _ l (w.heap.size + 1) id W2 (zh (U HR) (U uB) hb) (U HX)).mono ?_
 rintro e w3 ⟨rfl,uw⟩
 have xP:=Y (eE (U uB) uw)
 clear uw
 go_wp2_with fail
 go_ret
 exact ⟨rfl,U xP⟩
abbrev ORow (W:World) (B:Nat) (v:Value) (l:List Od):Prop:=W.ownsRow B 49 6 v l.length (l.flatMap Od.vs)
theorem zR {W:World} {B:Nat} {v:Value} {l:List Od} (h:ORow W B v l) (hl:l.length ≤ 1073741824):RdR Od.vs 6 W v l:=cw (bB Od.len hl h)
theorem bW (w:World) (cs:List Value) (t:TypeId) (j:Nat) (u:Value) (h:cs[j]? = some u):(w.alloc (Obj.cells cs.toArray t)).cell? (((yp w 0):Addr).add j) = some u:=by
 rw [Addr.add_mid,cell_of_row _ w.heap.size (0 + j) cs.toArray t (0,0) (heap_alloc_new w _)]
 simpa using h
theorem cW {W:World} {g off:Nat} {l:List Od} (h:∀ i c,l[i]? = some c→W.rangeAt g (off + i * 6) c.vs) (a n:Nat):∀ j u,(((l.drop a).take n).flatMap Od.vs)[j]? = some u→W.cell? (((J g (off + a * 6)):Addr).add j) = some u:=by
 intro j u hu
 have xI:=(yE.1 hu).1
 rw [zK Od.len] at xI
 have hq:j / 6 < ((l.drop a).take n).length:=by omega
 obtain ⟨c,hc⟩:∃ c,((l.drop a).take n)[j / 6]? = some c:=⟨_,yF hq⟩
 have G:=flat_get Od.len _ (j / 6) (j % 6) c hc (by omega)
 rw [show j / 6 * 6 + j % 6 = j by omega,hu] at G
 have hc':l[a + j / 6]? = some c:=by
  rw [List.getElem?_take] at hc
  split at hc
  ·rw [List.getElem?_drop] at hc; exact hc
  ·cases hc
 have:=h _ c hc' (j % 6) u G.symm
 rw [Addr.add_mid]
 rw [show off + (a + j / 6) * 6 + j % 6 = off + a * 6 + j by omega] at this
 exact this
theorem bi (l:List Od):∀ u ∈ l.flatMap Od.vs,u.oneCell' = true:=by
 intro u hu
 obtain ⟨o,_,Z⟩:=List.mem_flatMap.1 hu
 simp [Od.vs] at Z
 rcases Z with rfl | rfl | rfl | rfl | rfl | rfl <;> rfl
structure R7 (LV:Value) (W0:World) (C:Nat→Value→Prop) (L1 L2:List Od) (x:List Bool) (f:Nat→Value) (W:World):Prop where
 bel:Below W0.heap.size W0 W
 c:∀ j,x[j]? = some true→C j (f j)
 s5:x[10]? = some false→f 10 = LV
 m0:x[0]? = some true→x[4]? = some false→ORow W W0.heap.size (f 0) []
 m4:x[4]? = some true→x[9]? = some false→ORow W W0.heap.size (f 4) L1
 m9:x[9]? = some true→ORow W W0.heap.size (f 9) L2
 m10:x[10]? = some true→f 10 = f 9
 o4:x[4]? = some true→x[0]? = some true
 o9:x[9]? = some true→x[4]? = some true
 o10:x[10]? = some true→∀ j,j < 10→x[j]? = some true
theorem gq {x:List Bool} {i j:Nat} (h:i ≠ j):(x.set i true)[j]? = x[j]?:=yU h
theorem set_mono {x:List Bool} {i j:Nat} (h:x[j]? = some true):(x.set i true)[j]? = some true:=by
 by_cases pB:i = j
 ·subst pB; exact List.getElem?_set_self (yE.1 h).1
 ·rw [yU pB]; exact h
theorem gqs {x:List Bool} {i:Nat} (h:x[i]? = some false):(x.set i true)[i]? = some true:=List.getElem?_set_self (yE.1 h).1
section
variable {LV:Value} {W0 W W':World} {C:Nat→Value→Prop} {L1 L2:List Od} {x:List Bool} {f:Nat→Value}
theorem bc (h:R7 LV W0 C L1 L2 x f W) (i:Nat) (v:Value) (hv:C i v) (h0:i ≠ 0) (h4:i ≠ 4) (h9:i ≠ 9) (vT:i ≠ 10):R7 LV W0 C L1 L2 (x.set i true) (upd f i v) W:=by
 refine ⟨h.bel,zA h.c hv,?_,?_,?_,?_,?_,?_,?_,?_⟩ <;> simp only [gq h0,gq h4,gq h9,gq vT,zp f v h0.symm,zp f v h4.symm,zp f v h9.symm,zp f v vT.symm]
 ·exact h.s5
 ·exact h.m0
 ·exact h.m4
 ·exact h.m9
 ·exact h.m10
 ·exact h.o4
 ·exact h.o9
 ·exact fun e j K=>set_mono (h.o10 e j K)
theorem no_of {b:Option Bool} (h:b = some false):b ≠ some true:=by rw [h]; simp
theorem r7_0 (h:R7 LV W0 C L1 L2 x f W) (h0:x[0]? = some false) (hv:∀ v,C 0 v):R7 LV W0 C L1 L2 (x.set 0 true) (upd f 0 (.slice (some (yp W 0)) 0 0)) (W.alloc (N #[] 49)):=by
 have n4:x[4]? ≠ some true:=fun e=>no_of h0 (h.o4 e)
 have n9:x[9]? ≠ some true:=fun e=>n4 (h.o9 e)
 have pP:x[10]? ≠ some true:=fun e=>n9 (h.o10 e 9 (by omega))
 refine ⟨h.bel.alloc h.bel.size _,zA h.c (hv _),?_,?_,?_,?_,?_,?_,?_,?_⟩ <;> try simp only [gq (show 0 ≠ 4 by decide),gq (show 0 ≠ 9 by decide),gq (show 0 ≠ 10 by decide),zp f _ (show 10 ≠ 0 by decide),zp f _ (show 9 ≠ 0 by decide),zp f _ (show 4 ≠ 0 by decide)]
 ·exact h.s5
 ·intro _ _; rw [zn]; exact World.ownsRow_made W #[] 0 h.bel.size (by decide) rfl
 ·exact fun e=>absurd e n4
 ·exact fun e=>absurd e n9
 ·exact fun e=>absurd e pP
 ·exact fun e=>absurd e n4
 ·exact h.o9
 ·exact fun e j K=>set_mono (h.o10 e j K)
theorem r7_4 (h:R7 LV W0 C L1 L2 x f W) (h0:x[0]? = some true) (h4:x[4]? = some false) (hv:∀ v,C 4 v) {v':Value} (Z:ORow W' W0.heap.size v' L1) (hg:W.grownBy W' (f 0).ownBlock):R7 LV W0 C L1 L2 (x.set 4 true) (upd f 4 v') W':=by
 have n9:x[9]? ≠ some true:=fun e=>no_of h4 (h.o9 e)
 have pP:x[10]? ≠ some true:=fun e=>n9 (h.o10 e 9 (by omega))
 refine ⟨h.bel.grown hg h.bel.size (fun k hk=>((h.m0 h0 h4).lt k hk).1),zA h.c (hv _),?_,?_,?_,?_,?_,?_,?_,?_⟩ <;> try simp only [gq (show 4 ≠ 0 by decide),gq (show 4 ≠ 9 by decide),gq (show 4 ≠ 10 by decide),zp f _ (show 10 ≠ 4 by decide),zp f _ (show 9 ≠ 4 by decide),zp f _ (show 0 ≠ 4 by decide)]
 ·exact h.s5
 ·intro _ e; rw [gqs h4] at e; cases e
 ·intro _ _; rw [zn]; exact Z
 ·exact fun e=>absurd e n9
 ·exact fun e=>absurd e pP
 ·exact fun _=>h0
 ·exact fun e=>absurd e n9
 ·exact fun e j K=>set_mono (h.o10 e j K)
theorem r7_9 (h:R7 LV W0 C L1 L2 x f W) (h4:x[4]? = some true) (h9:x[9]? = some false) (hv:∀ v,C 9 v) {v':Value} (Z:ORow W' W0.heap.size v' L2) (hg:W.grownBy W' (f 4).ownBlock):R7 LV W0 C L1 L2 (x.set 9 true) (upd f 9 v') W':=by
 have pP:x[10]? ≠ some true:=fun e=>no_of h9 (h.o10 e 9 (by omega))
 refine ⟨h.bel.grown hg h.bel.size (fun k hk=>((h.m4 h4 h9).lt k hk).1),zA h.c (hv _),?_,?_,?_,?_,?_,?_,?_,?_⟩ <;> try simp only [gq (show 9 ≠ 0 by decide),gq (show 9 ≠ 4 by decide),gq (show 9 ≠ 10 by decide),zp f _ (show 10 ≠ 9 by decide),zp f _ (show 4 ≠ 9 by decide),zp f _ (show 0 ≠ 9 by decide)]
 ·exact h.s5
 ·exact fun _ e=>absurd e (by rw [h4]; simp)
 ·intro _ e; rw [gqs h9] at e; cases e
 ·intro _; rw [zn]; exact Z
 ·exact fun e=>absurd e pP
 ·exact h.o4
 ·exact fun _=>h4
 ·exact fun e=>absurd e pP
theorem r7_10 (h:R7 LV W0 C L1 L2 x f W) (hA:∀ j,j < 10→x[j]? = some true) (vT:x[10]? = some false) (hv:∀ v,C 10 v):R7 LV W0 C L1 L2 (x.set 10 true) (upd f 10 (f 9)) W:=by
 refine ⟨h.bel,zA h.c (hv _),?_,?_,?_,?_,?_,?_,?_,?_⟩ <;> try simp only [gq (show 10 ≠ 0 by decide),gq (show 10 ≠ 4 by decide),gq (show 10 ≠ 9 by decide),zp f _ (show 9 ≠ 10 by decide),zp f _ (show 4 ≠ 10 by decide),zp f _ (show 0 ≠ 10 by decide)]
 ·intro e; rw [gqs vT] at e; cases e
 ·exact h.m0
 ·exact h.m4
 ·exact h.m9
 ·exact fun _=>zn _ _ _
 ·exact h.o4
 ·exact h.o9
 ·exact fun _ j K=>set_mono (hA j K)
end
def C7 (LV:Value) (g n cp i:Nat):Nat→Value→Prop
 | 1,v=>v = LV
 | 2,v=>v = H i
 | 3,v=>v = .slice (some (J g 0)) i cp
 | 5,v=>v = LV
 | 6,v=>v = H i
 | 7,v=>v = H ((i:Int) + 1)
 | 8,v=>∃ ad c,v = .slice (some ad) (n - (i + 1)) c∧(i + 1 < n→ad = (J g ((i + 1) * 6)))
 | _,_=>True
def R7A (LV:Value) (W0:World) (C:Nat→Value→Prop) (L1 L2:List Od) (qt:(Nat→Value)→Act) (x:List Bool) (xj:Act) (W:World):Prop:=∃ f,xj = qt f∧R7 LV W0 C L1 L2 x f W
theorem dn {W:World} {B:Nat} {v:Value} {l:List Od} (h:ORow W B v l) (xA:l ≠ []):∃ g A,v = .slice (some (J g 0)) l.length A∧l.length ≤ A∧B ≤ g∧g < W.heap.size:=by
 rcases h.2 with ⟨rfl,h0⟩ | ⟨g,A,xp,rfl,O,hg,vW,_⟩
 ·exact absurd (List.length_eq_zero_iff.1 h0) xA
 ·exact ⟨g,A,rfl,vW,O,(yW.1 hg).1⟩
def SlOk (v:Value):Prop:=v = .slice none 0 0 ∨ ∃ ad n c,v = .slice (some ad) n c
theorem oRow_sl {W:World} {B:Nat} {v:Value} {l:List Od} (h:ORow W B v l):SlOk v:=by
 rcases h.2 with ⟨G,_⟩ | ⟨g,A,xp,G,_⟩
 ·exact .inl G
 ·exact .inr ⟨_,_,_,G⟩
theorem rd_src {W:World} {ad:Addr} {A:Nat} {l:List Od} (hr:RdR Od.vs 6 W (.slice (some ad) l.length A) l):∀ j u,(l.flatMap Od.vs)[j]? = some u→W.cell? (ad.add j) = some u:=by
 intro j u hu
 obtain ⟨a',pq,e1,_,hc⟩:=hr
 simp only [Value.slice.injEq] at e1
 have xA:l ≠ []:=by rintro rfl; simp at hu
 obtain ⟨b,off,e2,O,X⟩:=hc xA
 rw [e2] at e1
 simp only [Option.some.injEq] at e1
 obtain ⟨rfl,-,-⟩:=e1
 have h:=cW (W:=W) (g:=b) (off:=off) (l:=l) X 0 l.length j u (by simpa using hu)
 simpa using h
theorem rd_lenF {W:World} {v:Value} {l:List Od} (h:RdR Od.vs 6 W v l):∃ a c,v = .slice a l.length c:=by
 obtain ⟨a,c,G,_⟩:=h; exact ⟨a,c,G⟩
theorem zD {W:World} {b c o k j:Nat} {u:Value} (h:W.there b o k):(W.setCell (J c j) u).there b o k:=yZ (vs:=[u]) h c j
theorem bE {W:World} {B:Nat} {v:Value} {l:List Od} (h:ORow W B v l) {b:Nat} (O:b < B) (o:Nat) (u:Value):ORow (W.setCell (J b o) u) B v l :=
 ownsRow_setCell_below h (a:=(J b o)) O u
theorem copy_mid {w W2 w3:World} {S:Nat} {v3 sv:Value} {next:Int} {l:List Od} (hS:S = w.heap.size) (G:Below S w W2) (D:W2.heap.size = S + 2) (h3:W2.rangeAt S 0 [H next,sv]) (h4:W2.there S 0 2) (h5:W2.there (S + 1) 0 2) (hl:l.length ≤ 1000)
  (h6:w3.ownsRow (S + 2) 49 6 v3 (0 + l.length) ([] ++ l.flatMap Od.vs)) (h7:W2.grownBy w3 (Value.slice none 0 0).ownBlock) :
  ∃ a3 c3,v3 = .slice a3 l.length c3∧ORow w3 (S + 2) v3 l∧w3.cell? (J S 0) = some (H next)∧w3.cell? (J S 1) = some sv∧w3.frozen? (J S 1) = false∧w3.there (S + 1) 0 2∧Below S w w3∧S + 2 ≤ w3.heap.size:=by
 have h6':ORow w3 (S + 2) v3 l:=by
  show w3.ownsRow _ _ _ _ l.length _
  simpa using h6
 obtain ⟨a3,c3,e⟩:=rd_lenF (zR h6' (by omega))
 have r:=zu h3 h7 (by omega) (by simp [Value.ownBlock])
 refine ⟨a3,c3,e,h6',r 0 _ rfl,r 1 _ rfl,?_,bw h5 h7 (by omega) (by simp [Value.ownBlock]),G.grown h7 (by omega) (fun k hk=>by simp [Value.ownBlock] at hk),by have:=h7.size; omega⟩
 have:=(bw h4 h7 (by omega) (by simp [Value.ownBlock]) 1 (by omega)).2
 rwa [Nat.zero_add] at this
theorem copyBook_any (next:Int) (v:Value) (l:List Od) (w:World) (hr:RdR Od.vs 6 w v l) (hs:SlOk v) (hn:l.length ≤ 1000) :
  Calls Tryz.prog 41 #[.agg #[H next,v]] w fun e w'=>∃ v',e = yl (.agg #[H next,v'])∧ORow w' w.heap.size v' l∧ym w w':=by
 have HR:=Y hr
 obtain ⟨i0,uE,uF,uK,uV⟩:=info_parts Tryz.infoOrder
 obtain ⟨a,A,rfl,xC,hc⟩:=hr
 have xz:=zf w (N #[H next,.slice a l.length A] 28)
 have xZ:((w.alloc (N #[H next,.slice a l.length A] 28)).alloc (N #[H 0,.slice none 0 0] 28)).heap.size = w.heap.size + 2:=by rw [zf,xz]
 have t1:=zt w [H next,.slice a l.length A] 28
 have r1:=zg w [H next,.slice a l.length A] 28
 have b1:Below (w.heap.size + 1) (w.alloc (N #[H next,.slice a l.length A] 28)) ((w.alloc (N #[H next,.slice a l.length A] 28)).alloc (N #[H 0,.slice none 0 0] 28)):=(Below.refl _ _).alloc (by rw [xz]; omega) _
 have t2:=zt (w.alloc (N #[H next,.slice a l.length A] 28)) [H 0,.slice none 0 0] 28
 rw [xz] at t2
 have HX:Hid (_∧_∧_):=⟨zb r1 b1 (by omega),ze t1 b1 (by omega),t2⟩
 have uB:Hid (ym w ((w.alloc (N #[H next,.slice a l.length A] 28)).alloc (N #[H 0,.slice none 0 0] 28))):=(eB _ _).alloc (by rw [xz]; omega) _
 have qb:=Y xZ
 clear hc t1 r1 b1 t2 xz xZ
 go_enter Tryz.func41,Tryz.ntmps41
 rcases hs with hs | ⟨ad,nn,cc,hs⟩
 ·simp only [Value.slice.injEq] at hs
  obtain ⟨rfl,pE,rfl⟩:=hs
  obtain rfl:=List.length_eq_zero_iff.1 pE
  go_wp2_with (at_builtin; go_must (refine wpList_append_own_none rfl _ _ 26 rfl (w.heap.size + 2) 49 i0 6 Tryz.underlying26 uE (.slice none 0 0) 0 [] rfl (World.ownsRow_nil _ _ _ _) rfl ?_))
  go_returns
  refine ⟨_,rfl,World.ownsRow_nil _ _ _ _,?_⟩
  go_grown
 ·simp only [Value.slice.injEq] at hs
  obtain ⟨rfl,rfl,rfl⟩:=hs
  have vf:Hid (∀ j u,(l.flatMap Od.vs)[j]? = some u→World.cell? (((w.alloc (N #[H next,.slice (some ad) l.length A] 28)).alloc (N #[H 0,.slice none 0 0] 28))) (ad.add j) = some u):=rd_src (zh (U HR) (U uB) hb)
  go_wp2_with (at_builtin; go_must (refine wpList_append_own _ rfl _ _ 26 rfl (w.heap.size + 2) 49 i0 _ 6 56 Tryz.underlying26 uE uF uK uV rfl (by decide) (.slice none 0 0) 0 [] rfl (World.ownsRow_nil _ _ _ _) ad l.length A (l.flatMap Od.vs) rfl (by rw [zK Od.len]) (U vf) (bi l) (by unfold maxLen; omega) (by omega) (by rw [U qb]; omega) ?_); intro v3 w3 hown3 vh _; obtain ⟨a3,c3,rfl,ho3,c0,c1,f1,ht3,uw,jr⟩:=copy_mid rfl (U uB) (U qb) (U HX).1 (U HX).2.1 (U HX).2.2 hn hown3 vh; have qL:=Y ho3; have jg:=Y ht3; have xP:=Y uw; obtain ⟨v0,z0,q0⟩:=zH ht3 0 (by omega); obtain ⟨v1,z1,q1⟩:=zH ht3 1 (by omega); clear ho3 ht3 uw hown3 vh)
  have z0:w3.cell? (J (w.heap.size + 1) 0) = some v0:=z0
  have z1:w3.cell? (J (w.heap.size + 1) 1) = some v1:=by rw [Nat.zero_add] at z1; exact z1
  have q0:w3.frozen? (J (w.heap.size + 1) 0) = false:=q0
  have q1:w3.frozen? (J (w.heap.size + 1) 1) = false:=by rw [Nat.zero_add] at q1; exact q1
  have jF:=Y (yV (w3.setCell (yp w 1) (.slice a3 l.length c3)) (w.heap.size + 1) 0 [H next,.slice a3 l.length c3] (fun j K=>(zD (U jg)) j K))
  have HOX:=Y (bE (bE (bE (U qL) (b:=w.heap.size) (by omega) 1 (.slice a3 l.length c3)) (b:=w.heap.size + 1) (by omega) 0 (H next)) (b:=w.heap.size + 1) (by omega) 1 (.slice a3 l.length c3))
  have uy:=Y ((((U xP).setCell (p:=(yp w 1)) hb (.slice a3 l.length c3)).setCell (p:=(J (w.heap.size + 1) 0)) (by simp) (H next)).setCell (p:=(J (w.heap.size + 1) 1)) (by simp) (.slice a3 l.length c3))
  go_wp2_with fail
  have jF:Hid (World.rangeAt (((w3.setCell (yp w 1) (.slice a3 l.length c3)).setCell (J (w.heap.size + 1) 0) (H next)).setCell (J (w.heap.size + 1) 1) (.slice a3 l.length c3)) (w.heap.size + 1) 0 [H next,.slice a3 l.length c3]):=U jF
  generalize (((w3.setCell (yp w 1) (.slice a3 l.length c3)).setCell (J (w.heap.size + 1) 0) (H next)).setCell (J (w.heap.size + 1) 1) (.slice a3 l.length c3)) = WE at jF HOX uy ⊢
  have d0:WE.cell? (J (w.heap.size + 1) 0) = some (H next):=U jF 0 _ rfl
  have d1:WE.cell? (J (w.heap.size + 1) 1) = some (.slice a3 l.length c3):=U jF 1 _ rfl
  try simp only [Exit.inBlock,Exit.then]
  refine bodyPost_ret (by simp [results,Tryz.results41,go_sem,d0,d1]; try rfl) rfl ?_
  exact ⟨_,rfl,bS (U HOX) (by omega),U uy⟩
end Go.Proofs.YtbakanofkghmiaaGreat
