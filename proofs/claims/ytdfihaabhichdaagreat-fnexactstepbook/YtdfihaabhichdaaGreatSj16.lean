/-
  The program and the model say the same of every book; no function walked.
-/
import Derived.Test.YtdfihaabhichdaaGreatSj07
import Derived.Test.YtdfihaabhichdaaGreatSj15
import Derived.Laws.AppendOwnNone
namespace Go.Proofs.YtdfihaabhichdaaGreat
open Go.RowKit
set_option linter.unusedVariables false

theorem allR_eq (next:Int):∀ (l:List Od) (last:Int),allR next last l = (idsR next last l && l.all ordB)
  | [],_=>rfl
  | a :: r,last=>by
    rw [allR,idsR,List.all_cons,allR_eq next r a.id]
    cases ordB a <;> cases decide (last < a.id) <;> cases decide (a.id < next) <;> simp
theorem zcr {s:Bool} {l:List Od} {sd:Int} (hr:zbi l):((quOf s (zr l sd)).head? = none∧∀ o ∈ l,o.side ≠ sd) ∨ ∃ i o,(quOf s (zr l sd)).head? = some o∧zcD s l sd i o:=by
  cases h:(quOf s (zr l sd)).head? with
  | none=>exact .inl ⟨rfl,queue_none (zbS s _) h⟩
  | some o =>
    obtain ⟨i,hi⟩:=queue_front hr (zbS s _) h
    exact .inr ⟨i,o,rfl,hi⟩
theorem meet_noX {l:List Od} (hr:zbi l):(!meetB (quOf true (zr l 1)) (quOf false (zr l 2))) = noX l:=by
  rcases zcr (s:=true) (sd:=1) hr with ⟨h1,hn⟩ | ⟨i,a,h1,hf1⟩
  · rw [noX_none1 hn]; simp [meetB,hdF,h1]
  · rcases zcr (s:=false) (sd:=2) hr with ⟨h2,hn⟩ | ⟨j,b,h2,hf2⟩
    · rw [noX_none2 hn]; simp [meetB,hdF,h2]
    · rw [noX_fronts hf1 hf2]
      simp only [meetB,hdF,hdO,h1,h2,Option.isSome_some,Option.getD_some,Bool.true_and]
      rw [Bool.eq_iff_iff]; simp
theorem okI_eq (next:Int) (l:List Od):okI next l = okS next l:=by
  unfold okI okS
  rw [allR_eq]
  cases h:(idsR next 0 l && l.all ordB)
  · rw [Bool.and_assoc (betB next 1 1000000 && decide (l.length ≤ 20)) (idsR next 0 l),h]; simp
  · have hall:allR next 0 l = true:=by rw [allR_eq]; exact h
    have hr:=(zbO hall).1
    have hs:∀ o ∈ l,o.side = 1 ∨ o.side = 2:=fun o ho=>by
      have:=zcq hall o ho
      simp [ordB,betB] at this
      omega
    rw [Bool.and_assoc (betB next 1 1000000 && decide (l.length ≤ 20)) (idsR next 0 l),h,meet_noX hr]
    have:=nlev_eq hs (zbS true _) (zbS false _)
    rw [zaA,zaA,List.length_map,List.length_map,this]
end Go.Proofs.YtdfihaabhichdaaGreat
namespace Go.Proofs.YtdfihaabhichdaaGreat
open Go.RowKit
set_option linter.unusedVariables false

def cmdI (c:Cm):Value:=if c.k = 1 then .iface 128 (noV c) else if c.k = 2 then .iface 131 (.agg #[.int .i64 c.i]) else if c.k = 3 then .iface 134 (.agg #[.int .i64 c.i,.int .i64 c.q]) else if c.k = 4 then .iface 137 (.agg #[]) else .nilIface
set_option maxHeartbeats 800000 in
theorem newOrderOf_any (c:Cm) (w:World) :
  Calls Tryz.prog 116 #[cmV c] w fun e w'=>e = .returned (noV c)∧Below w.heap.size w w':=by
 obtain ⟨k,s,t,l,q,i,p,g⟩:=c
 unfold cmV noV
 simp only
 have hsf:=sfl
 go_enter Tryz.func116,Tryz.ntmps116
 go_wp2_with fail
 go_returns
 exact ⟨rfl,by go_grown⟩
set_option maxHeartbeats 800000 in
theorem zaf (c:Cm) (w:World) :
  Calls Tryz.prog 82 #[cmV c] w fun e w'=>e = .returned (cmdI c)∧Below w.heap.size w w':=by
 obtain ⟨k,s,t,l,q,i,p,g⟩:=c
 unfold cmV
 simp only
 by_cases h1:k = 1
 ·subst h1
  have HB1:Hid (Below w.heap.size w (w.alloc (Obj.cells #[.int .i64 1,.int .i64 s,.int .i64 t,.int .i64 l,.int .i64 q,.int .i64 i,.float .f64 p,.string g] 37))):=(Below.refl _ _).alloc (Nat.le_refl _) _
  go_enter Tryz.func82,Tryz.ntmps82
  go_wp2_with fail
  refine (newOrderOf_any ⟨1,s,t,l,q,i,p,g⟩ _).mono ?_
  rintro e w' ⟨rfl,hb⟩
  have HB2:=hide ((za HB1).trans (hb.mono (za HB1).size))
  clear hb
  go_wp2_with fail
  go_ret
  exact ⟨rfl,za HB2⟩
 have b1:(k == 1) = false:=by simpa using h1
 by_cases h2:k = 2
 ·subst h2
  go_enter Tryz.func82,Tryz.ntmps82
  go_wp2_with fail
  go_ret
  exact ⟨rfl,by go_grown⟩
 have b2:(k == 2) = false:=by simpa using h2
 by_cases h3:k = 3
 ·subst h3
  go_enter Tryz.func82,Tryz.ntmps82
  go_wp2_with fail
  go_ret
  exact ⟨rfl,by go_grown⟩
 have b3:(k == 3) = false:=by simpa using h3
 by_cases h4:k = 4
 ·subst h4
  go_enter Tryz.func82,Tryz.ntmps82
  go_wp2_with fail
  go_ret
  exact ⟨rfl,by go_grown⟩
 have b4:(k == 4) = false:=by simpa using h4
 have HC:Hid (cmdI ⟨k,s,t,l,q,i,p,g⟩ = .nilIface):=by show _ = _; simp [cmdI,h1,h2,h3,h4]
 go_enter Tryz.func82,Tryz.ntmps82
 go_wp2_with fail
 go_ret
 exact ⟨by rw [za HC]; rfl,by go_grown⟩
def plcF (id:Int):List Od→Nat→Int
 | [],_=>-1
 | o :: r,k=>if o.id = id then k else plcF id r (k + 1)
def plc (l:List Od) (id:Int):Int:=plcF id l 0
theorem plcF_spec (id:Int):∀ (l:List Od) (k:Nat),(plcF id l k = -1∧∀ o ∈ l,o.id ≠ id) ∨ ∃ i o,plcF id l k = ((k + i:Nat):Int)∧l[i]? = some o∧o.id = id∧∀ j o',j < i→l[j]? = some o'→o'.id ≠ id
 | [],k=>.inl ⟨rfl,by simp⟩
 | o :: r,k=>by
  by_cases h:o.id = id
  ·exact .inr ⟨0,o,by rw [plcF,if_pos h]; rfl,rfl,h,by simp⟩
  ·rcases plcF_spec id r (k + 1) with ⟨h1,h2⟩ | ⟨i,o',h1,h2,h3,h4⟩
   ·refine .inl ⟨by rw [plcF,if_neg h,h1],fun x hx=>?_⟩
    rcases List.mem_cons.1 hx with rfl | hx
    ·exact h
    ·exact h2 x hx
   ·refine .inr ⟨i + 1,o',by rw [plcF,if_neg h,h1]; congr 1; omega,h2,h3,fun j x hj hx=>?_⟩
    cases j with
    | zero=>simp at hx; subst hx; exact h
    | succ j=>exact h4 j x (by omega) (by simpa using hx)
theorem drop_get {l:List Od} {k:Nat} {c:Od} (h:l[k]? = some c):l.drop k = c :: l.drop (k + 1):=by
 obtain ⟨h1,rfl⟩:=List.getElem?_eq_some_iff.1 h
 exact List.drop_eq_getElem_cons h1
set_option maxHeartbeats 400000 in
theorem place1_any (o:Od) (B:Nat) (id:Int) (w:World) (hB:w.cell? ⟨B,0,none⟩ = some (.int .i64 id)) :
  Calls Tryz.prog 148 #[.agg #[.int .i64 o.id,.int .i64 o.side,.int .i64 o.ticks,.int .i64 o.left,.int .i64 o.life,.string o.tag],.pointer (some ⟨B,0,none⟩)] w fun e w'=>e = .returned (.bool (o.id == id))∧Below w.heap.size w w':=by
 obtain ⟨oid,side,ticks,left,life,tag⟩:=o
 simp only
 have hB':(w.alloc (Obj.cells #[.int .i64 oid,.int .i64 side,.int .i64 ticks,.int .i64 left,.int .i64 life,.string tag] 100)).cell? ⟨B,0,none⟩ = some (.int .i64 id):=(World.cell?_alloc_lt _ _ ⟨B,0,none⟩ (World.block_lt_of_cell? w _ hB)).trans hB
 go_enter Tryz.func148,Tryz.ntmps148
 go_wp2_with fail
 go_ret
 exact ⟨rfl,by go_grown⟩
set_option maxRecDepth 100000 in
set_option maxHeartbeats 800000 in
theorem indexFunc_any (v:Value) (l:List Od) (B:Nat) (id:Int) (w:World) (hr:RdR Od.vs 6 w v l) (hB:w.cell? ⟨B,0,none⟩ = some (.int .i64 id)) :
  Calls Tryz.prog 147 #[v,.func (.func 148) #[] #[.pointer (some ⟨B,0,none⟩)]] w fun e w'=>e = .returned (.int .i64 (plc l id))∧Below w.heap.size w w':=by
 obtain ⟨a,cap,rfl,hlen,hc⟩:=hr
 have hcell:∀ (k:Nat) (c:Od),l[k]? = some c→∃ b off,a = some ⟨b,off,none⟩∧b < w.heap.size∧w.rangeAt b (off + k * 6) c.vs:=by
  intro k c hk
  obtain ⟨b,off,h1,h2,h3⟩:=hc (by intro h; rw [h] at hk; simp at hk)
  exact ⟨b,off,h1,h2,h3 k c hk⟩
 have HC:=hide hcell
 have HBC:=hide hB
 have hBl:=World.block_lt_of_cell? w _ hB
 simp only at hBl
 clear hcell hc hB
 go_enter Tryz.func147,Tryz.ntmps147
 go_wp2_with fail
 go_loopw [8] (fun iv wr=>∃ (k:Nat),k ≤ l.length∧iv = .int .i64 k∧Hid (plc l id = plcF id (l.drop k) k)∧Below w.heap.size w wr) (fun iv _=>l.length - (intOf iv).toNat)
 case atStart=>exact ⟨0,Nat.zero_le _,rfl,rfl,Below.refl _ _⟩
 case round =>
  obtain ⟨k,hk,rfl,hpl,hbel⟩:=hrel
  have HB:=hide hbel
  clear hbel
  by_cases hlt:k < l.length
  ·obtain ⟨c,hkc⟩:∃ c,l[k]? = some c:=⟨_,List.getElem?_eq_getElem hlt⟩
   have HP:Hid (plc l id = if c.id = id then (k:Int) else plcF id (l.drop (k + 1)) (k + 1)):=by
    have:=za hpl
    rw [drop_get hkc] at this
    exact this
   obtain ⟨b,off,rfl,hb,hcl⟩:=za HC k c hkc
   obtain ⟨g0,g1,g2,g3,g4,g5⟩:=zy (zb hcl (za HB) hb)
   have hlt':(k:Int) < l.length:=by omega
   have HBX:=hide (((za HB).cell (p:=⟨B,0,none⟩) hBl).trans (za HBC))
   clear hkc hcl hb hpl
   go_wp2_with fail
   refine (place1_any c B id wr (za HBX)).mono ?_
   rintro e w3 ⟨rfl,hb3⟩
   have HB3:=hide ((za HB).trans (hb3.mono (za HB).size))
   clear hb3
   by_cases hid:c.id = id
   ·have hb:(c.id == id) = true:=by simpa using hid
    have HK:Hid (plc l id = k):=by have:=za HP; rw [if_pos hid] at this; exact this
    clear hid
    go_wp2_with fail
    go_ret
    exact ⟨zo (za HK).symm,za HB3⟩
   ·have hb:(c.id == id) = false:=by simpa using hid
    have HK:Hid (plc l id = plcF id (l.drop (k + 1)) (k + 1)):=by have:=za HP; rw [if_neg hid] at this; exact this
    clear hid
    go_wp2_with fail
    go_roundw
    case rel=>exact ⟨k + 1,by omega,by go_num,za HK,za HB3⟩
    case measure=>simp [intOf]; omega
  ·have HK:Hid (plc l id = -1):=by
    have h:=za hpl
    rw [List.drop_of_length_le (by omega)] at h
    exact h
   go_wp2_with fail
   go_ret
   exact ⟨zo (za HK).symm,za HB⟩
set_option maxHeartbeats 800000 in
theorem zbB (next:Int) (v:Value) (l:List Od) (id:Int) (w:World) (hr:RdR Od.vs 6 w v l) :
  Calls Tryz.prog 121 #[.agg #[.int .i64 next,v],.int .i64 id] w fun e w'=>e = .returned (.int .i64 (plc l id))∧Below w.heap.size w w':=by
 have HR:=hide hr
 obtain ⟨a,cap,rfl,hlen,hc⟩:=hr
 have hmf:∀ (fn:Fn) (first cap:Array Value) (w:World),(Instr.makeFunc fn first cap).run Tryz.prog w = .ok (.func fn first cap) w:=fun _ _ _ _=>rfl
 have hs1:(w.alloc (Obj.cells #[.int .i64 next,.slice a l.length cap] 32)).heap.size = w.heap.size + 1:=ze _ _
 have r1:=zh (w.alloc (Obj.cells #[.int .i64 next,.slice a l.length cap] 32)) [.int .i64 id] 3
 rw [hs1] at r1
 have HX:=hide (r1 0 _ rfl)
 have HB0:Hid (Below w.heap.size w ((w.alloc (Obj.cells #[.int .i64 next,.slice a l.length cap] 32)).alloc (Obj.cells #[.int .i64 id] 3))):=((Below.refl _ _).alloc (Nat.le_refl _) _).alloc (by rw [hs1]; omega) _
 clear hc r1 hs1
 go_enter Tryz.func121,Tryz.ntmps121
 go_wp2_with fail
 have HX:Hid (World.cell? ((w.alloc (Obj.cells #[.int .i64 next,.slice a l.length cap] 32)).alloc (Obj.cells #[.int .i64 id] 3)) ⟨w.heap.size + 1,0,none⟩ = some (.int .i64 id)):=za HX
 generalize ((w.alloc (Obj.cells #[.int .i64 next,.slice a l.length cap] 32)).alloc (Obj.cells #[.int .i64 id] 3)) = W2 at HX HB0 ⊢
 refine (indexFunc_any _ l (w.heap.size + 1) id W2 (zj (za HR) (za HB0) (Nat.le_refl _)) (za HX)).mono ?_
 rintro e w3 ⟨rfl,hb3⟩
 have HB3:=hide ((za HB0).trans (hb3.mono (za HB0).size))
 clear hb3
 go_wp2_with fail
 go_ret
 exact ⟨rfl,za HB3⟩
end Go.Proofs.YtdfihaabhichdaaGreat
namespace Go.Proofs.YtdfihaabhichdaaGreat
open Go.RowKit
set_option linter.unusedVariables false

abbrev ORow (W:World) (B:Nat) (v:Value) (l:List Od):Prop:=W.ownsRow B 100 6 v l.length (l.flatMap Od.vs)
theorem zP {W:World} {B:Nat} {v:Value} {l:List Od} (h:ORow W B v l) (hl:l.length ≤ 1073741824):RdR Od.vs 6 W v l:=zar (zan Od.len hl h)
theorem zcx (w:World) (cs:List Value) (t:TypeId) (j:Nat) (u:Value) (h:cs[j]? = some u):(w.alloc (Obj.cells cs.toArray t)).cell? ((⟨w.heap.size,0,none⟩:Addr).add j) = some u:=by
  rw [Addr.add_mid,cell_of_row _ w.heap.size (0 + j) cs.toArray t (0,0) (heap_alloc_new w _)]
  simpa using h
theorem zbD {W:World} {g off:Nat} {l:List Od} (h:∀ i c,l[i]? = some c→W.rangeAt g (off + i * 6) c.vs) (a n:Nat):∀ j u,(((l.drop a).take n).flatMap Od.vs)[j]? = some u→W.cell? ((⟨g,off + a * 6,none⟩:Addr).add j) = some u:=by
  intro j u hu
  have hlt:=(List.getElem?_eq_some_iff.1 hu).1
  rw [zO Od.len] at hlt
  have hq:j / 6 < ((l.drop a).take n).length:=by omega
  obtain ⟨c,hc⟩:∃ c,((l.drop a).take n)[j / 6]? = some c:=⟨_,List.getElem?_eq_getElem hq⟩
  have h1:=flat_get Od.len _ (j / 6) (j % 6) c hc (by omega)
  rw [show j / 6 * 6 + j % 6 = j by omega,hu] at h1
  have hc':l[a + j / 6]? = some c:=by
    rw [List.getElem?_take] at hc
    split at hc
    · rw [List.getElem?_drop] at hc; exact hc
    · cases hc
  have:=h _ c hc' (j % 6) u h1.symm
  rw [Addr.add_mid]
  rw [show off + (a + j / 6) * 6 + j % 6 = off + a * 6 + j by omega] at this
  exact this
theorem zaE (l:List Od):∀ u ∈ l.flatMap Od.vs,u.oneCell' = true:=by
  intro u hu
  obtain ⟨o,_,ho⟩:=List.mem_flatMap.1 hu
  simp [Od.vs] at ho
  rcases ho with rfl | rfl | rfl | rfl | rfl | rfl <;> rfl
structure R7 (LV:Value) (W0:World) (C:Nat→Value→Prop) (L1 L2:List Od) (x:List Bool) (f:Nat→Value) (W:World):Prop where
  bel:Below W0.heap.size W0 W
  c:∀ j,x[j]? = some true→C j (f j)
  s5:x[10]? = some false→f 10 = LV
  m0:x[0]? = some true→x[4]? = some false→ORow W W0.heap.size (f 0) []
  m4:x[4]? = some true→x[9]? = some false→ORow W W0.heap.size (f 4) L1
  m9:x[9]? = some true→ORow W W0.heap.size (f 9) L2
  m10:x[10]? = some true→f 10 = f 9
  o4:x[4]? = some true→x[0]? = some true
  o9:x[9]? = some true→x[4]? = some true
  o10:x[10]? = some true→∀ j,j < 10→x[j]? = some true
theorem gq {x:List Bool} {i j:Nat} (h:i ≠ j):(x.set i true)[j]? = x[j]?:=List.getElem?_set_ne h
theorem set_mono {x:List Bool} {i j:Nat} (h:x[j]? = some true):(x.set i true)[j]? = some true:=by
  by_cases hij:i = j
  · subst hij; exact List.getElem?_set_self (List.getElem?_eq_some_iff.1 h).1
  · rw [List.getElem?_set_ne hij]; exact h
theorem gqs {x:List Bool} {i:Nat} (h:x[i]? = some false):(x.set i true)[i]? = some true:=List.getElem?_set_self (List.getElem?_eq_some_iff.1 h).1
section
variable {LV:Value} {W0 W W':World} {C:Nat→Value→Prop} {L1 L2:List Od} {x:List Bool} {f:Nat→Value}
theorem zbl (h:R7 LV W0 C L1 L2 x f W) (i:Nat) (v:Value) (hv:C i v) (h0:i ≠ 0) (h4:i ≠ 4) (h9:i ≠ 9) (h10:i ≠ 10):R7 LV W0 C L1 L2 (x.set i true) (upd f i v) W:=by
  refine ⟨h.bel,zG h.c hv,?_,?_,?_,?_,?_,?_,?_,?_⟩ <;> simp only [gq h0,gq h4,gq h9,gq h10,zq f v h0.symm,zq f v h4.symm,zq f v h9.symm,zq f v h10.symm]
  · exact h.s5
  · exact h.m0
  · exact h.m4
  · exact h.m9
  · exact h.m10
  · exact h.o4
  · exact h.o9
  · exact fun e j hj=>set_mono (h.o10 e j hj)
theorem no_of {b:Option Bool} (h:b = some false):b ≠ some true:=by rw [h]; simp
theorem r7_0 (h:R7 LV W0 C L1 L2 x f W) (h0:x[0]? = some false) (hv:∀ v,C 0 v):R7 LV W0 C L1 L2 (x.set 0 true) (upd f 0 (.slice (some ⟨W.heap.size,0,none⟩) 0 0)) (W.alloc (Obj.cells #[] 100)):=by
  have n4:x[4]? ≠ some true:=fun e=>no_of h0 (h.o4 e)
  have n9:x[9]? ≠ some true:=fun e=>n4 (h.o9 e)
  have n10:x[10]? ≠ some true:=fun e=>n9 (h.o10 e 9 (by omega))
  refine ⟨h.bel.alloc h.bel.size _,zG h.c (hv _),?_,?_,?_,?_,?_,?_,?_,?_⟩ <;> try simp only [gq (show 0 ≠ 4 by decide),gq (show 0 ≠ 9 by decide),gq (show 0 ≠ 10 by decide),zq f _ (show 10 ≠ 0 by decide),zq f _ (show 9 ≠ 0 by decide),zq f _ (show 4 ≠ 0 by decide)]
  · exact h.s5
  · intro _ _; rw [zp]; exact World.ownsRow_made W #[] 0 h.bel.size (by decide) rfl
  · exact fun e=>absurd e n4
  · exact fun e=>absurd e n9
  · exact fun e=>absurd e n10
  · exact fun e=>absurd e n4
  · exact h.o9
  · exact fun e j hj=>set_mono (h.o10 e j hj)
theorem r7_4 (h:R7 LV W0 C L1 L2 x f W) (h0:x[0]? = some true) (h4:x[4]? = some false) (hv:∀ v,C 4 v) {v':Value} (ho:ORow W' W0.heap.size v' L1) (hg:W.grownBy W' (f 0).ownBlock):R7 LV W0 C L1 L2 (x.set 4 true) (upd f 4 v') W':=by
  have n9:x[9]? ≠ some true:=fun e=>no_of h4 (h.o9 e)
  have n10:x[10]? ≠ some true:=fun e=>n9 (h.o10 e 9 (by omega))
  refine ⟨h.bel.grown hg h.bel.size (fun k hk=>((h.m0 h0 h4).lt k hk).1),zG h.c (hv _),?_,?_,?_,?_,?_,?_,?_,?_⟩ <;> try simp only [gq (show 4 ≠ 0 by decide),gq (show 4 ≠ 9 by decide),gq (show 4 ≠ 10 by decide),zq f _ (show 10 ≠ 4 by decide),zq f _ (show 9 ≠ 4 by decide),zq f _ (show 0 ≠ 4 by decide)]
  · exact h.s5
  · intro _ e; rw [gqs h4] at e; cases e
  · intro _ _; rw [zp]; exact ho
  · exact fun e=>absurd e n9
  · exact fun e=>absurd e n10
  · exact fun _=>h0
  · exact fun e=>absurd e n9
  · exact fun e j hj=>set_mono (h.o10 e j hj)
theorem r7_9 (h:R7 LV W0 C L1 L2 x f W) (h4:x[4]? = some true) (h9:x[9]? = some false) (hv:∀ v,C 9 v) {v':Value} (ho:ORow W' W0.heap.size v' L2) (hg:W.grownBy W' (f 4).ownBlock):R7 LV W0 C L1 L2 (x.set 9 true) (upd f 9 v') W':=by
  have n10:x[10]? ≠ some true:=fun e=>no_of h9 (h.o10 e 9 (by omega))
  refine ⟨h.bel.grown hg h.bel.size (fun k hk=>((h.m4 h4 h9).lt k hk).1),zG h.c (hv _),?_,?_,?_,?_,?_,?_,?_,?_⟩ <;> try simp only [gq (show 9 ≠ 0 by decide),gq (show 9 ≠ 4 by decide),gq (show 9 ≠ 10 by decide),zq f _ (show 10 ≠ 9 by decide),zq f _ (show 4 ≠ 9 by decide),zq f _ (show 0 ≠ 9 by decide)]
  · exact h.s5
  · exact fun _ e=>absurd e (by rw [h4]; simp)
  · intro _ e; rw [gqs h9] at e; cases e
  · intro _; rw [zp]; exact ho
  · exact fun e=>absurd e n10
  · exact h.o4
  · exact fun _=>h4
  · exact fun e=>absurd e n10
theorem r7_10 (h:R7 LV W0 C L1 L2 x f W) (hA:∀ j,j < 10→x[j]? = some true) (h10:x[10]? = some false) (hv:∀ v,C 10 v):R7 LV W0 C L1 L2 (x.set 10 true) (upd f 10 (f 9)) W:=by
  refine ⟨h.bel,zG h.c (hv _),?_,?_,?_,?_,?_,?_,?_,?_⟩ <;> try simp only [gq (show 10 ≠ 0 by decide),gq (show 10 ≠ 4 by decide),gq (show 10 ≠ 9 by decide),zq f _ (show 9 ≠ 10 by decide),zq f _ (show 4 ≠ 10 by decide),zq f _ (show 0 ≠ 10 by decide)]
  · intro e; rw [gqs h10] at e; cases e
  · exact h.m0
  · exact h.m4
  · exact h.m9
  · exact fun _=>zp _ _ _
  · exact h.o4
  · exact h.o9
  · exact fun _ j hj=>set_mono (hA j hj)
end
def C7 (LV:Value) (g n cp i:Nat):Nat→Value→Prop
  | 1,v=>v = LV
  | 2,v=>v = .int .i64 i
  | 3,v=>v = .slice (some ⟨g,0,none⟩) i cp
  | 5,v=>v = LV
  | 6,v=>v = .int .i64 i
  | 7,v=>v = .int .i64 ((i:Int) + 1)
  | 8,v=>∃ ad c,v = .slice (some ad) (n - (i + 1)) c∧(i + 1 < n→ad = ⟨g,(i + 1) * 6,none⟩)
  | _,_=>True
def R7A (LV:Value) (W0:World) (C:Nat→Value→Prop) (L1 L2:List Od) (F:(Nat→Value)→Act) (x:List Bool) (A:Act) (W:World):Prop:=∃ f,A = F f∧R7 LV W0 C L1 L2 x f W
theorem zbK {W:World} {B:Nat} {v:Value} {l:List Od} (h:ORow W B v l) (hne:l ≠ []):∃ g cap,v = .slice (some ⟨g,0,none⟩) l.length cap∧l.length ≤ cap∧B ≤ g∧g < W.heap.size:=by
  rcases h.2 with ⟨rfl,h0⟩ | ⟨g,cap,cur,rfl,hb,hg,hcap,_⟩
  · exact absurd (List.length_eq_zero_iff.1 h0) hne
  · exact ⟨g,cap,rfl,hcap,hb,(Array.getElem?_eq_some_iff.1 hg).1⟩
end Go.Proofs.YtdfihaabhichdaaGreat
namespace Go.Proofs.YtdfihaabhichdaaGreat
open Go.RowKit
set_option linter.unusedVariables false

def SlOk (v:Value):Prop:=v = .slice none 0 0 ∨ ∃ ad n c,v = .slice (some ad) n c
theorem oRow_sl {W:World} {B:Nat} {v:Value} {l:List Od} (h:ORow W B v l):SlOk v:=by
 rcases h.2 with ⟨h1,_⟩ | ⟨g,cap,cur,h1,_⟩
 ·exact .inl h1
 ·exact .inr ⟨_,_,_,h1⟩
theorem rd_src {W:World} {ad:Addr} {cap:Nat} {l:List Od} (hr:RdR Od.vs 6 W (.slice (some ad) l.length cap) l):∀ j u,(l.flatMap Od.vs)[j]? = some u→W.cell? (ad.add j) = some u:=by
 intro j u hu
 obtain ⟨a',cap',e1,_,hc⟩:=hr
 simp only [Value.slice.injEq] at e1
 have hne:l ≠ []:=by rintro rfl; simp at hu
 obtain ⟨b,off,e2,hb,hcl⟩:=hc hne
 rw [e2] at e1
 simp only [Option.some.injEq] at e1
 obtain ⟨rfl,-,-⟩:=e1
 have h:=zbD (W:=W) (g:=b) (off:=off) (l:=l) hcl 0 l.length j u (by simpa using hu)
 simpa using h
theorem rd_lenF {W:World} {v:Value} {l:List Od} (h:RdR Od.vs 6 W v l):∃ a c,v = .slice a l.length c:=by
 obtain ⟨a,c,h1,_⟩:=h; exact ⟨a,c,h1⟩
theorem zad {W:World} {b c o k j:Nat} {u:Value} (h:W.there b o k):(W.setCell ⟨c,j,none⟩ u).there b o k:=World.there_setCells (vs:=[u]) h c j
theorem zat {W:World} {B:Nat} {v:Value} {l:List Od} (h:ORow W B v l) {b:Nat} (hb:b < B) (o:Nat) (u:Value):ORow (W.setCell ⟨b,o,none⟩ u) B v l :=
 ownsRow_setCell_below h (a:=⟨b,o,none⟩) hb u
theorem copy_mid {w W2 w3:World} {S:Nat} {v3 sv:Value} {next:Int} {l:List Od} (hS:S = w.heap.size) (h1:Below S w W2) (h2:W2.heap.size = S + 2) (h3:W2.rangeAt S 0 [.int .i64 next,sv]) (h4:W2.there S 0 2) (h5:W2.there (S + 1) 0 2) (hl:l.length ≤ 1000)
  (h6:w3.ownsRow (S + 2) 100 6 v3 (0 + l.length) ([] ++ l.flatMap Od.vs)) (h7:W2.grownBy w3 (Value.slice none 0 0).ownBlock) :
  ∃ a3 c3,v3 = .slice a3 l.length c3∧ORow w3 (S + 2) v3 l∧w3.cell? ⟨S,0,none⟩ = some (.int .i64 next)∧w3.cell? ⟨S,1,none⟩ = some sv∧w3.frozen? ⟨S,1,none⟩ = false∧w3.there (S + 1) 0 2∧Below S w w3∧S + 2 ≤ w3.heap.size:=by
 have h6':ORow w3 (S + 2) v3 l:=by
  show w3.ownsRow _ _ _ _ l.length _
  simpa using h6
 obtain ⟨a3,c3,e⟩:=rd_lenF (zP h6' (by omega))
 have r:=zu h3 h7 (by omega) (by simp [Value.ownBlock])
 refine ⟨a3,c3,e,h6',r 0 _ rfl,r 1 _ rfl,?_,zaF h5 h7 (by omega) (by simp [Value.ownBlock]),h1.grown h7 (by omega) (fun k hk=>by simp [Value.ownBlock] at hk),by have:=h7.size; omega⟩
 have:=(zaF h4 h7 (by omega) (by simp [Value.ownBlock]) 1 (by omega)).2
 rwa [Nat.zero_add] at this
set_option maxRecDepth 100000 in
set_option maxHeartbeats 800000 in
theorem copyBook_any (next:Int) (v:Value) (l:List Od) (w:World) (hr:RdR Od.vs 6 w v l) (hs:SlOk v) (hn:l.length ≤ 1000) :
  Calls Tryz.prog 38 #[.agg #[.int .i64 next,v]] w fun e w'=>∃ v',e = .returned (.agg #[.int .i64 next,v'])∧ORow w' w.heap.size v' l∧Below w.heap.size w w':=by
 have HR:=hide hr
 obtain ⟨i0,hi0,hz0,hz1,hz2⟩:=info_parts Tryz.infoOrder
 obtain ⟨a,cap,rfl,hlen,hc⟩:=hr
 have hs1:(w.alloc (Obj.cells #[.int .i64 next,.slice a l.length cap] 32)).heap.size = w.heap.size + 1:=ze _ _
 have hs2:((w.alloc (Obj.cells #[.int .i64 next,.slice a l.length cap] 32)).alloc (Obj.cells #[.int .i64 0,.slice none 0 0] 32)).heap.size = w.heap.size + 2:=by rw [ze,hs1]
 have t1:=zI w [.int .i64 next,.slice a l.length cap] 32
 have r1:=zh w [.int .i64 next,.slice a l.length cap] 32
 have b1:Below (w.heap.size + 1) (w.alloc (Obj.cells #[.int .i64 next,.slice a l.length cap] 32)) ((w.alloc (Obj.cells #[.int .i64 next,.slice a l.length cap] 32)).alloc (Obj.cells #[.int .i64 0,.slice none 0 0] 32)):=(Below.refl _ _).alloc (by rw [hs1]; omega) _
 have t2:=zI (w.alloc (Obj.cells #[.int .i64 next,.slice a l.length cap] 32)) [.int .i64 0,.slice none 0 0] 32
 rw [hs1] at t2
 have HX:Hid (_∧_∧_):=⟨zb r1 b1 (by omega),zf t1 b1 (by omega),t2⟩
 have HB0:Hid (Below w.heap.size w ((w.alloc (Obj.cells #[.int .i64 next,.slice a l.length cap] 32)).alloc (Obj.cells #[.int .i64 0,.slice none 0 0] 32))):=((Below.refl _ _).alloc (Nat.le_refl _) _).alloc (by rw [hs1]; omega) _
 have HS2:=hide hs2
 clear hc t1 r1 b1 t2 hs1 hs2
 go_enter Tryz.func38,Tryz.ntmps38
 rcases hs with hs | ⟨ad,nn,cc,hs⟩
 ·simp only [Value.slice.injEq] at hs
  obtain ⟨rfl,hl0,rfl⟩:=hs
  obtain rfl:=List.length_eq_zero_iff.1 hl0
  go_wp2_with (at_builtin; go_must (refine wpList_append_own_none rfl _ _ 30 rfl (w.heap.size + 2) 100 i0 6 Tryz.underlying30 hi0 (.slice none 0 0) 0 [] rfl (World.ownsRow_nil _ _ _ _) rfl ?_))
  go_returns
  refine ⟨_,rfl,World.ownsRow_nil _ _ _ _,?_⟩
  go_grown
 ·simp only [Value.slice.injEq] at hs
  obtain ⟨rfl,rfl,rfl⟩:=hs
  have HSRC:Hid (∀ j u,(l.flatMap Od.vs)[j]? = some u→World.cell? (((w.alloc (Obj.cells #[.int .i64 next,.slice (some ad) l.length cap] 32)).alloc (Obj.cells #[.int .i64 0,.slice none 0 0] 32))) (ad.add j) = some u):=rd_src (zj (za HR) (za HB0) (Nat.le_refl _))
  go_wp2_with (at_builtin; go_must (refine wpList_append_own _ rfl _ _ 30 rfl (w.heap.size + 2) 100 i0 _ 6 56 Tryz.underlying30 hi0 hz0 hz1 hz2 rfl (by decide) (.slice none 0 0) 0 [] rfl (World.ownsRow_nil _ _ _ _) ad l.length cap (l.flatMap Od.vs) rfl (by rw [zO Od.len]) (za HSRC) (zaE l) (by unfold maxLen; omega) (by omega) (by rw [za HS2]; omega) ?_); intro v3 w3 hown3 hg3 _; obtain ⟨a3,c3,rfl,ho3,c0,c1,f1,ht3,hb3,hs3⟩:=copy_mid rfl (za HB0) (za HS2) (za HX).1 (za HX).2.1 (za HX).2.2 hn hown3 hg3; have HO3:=hide ho3; have HT3:=hide ht3; have HB3:=hide hb3; obtain ⟨v0,z0,q0⟩:=zK ht3 0 (by omega); obtain ⟨v1,z1,q1⟩:=zK ht3 1 (by omega); clear ho3 ht3 hb3 hown3 hg3)
  have z0:w3.cell? ⟨w.heap.size + 1,0,none⟩ = some v0:=z0
  have z1:w3.cell? ⟨w.heap.size + 1,1,none⟩ = some v1:=by rw [Nat.zero_add] at z1; exact z1
  have q0:w3.frozen? ⟨w.heap.size + 1,0,none⟩ = false:=q0
  have q1:w3.frozen? ⟨w.heap.size + 1,1,none⟩ = false:=by rw [Nat.zero_add] at q1; exact q1
  have HRX:=hide (World.rangeAt_setCells_same (w3.setCell ⟨w.heap.size,1,none⟩ (.slice a3 l.length c3)) (w.heap.size + 1) 0 [.int .i64 next,.slice a3 l.length c3] (fun j hj=>(zad (za HT3)) j hj))
  have HOX:=hide (zat (zat (zat (za HO3) (b:=w.heap.size) (by omega) 1 (.slice a3 l.length c3)) (b:=w.heap.size + 1) (by omega) 0 (.int .i64 next)) (b:=w.heap.size + 1) (by omega) 1 (.slice a3 l.length c3))
  have HBX:=hide ((((za HB3).setCell (p:=⟨w.heap.size,1,none⟩) (Nat.le_refl _) (.slice a3 l.length c3)).setCell (p:=⟨w.heap.size + 1,0,none⟩) (by simp) (.int .i64 next)).setCell (p:=⟨w.heap.size + 1,1,none⟩) (by simp) (.slice a3 l.length c3))
  go_wp2_with fail
  have HRX:Hid (World.rangeAt (((w3.setCell ⟨w.heap.size,1,none⟩ (.slice a3 l.length c3)).setCell ⟨w.heap.size + 1,0,none⟩ (.int .i64 next)).setCell ⟨w.heap.size + 1,1,none⟩ (.slice a3 l.length c3)) (w.heap.size + 1) 0 [.int .i64 next,.slice a3 l.length c3]):=za HRX
  generalize (((w3.setCell ⟨w.heap.size,1,none⟩ (.slice a3 l.length c3)).setCell ⟨w.heap.size + 1,0,none⟩ (.int .i64 next)).setCell ⟨w.heap.size + 1,1,none⟩ (.slice a3 l.length c3)) = WE at HRX HOX HBX ⊢
  have d0:WE.cell? ⟨w.heap.size + 1,0,none⟩ = some (.int .i64 next):=za HRX 0 _ rfl
  have d1:WE.cell? ⟨w.heap.size + 1,1,none⟩ = some (.slice a3 l.length c3):=za HRX 1 _ rfl
  try simp only [Exit.inBlock,Exit.then]
  refine bodyPost_ret (by simp [results,Tryz.results38,go_sem,d0,d1]; try rfl) rfl ?_
  exact ⟨_,rfl,zaB (za HOX) (by omega),za HBX⟩
end Go.Proofs.YtdfihaabhichdaaGreat
