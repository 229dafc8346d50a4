/-
  The model's small functions over a book: who is better, the front, how many levels: proved by walking them.
-/
import Derived.Test.YtopjoogdpjaocaaGreatTj09
set_option linter.unusedVariables false
set_option maxHeartbeats 6400000
set_option maxRecDepth 100000
namespace Go.Proofs.YtopjoogdpjaocaaGreat
open Go.RowKit
def ahdB (a b:Od):Bool:=if a.ticks = b.ticks then decide (a.id < b.id) else (decide (b.ticks < a.ticks) == decide (a.side = 1))
theorem ahd_iff (a b:Od):ahdB a b = true ↔ ahd (decide (a.side = 1)) a b:=by
 unfold ahdB ahd
 by_cases h:a.ticks = b.ticks
 ·rw [if_pos h]
  simp only [decide_eq_true_eq]
  constructor
  ·exact fun h1=>.inr ⟨h,h1⟩
  ·rintro (h1 | h1)
   ·rw [h] at h1; exact absurd h1 (bt_irr _ _)
   ·exact h1.2
 ·rw [if_neg h]
  by_cases hs:a.side = 1
  ·simp only [hs,decide_true,beq_true,decide_eq_true_eq,bt]
   constructor
   ·exact fun h1=>.inl h1
   ·rintro (h1 | h1)
    ·exact h1
    ·exact absurd h1.1 h
  ·simp only [hs,decide_false,beq_false,Bool.not_eq_true',decide_eq_false_iff_not,bt]
   constructor
   ·exact fun h1=>.inl (by omega)
   ·rintro (h1 | h1)
    ·omega
    ·exact absurd h1.1 h
def FrPre (l:List Od) (sd:Int) (k:Nat) (best:Int):Prop :=
 (best = -1∧∀ j o,j < k→l[j]? = some o→o.side ≠ sd) ∨
 ∃ (i:Nat) (o:Od),best = i∧i < k∧l[i]? = some o∧o.side = sd∧∀ j o',j < k→l[j]? = some o'→o'.side = sd→j ≠ i→ahd (decide (sd = 1)) o o'
theorem frPre_skip {l:List Od} {sd:Int} {k:Nat} {best:Int} {c:Od} (h:FrPre l sd k best) (hc:l[k]? = some c) (hs:c.side ≠ sd):FrPre l sd (k + 1) best:=by
 rcases h with ⟨rfl,h⟩ | ⟨i,o,rfl,h1,h2,h3,h4⟩
 ·refine .inl ⟨rfl,fun j o hj ho=>?_⟩
  by_cases hjk:j = k
  ·subst hjk; rw [hc] at ho; obtain rfl:=Option.some.inj ho; exact hs
  ·exact h j o (by omega) ho
 ·refine .inr ⟨i,o,rfl,by omega,h2,h3,fun j o' hj ho hso hne=>?_⟩
  by_cases hjk:j = k
  ·subst hjk; rw [hc] at ho; obtain rfl:=Option.some.inj ho; exact absurd hso hs
  ·exact h4 j o' (by omega) ho hso hne
theorem frPre_first {l:List Od} {sd:Int} {k:Nat} {c:Od} (h:FrPre l sd k (-1)) (hc:l[k]? = some c) (hs:c.side = sd):FrPre l sd (k + 1) k:=by
 rcases h with ⟨_,h⟩ | ⟨i,o,h0,_⟩
 ·refine .inr ⟨k,c,rfl,by omega,hc,hs,fun j o' hj ho hso hne=>?_⟩
  exact absurd hso (h j o' (by omega) ho)
 ·omega
theorem rising_ne {l:List Od} (hr:zbc l) {i j:Nat} {a b:Od} (ha:l[i]? = some a) (hb:l[j]? = some b) (hne:i ≠ j):a.id ≠ b.id:=by
 obtain ⟨h1,rfl⟩:=List.getElem?_eq_some_iff.1 ha
 obtain ⟨h2,rfl⟩:=List.getElem?_eq_some_iff.1 hb
 have hp:=List.pairwise_iff_getElem.1 hr
 rcases Nat.lt_or_gt_of_ne hne with h | h
 ·have:=hp i j h1 h2 h; omega
 ·have:=hp j i h2 h1 h; omega
theorem frPre_better {l:List Od} {sd:Int} {k i:Nat} {c o:Od} (hr:zbc l) (h:FrPre l sd k i) (ho:l[i]? = some o) (hc:l[k]? = some c) (hs:c.side = sd) (hb:ahdB c o = true):FrPre l sd (k + 1) k:=by
 rcases h with ⟨h0,h⟩ | ⟨i',o',h0,h1,h2,h3,h4⟩
 ·omega
 ·obtain rfl:i = i':=by omega
  rw [ho] at h2; obtain rfl:=Option.some.inj h2
  have hco:ahd (decide (sd = 1)) c o:=by rw [← hs]; exact (ahd_iff c o).1 hb
  refine .inr ⟨k,c,rfl,by omega,hc,hs,fun j o' hj ho' hso hne=>?_⟩
  by_cases hji:j = i
  ·subst hji; rw [ho] at ho'; obtain rfl:=Option.some.inj ho'; exact hco
  ·exact ahd_trans hco (h4 j o' (by omega) ho' hso hji)
theorem frPre_worse {l:List Od} {sd:Int} {k i:Nat} {c o:Od} (hr:zbc l) (h:FrPre l sd k i) (ho:l[i]? = some o) (hc:l[k]? = some c) (hs:c.side = sd) (hb:ahdB c o = false):FrPre l sd (k + 1) i:=by
 rcases h with ⟨h0,h⟩ | ⟨i',o',h0,h1,h2,h3,h4⟩
 ·omega
 ·obtain rfl:i = i':=by omega
  rw [ho] at h2; obtain rfl:=Option.some.inj h2
  have hnco:¬ ahd (decide (sd = 1)) c o:=by rw [← hs]; intro hh; rw [(ahd_iff c o).2 hh] at hb; cases hb
  have hoc:ahd (decide (sd = 1)) o c:=by
   rcases ahd_total (s:=decide (sd = 1)) (rising_ne hr hc ho (by omega)) with hh | hh
   ·exact absurd hh hnco
   ·exact hh
  refine .inr ⟨i,o,rfl,by omega,ho,h3,fun j o' hj ho' hso hne=>?_⟩
  by_cases hjk:j = k
  ·subst hjk; rw [hc] at ho'; obtain rfl:=Option.some.inj ho'; exact hoc
  ·exact h4 j o' (by omega) ho' hso hne
def difB (c y:Od):Bool:=decide (y.side ≠ c.side) || decide (y.ticks ≠ c.ticks)
def zbT (c:Od) (L:List Od):Bool:=L.all (difB c)
theorem nlev_fresh (l:List Od) (x:Od):nlev (l ++ [x]) = nlev l + (zbT x l).toNat:=by
 rw [nlev_snoc]
 congr 1
 by_cases h:∃ y ∈ l,y.side = x.side∧y.ticks = x.ticks
 ·rw [if_pos h]
  have:zbT x l = false:=by
   obtain ⟨y,h1,h2,h3⟩:=h
   rw [zbT,List.all_eq_false]
   exact ⟨y,h1,by simp [difB,h2,h3]⟩
  rw [this]; rfl
 ·rw [if_neg h]
  have:zbT x l = true:=by
   rw [zbT,List.all_eq_true]
   intro y hy
   simp only [difB,ne_eq,Bool.or_eq_true,decide_eq_true_eq]
   by_cases h1:y.side = x.side
   ·exact .inr fun h2=>h ⟨y,hy,h1,h2⟩
   ·exact .inl h1
  rw [this]; rfl
theorem frPre_end {l:List Od} {sd:Int} {k:Int} (h:FrPre l sd l.length k):(k = -1∧∀ o ∈ l,o.side ≠ sd) ∨ ∃ (i:Nat) (o:Od),k = i∧i < l.length∧IsFront (decide (sd = 1)) l sd i o:=by
 rcases h with ⟨rfl,h⟩ | ⟨i,o,rfl,h1,h2,h3,h4⟩
 ·refine .inl ⟨rfl,fun o ho=>?_⟩
  obtain ⟨j,hj⟩:=List.mem_iff_getElem?.1 ho
  exact h j o (List.getElem?_eq_some_iff.1 hj).1 hj
 ·exact .inr ⟨i,o,rfl,h1,h2,h3,fun j o' ho hs hne=>h4 j o' (List.getElem?_eq_some_iff.1 ho).1 ho hs hne⟩
theorem front_head {s:Bool} {l:List Od} {sd:Int} (hr:zbc l):((quOf s (zz l sd)).head? = none∧∀ o ∈ l,o.side ≠ sd) ∨ ∃ i o,(quOf s (zz l sd)).head? = some o∧IsFront s l sd i o:=by
 cases h:(quOf s (zz l sd)).head? with
 | none=>exact .inl ⟨rfl,queue_none (zcm s _) h⟩
 | some o =>
  obtain ⟨i,hi⟩:=queue_front hr (zcm s _) h
  exact .inr ⟨i,o,rfl,hi⟩
def cmdI (c:Cm):Value:=if c.k = 1 then .iface 99 (noV c) else if c.k = 2 then .iface 102 (.agg #[.int .i64 c.i]) else if c.k = 3 then .iface 105 (.agg #[.int .i64 c.i,.int .i64 c.q]) else if c.k = 4 then .iface 108 (.agg #[]) else .nilIface
set_option maxHeartbeats 800000 in
theorem newOrderOf_any (c:Cm) (w:World) :
  Calls Tryz.prog 69 #[cmV c] w fun e w'=>e = .returned (noV c)∧Below w.heap.size w w':=by
 obtain ⟨k,s,t,l,q,i,p,g⟩:=c
 unfold cmV noV
 simp only
 have hsf:=sfl
 go_enter Tryz.func69,Tryz.ntmps69
 go_wp2_with fail
 go_returns
 exact ⟨rfl,by go_grown⟩
set_option maxHeartbeats 800000 in
theorem zag (c:Cm) (w:World) :
  Calls Tryz.prog 49 #[cmV c] w fun e w'=>e = .returned (cmdI c)∧Below w.heap.size w w':=by
 obtain ⟨k,s,t,l,q,i,p,g⟩:=c
 unfold cmV
 simp only
 by_cases h1:k = 1
 ·subst h1
  have HB1:Hid (Below w.heap.size w (w.alloc (Obj.cells #[.int .i64 1,.int .i64 s,.int .i64 t,.int .i64 l,.int .i64 q,.int .i64 i,.float .f64 p,.string g] 39))):=(Below.refl _ _).alloc (Nat.le_refl _) _
  go_enter Tryz.func49,Tryz.ntmps49
  go_wp2_with fail
  refine (newOrderOf_any ⟨1,s,t,l,q,i,p,g⟩ _).mono ?_
  rintro e w' ⟨rfl,hb⟩
  have HB2:=hide ((za HB1).trans (hb.mono (za HB1).size))
  clear hb
  go_wp2_with fail
  go_ret
  exact ⟨rfl,za HB2⟩
 have b1:(k == 1) = false:=by simpa using h1
 by_cases h2:k = 2
 ·subst h2
  go_enter Tryz.func49,Tryz.ntmps49
  go_wp2_with fail
  go_ret
  exact ⟨rfl,by go_grown⟩
 have b2:(k == 2) = false:=by simpa using h2
 by_cases h3:k = 3
 ·subst h3
  go_enter Tryz.func49,Tryz.ntmps49
  go_wp2_with fail
  go_ret
  exact ⟨rfl,by go_grown⟩
 have b3:(k == 3) = false:=by simpa using h3
 by_cases h4:k = 4
 ·subst h4
  go_enter Tryz.func49,Tryz.ntmps49
  go_wp2_with fail
  go_ret
  exact ⟨rfl,by go_grown⟩
 have b4:(k == 4) = false:=by simpa using h4
 have HC:Hid (cmdI ⟨k,s,t,l,q,i,p,g⟩ = .nilIface):=by show _ = _; simp [cmdI,h1,h2,h3,h4]
 go_enter Tryz.func49,Tryz.ntmps49
 go_wp2_with fail
 go_ret
 exact ⟨by rw [za HC]; rfl,by go_grown⟩
def plcF (id:Int):List Od→Nat→Int
 | [],_=>-1
 | o :: r,k=>if o.id = id then k else plcF id r (k + 1)
def plc (l:List Od) (id:Int):Int:=plcF id l 0
theorem plcF_spec (id:Int):∀ (l:List Od) (k:Nat),(plcF id l k = -1∧∀ o ∈ l,o.id ≠ id) ∨ ∃ i o,plcF id l k = ((k + i:Nat):Int)∧l[i]? = some o∧o.id = id∧∀ j o',j < i→l[j]? = some o'→o'.id ≠ id
 | [],k=>.inl ⟨rfl,by simp⟩
 | o :: r,k=>by
  by_cases h:o.id = id
  ·exact .inr ⟨0,o,by rw [plcF,if_pos h]; rfl,rfl,h,by simp⟩
  ·rcases plcF_spec id r (k + 1) with ⟨h1,h2⟩ | ⟨i,o',h1,h2,h3,h4⟩
   ·refine .inl ⟨by rw [plcF,if_neg h,h1],fun x hx=>?_⟩
    rcases List.mem_cons.1 hx with rfl | hx
    ·exact h
    ·exact h2 x hx
   ·refine .inr ⟨i + 1,o',by rw [plcF,if_neg h,h1]; congr 1; omega,h2,h3,fun j x hj hx=>?_⟩
    cases j with
    | zero=>simp at hx; subst hx; exact h
    | succ j=>exact h4 j x (by omega) (by simpa using hx)
theorem drop_get {l:List Od} {k:Nat} {c:Od} (h:l[k]? = some c):l.drop k = c :: l.drop (k + 1):=by
 obtain ⟨h1,rfl⟩:=List.getElem?_eq_some_iff.1 h
 exact List.drop_eq_getElem_cons h1
set_option maxHeartbeats 400000 in
theorem place1_any (o:Od) (B:Nat) (id:Int) (w:World) (hB:w.cell? ⟨B,0,none⟩ = some (.int .i64 id)) :
  Calls Tryz.prog 99 #[.agg #[.int .i64 o.id,.int .i64 o.side,.int .i64 o.ticks,.int .i64 o.left,.int .i64 o.life,.string o.tag],.pointer (some ⟨B,0,none⟩)] w fun e w'=>e = .returned (.bool (o.id == id))∧Below w.heap.size w w':=by
 obtain ⟨oid,side,ticks,left,life,tag⟩:=o
 simp only
 have hB':(w.alloc (Obj.cells #[.int .i64 oid,.int .i64 side,.int .i64 ticks,.int .i64 left,.int .i64 life,.string tag] 78)).cell? ⟨B,0,none⟩ = some (.int .i64 id):=(World.cell?_alloc_lt _ _ ⟨B,0,none⟩ (World.block_lt_of_cell? w _ hB)).trans hB
 go_enter Tryz.func99,Tryz.ntmps99
 go_wp2_with fail
 go_ret
 exact ⟨rfl,by go_grown⟩
set_option maxRecDepth 100000 in
set_option maxHeartbeats 800000 in
theorem indexFunc_any (v:Value) (l:List Od) (B:Nat) (id:Int) (w:World) (hr:RdR Od.vs 6 w v l) (hB:w.cell? ⟨B,0,none⟩ = some (.int .i64 id)) :
  Calls Tryz.prog 98 #[v,.func (.func 99) #[] #[.pointer (some ⟨B,0,none⟩)]] w fun e w'=>e = .returned (.int .i64 (plc l id))∧Below w.heap.size w w':=by
 obtain ⟨a,cap,rfl,hlen,hc⟩:=hr
 have hcell:∀ (k:Nat) (c:Od),l[k]? = some c→∃ b off,a = some ⟨b,off,none⟩∧b < w.heap.size∧w.rangeAt b (off + k * 6) c.vs:=by
  intro k c hk
  obtain ⟨b,off,h1,h2,h3⟩:=hc (by intro h; rw [h] at hk; simp at hk)
  exact ⟨b,off,h1,h2,h3 k c hk⟩
 have HC:=hide hcell
 have HBC:=hide hB
 have hBl:=World.block_lt_of_cell? w _ hB
 simp only at hBl
 clear hcell hc hB
 go_enter Tryz.func98,Tryz.ntmps98
 go_wp2_with fail
 go_loopw [8] (fun iv wr=>∃ (k:Nat),k ≤ l.length∧iv = .int .i64 k∧Hid (plc l id = plcF id (l.drop k) k)∧Below w.heap.size w wr) (fun iv _=>l.length - (intOf iv).toNat)
 case atStart=>exact ⟨0,Nat.zero_le _,rfl,rfl,Below.refl _ _⟩
 case round =>
  obtain ⟨k,hk,rfl,hpl,hbel⟩:=hrel
  have HB:=hide hbel
  clear hbel
  by_cases hlt:k < l.length
  ·obtain ⟨c,hkc⟩:∃ c,l[k]? = some c:=⟨_,List.getElem?_eq_getElem hlt⟩
   have HP:Hid (plc l id = if c.id = id then (k:Int) else plcF id (l.drop (k + 1)) (k + 1)):=by
    have:=za hpl
    rw [drop_get hkc] at this
    exact this
   obtain ⟨b,off,rfl,hb,hcl⟩:=za HC k c hkc
   obtain ⟨g0,g1,g2,g3,g4,g5⟩:=zD (zb hcl (za HB) hb)
   have hlt':(k:Int) < l.length:=by omega
   have HBX:=hide (((za HB).cell (p:=⟨B,0,none⟩) hBl).trans (za HBC))
   clear hkc hcl hb hpl
   go_wp2_with fail
   refine (place1_any c B id wr (za HBX)).mono ?_
   rintro e w3 ⟨rfl,hb3⟩
   have HB3:=hide ((za HB).trans (hb3.mono (za HB).size))
   clear hb3
   by_cases hid:c.id = id
   ·have hb:(c.id == id) = true:=by simpa using hid
    have HK:Hid (plc l id = k):=by have:=za HP; rw [if_pos hid] at this; exact this
    clear hid
    go_wp2_with fail
    go_ret
    exact ⟨zr (za HK).symm,za HB3⟩
   ·have hb:(c.id == id) = false:=by simpa using hid
    have HK:Hid (plc l id = plcF id (l.drop (k + 1)) (k + 1)):=by have:=za HP; rw [if_neg hid] at this; exact this
    clear hid
    go_wp2_with fail
    go_roundw
    case rel=>exact ⟨k + 1,by omega,by go_num,za HK,za HB3⟩
    case measure=>simp [intOf]; omega
  ·have HK:Hid (plc l id = -1):=by
    have h:=za hpl
    rw [List.drop_of_length_le (by omega)] at h
    exact h
   go_wp2_with fail
   go_ret
   exact ⟨zr (za HK).symm,za HB⟩
set_option maxHeartbeats 800000 in
theorem zbo (next:Int) (v:Value) (l:List Od) (id:Int) (w:World) (hr:RdR Od.vs 6 w v l) :
  Calls Tryz.prog 74 #[.agg #[.int .i64 next,v],.int .i64 id] w fun e w'=>e = .returned (.int .i64 (plc l id))∧Below w.heap.size w w':=by
 have HR:=hide hr
 obtain ⟨a,cap,rfl,hlen,hc⟩:=hr
 have hmf:∀ (fn:Fn) (first cap:Array Value) (w:World),(Instr.makeFunc fn first cap).run Tryz.prog w = .ok (.func fn first cap) w:=fun _ _ _ _=>rfl
 have hs1:(w.alloc (Obj.cells #[.int .i64 next,.slice a l.length cap] 46)).heap.size = w.heap.size + 1:=ze _ _
 have r1:=zh (w.alloc (Obj.cells #[.int .i64 next,.slice a l.length cap] 46)) [.int .i64 id] 3
 rw [hs1] at r1
 have HX:=hide (r1 0 _ rfl)
 have HB0:Hid (Below w.heap.size w ((w.alloc (Obj.cells #[.int .i64 next,.slice a l.length cap] 46)).alloc (Obj.cells #[.int .i64 id] 3))):=((Below.refl _ _).alloc (Nat.le_refl _) _).alloc (by rw [hs1]; omega) _
 clear hc r1 hs1
 go_enter Tryz.func74,Tryz.ntmps74
 go_wp2_with fail
 have HX:Hid (World.cell? ((w.alloc (Obj.cells #[.int .i64 next,.slice a l.length cap] 46)).alloc (Obj.cells #[.int .i64 id] 3)) ⟨w.heap.size + 1,0,none⟩ = some (.int .i64 id)):=za HX
 generalize ((w.alloc (Obj.cells #[.int .i64 next,.slice a l.length cap] 46)).alloc (Obj.cells #[.int .i64 id] 3)) = W2 at HX HB0 ⊢
 refine (indexFunc_any _ l (w.heap.size + 1) id W2 (zl (za HR) (za HB0) (Nat.le_refl _)) (za HX)).mono ?_
 rintro e w3 ⟨rfl,hb3⟩
 have HB3:=hide ((za HB0).trans (hb3.mono (za HB0).size))
 clear hb3
 go_wp2_with fail
 go_ret
 exact ⟨rfl,za HB3⟩
def fdyF:List Od→Nat→Int
 | [],_=>-1
 | o :: r,k=>if o.life = 1 then k else fdyF r (k + 1)
def fdy (l:List Od):Int:=fdyF l 0
set_option maxHeartbeats 400000 in
theorem zcl (o:Od) (w:World) :
  Calls Tryz.prog 76 #[.agg #[.int .i64 o.id,.int .i64 o.side,.int .i64 o.ticks,.int .i64 o.left,.int .i64 o.life,.string o.tag]] w fun e w'=>e = .returned (.bool (o.life == 1))∧Below w.heap.size w w':=by
 obtain ⟨oid,side,ticks,left,life,tag⟩:=o
 simp only
 go_enter Tryz.func76,Tryz.ntmps76
 go_wp2_with fail
 go_ret
 exact ⟨rfl,by go_grown⟩
set_option maxRecDepth 100000 in
set_option maxHeartbeats 800000 in
theorem indexDay_any (v:Value) (l:List Od) (w:World) (hr:RdR Od.vs 6 w v l) :
  Calls Tryz.prog 98 #[v,.func (.func 76) #[] #[]] w fun e w'=>e = .returned (.int .i64 (fdy l))∧Below w.heap.size w w':=by
 obtain ⟨a,cap,rfl,hlen,hc⟩:=hr
 have hcell:∀ (k:Nat) (c:Od),l[k]? = some c→∃ b off,a = some ⟨b,off,none⟩∧b < w.heap.size∧w.rangeAt b (off + k * 6) c.vs:=by
  intro k c hk
  obtain ⟨b,off,h1,h2,h3⟩:=hc (by intro h; rw [h] at hk; simp at hk)
  exact ⟨b,off,h1,h2,h3 k c hk⟩
 have HC:=hide hcell
 clear hcell hc
 go_enter Tryz.func98,Tryz.ntmps98
 go_wp2_with fail
 go_loopw [8] (fun iv wr=>∃ (k:Nat),k ≤ l.length∧iv = .int .i64 k∧Hid (fdy l = fdyF (l.drop k) k)∧Below w.heap.size w wr) (fun iv _=>l.length - (intOf iv).toNat)
 case atStart=>exact ⟨0,Nat.zero_le _,rfl,rfl,Below.refl _ _⟩
 case round =>
  obtain ⟨k,hk,rfl,hpl,hbel⟩:=hrel
  have HB:=hide hbel
  clear hbel
  by_cases hlt:k < l.length
  ·obtain ⟨c,hkc⟩:∃ c,l[k]? = some c:=⟨_,List.getElem?_eq_getElem hlt⟩
   have HP:Hid (fdy l = if c.life = 1 then (k:Int) else fdyF (l.drop (k + 1)) (k + 1)):=by
    have:=za hpl
    rw [drop_get hkc] at this
    exact this
   obtain ⟨b,off,rfl,hb,hcl⟩:=za HC k c hkc
   obtain ⟨g0,g1,g2,g3,g4,g5⟩:=zD (zb hcl (za HB) hb)
   have hlt':(k:Int) < l.length:=by omega
   clear hkc hcl hb hpl
   go_wp2_with fail
   refine (zcl c wr).mono ?_
   rintro e w3 ⟨rfl,hb3⟩
   have HB3:=hide ((za HB).trans (hb3.mono (za HB).size))
   clear hb3
   by_cases hid:c.life = 1
   ·have hb:(c.life == 1) = true:=by simpa using hid
    have HK:Hid (fdy l = k):=by have:=za HP; rw [if_pos hid] at this; exact this
    clear hid
    go_wp2_with fail
    go_ret
    exact ⟨zr (za HK).symm,za HB3⟩
   ·have hb:(c.life == 1) = false:=by simpa using hid
    have HK:Hid (fdy l = fdyF (l.drop (k + 1)) (k + 1)):=by have:=za HP; rw [if_neg hid] at this; exact this
    clear hid
    go_wp2_with fail
    go_roundw
    case rel=>exact ⟨k + 1,by omega,by go_num,za HK,za HB3⟩
    case measure=>simp [intOf]; omega
  ·have HK:Hid (fdy l = -1):=by
    have h:=za hpl
    rw [List.drop_of_length_le (by omega)] at h
    exact h
   go_wp2_with fail
   go_ret
   exact ⟨zr (za HK).symm,za HB⟩
abbrev ORow (W:World) (B:Nat) (v:Value) (l:List Od):Prop:=W.ownsRow B 78 6 v l.length (l.flatMap Od.vs)
theorem zM {W:World} {B:Nat} {v:Value} {l:List Od} (h:ORow W B v l) (hl:l.length ≤ 1073741824):RdR Od.vs 6 W v l:=zcp (zaX Od.len hl h)
theorem cellsQ (w:World) (cs:List Value) (t:TypeId) (j:Nat) (u:Value) (h:cs[j]? = some u):(w.alloc (Obj.cells cs.toArray t)).cell? ((⟨w.heap.size,0,none⟩:Addr).add j) = some u:=by
 rw [Addr.add_mid,cell_of_row _ w.heap.size (0 + j) cs.toArray t (0,0) (heap_alloc_new w _)]
 simpa using h
theorem zbq {W:World} {g off:Nat} {l:List Od} (h:∀ i c,l[i]? = some c→W.rangeAt g (off + i * 6) c.vs) (a n:Nat):∀ j u,(((l.drop a).take n).flatMap Od.vs)[j]? = some u→W.cell? ((⟨g,off + a * 6,none⟩:Addr).add j) = some u:=by
 intro j u hu
 have hlt:=(List.getElem?_eq_some_iff.1 hu).1
 rw [zJ Od.len] at hlt
 have hq:j / 6 < ((l.drop a).take n).length:=by omega
 obtain ⟨c,hc⟩:∃ c,((l.drop a).take n)[j / 6]? = some c:=⟨_,List.getElem?_eq_getElem hq⟩
 have h1:=flat_get Od.len _ (j / 6) (j % 6) c hc (by omega)
 rw [show j / 6 * 6 + j % 6 = j by omega,hu] at h1
 have hc':l[a + j / 6]? = some c:=by
  rw [List.getElem?_take] at hc
  split at hc
  ·rw [List.getElem?_drop] at hc; exact hc
  ·cases hc
 have:=h _ c hc' (j % 6) u h1.symm
 rw [Addr.add_mid]
 rw [show off + (a + j / 6) * 6 + j % 6 = off + a * 6 + j by omega] at this
 exact this
theorem zaF (l:List Od):∀ u ∈ l.flatMap Od.vs,u.oneCell' = true:=by
 intro u hu
 obtain ⟨o,_,ho⟩:=List.mem_flatMap.1 hu
 simp [Od.vs] at ho
 rcases ho with rfl | rfl | rfl | rfl | rfl | rfl <;> rfl
structure R7 (LV:Value) (W0:World) (C:Nat→Value→Prop) (L1 L2:List Od) (x:List Bool) (f:Nat→Value) (W:World):Prop where
 bel:Below W0.heap.size W0 W
 c:∀ j,x[j]? = some true→C j (f j)
 s5:x[10]? = some false→f 10 = LV
 m0:x[0]? = some true→x[4]? = some false→ORow W W0.heap.size (f 0) []
 m4:x[4]? = some true→x[9]? = some false→ORow W W0.heap.size (f 4) L1
 m9:x[9]? = some true→ORow W W0.heap.size (f 9) L2
 m10:x[10]? = some true→f 10 = f 9
 o4:x[4]? = some true→x[0]? = some true
 o9:x[9]? = some true→x[4]? = some true
 o10:x[10]? = some true→∀ j,j < 10→x[j]? = some true
theorem gq {x:List Bool} {i j:Nat} (h:i ≠ j):(x.set i true)[j]? = x[j]?:=List.getElem?_set_ne h
theorem set_mono {x:List Bool} {i j:Nat} (h:x[j]? = some true):(x.set i true)[j]? = some true:=by
 by_cases hij:i = j
 ·subst hij; exact List.getElem?_set_self (List.getElem?_eq_some_iff.1 h).1
 ·rw [List.getElem?_set_ne hij]; exact h
theorem gqs {x:List Bool} {i:Nat} (h:x[i]? = some false):(x.set i true)[i]? = some true:=List.getElem?_set_self (List.getElem?_eq_some_iff.1 h).1
section
variable {LV:Value} {W0 W W':World} {C:Nat→Value→Prop} {L1 L2:List Od} {x:List Bool} {f:Nat→Value}
theorem zbd (h:R7 LV W0 C L1 L2 x f W) (i:Nat) (v:Value) (hv:C i v) (h0:i ≠ 0) (h4:i ≠ 4) (h9:i ≠ 9) (h10:i ≠ 10):R7 LV W0 C L1 L2 (x.set i true) (upd f i v) W:=by
 refine ⟨h.bel,zv h.c hv,?_,?_,?_,?_,?_,?_,?_,?_⟩ <;> simp only [gq h0,gq h4,gq h9,gq h10,zq f v h0.symm,zq f v h4.symm,zq f v h9.symm,zq f v h10.symm]
 ·exact h.s5
 ·exact h.m0
 ·exact h.m4
 ·exact h.m9
 ·exact h.m10
 ·exact h.o4
 ·exact h.o9
 ·exact fun e j hj=>set_mono (h.o10 e j hj)
theorem no_of {b:Option Bool} (h:b = some false):b ≠ some true:=by rw [h]; simp
theorem r7_0 (h:R7 LV W0 C L1 L2 x f W) (h0:x[0]? = some false) (hv:∀ v,C 0 v):R7 LV W0 C L1 L2 (x.set 0 true) (upd f 0 (.slice (some ⟨W.heap.size,0,none⟩) 0 0)) (W.alloc (Obj.cells #[] 78)):=by
 have n4:x[4]? ≠ some true:=fun e=>no_of h0 (h.o4 e)
 have n9:x[9]? ≠ some true:=fun e=>n4 (h.o9 e)
 have n10:x[10]? ≠ some true:=fun e=>n9 (h.o10 e 9 (by omega))
 refine ⟨h.bel.alloc h.bel.size _,zv h.c (hv _),?_,?_,?_,?_,?_,?_,?_,?_⟩ <;> try simp only [gq (show 0 ≠ 4 by decide),gq (show 0 ≠ 9 by decide),gq (show 0 ≠ 10 by decide),zq f _ (show 10 ≠ 0 by decide),zq f _ (show 9 ≠ 0 by decide),zq f _ (show 4 ≠ 0 by decide)]
 ·exact h.s5
 ·intro _ _; rw [zp]; exact World.ownsRow_made W #[] 0 h.bel.size (by decide) rfl
 ·exact fun e=>absurd e n4
 ·exact fun e=>absurd e n9
 ·exact fun e=>absurd e n10
 ·exact fun e=>absurd e n4
 ·exact h.o9
 ·exact fun e j hj=>set_mono (h.o10 e j hj)
theorem r7_4 (h:R7 LV W0 C L1 L2 x f W) (h0:x[0]? = some true) (h4:x[4]? = some false) (hv:∀ v,C 4 v) {v':Value} (ho:ORow W' W0.heap.size v' L1) (hg:W.grownBy W' (f 0).ownBlock):R7 LV W0 C L1 L2 (x.set 4 true) (upd f 4 v') W':=by
 have n9:x[9]? ≠ some true:=fun e=>no_of h4 (h.o9 e)
 have n10:x[10]? ≠ some true:=fun e=>n9 (h.o10 e 9 (by omega))
 refine ⟨h.bel.grown hg h.bel.size (fun k hk=>((h.m0 h0 h4).lt k hk).1),zv h.c (hv _),?_,?_,?_,?_,?_,?_,?_,?_⟩ <;> try simp only [gq (show 4 ≠ 0 by decide),gq (show 4 ≠ 9 by decide),gq (show 4 ≠ 10 by decide),zq f _ (show 10 ≠ 4 by decide),zq f _ (show 9 ≠ 4 by decide),zq f _ (show 0 ≠ 4 by decide)]
 ·exact h.s5
 ·intro _ e; rw [gqs h4] at e; cases e
 ·intro _ _; rw [zp]; exact ho
 ·exact fun e=>absurd e n9
 ·exact fun e=>absurd e n10
 ·exact fun _=>h0
 ·exact fun e=>absurd e n9
 ·exact fun e j hj=>set_mono (h.o10 e j hj)
theorem r7_9 (h:R7 LV W0 C L1 L2 x f W) (h4:x[4]? = some true) (h9:x[9]? = some false) (hv:∀ v,C 9 v) {v':Value} (ho:ORow W' W0.heap.size v' L2) (hg:W.grownBy W' (f 4).ownBlock):R7 LV W0 C L1 L2 (x.set 9 true) (upd f 9 v') W':=by
 have n10:x[10]? ≠ some true:=fun e=>no_of h9 (h.o10 e 9 (by omega))
 refine ⟨h.bel.grown hg h.bel.size (fun k hk=>((h.m4 h4 h9).lt k hk).1),zv h.c (hv _),?_,?_,?_,?_,?_,?_,?_,?_⟩ <;> try simp only [gq (show 9 ≠ 0 by decide),gq (show 9 ≠ 4 by decide),gq (show 9 ≠ 10 by decide),zq f _ (show 10 ≠ 9 by decide),zq f _ (show 4 ≠ 9 by decide),zq f _ (show 0 ≠ 9 by decide)]
 ·exact h.s5
 ·exact fun _ e=>absurd e (by rw [h4]; simp)
 ·intro _ e; rw [gqs h9] at e; cases e
 ·intro _; rw [zp]; exact ho
 ·exact fun e=>absurd e n10
 ·exact h.o4
 ·exact fun _=>h4
 ·exact fun e=>absurd e n10
theorem r7_10 (h:R7 LV W0 C L1 L2 x f W) (hA:∀ j,j < 10→x[j]? = some true) (h10:x[10]? = some false) (hv:∀ v,C 10 v):R7 LV W0 C L1 L2 (x.set 10 true) (upd f 10 (f 9)) W:=by
 refine ⟨h.bel,zv h.c (hv _),?_,?_,?_,?_,?_,?_,?_,?_⟩ <;> try simp only [gq (show 10 ≠ 0 by decide),gq (show 10 ≠ 4 by decide),gq (show 10 ≠ 9 by decide),zq f _ (show 9 ≠ 10 by decide),zq f _ (show 4 ≠ 10 by decide),zq f _ (show 0 ≠ 10 by decide)]
 ·intro e; rw [gqs h10] at e; cases e
 ·exact h.m0
 ·exact h.m4
 ·exact h.m9
 ·exact fun _=>zp _ _ _
 ·exact h.o4
 ·exact h.o9
 ·exact fun _ j hj=>set_mono (hA j hj)
end
def C7 (LV:Value) (g n cp i:Nat):Nat→Value→Prop
 | 1,v=>v = LV
 | 2,v=>v = .int .i64 i
 | 3,v=>v = .slice (some ⟨g,0,none⟩) i cp
 | 5,v=>v = LV
 | 6,v=>v = .int .i64 i
 | 7,v=>v = .int .i64 ((i:Int) + 1)
 | 8,v=>∃ ad c,v = .slice (some ad) (n - (i + 1)) c∧(i + 1 < n→ad = ⟨g,(i + 1) * 6,none⟩)
 | _,_=>True
def R7A (LV:Value) (W0:World) (C:Nat→Value→Prop) (L1 L2:List Od) (F:(Nat→Value)→Act) (x:List Bool) (A:Act) (W:World):Prop:=∃ f,A = F f∧R7 LV W0 C L1 L2 x f W
theorem zbB {W:World} {B:Nat} {v:Value} {l:List Od} (h:ORow W B v l) (hne:l ≠ []):∃ g cap,v = .slice (some ⟨g,0,none⟩) l.length cap∧l.length ≤ cap∧B ≤ g∧g < W.heap.size:=by
 rcases h.2 with ⟨rfl,h0⟩ | ⟨g,cap,cur,rfl,hb,hg,hcap,_⟩
 ·exact absurd (List.length_eq_zero_iff.1 h0) hne
 ·exact ⟨g,cap,rfl,hcap,hb,(Array.getElem?_eq_some_iff.1 hg).1⟩
end Go.Proofs.YtopjoogdpjaocaaGreat
