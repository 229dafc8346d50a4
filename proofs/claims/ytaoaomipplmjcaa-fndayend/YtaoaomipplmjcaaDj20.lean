/-
  The model's small functions over a book: who is better, the front, how many levels: proved by walking them.
-/
import Derived.Test.YtaoaomipplmjcaaDj07
import Derived.Test.YtaoaomipplmjcaaDj18
import Derived.Test.YtaoaomipplmjcaaDj19
import Derived.BigQuiet
namespace Go.Proofs.Ytaoaomipplmjcaa
open Go.RowKit
set_option linter.unusedVariables false

end Go.Proofs.Ytaoaomipplmjcaa
namespace Go.Proofs.Ytaoaomipplmjcaa
open Go.RowKit
set_option linter.unusedVariables false

end Go.Proofs.Ytaoaomipplmjcaa
namespace Go.Proofs.Ytaoaomipplmjcaa
open Go.RowKit
set_option linter.unusedVariables false

def allR (next:Int):Int→List Od→Bool
  | _,[]=>true
  | last,o :: r=>ordB o && decide (last < o.id) && decide (o.id < next) && allR next o.id r
theorem zba {next:Int}:∀ {l:List Od} {last:Int},allR next last l = true→zaE l∧∀ o ∈ l,last < o.id
  | [],_,_=>⟨by simp [zaE],by simp⟩
  | a :: r,last,h=>by
    simp only [allR,Bool.and_eq_true,decide_eq_true_eq] at h
    obtain ⟨ih1,ih2⟩:=zba h.2
    refine ⟨List.pairwise_cons.2 ⟨ih2,ih1⟩,fun o ho=>?_⟩
    rcases List.mem_cons.1 ho with rfl | ho
    · exact h.1.1.2
    · have:=ih2 o ho; have:=h.1.1.2; omega
theorem zbu {next:Int}:∀ {l:List Od} {last:Int},allR next last l = true→∀ o ∈ l,ordB o = true
  | [],_,_=>by simp
  | a :: r,last,h=>by
    simp only [allR,Bool.and_eq_true,decide_eq_true_eq] at h
    intro o ho
    rcases List.mem_cons.1 ho with rfl | ho
    · exact h.1.1.1
    · exact zbu h.2 o ho
def xB (a b:Od):Bool:=!(decide (a.side = 1) && decide (b.side = 2)) || decide (a.ticks < b.ticks)
def noX (l:List Od):Bool:=l.all fun a=>l.all fun b=>xB a b
theorem noX_iff (l:List Od):noX l = true ↔ ∀ a ∈ l,a.side = 1→∀ b ∈ l,b.side = 2→a.ticks < b.ticks:=by
  simp only [noX,List.all_eq_true,xB,Bool.or_eq_true,Bool.not_eq_true',Bool.and_eq_false_iff,decide_eq_false_iff_not,decide_eq_true_eq]
  constructor
  · intro h a ha h1 b hb h2
    rcases h a ha b hb with (h3 | h3) | h3
    · exact absurd h1 h3
    · exact absurd h2 h3
    · exact h3
  · intro h a ha b hb
    by_cases h1:a.side = 1
    · by_cases h2:b.side = 2
      · exact .inr (h a ha h1 b hb h2)
      · exact .inl (.inr h2)
    · exact .inl (.inl h1)
theorem noX_none1 {l:List Od} (h:∀ o ∈ l,o.side ≠ 1):noX l = true:=(noX_iff l).2 fun a ha h1=>absurd h1 (h a ha)
theorem noX_none2 {l:List Od} (h:∀ o ∈ l,o.side ≠ 2):noX l = true:=(noX_iff l).2 fun a ha h1 b hb h2=>absurd h2 (h b hb)
theorem noX_fronts {l:List Od} {i j:Nat} {a b:Od} (ha:IsFront true l 1 i a) (hb:IsFront false l 2 j b):noX l = decide (a.ticks < b.ticks):=by
  rw [Bool.eq_iff_iff,noX_iff,decide_eq_true_eq]
  constructor
  · exact fun h=>h a (List.mem_of_getElem? ha.1) ha.2.1 b (List.mem_of_getElem? hb.1) hb.2.1
  · intro h x hx h1 y hy h2
    obtain ⟨m,hm⟩:=List.mem_iff_getElem?.1 hx
    obtain ⟨n,hn⟩:=List.mem_iff_getElem?.1 hy
    have hxa:x.ticks ≤ a.ticks:=by
      by_cases hmi:m = i
      · subst hmi; rw [ha.1] at hm; obtain rfl:=Option.some.inj hm; exact Int.le_refl _
      · rcases ha.2.2 m x hm h1 hmi with h3 | h3
        · simp only [bt] at h3; omega
        · omega
    have hyb:b.ticks ≤ y.ticks:=by
      by_cases hnj:n = j
      · subst hnj; rw [hb.1] at hn; obtain rfl:=Option.some.inj hn; exact Int.le_refl _
      · rcases hb.2.2 n y hn h2 hnj with h3 | h3
        · simp only [bt] at h3; omega
        · omega
    omega
def okS (next:Int) (l:List Od):Bool:=betB next 1 1000000 && decide (l.length ≤ 20) && allR next 0 l && (decide (nlev l ≤ 8) && noX l)
end Go.Proofs.Ytaoaomipplmjcaa
namespace Go.Proofs.Ytaoaomipplmjcaa
open Go.RowKit
set_option linter.unusedVariables false

theorem allR_eq (next:Int):∀ (l:List Od) (last:Int),allR next last l = (idsR next last l && l.all ordB)
  | [],_=>rfl
  | a :: r,last=>by
    rw [allR,idsR,List.all_cons,allR_eq next r a.id]
    cases ordB a <;> cases decide (last < a.id) <;> cases decide (a.id < next) <;> simp
theorem front_head {s:Bool} {l:List Od} {sd:Int} (hr:zaE l):((quOf s (zg l sd)).head? = none∧∀ o ∈ l,o.side ≠ sd) ∨ ∃ i o,(quOf s (zg l sd)).head? = some o∧IsFront s l sd i o:=by
  cases h:(quOf s (zg l sd)).head? with
  | none=>exact .inl ⟨rfl,queue_none (zbc s _) h⟩
  | some o =>
    obtain ⟨i,hi⟩:=queue_front hr (zbc s _) h
    exact .inr ⟨i,o,rfl,hi⟩
theorem meet_noX {l:List Od} (hr:zaE l):(!meetB (quOf true (zg l 1)) (quOf false (zg l 2))) = noX l:=by
  rcases front_head (s:=true) (sd:=1) hr with ⟨h1,hn⟩ | ⟨i,a,h1,hf1⟩
  · rw [noX_none1 hn]; simp [meetB,hdF,h1]
  · rcases front_head (s:=false) (sd:=2) hr with ⟨h2,hn⟩ | ⟨j,b,h2,hf2⟩
    · rw [noX_none2 hn]; simp [meetB,hdF,h2]
    · rw [noX_fronts hf1 hf2]
      simp only [meetB,hdF,hdO,h1,h2,Option.isSome_some,Option.getD_some,Bool.true_and]
      rw [Bool.eq_iff_iff]; simp
theorem okI_eq (next:Int) (l:List Od):okI next l = okS next l:=by
  unfold okI okS
  rw [allR_eq]
  cases h:(idsR next 0 l && l.all ordB)
  · rw [Bool.and_assoc (betB next 1 1000000 && decide (l.length ≤ 20)) (idsR next 0 l),h]; simp
  · have hall:allR next 0 l = true:=by rw [allR_eq]; exact h
    have hr:=(zba hall).1
    have hs:∀ o ∈ l,o.side = 1 ∨ o.side = 2:=fun o ho=>by
      have:=zbu hall o ho
      simp [ordB,betB] at this
      omega
    rw [Bool.and_assoc (betB next 1 1000000 && decide (l.length ≤ 20)) (idsR next 0 l),h,meet_noX hr]
    have:=nlev_eq hs (zbc true _) (zbc false _)
    rw [zak,zak,List.length_map,List.length_map,this]
end Go.Proofs.Ytaoaomipplmjcaa
namespace Go.Proofs.Ytaoaomipplmjcaa
open Go.RowKit
set_option linter.unusedVariables false

def cmdI (c:Cm):Value:=if c.k = 1 then .iface 74 (noV c) else if c.k = 2 then .iface 77 (.agg #[.int .i64 c.i]) else if c.k = 3 then .iface 80 (.agg #[.int .i64 c.i,.int .i64 c.q]) else if c.k = 4 then .iface 83 (.agg #[]) else .nilIface
set_option maxHeartbeats 800000 in
theorem newOrderOf_any (c:Cm) (w:World) :
  Calls Try.prog 42 #[cmV c] w fun e w'=>e = .returned (noV c)∧Below w.heap.size w w':=by
 obtain ⟨k,s,t,l,q,i,p,g⟩:=c
 unfold cmV noV
 simp only
 have hsf:=sfl
 go_enter Try.func42,Try.ntmps42
 go_wp2_with fail
 go_returns
 exact ⟨rfl,by go_grown⟩
set_option maxHeartbeats 800000 in
theorem zL (c:Cm) (w:World) :
  Calls Try.prog 24 #[cmV c] w fun e w'=>e = .returned (cmdI c)∧Below w.heap.size w w':=by
 obtain ⟨k,s,t,l,q,i,p,g⟩:=c
 unfold cmV
 simp only
 by_cases h1:k = 1
 ·subst h1
  have HB1:Hid (Below w.heap.size w (w.alloc (Obj.cells #[.int .i64 1,.int .i64 s,.int .i64 t,.int .i64 l,.int .i64 q,.int .i64 i,.float .f64 p,.string g] 32))):=(Below.refl _ _).alloc (Nat.le_refl _) _
  go_enter Try.func24,Try.ntmps24
  go_wp2_with fail
  refine (newOrderOf_any ⟨1,s,t,l,q,i,p,g⟩ _).mono ?_
  rintro e w' ⟨rfl,hb⟩
  have HB2:=hide ((za HB1).trans (hb.mono (za HB1).size))
  clear hb
  go_wp2_with fail
  go_ret
  exact ⟨rfl,za HB2⟩
 have b1:(k == 1) = false:=by simpa using h1
 by_cases h2:k = 2
 ·subst h2
  go_enter Try.func24,Try.ntmps24
  go_wp2_with fail
  go_ret
  exact ⟨rfl,by go_grown⟩
 have b2:(k == 2) = false:=by simpa using h2
 by_cases h3:k = 3
 ·subst h3
  go_enter Try.func24,Try.ntmps24
  go_wp2_with fail
  go_ret
  exact ⟨rfl,by go_grown⟩
 have b3:(k == 3) = false:=by simpa using h3
 by_cases h4:k = 4
 ·subst h4
  go_enter Try.func24,Try.ntmps24
  go_wp2_with fail
  go_ret
  exact ⟨rfl,by go_grown⟩
 have b4:(k == 4) = false:=by simpa using h4
 have HC:Hid (cmdI ⟨k,s,t,l,q,i,p,g⟩ = .nilIface):=by show _ = _; simp [cmdI,h1,h2,h3,h4]
 go_enter Try.func24,Try.ntmps24
 go_wp2_with fail
 go_ret
 exact ⟨by rw [za HC]; rfl,by go_grown⟩
def plcF (id:Int):List Od→Nat→Int
 | [],_=>-1
 | o :: r,k=>if o.id = id then k else plcF id r (k + 1)
def plc (l:List Od) (id:Int):Int:=plcF id l 0
theorem plcF_spec (id:Int):∀ (l:List Od) (k:Nat),(plcF id l k = -1∧∀ o ∈ l,o.id ≠ id) ∨ ∃ i o,plcF id l k = ((k + i:Nat):Int)∧l[i]? = some o∧o.id = id∧∀ j o',j < i→l[j]? = some o'→o'.id ≠ id
 | [],k=>.inl ⟨rfl,by simp⟩
 | o :: r,k=>by
  by_cases h:o.id = id
  ·exact .inr ⟨0,o,by rw [plcF,if_pos h]; rfl,rfl,h,by simp⟩
  ·rcases plcF_spec id r (k + 1) with ⟨h1,h2⟩ | ⟨i,o',h1,h2,h3,h4⟩
   ·refine .inl ⟨by rw [plcF,if_neg h,h1],fun x hx=>?_⟩
    rcases List.mem_cons.1 hx with rfl | hx
    ·exact h
    ·exact h2 x hx
   ·refine .inr ⟨i + 1,o',by rw [plcF,if_neg h,h1]; congr 1; omega,h2,h3,fun j x hj hx=>?_⟩
    cases j with
    | zero=>simp at hx; subst hx; exact h
    | succ j=>exact h4 j x (by omega) (by simpa using hx)
theorem drop_get {l:List Od} {k:Nat} {c:Od} (h:l[k]? = some c):l.drop k = c :: l.drop (k + 1):=by
 obtain ⟨h1,rfl⟩:=List.getElem?_eq_some_iff.1 h
 exact List.drop_eq_getElem_cons h1
set_option maxHeartbeats 400000 in
theorem place1_any (o:Od) (B:Nat) (id:Int) (w:World) (hB:w.cell? ⟨B,0,none⟩ = some (.int .i64 id)) :
  Calls Try.prog 69 #[.agg #[.int .i64 o.id,.int .i64 o.side,.int .i64 o.ticks,.int .i64 o.left,.int .i64 o.life,.string o.tag],.pointer (some ⟨B,0,none⟩)] w fun e w'=>e = .returned (.bool (o.id == id))∧Below w.heap.size w w':=by
 obtain ⟨oid,side,ticks,left,life,tag⟩:=o
 simp only
 have hB':(w.alloc (Obj.cells #[.int .i64 oid,.int .i64 side,.int .i64 ticks,.int .i64 left,.int .i64 life,.string tag] 36)).cell? ⟨B,0,none⟩ = some (.int .i64 id):=(World.cell?_alloc_lt _ _ ⟨B,0,none⟩ (World.block_lt_of_cell? w _ hB)).trans hB
 go_enter Try.func69,Try.ntmps69
 go_wp2_with fail
 go_ret
 exact ⟨rfl,by go_grown⟩
set_option maxRecDepth 100000 in
set_option maxHeartbeats 800000 in
theorem indexFunc_any (v:Value) (l:List Od) (B:Nat) (id:Int) (w:World) (hr:RdR Od.vs 6 w v l) (hB:w.cell? ⟨B,0,none⟩ = some (.int .i64 id)) :
  Calls Try.prog 68 #[v,.func (.func 69) #[] #[.pointer (some ⟨B,0,none⟩)]] w fun e w'=>e = .returned (.int .i64 (plc l id))∧Below w.heap.size w w':=by
 obtain ⟨a,cap,rfl,hlen,hc⟩:=hr
 have hcell:∀ (k:Nat) (c:Od),l[k]? = some c→∃ b off,a = some ⟨b,off,none⟩∧b < w.heap.size∧w.rangeAt b (off + k * 6) c.vs:=by
  intro k c hk
  obtain ⟨b,off,h1,h2,h3⟩:=hc (by intro h; rw [h] at hk; simp at hk)
  exact ⟨b,off,h1,h2,h3 k c hk⟩
 have HC:=hide hcell
 have HBC:=hide hB
 have hBl:=World.block_lt_of_cell? w _ hB
 simp only at hBl
 clear hcell hc hB
 go_enter Try.func68,Try.ntmps68
 go_wp2_with fail
 go_loopw [8] (fun iv wr=>∃ (k:Nat),k ≤ l.length∧iv = .int .i64 k∧Hid (plc l id = plcF id (l.drop k) k)∧Below w.heap.size w wr) (fun iv _=>l.length - (intOf iv).toNat)
 case atStart=>exact ⟨0,Nat.zero_le _,rfl,rfl,Below.refl _ _⟩
 case round =>
  obtain ⟨k,hk,rfl,hpl,hbel⟩:=hrel
  have HB:=hide hbel
  clear hbel
  by_cases hlt:k < l.length
  ·obtain ⟨c,hkc⟩:∃ c,l[k]? = some c:=⟨_,List.getElem?_eq_getElem hlt⟩
   have HP:Hid (plc l id = if c.id = id then (k:Int) else plcF id (l.drop (k + 1)) (k + 1)):=by
    have:=za hpl
    rw [drop_get hkc] at this
    exact this
   obtain ⟨b,off,rfl,hb,hcl⟩:=za HC k c hkc
   obtain ⟨g0,g1,g2,g3,g4,g5⟩:=zA (zb hcl (za HB) hb)
   have hlt':(k:Int) < l.length:=by omega
   have HBX:=hide (((za HB).cell (p:=⟨B,0,none⟩) hBl).trans (za HBC))
   clear hkc hcl hb hpl
   go_wp2_with fail
   refine (place1_any c B id wr (za HBX)).mono ?_
   rintro e w3 ⟨rfl,hb3⟩
   have HB3:=hide ((za HB).trans (hb3.mono (za HB).size))
   clear hb3
   by_cases hid:c.id = id
   ·have hb:(c.id == id) = true:=by simpa using hid
    have HK:Hid (plc l id = k):=by have:=za HP; rw [if_pos hid] at this; exact this
    clear hid
    go_wp2_with fail
    go_ret
    exact ⟨zx (za HK).symm,za HB3⟩
   ·have hb:(c.id == id) = false:=by simpa using hid
    have HK:Hid (plc l id = plcF id (l.drop (k + 1)) (k + 1)):=by have:=za HP; rw [if_neg hid] at this; exact this
    clear hid
    go_wp2_with fail
    go_roundw
    case rel=>exact ⟨k + 1,by omega,by go_num,za HK,za HB3⟩
    case measure=>simp [intOf]; omega
  ·have HK:Hid (plc l id = -1):=by
    have h:=za hpl
    rw [List.drop_of_length_le (by omega)] at h
    exact h
   go_wp2_with fail
   go_ret
   exact ⟨zx (za HK).symm,za HB⟩
set_option maxHeartbeats 800000 in
theorem zaH (next:Int) (v:Value) (l:List Od) (id:Int) (w:World) (hr:RdR Od.vs 6 w v l) :
  Calls Try.prog 47 #[.agg #[.int .i64 next,v],.int .i64 id] w fun e w'=>e = .returned (.int .i64 (plc l id))∧Below w.heap.size w w':=by
 have HR:=hide hr
 obtain ⟨a,cap,rfl,hlen,hc⟩:=hr
 have hmf:∀ (fn:Fn) (first cap:Array Value) (w:World),(Instr.makeFunc fn first cap).run Try.prog w = .ok (.func fn first cap) w:=fun _ _ _ _=>rfl
 have hs1:(w.alloc (Obj.cells #[.int .i64 next,.slice a l.length cap] 25)).heap.size = w.heap.size + 1:=zc _ _
 have r1:=zd (w.alloc (Obj.cells #[.int .i64 next,.slice a l.length cap] 25)) [.int .i64 id] 3
 rw [hs1] at r1
 have HX:=hide (r1 0 _ rfl)
 have HB0:Hid (Below w.heap.size w ((w.alloc (Obj.cells #[.int .i64 next,.slice a l.length cap] 25)).alloc (Obj.cells #[.int .i64 id] 3))):=((Below.refl _ _).alloc (Nat.le_refl _) _).alloc (by rw [hs1]; omega) _
 clear hc r1 hs1
 go_enter Try.func47,Try.ntmps47
 go_wp2_with fail
 have HX:Hid (World.cell? ((w.alloc (Obj.cells #[.int .i64 next,.slice a l.length cap] 25)).alloc (Obj.cells #[.int .i64 id] 3)) ⟨w.heap.size + 1,0,none⟩ = some (.int .i64 id)):=za HX
 generalize ((w.alloc (Obj.cells #[.int .i64 next,.slice a l.length cap] 25)).alloc (Obj.cells #[.int .i64 id] 3)) = W2 at HX HB0 ⊢
 refine (indexFunc_any _ l (w.heap.size + 1) id W2 (zm (za HR) (za HB0) (Nat.le_refl _)) (za HX)).mono ?_
 rintro e w3 ⟨rfl,hb3⟩
 have HB3:=hide ((za HB0).trans (hb3.mono (za HB0).size))
 clear hb3
 go_wp2_with fail
 go_ret
 exact ⟨rfl,za HB3⟩
end Go.Proofs.Ytaoaomipplmjcaa
