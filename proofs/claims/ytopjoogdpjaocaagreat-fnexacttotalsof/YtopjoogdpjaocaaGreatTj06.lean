/-
  The handles of a tree's levels, the best first: proved by walking the function, which calls itself.
-/
import Derived.Test.YtopjoogdpjaocaaGreatTj05
import Derived.Laws.EntriesVeiled
set_option linter.unusedVariables false
set_option maxHeartbeats 6400000
set_option maxRecDepth 100000
namespace Go.Proofs.YtopjoogdpjaocaaGreat
open Go.RowKit
theorem infoH_b:(Tryz.prog.info? 161).map (fun i=>(i.zero,i.size,i.bytes)) = some (some (.int .i64 0),1,8):=by kernel_rfl
theorem cellsH_b (w:World) (cs:List Value) (t:TypeId) (j:Nat) (u:Value) (h:cs[j]? = some u):(w.alloc (Obj.cells cs.toArray t)).cell? ((⟨w.heap.size,0,none⟩:Addr).add j) = some u:=by
 rw [Addr.add_mid,cell_of_row _ w.heap.size (0 + j) cs.toArray t (0,0) (heap_alloc_new w _)]
 simpa using h
def hval_b (h:Nat):Value:=.int .i64 h
set_option maxRecDepth 100000 in
set_option maxHeartbeats 400000 in
theorem ranked_b (S:TS) (b B:Nat) (hbB:b < B):∀ (t:Tr) (w:World) (v:Value) (done:List Nat) (part:Nat),TM 171 w b S→Rep S.nd t part→(∀ h ∈ t.hs,h < 21)→B ≤ w.heap.size →
  w.ownsRow B 161 1 v done.length (done.map hval_b)→done.length + t.hs.length ≤ 1000 →
  Calls Tryz.prog 119 #[.pointer (some ⟨b,0,none⟩),v,.int .i64 part] w fun e w' =>
   ∃ v',e = .returned v'∧w'.ownsRow B 161 1 v' (done ++ t.hs).length ((done ++ t.hs).map hval_b)∧Below B w w'
 | .nil,w,v,done,part,hT,hrep,hh,hB,hown,hlen=>by
  obtain rfl:part = 0:=hrep
  have HO:=hide hown
  clear hown hT hh
  go_enter Tryz.func119,Tryz.ntmps119
  go_wp2_with fail
  go_ret
  exact ⟨v,rfl,by simpa [Tr.hs] using za HO,Below.refl _ _⟩
 | .node h l r,w,v,done,part,hT,hrep,hh,hB,hown,hlen=>by
  obtain ⟨rfl,h0,hl,hr⟩:=hrep
  have HO:=hide hown
  have HT:=hide hT
  have HL:=hide hl
  have HR:=hide hr
  have hlen':done.length + (l.hs.length + 1 + r.hs.length) ≤ 1000:=by simp [Tr.hs] at hlen; omega
  have h21:=hh part (by simp [Tr.hs])
  have HHL:=hide (fun a (ha:a ∈ l.hs)=>hh a (by simp [Tr.hs,ha]))
  have HHR:=hide (fun a (ha:a ∈ r.hs)=>hh a (by simp [Tr.hs,ha]))
  have h21':(part:Int) < 21:=by omega
  have h0':¬ ((part:Int) = 0):=by omega
  have HLEN:=hide hlen'
  obtain ⟨-,-,-,-,n4,-⟩:=zK (hT.nd part h21)
  obtain ⟨i0,hi,hz0,hz1,hz2⟩:=info_parts infoH_b
  clear hown hT hh hl hr hlen hlen'
  go_enter Tryz.func119,Tryz.ntmps119
  go_wp2_with fail
  refine (ranked_b S b B hbB l w v done _ (za HT) (za HL) (za HHL) hB (za HO) (by have:=za HLEN; omega)).mono ?_
  rintro e w1 ⟨v1,rfl,ho1,hb1⟩
  have HO1:=hide ho1
  have HB1:=hide hb1
  have hsz1:=hb1.size
  have hla:(done ++ l.hs).length ≤ 999:=by have:=za HLEN; rw [List.length_append]; omega
  obtain ⟨-,-,-,-,-,n5,-⟩:=zK ((zby (za HT) hb1 hbB).nd part h21)
  clear ho1 hb1 n4
  go_wp2_with (at_builtin; go_must (refine wpList_append_own _ rfl _ _ 175 rfl B 161 i0 _ 1 8 Tryz.underlying175 hi hz0 hz1 hz2 rfl (by decide) v1 (done ++ l.hs).length ((done ++ l.hs).map hval_b) rfl ((za HO1).alloc _) ⟨w1.heap.size,0,none⟩ 1 1 [hval_b part] rfl rfl (cellsH_b w1 _ _) (by simp [Value.oneCell',hval_b]) (by unfold maxLen; omega) (by omega) (by simp at hla ⊢; omega) ?_); intro v2 w2 hown2 hg2 _; have HO2:=hide hown2; have HB2:=hide (((za HB1).alloc (Nat.le_trans hB hsz1) _).grown hg2 (by rw [ze]; omega) (fun k hk=>((za HO1).lt k hk).1)); have m5:=(zK ((zby (za HT) (za HB2) hbB).nd part h21)).2.2.2.2.2.1; clear hown2 hg2 n5)
  have hsz2:=(za HB2).size
  refine (ranked_b S b B hbB r w2 v2 (done ++ l.hs ++ [part]) _ (zby (za HT) (za HB2) hbB) (za HR) (za HHR) (by omega) (by simpa [Nat.add_assoc] using za HO2) (by have:=za HLEN; simp; omega)).mono ?_
  rintro e w3 ⟨v3,rfl,ho3,hb3⟩
  have HO3:=hide ho3
  have HB3:=hide ((za HB2).trans hb3)
  clear ho3 hb3 m5
  go_wp2_with fail
  go_ret
  exact ⟨v3,rfl,by simpa [Tr.hs] using za HO3,za HB3⟩
theorem infoLv_b:(Tryz.prog.info? 163).map (fun i=>(i.zero,i.size,i.bytes)) = some (some (.agg #[.int .i64 0,.int .i64 0,.int .i64 0,.int .i64 0]),4,32):=by kernel_rfl
theorem takeR_b {α:Type} (l:List α) (k:Nat) (c:α) (h:l[k]? = some c):l.take (k + 1) = l.take k ++ [c]:=by
 obtain ⟨hk,rfl⟩:=List.getElem?_eq_some_iff.1 h
 rw [List.take_succ_eq_append_getElem hk]
theorem zaB {W:World} {B B':Nat} {e:TypeId} {sz:Nat} {v:Value} {n:Nat} {xs:List Value} (h:W.ownsRow B e sz v n xs) (hB:B' ≤ B):W.ownsRow B' e sz v n xs :=
 ⟨h.1,by
  rcases h.2 with h1 | ⟨g',c',cur,h1,h2,h3⟩
  ·exact .inl h1
  ·exact .inr ⟨g',c',cur,h1,Nat.le_trans hB h2,h3⟩⟩
theorem flat1_b (l:List Nat):(l.flatMap fun h=>[hval_b h]) = l.map hval_b:=by
 induction l with
 | nil=>rfl
 | cons a r ih=>rw [List.flatMap_cons,ih]; rfl
set_option maxRecDepth 100000 in
set_option maxHeartbeats 400000 in
theorem levelsO_b (b:Nat) (sd:Int) (seq:List Od) (w:World) (h:zak 171 true w b sd seq) (hn:seq.length ≤ 20) :
  Calls Tryz.prog 113 #[.pointer (some ⟨b,0,none⟩)] w fun e w' =>
   ∃ v',e = .returned v'∧w'.ownsRow w.heap.size 163 4 v' (zbg true sd seq).length ((zbg true sd seq).flatMap Lv.vs)∧Below w.heap.size w w':=by
 obtain ⟨S,t,hT,hi,hq,hlc⟩:=h
 have hlv:=zbL hi hq
 rw [← hlv]
 have hh21:∀ a ∈ t.hs,a < 21:=fun a ha=>by have:=(hi.range a ha).2; omega
 have hlen:t.hs.length ≤ 20:=by rw [hi.len]; omega
 have HT:=hide hT
 have HR:=hide hi.rep
 have HH:=hide hh21
 have hroot:=hT.root
 have hbs:=tm_lt hT
 generalize ht:t.hs = hs at *
 have HHS:=hide ht
 have HNIL:=hide (World.ownsRow_nil w w.heap.size 161 1)
 obtain ⟨i0,hi0,hz0,hz1,hz2⟩:=info_parts infoLv_b
 clear hi hq hlc hlv hT hh21 ht
 go_enter Tryz.func113,Tryz.ntmps113
 go_wp2_with fail
 refine (ranked_b S b w.heap.size hbs t w _ [] S.root (za HT) (za HR) (by rw [za HHS]; exact za HH) (Nat.le_refl _) (za HNIL) (by rw [za HHS]; simp; omega)).mono ?_
 rintro e w1 ⟨v1,rfl,ho1,hb1⟩
 rw [List.nil_append,za HHS] at ho1
 have HB1:=hide hb1
 have HOR:=hide (zaX (f:=fun h=>[hval_b h]) (fun _=>rfl) (by omega) (show w1.ownsRow w.heap.size 161 1 v1 hs.length (hs.flatMap fun h=>[hval_b h]) by rw [flat1_b]; exact ho1))
 obtain ⟨a,cap,rfl,_,hc⟩:=za HOR
 have hcell:∀ k h,hs[k]? = some h→∃ g,a = some ⟨g,0,none⟩∧g < w1.heap.size∧w1.cell? ⟨g,0 + k * 1 + 0,none⟩ = some (.int .i64 (h:Nat)):=fun k h hk=>by
  obtain ⟨g,h1,_,h3,h4,_⟩:=hc (by intro e; rw [e] at hk; simp at hk)
  exact ⟨g,h1,h3,h4 k h hk 0 _ rfl⟩
 have HC:=hide hcell
 clear ho1 hb1 hc hcell hroot
 go_wp2_with fail
 have hb1:=(za HB1).size
 go_loopw [3,13] (fun ov iv wr=>∃ (k:Nat) (done:List Lv),k ≤ hs.length∧iv = .int .i64 k∧Hid (done = (hs.map fun h=>(S.nd h).lv).take k)∧wr.ownsRow w1.heap.size 163 4 ov done.length (done.flatMap Lv.vs)∧Below w1.heap.size w1 wr) (fun _ iv _=>hs.length - (intOf iv).toNat)
 case atStart=>exact ⟨0,[],Nat.zero_le _,rfl,by simp [Hid],World.ownsRow_nil _ _ _ _,Below.refl _ _⟩
 case round =>
  obtain ⟨k,done,hk,rfl,hd,hown,hbel⟩:=hrel
  have HOW:=hide hown
  have HB:=hide hbel
  have hdl:done.length = k:=by rw [za hd,List.length_take,List.length_map]; omega
  clear hown hbel
  by_cases hlt:k < hs.length
  ·obtain ⟨h,hkh⟩:∃ h,hs[k]? = some h:=⟨_,List.getElem?_eq_getElem hlt⟩
   have HKC:Hid ((hs.map fun h=>(S.nd h).lv)[k]? = some (S.nd h).lv):=by show _ = _; rw [List.getElem?_map,hkh]; rfl
   obtain ⟨g,rfl,hg,hcl⟩:=za HC k h hkh
   have h21:=za HH h (List.mem_of_getElem? hkh)
   have h21':(h:Int) < 21:=by omega
   have hcl':=((za HB).cell (p:=⟨g,0 + k * 1 + 0,none⟩) hg).trans hcl
   rw [show 0 + k * 1 + 0 = k by omega] at hcl'
   have hTr:=zby (za HT) ((za HB1).trans ((za HB).mono hb1)) hbs
   obtain ⟨n0,n1,n2,n3,-⟩:=zK (hTr.nd h h21)
   have hlt':(k:Int) < hs.length:=by omega
   have hsr:=(za HB).size
   clear hkh hcl hTr hg
   go_wp2_with (at_builtin; go_must (refine wpList_append_own _ rfl _ _ 174 rfl w1.heap.size 163 i0 _ 4 32 Tryz.underlying174 hi0 hz0 hz1 hz2 rfl (by decide) _ done.length (done.flatMap Lv.vs) rfl ((za HOW).alloc _) ⟨wr.heap.size,0,none⟩ 1 1 (S.nd h).lv.vs rfl rfl (cellsH_b wr _ _) (by simp [Value.oneCell',Lv.vs,Nd.lv]) (by unfold maxLen; omega) (by omega) (by simp; omega) ?_); intro v4 w4 hown4 hg4 _)
   go_roundw
   case rel =>
    refine ⟨k + 1,done ++ [(S.nd h).lv],by omega,by go_num,?_,?_,?_⟩
    ·show done ++ [(S.nd h).lv] = _
     rw [takeR_b _ k _ (za HKC),← za hd]
    ·simpa using hown4
    ·exact ((za HB).alloc hsr _).grown hg4 (by simp; omega) fun k hk=>((za HOW).lt k hk).1
   case measure=>simp [intOf]; omega
  ·go_wp2_with fail
   go_ret
   have h:=za hd
   rw [List.take_of_length_le (by rw [List.length_map]; omega)] at h
   subst h
   exact ⟨_,rfl,zaB (za HOW) hb1,(za HB1).trans ((za HB).mono hb1)⟩
theorem levels_b (b:Nat) (sd:Int) (seq:List Od) (w:World) (h:zak 171 true w b sd seq) (hn:seq.length ≤ 20) :
  Calls Tryz.prog 113 #[.pointer (some ⟨b,0,none⟩)] w fun e w' =>
   ∃ v',e = .returned v'∧OwnR Lv.vs 4 w.heap.size w' v' (zbg true sd seq)∧Below w.heap.size w w':=by
 have hlen:(zbg true sd seq).length ≤ 20:=by
  obtain ⟨S,t,hT,hi,hq,hlc⟩:=h
  rw [← zbL hi hq,List.length_map,hi.len]; omega
 refine (levelsO_b b sd seq w h hn).mono ?_
 rintro e w' ⟨v',rfl,ho,hb⟩
 exact ⟨v',rfl,zaX Lv.len (by omega) ho,hb⟩
theorem best_b {S:TS}:∀ {t:Tr} {v:Nat},Rep S.nd t v→t ≠ .nil→v ∈ t.hs∧((S.nd v).be = 0→t.hs.head? = some v)∧((S.nd v).be ≠ 0→∃ l,Rep S.nd l (S.nd v).be∧l ≠ .nil∧l.hs.head? = t.hs.head?∧l.hs.length < t.hs.length∧∀ a ∈ l.hs,a ∈ t.hs)
 | .nil,_,_,h=>absurd rfl h
 | .node h l r,v,⟨e,h0,h1,h2⟩,_=>by
  subst e
  refine ⟨by simp [Tr.hs],fun hb=>?_,fun hb=>⟨l,h1,?_,?_,?_,fun a ha=>by simp [Tr.hs,ha]⟩⟩
  ·rw [hb] at h1; obtain rfl:=rep_nil h1; rfl
  ·rintro rfl; exact hb h1
  ·cases l with
   | nil=>exact absurd h1 hb
   | node a l' r'=>simp [Tr.hs]
  ·simp [Tr.hs]
def FrI_b (S:TS) (hd:Option Nat) (w0:World) (k:Nat) (p:Value) (wr:World):Prop:=∃ (t:Tr) (v:Nat),p = .int .i64 v∧Rep S.nd t v∧t ≠ .nil∧t.hs.head? = hd∧t.hs.length ≤ k∧(∀ a ∈ t.hs,a < 21)∧w0 = wr
set_option maxRecDepth 100000 in
set_option maxHeartbeats 400000 in
theorem front_b (b:Nat) (sd:Int) (seq:List Od) (w:World) (h:zak 171 true w b sd seq) (hn:seq.length ≤ 20) :
  Calls Tryz.prog 111 #[.pointer (some ⟨b,0,none⟩)] w fun e w'=>e = .returned (frOf (quOf true seq))∧Below w.heap.size w w':=by
 obtain ⟨S,t,hT,hi,hq,hlc⟩:=h
 have hou:=tree_orders hi hq
 have hh21:∀ a ∈ t.hs,a < 21:=fun a ha=>by have:=(hi.range a ha).2; omega
 have HT:=hide hT
 have hroot:=hT.root
 have hbs:=tm_lt hT
 by_cases hr0:S.root = 0
 ·have ht:=hi.rep
  rw [hr0] at ht hroot
  obtain rfl:=rep_nil ht
  have HF:Hid (frOf (quOf true seq) = .tuple #[zOdv,.bool false]):=by show _ = _; rw [← hou]; rfl
  clear hi hq hlc hou hT ht hh21
  go_enter Tryz.func111,Tryz.ntmps111
  go_wp2_with fail
  go_returns
  refine ⟨by rw [za HF]; rfl,?_⟩
  go_grown
 ·have hne:t ≠ .nil:=by rintro rfl; exact hr0 hi.rep
  have HI:=hide hi
  have HQ:=hide hq
  have HOU:=hide hou
  have HH:=hide hh21
  have HNE:=hide hne
  have hr0':¬ ((S.root:Int) = 0):=by omega
  clear hi hq hlc hou hT hh21 hne
  go_enter Tryz.func111,Tryz.ntmps111
  go_wp2_with fail
  go_loopg [4] (t.hs.length) (fun k p wr=>FrI_b S t.hs.head? (w.alloc (Obj.cells #[.int .i64 0,.int .i64 0,.int .i64 0,.int .i64 0,.int .i64 0,.string ⟨#[]⟩] 78)) k p wr)
  case atStart=>exact ⟨t,S.root,rfl,(za HI).rep,za HNE,rfl,Nat.le_refl _,za HH,rfl⟩
  case round =>
   obtain ⟨t1,v,rfl,h1,h2,h3,h4,h5,rfl⟩:=hrel
   obtain ⟨b1,b2,b3⟩:=best_b h1 h2
   have hv21:=h5 v b1
   have hv21':(v:Int) < 21:=by omega
   have hTW:=zan (za HT) (Below.heap_alloc w (Obj.cells #[.int .i64 0,.int .i64 0,.int .i64 0,.int .i64 0,.int .i64 0,.string ⟨#[]⟩] 78) b hbs)
   obtain ⟨-,-,-,-,n4,-,n6,-⟩:=zK (hTW.nd v hv21)
   have H3:=hide h3
   have H4:=hide h4
   have H5:=hide h5
   by_cases hbe:(S.nd v).be = 0
   ·have hhd:=b2 hbe
    rw [h3] at hhd
    have hvm:v ∈ t.hs:=List.mem_of_head? hhd
    have hQ:=(za HQ).q v hvm
    obtain ⟨e,rest,hqs⟩:∃ e rest,qs seq (S.nd v).ticks = e :: rest:=by
     cases hqq:qs seq (S.nd v).ticks with
     | nil=>exact absurd hqq hQ.ne
     | cons e rest=>exact ⟨e,rest,rfl⟩
    have hch:=hQ.chain
    rw [hqs] at hch
    obtain ⟨he,he0,-⟩:=hch
    have he21:e < 21:=by
     have:=(zbb (S.nd v).ticks seq 1 e (by have h:e ∈ qs seq (S.nd v).ticks:=(by rw [hqs]; simp); exact h)).2.1
     omega
    have he21':(e:Int) < 21:=by omega
    have HF:Hid (frOf (quOf true seq) = .tuple #[(S.qo e).od.val,.bool true]):=by
     show _ = _
     rw [← za HOU]
     obtain ⟨tl,htl⟩:∃ tl,t.hs = v :: tl:=by
      cases hh:t.hs with
      | nil=>rw [hh] at hhd; simp at hhd
      | cons a r=>rw [hh] at hhd; simp at hhd; rw [hhd]; exact ⟨r,rfl⟩
     rw [htl,List.flatMap_cons,hqs]
     rfl
    obtain ⟨q0,q1,q2,q3,q4,q5,-⟩:=zcc (hTW.qo e he21)
    rw [he] at n6
    rw [hbe] at n4
    clear h1 h2 h3 h4 h5 b1 b2 b3 hTW hhd hvm hQ hqs he hbe
    go_wp2_with fail
    go_region
    go_wp2_with fail
    go_returns
    refine ⟨by rw [za HF]; rfl,?_⟩
    go_grown
   ·obtain ⟨l,l1,l2,l3,l4,l5⟩:=b3 hbe
    have hbe':¬ (((S.nd v).be:Int) = 0):=by omega
    have HL:Hid (Rep S.nd l (S.nd v).be∧l ≠ .nil∧l.hs.head? = t1.hs.head?∧l.hs.length < t1.hs.length∧∀ a ∈ l.hs,a ∈ t1.hs):=⟨l1,l2,l3,l4,l5⟩
    clear h1 h2 h3 h4 h5 b1 b2 b3 hTW l1 l2 l3 l4 l5 hbe
    go_wp2_with fail
    go_roundg (l.hs.length)
    case measure=>have:=za H4; have:=(za HL).2.2.2.1; omega
    case rel=>exact ⟨l,_,rfl,(za HL).1,(za HL).2.1,(za HL).2.2.1.trans (za H3),Nat.le_refl _,fun a ha=>za H5 a ((za HL).2.2.2.2 a ha),rfl⟩
def zbY (b:Nat):Value:=.agg #[.func (.func 111) #[.pointer (some ⟨b,0,none⟩)] #[],.func (.func 112) #[.pointer (some ⟨b,0,none⟩)] #[],.func (.func 113) #[.pointer (some ⟨b,0,none⟩)] #[]]
theorem ask_b (b:Nat) (w:World) :
  Calls Tryz.prog 106 #[.pointer (some ⟨b,0,none⟩)] w fun e w'=>e = .returned (zbY b)∧Below w.heap.size w w':=by
 have hmf:∀ (fn:Fn) (first cap:Array Value) (w:World),(Instr.makeFunc fn first cap).run Tryz.prog w = .ok (.func fn first cap) w:=fun _ _ _ _=>rfl
 go_enter Tryz.func106,Tryz.ntmps106
 go_wp2_with fail
 go_returns
 refine ⟨rfl,?_⟩
 go_grown
theorem better_s (a c:Int) (w:World) :
  Calls Tryz.prog 142 #[.agg #[],.int .i64 a,.int .i64 c] w fun e w'=>e = .returned (.bool (decide (a < c)))∧w.grownBy w' none:=by
 go_enter Tryz.func142,Tryz.ntmps142
 go_wp2_with fail
 go_ret
 exact ⟨rfl,World.grownBy_alloc _ _ _⟩
theorem method_s (w:World):Sem.run Tryz.prog (method 298 157 (.agg #[]) "loop.example/g00092/impl.better") w = .ok (142,.agg #[]) w:=by kernel_rfl
theorem part_s {w:World} {b:Nat} (h:∃ cur,w.heap[b]? = some (.cells cur 173 (0,0))):Sem.run Tryz.prog (partAt ⟨b,0,none⟩ 0 0) w = .ok ⟨b,0,none⟩ w:=by
 obtain ⟨cur,h⟩:=h
 have hc:Tryz.prog.cellsOf 173 = 318:=by kernel_rfl
 have hy:byteOfCell Tryz.prog Tryz.prog.depth 173 0 = some 0:=by kernel_rfl
 have hs:w.shape? b = some (173,cur.size):=by simp [World.shape?,h]
 simp [partAt,byteOf,noView,viewAt,hs,hc,hy]
set_option maxRecDepth 100000 in
set_option maxHeartbeats 400000 in
theorem levelFor_s (b:Nat) (S:TS) (t:Tr) (o:Od) (w:World) (hT:TM 173 w b S) (hi:TI false S t) (hlc:S.lc < 20) :
  Calls Tryz.prog 122 #[.pointer (some ⟨b,0,none⟩),.agg #[.int .i64 o.id,.int .i64 o.side,.int .i64 o.ticks,.int .i64 o.left,.int .i64 o.life,.string o.tag]] w fun e w' =>
   ∃ (h:Nat),e = .returned (.int .i64 h)∧LFEnd false 173 b S t o w h w':=by
 have HT:=hide hT
 have HI:=hide hi
 clear hT hi
 go_enter Tryz.func122,Tryz.ntmps122
 go_wp2_with fail
 have HW:Hid (∃ W,W = (w.alloc (Obj.cells #[.int .i64 o.id,.int .i64 o.side,.int .i64 o.ticks,.int .i64 o.left,.int .i64 o.life,.string o.tag] 78))∧W.rangeAt w.heap.size 0 o.vs∧TM 173 W b S∧w.grownBy W (some b)∧w.heap.size < W.heap.size∧b ≠ w.heap.size) :=
  ⟨_,rfl,zh w o.vs _,zan (za HT) (Below.heap_alloc w _ _ (tm_lt (za HT))),World.grownBy_alloc _ _ _,by rw [ze]; omega,by have:=tm_lt (za HT); omega⟩
 obtain ⟨W,hW,hWW⟩:=za HW
 rw [← hW]
 have HW2:=hide hWW
 clear hW hWW HW HT
 go_loopg [5] (t.hs.length) (fun k p wr=>LFI false b S t o.ticks W k p wr)
 case atStart=>exact ⟨[],t,rfl,Nat.le_refl _,way_start (za HI) _,World.grownBy.refl _ _⟩
 case round =>
  obtain ⟨c,u,rfl,hk,hw,hg⟩:=hrel
  have HWay:=hide hw
  have HG:=hide hg
  have HK:=hide hk
  have hT:=zcg (za HW2).2.1 hg (by simp)
  have c0:=cur_cell hT (zR c) (cur_ok (za HI) hw hlc)
  obtain ⟨o0,o1,o2,o3,o4,o5⟩:=zD (zu (za HW2).1 hg (za HW2).2.2.2.1 (by simp))
  clear hk hw hg
  by_cases ha:S.rd (zR c) = 0
  ·have hr0:=hT.lc
   have hf:=hT.fr
   have HA0:=hide ha
   rw [ha] at c0
   have hlc':(S.lc:Int) < 20:=by omega
   have e1:((S.lc + 1:Nat):Int) = (S.lc:Int) + 1:=by omega
   have hok:=cur_ok (za HI) (za HWay) hlc
   have t1:=tm_lc hT (S.lc + 1)
   have t2:=tm_cur t1 (zR c) hok (S.lc + 1)
   rw [e1] at t1 t2
   have d2:_ = _:=(cur_cell t1 (zR c) hok).trans (congrArg (fun x:Nat=>some (Value.int .i64 x)) (show TS.rd _ (zR c) = 0 from by rw [← ha]; cases (zR c) <;> rfl))
   have d3:_ = _:=t2.lc
   rw [(wr_same _ _ _).1] at d3
   simp only [e1] at d3
   have g1:=t1.fr
   have g2:=t2.fr
   obtain ⟨n0,n1,n2,n3,-⟩:=zK (t2.nd (S.lc + 1) (by omega))
   have hb:b ≠ w.heap.size:=(za HW2).2.2.2.2
   have p1:((wr.setCell ⟨b,1,none⟩ (.int .i64 ((S.lc:Int) + 1))).setCell ⟨b,(zR c).off,none⟩ (.int .i64 ((S.lc:Int) + 1))).cell? ⟨w.heap.size,0 + 1,none⟩ = some (.int .i64 o.side):=by
    rw [World.cell?_setCell_other _ _ _ _ (fun e=>hb (congrArg Addr.block e)),World.cell?_setCell_other _ _ _ _ (fun e=>hb (congrArg Addr.block e))]; exact o1
   have p2:((wr.setCell ⟨b,1,none⟩ (.int .i64 ((S.lc:Int) + 1))).setCell ⟨b,(zR c).off,none⟩ (.int .i64 ((S.lc:Int) + 1))).cell? ⟨w.heap.size,0 + 2,none⟩ = some (.int .i64 o.ticks):=by
    rw [World.cell?_setCell_other _ _ _ _ (fun e=>hb (congrArg Addr.block e)),World.cell?_setCell_other _ _ _ _ (fun e=>hb (congrArg Addr.block e))]; exact o2
   have HT2:=hide t2
   have HB:=hide hb
   clear ha hT t1 t2 hok hb
   go_wp2_with fail
   have HG4:Hid (wr.grownBy ((wr.setCell ⟨b,1,none⟩ (.int .i64 ((S.lc:Int) + 1))).setCell ⟨b,(zR c).off,none⟩ (.int .i64 ((S.lc:Int) + 1))) (some b)):=zL (zL (World.grownBy.refl _ _) _ _) _ _
   generalize hW4:((wr.setCell ⟨b,1,none⟩ (.int .i64 ((S.lc:Int) + 1))).setCell ⟨b,(zR c).off,none⟩ (.int .i64 ((S.lc:Int) + 1))) = W4 at *
   rw [← e1] at d3
   obtain ⟨m,hm⟩:∃ m,m = S.lc + 1:=⟨_,rfl⟩
   rw [← hm] at d3 n0 n1 n2 n3
   have hm21:(m:Int) < 21:=by omega
   have HM:=hide hm
   clear hW4 hm e1 d2 hr0 hf g1 c0 o0 o1 o2 o3 o4 o5 hlc'
   go_region
   have t3:=za HT2
   have t4:=zbi t3 (S.lc + 1) 0 (by omega) (by omega) (.int .i64 o.side) { (TS.nd _ (S.lc + 1)) with side:=o.side } rfl _ rfl
   have t5:=zbi t4 (S.lc + 1) 1 (by omega) (by omega) (.int .i64 o.ticks) { (TS.nd _ (S.lc + 1)) with ticks:=o.ticks } rfl _ rfl
   have t6:=zbi t5 (S.lc + 1) 2 (by omega) (by omega) (.int .i64 0) { (TS.nd _ (S.lc + 1)) with qty:=0 } rfl _ rfl
   have t7:=zbi t6 (S.lc + 1) 3 (by omega) (by omega) (.int .i64 0) { (TS.nd _ (S.lc + 1)) with count:=0 } rfl _ rfl
   have HG7:=hide (gr_drew (zL (zL (zL (zL (za HG4) (2 + m * 8) (.int .i64 o.side)) (2 + m * 8 + 1) (.int .i64 o.ticks)) (2 + m * 8 + 2) (.int .i64 0)) (2 + m * 8 + 3) (.int .i64 0)))
   rw [← za HM] at t7
   simp only [zbM,zp] at t7
   have hS:_ = S.grow (zR c) o.side o.ticks:=grow_eq S (zR c) o m (za HM)
   rw [hS] at t7
   have d7:_ = some (Value.int .i64 (m:Int)):=t7.lc.trans (by rw [za HM]; rfl)
   have HT7:=hide t7
   clear t3 t4 t5 t6 t7 n0 n1 n2 n3 d3 p1 p2
   generalize (((W4.setCell ⟨b,2 + m * 8,none⟩ (.int .i64 o.side)).setCell ⟨b,2 + m * 8 + 1,none⟩ (.int .i64 o.ticks)).setCell ⟨b,2 + m * 8 + 2,none⟩ (.int .i64 0)).setCell ⟨b,2 + m * 8 + 3,none⟩ (.int .i64 0) = W7 at *
   go_wp2_with fail
   go_ret
   exact ⟨m,rfl,_,zan (za HT7) rfl,(za HW2).2.2.1.trans (((za HG).but _).trans (za HG7)),.inr ⟨c,u,za HWay,za HA0,za HM,rfl⟩⟩
  ·have ham:=way_at (za HWay) rfl ha
   have har:=(za HI).range _ ham
   obtain ⟨a,hae⟩:∃ a,a = S.rd (zR c):=⟨_,rfl⟩
   rw [← hae] at c0 ha ham har
   have HAE:=hide hae
   have ha':¬ ((a:Int) = 0):=by omega
   have ha21:(a:Int) < 21:=by omega
   obtain ⟨n0,n1,n2,n3,n4,n5,n6,n7⟩:=zK (hT.nd a (by omega))
   have HTM:=hide hT
   have hpt:∀ w',wr.grownBy w' none→Sem.run Tryz.prog (partAt ⟨b,0,none⟩ 0 0) w' = .ok ⟨b,0,none⟩ w':=fun w' h=>part_s (zcg (za HTM) h (by simp)).obj
   have HPT:=hide hpt
   have HN1:=hide (fun w' (h:wr.grownBy w' none)=>h.cell n1 (by simp))
   have HO2:=hide (fun w' (h:wr.grownBy w' none)=>h.cell o2 (by simp))
   clear hae hT hpt
   go_wp2_with fail
   go_quiet (fail)
   go_wp2_with fail
   refine zat (W:=wr) (by kernel_rfl) (by kernel_rfl) ⟨rfl,rfl,rfl,Nat.le_refl _,fun _ _ _=>rfl⟩ ?_
   iterate 12 (
    refine zah (v:=?_) ?_ ?_ ?_
    rotate_left
    ·rfl
    ·intro w' hw'
     have f1:=za HN1 w' hw'
     have f2:=za HO2 w' hw'
     have f3:=za HPT w' hw'
     go_simp
     try rfl
    intro K hK
    go_simp
    refine hK _ ?_
    clear hK K)
   refine zah (v:=.bool (decide (o.ticks < (S.nd a).ticks))) ?_ ?_ ?_
   ·rfl
   ·intro w' hw'
    have hm:=method_s w'
    go_simp
    refine (better_s _ _ _).mono ?_
    rintro e w3 ⟨rfl,hg3⟩
    exact ⟨rfl,hw'.trans hg3⟩
   intro K hK
   go_simp
   refine hK _ ?_
   clear hK K
   refine zah (v:=?_) ?_ ?_ ?_
   rotate_left
   ·rfl
   ·intro w' hw'
    go_simp
    try rfl
   intro K hK
   go_simp
   refine hK _ ?_
   clear hK K
   refine wpQuiet_nil ?_
   intro w2 hg2
   have HG2:=hide hg2
   clear hg2
   by_cases h1:o.ticks < (S.nd a).ticks
   ·have h1':decide (o.ticks < (S.nd a).ticks) = true:=by simpa using h1
    go_wp2_with fail
    obtain ⟨l,r,rfl,hw2⟩:=way_be (za HI) (za HWay) (za HAE).symm ha h1
    go_roundg (l.hs.length)
    case measure=>have:=za HK; simp [Tr.hs] at this; omega
    case rel=>exact ⟨_,l,rfl,Nat.le_refl _,hw2,(za HG).trans (za HG2)⟩
   ·have h1':decide (o.ticks < (S.nd a).ticks) = false:=by simpa using h1
    go_wp2_with fail
    refine zat (W:=wr) (by kernel_rfl) (by kernel_rfl) (za HG2) ?_
    iterate 12 (
     refine zah (v:=?_) ?_ ?_ ?_
     rotate_left
     ·rfl
     ·intro w' hw'
      have f1:=za HN1 w' hw'
      have f2:=za HO2 w' hw'
      have f3:=za HPT w' hw'
      go_simp
      try rfl
     intro K hK
     go_simp
     refine hK _ ?_
     clear hK K)
    refine zah (v:=.bool (decide ((S.nd a).ticks < o.ticks))) ?_ ?_ ?_
    ·rfl
    ·intro w' hw'
     have hm:=method_s w'
     go_simp
     refine (better_s _ _ _).mono ?_
     rintro e w3 ⟨rfl,hg3⟩
     exact ⟨rfl,hw'.trans hg3⟩
    intro K hK
    go_simp
    refine hK _ ?_
    clear hK K
    refine zah (v:=?_) ?_ ?_ ?_
    rotate_left
    ·rfl
    ·intro w' hw'
     go_simp
     try rfl
    intro K hK
    go_simp
    refine hK _ ?_
    clear hK K
    refine wpQuiet_nil ?_
    intro w3 hg3
    have HG3:=hide hg3
    clear hg3
    by_cases h2:(S.nd a).ticks < o.ticks
    ·have h2':decide ((S.nd a).ticks < o.ticks) = true:=by simpa using h2
     go_wp2_with fail
     obtain ⟨l,r,rfl,hw2⟩:=way_wo (za HI) (za HWay) (za HAE).symm ha h2
     go_roundg (r.hs.length)
     case measure=>have:=za HK; simp [Tr.hs] at this; omega
     case rel=>exact ⟨_,r,rfl,Nat.le_refl _,hw2,(za HG).trans (za HG3)⟩
    ·have h2':decide ((S.nd a).ticks < o.ticks) = false:=by simpa using h2
     have c3:=(za HG3).cell c0 (by simp)
     go_wp2_with fail
     go_ret
     have hG:=(za HG).trans (za HG3)
     exact ⟨a,rfl,S,zcg (za HW2).2.1 hG (by simp),(za HW2).2.2.1.trans (hG.but _),.inl ⟨ham,by omega,rfl⟩⟩
end Go.Proofs.YtopjoogdpjaocaaGreat
