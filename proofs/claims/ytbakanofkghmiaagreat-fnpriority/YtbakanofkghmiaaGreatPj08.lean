/-
  The handles of a tree's levels, the best first: proved by walking the function, which calls itself.
-/
import Derived.Test.YtbakanofkghmiaaGreatPj06
import Derived.Test.YtbakanofkghmiaaGreatPj07
import Derived.Laws.EntriesVeiled
set_option linter.unusedVariables false
set_option maxHeartbeats 6400000
set_option maxRecDepth 100000
namespace Go.Proofs.YtbakanofkghmiaaGreat
open Go.RowKit
theorem infoH_b:(Tryz.prog.info? 166).map (fun i=>(i.zero,i.size,i.bytes)) = some (some (H 0),1,8):=by kernel_rfl
theorem cellsH_b (w:World) (cs:List Value) (t:TypeId) (j:Nat) (u:Value) (h:cs[j]? = some u):(w.alloc (Obj.cells cs.toArray t)).cell? (((yn w 0):Addr).add j) = some u:=by
 rw [Addr.add_mid,cell_of_row _ w.heap.size (0 + j) cs.toArray t (0,0) (heap_alloc_new w _)]
 simpa using h
def hval_b (h:Nat):Value:=H h
theorem ranked_b (S:TS) (b B:Nat) (hbB:b < B):∀ (t:Tr) (w:World) (v:Value) (done:List Nat) (part:Nat),TM 176 w b S→Rep S.nd t part→(∀ h ∈ t.hs,h < 21)→B ≤ w.heap.size →
  w.ownsRow B 166 1 v done.length (done.map hval_b)→done.length + t.hs.length ≤ 1000 →
  Calls Tryz.prog 155 #[I b 0,v,H part] w fun e w' =>
   ∃ v',e = yk v'∧w'.ownsRow B 166 1 v' (done ++ t.hs).length ((done ++ t.hs).map hval_b)∧Below B w w'
 | .nil,w,v,done,part,hT,hrep,hh,hB,xN,xD=>by
  obtain rfl:part = 0:=hrep
  have HO:=Q xN
  clear xN hT hh
  go_enter Tryz.func155,Tryz.ntmps155
  go_wp2_with fail
  go_ret
  exact ⟨v,rfl,by simpa [Tr.hs] using M HO,Below.refl _ _⟩
 | .node h l r,w,v,done,part,hT,hrep,hh,hB,xN,xD=>by
  obtain ⟨rfl,h0,hl,hr⟩:=hrep
  have HO:=Q xN
  have HT:=Q hT
  have HL:=Q hl
  have HR:=Q hr
  have oA:done.length + (l.hs.length + 1 + r.hs.length) ≤ 1000:=by simp [Tr.hs] at xD; omega
  have vE:=hh part (by simp [Tr.hs])
  have HHL:=Q (fun a (ha:a ∈ l.hs)=>hh a (by simp [Tr.hs,ha]))
  have HHR:=Q (fun a (ha:a ∈ r.hs)=>hh a (by simp [Tr.hs,ha]))
  have h21':(part:Int) < 21:=by omega
  have h0':¬ ((part:Int) = 0):=by omega
  have ju:=Q oA
  obtain ⟨-,-,-,-,n4,-⟩:=zN (hT.nd part vE)
  obtain ⟨i0,hi,uq,uw,uM⟩:=info_parts infoH_b
  clear xN hT hh hl hr xD oA
  go_enter Tryz.func155,Tryz.ntmps155
  go_wp2_with fail
  refine (ranked_b S b B hbB l w v done _ (M HT) (M HL) (M HHL) hB (M HO) (by have:=M ju; omega)).mono ?_
  rintro e w1 ⟨v1,rfl,vV,xR⟩
  have uZ:=Q vV
  have xT:=Q xR
  have hsz1:=xR.size
  have hla:(done ++ l.hs).length ≤ 999:=by have:=M ju; rw [yM]; omega
  obtain ⟨-,-,-,-,-,n5,-⟩:=zN ((cR (M HT) xR hbB).nd part vE)
  clear vV xR n4
  go_wp2_with (at_builtin; go_must (refine wpList_append_own _ rfl _ _ 195 rfl B 166 i0 _ 1 8 Tryz.underlying195 hi uq uw uM rfl (by decide) v1 (done ++ l.hs).length ((done ++ l.hs).map hval_b) rfl ((M uZ).alloc _) (yn w1 0) 1 1 [hval_b part] rfl rfl (cellsH_b w1 _ _) (by simp [Value.oneCell',hval_b]) (by unfold maxLen; omega) (by omega) (by simp at hla ⊢; omega) ?_); intro v2 w2 oB qj _; have vO:=Q oB; have xC:=Q (((M xT).alloc (yK hB hsz1) _).grown qj (by rw [ze]; omega) (fun k hk=>((M uZ).lt k hk).1)); have m5:=(zN ((cR (M HT) (M xC) hbB).nd part vE)).2.2.2.2.2.1; clear oB qj n5)
  have hsz2:=(M xC).size
  refine (ranked_b S b B hbB r w2 v2 (done ++ l.hs ++ [part]) _ (cR (M HT) (M xC) hbB) (M HR) (M HHR) (by omega) (by simpa [Nat.add_assoc] using M vO) (by have:=M ju; simp; omega)).mono ?_
  rintro e w3 ⟨v3,rfl,ho3,uf⟩
  have qB:=Q ho3
  have xM:=Q ((M xC).trans uf)
  clear ho3 uf m5
  go_wp2_with fail
  go_ret
  exact ⟨v3,rfl,by simpa [Tr.hs] using M qB,M xM⟩
theorem infoLv_b:(Tryz.prog.info? 168).map (fun i=>(i.zero,i.size,i.bytes)) = some (some (.agg #[H 0,H 0,H 0,H 0]),4,32):=by kernel_rfl
theorem takeR_b {α:Type} (l:List α) (k:Nat) (c:α) (h:l[k]? = some c):l.take (k + 1) = l.take k ++ [c]:=by
 obtain ⟨hk,rfl⟩:=yD.1 h
 rw [List.take_succ_eq_append_getElem hk]
theorem bV {W:World} {B B':Nat} {e:TypeId} {sz:Nat} {v:Value} {n:Nat} {xs:List Value} (h:W.ownsRow B e sz v n xs) (hB:B' ≤ B):W.ownsRow B' e sz v n xs :=
 ⟨h.1,by
  rcases h.2 with z | ⟨g',c',xp,z,K,h3⟩
  ·exact .inl z
  ·exact .inr ⟨g',c',xp,z,yK hB K,h3⟩⟩
theorem flat1_b (l:List Nat):(l.flatMap fun h=>[hval_b h]) = l.map hval_b:=by
 induction l with
 | nil=>rfl
 | cons a r ih=>rw [List.flatMap_cons,ih]; rfl
theorem levelsO_b (b:Nat) (sd:Int) (seq:List Od) (w:World) (h:aC 176 true w b sd seq) (hn:seq.length ≤ 20) :
  Calls Tryz.prog 124 #[I b 0] w fun e w' =>
   ∃ v',e = yk v'∧w'.ownsRow w.heap.size 168 4 v' (aB true sd seq).length ((aB true sd seq).flatMap Lv.vs)∧yl w w':=by
 obtain ⟨S,t,hT,hi,hq,vp⟩:=h
 have hlv:=dZ hi hq
 rw [← hlv]
 have qw:∀ a ∈ t.hs,a < 21:=fun a ha=>by have:=(hi.range a ha).2; omega
 have xD:t.hs.length ≤ 20:=by rw [hi.len]; omega
 have HT:=Q hT
 have HR:=Q hi.rep
 have HH:=Q qw
 have jF:=hT.root
 have jj:=tm_lt hT
 generalize ht:t.hs = hs at *
 have HHS:=Q ht
 have HNIL:=Q (World.ownsRow_nil w w.heap.size 166 1)
 obtain ⟨i0,uv,uq,uw,uM⟩:=info_parts infoLv_b
 clear hi hq vp hlv hT qw ht
 go_enter Tryz.func124,Tryz.ntmps124
 go_wp2_with fail
 refine (ranked_b S b w.heap.size jj t w _ [] S.root (M HT) (M HR) (by rw [M HHS]; exact M HH) tg (M HNIL) (by rw [M HHS]; simp; omega)).mono ?_
 rintro e w1 ⟨v1,rfl,vV,xR⟩
 rw [List.nil_append,M HHS] at vV
 have xT:=Q xR
 have HOR:=Q (bc (f:=fun h=>[hval_b h]) (fun _=>rfl) (by omega) (show w1.ownsRow w.heap.size 166 1 v1 hs.length (hs.flatMap fun h=>[hval_b h]) by rw [flat1_b]; exact vV))
 obtain ⟨a,F,rfl,_,hc⟩:=M HOR
 have xn:∀ k h,hs[k]? = some h→∃ g,a = some (J g 0)∧g < w1.heap.size∧w1.cell? (J g (0 + k * 1 + 0)) = some (H (h:Nat)):=fun k h hk=>by
  obtain ⟨g,z,_,h3,h4,_⟩:=hc (by intro e; rw [e] at hk; simp at hk)
  exact ⟨g,z,h3,h4 k h hk 0 _ rfl⟩
 have HC:=Q xn
 clear vV xR hc xn jF
 go_wp2_with fail
 have xR:=(M xT).size
 go_loopw [3,13] (fun ov iv wr=>∃ (k:Nat) (done:List Lv),k ≤ hs.length∧iv = H k∧Hid (done = (hs.map fun h=>(S.nd h).lv).take k)∧wr.ownsRow w1.heap.size 168 4 ov done.length (done.flatMap Lv.vs)∧yl w1 wr) (fun _ iv _=>hs.length - (intOf iv).toNat)
 case atStart=>exact ⟨0,[],Nat.zero_le _,rfl,by simp [Hid],World.ownsRow_nil _ _ _ _,Below.refl _ _⟩
 case round =>
  obtain ⟨k,done,hk,rfl,hd,xN,xe⟩:=hrel
  have HOW:=Q xN
  have HB:=Q xe
  have hdl:done.length = k:=by rw [M hd,List.length_take,List.length_map]; omega
  clear xN xe
  by_cases xL:k < hs.length
  ·obtain ⟨h,hkh⟩:∃ h,hs[k]? = some h:=⟨_,yE xL⟩
   have qW:Hid ((hs.map fun h=>(S.nd h).lv)[k]? = some (S.nd h).lv):=by show _ = _; rw [List.getElem?_map,hkh]; rfl
   obtain ⟨g,rfl,hg,xk⟩:=M HC k h hkh
   have vE:=M HH h (yL hkh)
   have h21':(h:Int) < 21:=by omega
   have vS:=((M HB).cell (p:=(J g (0 + k * 1 + 0))) hg).trans xk
   rw [show 0 + k * 1 + 0 = k by omega] at vS
   have hTr:=cR (M HT) ((M xT).trans ((M HB).mono xR)) jj
   obtain ⟨n0,n1,n2,n3,-⟩:=zN (hTr.nd h vE)
   have uO:(k:Int) < hs.length:=by omega
   have hsr:=(M HB).size
   clear hkh xk hTr hg
   go_wp2_with (at_builtin; go_must (refine wpList_append_own _ rfl _ _ 133 rfl w1.heap.size 168 i0 _ 4 32 Tryz.underlying133 uv uq uw uM rfl (by decide) _ done.length (done.flatMap Lv.vs) rfl ((M HOW).alloc _) (yn wr 0) 1 1 (S.nd h).lv.vs rfl rfl (cellsH_b wr _ _) (by simp [Value.oneCell',Lv.vs,Nd.lv]) (by unfold maxLen; omega) (by omega) (by simp; omega) ?_); intro v4 w4 jd km _)
   go_roundw
   case rel =>
    refine ⟨k + 1,done ++ [(S.nd h).lv],by omega,by go_num,?_,?_,?_⟩
    ·show done ++ [(S.nd h).lv] = _
     rw [takeR_b _ k _ (M qW),← M hd]
    ·simpa using jd
    ·exact ((M HB).alloc hsr _).grown km (by simp; omega) fun k hk=>((M HOW).lt k hk).1
   case measure=>simp [intOf]; omega
  ·go_wp2_with fail
   go_ret
   have h:=M hd
   rw [yW (by rw [List.length_map]; omega)] at h
   subst h
   exact ⟨_,rfl,bV (M HOW) xR,(M xT).trans ((M HB).mono xR)⟩
theorem levels_b (b:Nat) (sd:Int) (seq:List Od) (w:World) (h:aC 176 true w b sd seq) (hn:seq.length ≤ 20) :
  Calls Tryz.prog 124 #[I b 0] w fun e w' =>
   ∃ v',e = yk v'∧OwnR Lv.vs 4 w.heap.size w' v' (aB true sd seq)∧yl w w':=by
 have xD:(aB true sd seq).length ≤ 20:=by
  obtain ⟨S,t,hT,hi,hq,vp⟩:=h
  rw [← dZ hi hq,List.length_map,hi.len]; omega
 refine (levelsO_b b sd seq w h hn).mono ?_
 rintro e w' ⟨v',rfl,Y,hb⟩
 exact ⟨v',rfl,bc Lv.len (by omega) Y,hb⟩
theorem best_b {S:TS}:∀ {t:Tr} {v:Nat},Rep S.nd t v→t ≠ .nil→v ∈ t.hs∧((S.nd v).be = 0→t.hs.head? = some v)∧((S.nd v).be ≠ 0→∃ l,Rep S.nd l (S.nd v).be∧l ≠ .nil∧l.hs.head? = t.hs.head?∧l.hs.length < t.hs.length∧∀ a ∈ l.hs,a ∈ t.hs)
 | .nil,_,_,h=>absurd rfl h
 | .node h l r,v,⟨e,h0,z,K⟩,_=>by
  subst e
  refine ⟨by simp [Tr.hs],fun hb=>?_,fun hb=>⟨l,z,?_,?_,?_,fun a ha=>by simp [Tr.hs,ha]⟩⟩
  ·rw [hb] at z; obtain rfl:=rep_nil z; rfl
  ·rintro rfl; exact hb z
  ·cases l with
   | nil=>exact absurd z hb
   | node a l' r'=>simp [Tr.hs]
  ·simp [Tr.hs]
def FrI_b (S:TS) (hd:Option Nat) (w0:World) (k:Nat) (p:Value) (wr:World):Prop:=∃ (t:Tr) (v:Nat),p = H v∧Rep S.nd t v∧t ≠ .nil∧t.hs.head? = hd∧t.hs.length ≤ k∧(∀ a ∈ t.hs,a < 21)∧w0 = wr
theorem front_b (b:Nat) (sd:Int) (seq:List Od) (w:World) (h:aC 176 true w b sd seq) (hn:seq.length ≤ 20) :
  Calls Tryz.prog 122 #[I b 0] w fun e w'=>e = yk (frOf (quOf true seq))∧yl w w':=by
 obtain ⟨S,t,hT,hi,hq,vp⟩:=h
 have hou:=tree_orders hi hq
 have qw:∀ a ∈ t.hs,a < 21:=fun a ha=>by have:=(hi.range a ha).2; omega
 have HT:=Q hT
 have jF:=hT.root
 have jj:=tm_lt hT
 by_cases pF:S.root = 0
 ·have ht:=hi.rep
  rw [pF] at ht jF
  obtain rfl:=rep_nil ht
  have HF:Hid (frOf (quOf true seq) = .tuple #[zOdv,.bool false]):=by show _ = _; rw [← hou]; rfl
  clear hi hq vp hou hT ht qw
  go_enter Tryz.func122,Tryz.ntmps122
  go_wp2_with fail
  go_returns
  refine ⟨by rw [M HF]; rfl,?_⟩
  go_grown
 ·have xA:t ≠ .nil:=by rintro rfl; exact pF hi.rep
  have HI:=Q hi
  have HQ:=Q hq
  have HOU:=Q hou
  have HH:=Q qw
  have HNE:=Q xA
  have hr0':¬ ((S.root:Int) = 0):=by omega
  clear hi hq vp hou hT qw xA
  go_enter Tryz.func122,Tryz.ntmps122
  go_wp2_with fail
  go_loopg [4] (t.hs.length) (fun k p wr=>FrI_b S t.hs.head? (w.alloc (E (yt 0 0 0 0 0 ⟨#[]⟩).toArray 49)) k p wr)
  case atStart=>exact ⟨t,S.root,rfl,(M HI).rep,M HNE,rfl,Nat.le_refl _,M HH,rfl⟩
  case round =>
   obtain ⟨t1,v,rfl,z,K,h3,h4,h5,rfl⟩:=hrel
   obtain ⟨b1,b2,b3⟩:=best_b z K
   have hv21:=h5 v b1
   have hv21':(v:Int) < 21:=by omega
   have qc:=aS (M HT) (Below.heap_alloc w (E (yt 0 0 0 0 0 ⟨#[]⟩).toArray 49) b jj)
   obtain ⟨-,-,-,-,n4,-,n6,-⟩:=zN (qc.nd v hv21)
   have H3:=Q h3
   have H4:=Q h4
   have H5:=Q h5
   by_cases ji:(S.nd v).be = 0
   ·have ou:=b2 ji
    rw [h3] at ou
    have hvm:v ∈ t.hs:=List.mem_of_head? ou
    have hQ:=(M HQ).q v hvm
    obtain ⟨e,rest,hqs⟩:∃ e rest,qs seq (S.nd v).ticks = e :: rest:=by
     cases kW:qs seq (S.nd v).ticks with
     | nil=>exact absurd kW hQ.ne
     | cons e rest=>exact ⟨e,rest,rfl⟩
    have hch:=hQ.chain
    rw [hqs] at hch
    obtain ⟨he,he0,-⟩:=hch
    have he21:e < 21:=by
     have:=(bI (S.nd v).ticks seq 1 e (by have h:e ∈ qs seq (S.nd v).ticks:=(by rw [hqs]; simp); exact h)).2.1
     omega
    have he21':(e:Int) < 21:=by omega
    have HF:Hid (frOf (quOf true seq) = .tuple #[(S.qo e).od.val,.bool true]):=by
     show _ = _
     rw [← M HOU]
     obtain ⟨tl,htl⟩:∃ tl,t.hs = v :: tl:=by
      cases hh:t.hs with
      | nil=>rw [hh] at ou; simp at ou
      | cons a r=>rw [hh] at ou; simp at ou; rw [ou]; exact ⟨r,rfl⟩
     rw [htl,List.flatMap_cons,hqs]
     rfl
    obtain ⟨q0,q1,q2,q3,q4,q5,-⟩:=dw (qc.qo e he21)
    rw [he] at n6
    rw [ji] at n4
    clear z K h3 h4 h5 b1 b2 b3 qc ou hvm hQ hqs he ji
    go_wp2_with fail
    go_region
    go_wp2_with fail
    go_returns
    refine ⟨by rw [M HF]; rfl,?_⟩
    go_grown
   ·obtain ⟨l,l1,l2,l3,l4,l5⟩:=b3 ji
    have hbe':¬ (((S.nd v).be:Int) = 0):=by omega
    have HL:Hid (Rep S.nd l (S.nd v).be∧l ≠ .nil∧l.hs.head? = t1.hs.head?∧l.hs.length < t1.hs.length∧∀ a ∈ l.hs,a ∈ t1.hs):=⟨l1,l2,l3,l4,l5⟩
    clear z K h3 h4 h5 b1 b2 b3 qc l1 l2 l3 l4 l5 ji
    go_wp2_with fail
    go_roundg (l.hs.length)
    case measure=>have:=M H4; have:=(M HL).2.2.2.1; omega
    case rel=>exact ⟨l,_,rfl,(M HL).1,(M HL).2.1,(M HL).2.2.1.trans (M H3),Nat.le_refl _,fun a ha=>M H5 a ((M HL).2.2.2.2 a ha),rfl⟩
def aU (b:Nat):Value:=.agg #[.func (.func 122) #[I b 0] #[],.func (.func 123) #[I b 0] #[],.func (.func 124) #[I b 0] #[]]
theorem ask_b (b:Nat) (w:World) :
  Calls Tryz.prog 75 #[I b 0] w fun e w'=>e = yk (aU b)∧yl w w':=by
 have hmf:∀ (fn:Fn) (first F:Array Value) (w:World),(Instr.makeFunc fn first F).run Tryz.prog w = .ok (.func fn first F) w:=fun _ _ _ _=>rfl
 go_enter Tryz.func75,Tryz.ntmps75
 go_wp2_with fail
 go_returns
 refine ⟨rfl,?_⟩
 go_grown
theorem better_s (a c:Int) (w:World) :
  Calls Tryz.prog 189 #[.agg #[],H a,H c] w fun e w'=>e = yk (.bool (decide (a < c)))∧w.grownBy w' none:=by
 go_enter Tryz.func189,Tryz.ntmps189
 go_wp2_with fail
 go_ret
 exact ⟨rfl,World.grownBy_alloc _ _ _⟩
theorem method_s (w:World):Sem.run Tryz.prog (method 322 130 (.agg #[]) "loop.example/g00092/impl.better") w = .ok (189,.agg #[]) w:=by kernel_rfl
theorem part_s {w:World} {b:Nat} (h:∃ xp,w.heap[b]? = some (.cells xp 179 (0,0))):Sem.run Tryz.prog (partAt (J b 0) 0 0) w = .ok (J b 0) w:=by
 obtain ⟨xp,h⟩:=h
 have hc:Tryz.prog.cellsOf 179 = 318:=by kernel_rfl
 have hy:byteOfCell Tryz.prog Tryz.prog.depth 179 0 = some 0:=by kernel_rfl
 have hs:w.shape? b = some (179,xp.size):=by simp [World.shape?,h]
 simp [partAt,byteOf,noView,viewAt,hs,hc,hy]
theorem levelFor_s (b:Nat) (S:TS) (t:Tr) (o:Od) (w:World) (hT:TM 179 w b S) (hi:TI false S t) (vp:S.lc < 20) :
  Calls Tryz.prog 158 #[I b 0,.agg (yt o.id o.side o.ticks o.left o.life o.tag).toArray] w fun e w' =>
   ∃ (h:Nat),e = yk (H h)∧LFEnd false 179 b S t o w h w':=by
 have HT:=Q hT
 have HI:=Q hi
 clear hT hi
 go_enter Tryz.func158,Tryz.ntmps158
 go_wp2_with fail
 have HW:Hid (∃ W,W = (w.alloc (E (yt o.id o.side o.ticks o.left o.life o.tag).toArray 49))∧W.rangeAt w.heap.size 0 o.vs∧TM 179 W b S∧w.grownBy W (some b)∧w.heap.size < W.heap.size∧b ≠ w.heap.size) :=
  ⟨_,rfl,zg w o.vs _,aS (M HT) (Below.heap_alloc w _ _ (tm_lt (M HT))),World.grownBy_alloc _ _ _,by rw [ze]; omega,by have:=tm_lt (M HT); omega⟩
 obtain ⟨W,hW,hWW⟩:=M HW
 rw [← hW]
 have pl:=Q hWW
 clear hW hWW HW HT
 go_loopg [5] (t.hs.length) (fun k p wr=>LFI false b S t o.ticks W k p wr)
 case atStart=>exact ⟨[],t,rfl,Nat.le_refl _,way_start (M HI) _,yO _ _⟩
 case round =>
  obtain ⟨c,u,rfl,hk,hw,hg⟩:=hrel
  have jy:=Q hw
  have HG:=Q hg
  have HK:=Q hk
  have hT:=dC (M pl).2.1 hg (by simp)
  have c0:=cur_cell hT (zW c) (cur_ok (M HI) hw vp)
  obtain ⟨o0,o1,o2,o3,o4,o5⟩:=zx (zm (M pl).1 hg (M pl).2.2.2.1 (by simp))
  clear hk hw hg
  by_cases ha:S.rd (zW c) = 0
  ·have pF:=hT.lc
   have hf:=hT.fr
   have HA0:=Q ha
   rw [ha] at c0
   have hlc':(S.lc:Int) < 20:=by omega
   have e1:((S.lc + 1:Nat):Int) = (S.lc:Int) + 1:=by omega
   have xV:=cur_ok (M HI) (M jy) vp
   have t1:=tm_lc hT (S.lc + 1)
   have t2:=tm_cur t1 (zW c) xV (S.lc + 1)
   rw [e1] at t1 t2
   have d2:_ = _:=(cur_cell t1 (zW c) xV).trans (congrArg (fun x:Nat=>some (H x)) (show TS.rd _ (zW c) = 0 from by rw [← ha]; cases (zW c) <;> rfl))
   have d3:_ = _:=t2.lc
   rw [(wr_same _ _ _).1] at d3
   simp only [e1] at d3
   have g1:=t1.fr
   have g2:=t2.fr
   obtain ⟨n0,n1,n2,n3,-⟩:=zN (t2.nd (S.lc + 1) (by omega))
   have hb:b ≠ w.heap.size:=(M pl).2.2.2.2
   have p1:((wr.setCell (J b 1) (H ((S.lc:Int) + 1))).setCell (J b ((zW c).off)) (H ((S.lc:Int) + 1))).cell? (yn w (0 + 1)) = some (H o.side):=by
    rw [yI _ _ _ _ (fun e=>hb (congrArg Addr.block e)),yI _ _ _ _ (fun e=>hb (congrArg Addr.block e))]; exact o1
   have p2:((wr.setCell (J b 1) (H ((S.lc:Int) + 1))).setCell (J b ((zW c).off)) (H ((S.lc:Int) + 1))).cell? (yn w (0 + 2)) = some (H o.ticks):=by
    rw [yI _ _ _ _ (fun e=>hb (congrArg Addr.block e)),yI _ _ _ _ (fun e=>hb (congrArg Addr.block e))]; exact o2
   have vh:=Q t2
   have HB:=Q hb
   clear ha hT t1 t2 xV hb
   go_wp2_with fail
   have oH:Hid (wr.grownBy ((wr.setCell (J b 1) (H ((S.lc:Int) + 1))).setCell (J b ((zW c).off)) (H ((S.lc:Int) + 1))) (some b)):=zP (zP (yO _ _) _ _) _ _
   generalize hW4:((wr.setCell (J b 1) (H ((S.lc:Int) + 1))).setCell (J b ((zW c).off)) (H ((S.lc:Int) + 1))) = W4 at *
   rw [← e1] at d3
   obtain ⟨m,hm⟩:∃ m,m = S.lc + 1:=⟨_,rfl⟩
   rw [← hm] at d3 n0 n1 n2 n3
   have hm21:(m:Int) < 21:=by omega
   have HM:=Q hm
   clear hW4 hm e1 d2 pF hf g1 c0 o0 o1 o2 o3 o4 o5 hlc'
   go_region
   have t3:=M vh
   have t4:=aJ t3 (S.lc + 1) 0 (by omega) (by omega) (H o.side) { (TS.nd _ (S.lc + 1)) with side:=o.side } rfl _ rfl
   have t5:=aJ t4 (S.lc + 1) 1 (by omega) (by omega) (H o.ticks) { (TS.nd _ (S.lc + 1)) with ticks:=o.ticks } rfl _ rfl
   have t6:=aJ t5 (S.lc + 1) 2 (by omega) (by omega) (H 0) { (TS.nd _ (S.lc + 1)) with qty:=0 } rfl _ rfl
   have t7:=aJ t6 (S.lc + 1) 3 (by omega) (by omega) (H 0) { (TS.nd _ (S.lc + 1)) with count:=0 } rfl _ rfl
   have HG7:=Q (gr_drew (zP (zP (zP (zP (M oH) (2 + m * 8) (H o.side)) (2 + m * 8 + 1) (H o.ticks)) (2 + m * 8 + 2) (H 0)) (2 + m * 8 + 3) (H 0)))
   rw [← M HM] at t7
   simp only [cG,zp] at t7
   have hS:_ = S.grow (zW c) o.side o.ticks:=grow_eq S (zW c) o m (M HM)
   rw [hS] at t7
   have d7:_ = some (H (m:Int)):=t7.lc.trans (by rw [M HM]; rfl)
   have HT7:=Q t7
   clear t3 t4 t5 t6 t7 n0 n1 n2 n3 d3 p1 p2
   generalize (((W4.setCell (J b (2 + m * 8)) (H o.side)).setCell (J b (2 + m * 8 + 1)) (H o.ticks)).setCell (J b (2 + m * 8 + 2)) (H 0)).setCell (J b (2 + m * 8 + 3)) (H 0) = W7 at *
   go_wp2_with fail
   go_ret
   exact ⟨m,rfl,_,aS (M HT7) rfl,(M pl).2.2.1.trans (((M HG).but _).trans (M HG7)),.inr ⟨c,u,M jy,M HA0,M HM,rfl⟩⟩
  ·have ham:=way_at (M jy) rfl ha
   have har:=(M HI).range _ ham
   obtain ⟨a,hae⟩:∃ a,a = S.rd (zW c):=⟨_,rfl⟩
   rw [← hae] at c0 ha ham har
   have HAE:=Q hae
   have ha':¬ ((a:Int) = 0):=by omega
   have ha21:(a:Int) < 21:=by omega
   obtain ⟨n0,n1,n2,n3,n4,n5,n6,n7⟩:=zN (hT.nd a (by omega))
   have HTM:=Q hT
   have jD:∀ w',wr.grownBy w' none→Sem.run Tryz.prog (partAt (J b 0) 0 0) w' = .ok (J b 0) w':=fun w' h=>part_s (dC (M HTM) h (by simp)).obj
   have HPT:=Q jD
   have HN1:=Q (fun w' (h:wr.grownBy w' none)=>h.cell n1 (by simp))
   have vO:=Q (fun w' (h:wr.grownBy w' none)=>h.cell o2 (by simp))
   clear hae hT jD
   go_wp2_with fail
   go_quiet (fail)
   go_wp2_with fail
   refine di (W:=wr) (by kernel_rfl) (by kernel_rfl) ⟨rfl,rfl,rfl,Nat.le_refl _,fun _ _ _=>rfl⟩ ?_
   iterate 12 (
    refine aN (v:=?_) ?_ ?_ ?_
    rotate_left
    ·rfl
    ·intro w' uc
     have f1:=M HN1 w' uc
     have f2:=M vO w' uc
     have f3:=M HPT w' uc
     go_simp
     try rfl
    intro h2 hK
    go_simp
    refine hK _ ?_
    clear hK h2)
   refine aN (v:=.bool (decide (o.ticks < (S.nd a).ticks))) ?_ ?_ ?_
   ·rfl
   ·intro w' uc
    have hm:=method_s w'
    go_simp
    refine (better_s _ _ _).mono ?_
    rintro e w3 ⟨rfl,uz⟩
    exact ⟨rfl,uc.trans uz⟩
   intro h2 hK
   go_simp
   refine hK _ ?_
   clear hK h2
   refine aN (v:=?_) ?_ ?_ ?_
   rotate_left
   ·rfl
   ·intro w' uc
    go_simp
    try rfl
   intro h2 hK
   go_simp
   refine hK _ ?_
   clear hK h2
   refine wpQuiet_nil ?_
   intro w2 qj
   have vz:=Q qj
   clear qj
   by_cases z:o.ticks < (S.nd a).ticks
   ·have pv:decide (o.ticks < (S.nd a).ticks) = true:=by simpa using z
    go_wp2_with fail
    obtain ⟨l,r,rfl,hw2⟩:=way_be (M HI) (M jy) (M HAE).symm ha z
    go_roundg (l.hs.length)
    case measure=>have:=M HK; simp [Tr.hs] at this; omega
    case rel=>exact ⟨_,l,rfl,Nat.le_refl _,hw2,(M HG).trans (M vz)⟩
   ·have pv:decide (o.ticks < (S.nd a).ticks) = false:=by simpa using z
    go_wp2_with fail
    refine di (W:=wr) (by kernel_rfl) (by kernel_rfl) (M vz) ?_
    iterate 12 (
     refine aN (v:=?_) ?_ ?_ ?_
     rotate_left
     ·rfl
     ·intro w' uc
      have f1:=M HN1 w' uc
      have f2:=M vO w' uc
      have f3:=M HPT w' uc
      go_simp
      try rfl
     intro h2 hK
     go_simp
     refine hK _ ?_
     clear hK h2)
    refine aN (v:=.bool (decide ((S.nd a).ticks < o.ticks))) ?_ ?_ ?_
    ·rfl
    ·intro w' uc
     have hm:=method_s w'
     go_simp
     refine (better_s _ _ _).mono ?_
     rintro e w3 ⟨rfl,uz⟩
     exact ⟨rfl,uc.trans uz⟩
    intro h2 hK
    go_simp
    refine hK _ ?_
    clear hK h2
    refine aN (v:=?_) ?_ ?_ ?_
    rotate_left
    ·rfl
    ·intro w' uc
     go_simp
     try rfl
    intro h2 hK
    go_simp
    refine hK _ ?_
    clear hK h2
    refine wpQuiet_nil ?_
    intro w3 uz
    have vJ:=Q uz
    clear uz
    by_cases K:(S.nd a).ticks < o.ticks
    ·have kj:decide ((S.nd a).ticks < o.ticks) = true:=by simpa using K
     go_wp2_with fail
     obtain ⟨l,r,rfl,hw2⟩:=way_wo (M HI) (M jy) (M HAE).symm ha K
     go_roundg (r.hs.length)
     case measure=>have:=M HK; simp [Tr.hs] at this; omega
     case rel=>exact ⟨_,r,rfl,Nat.le_refl _,hw2,(M HG).trans (M vJ)⟩
    ·have kj:decide ((S.nd a).ticks < o.ticks) = false:=by simpa using K
     have c3:=(M vJ).cell c0 (by simp)
     go_wp2_with fail
     go_ret
     have hG:=(M HG).trans (M vJ)
     exact ⟨a,rfl,S,dC (M pl).2.1 hG (by simp),(M pl).2.2.1.trans (hG.but _),.inl ⟨ham,by omega,rfl⟩⟩
end Go.Proofs.YtbakanofkghmiaaGreat
