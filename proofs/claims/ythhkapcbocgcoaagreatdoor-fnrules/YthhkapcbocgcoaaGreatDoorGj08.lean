/-
  The tree of a side's orders, planted: proved by walking the function.
-/
import Derived.Test.YthhkapcbocgcoaaGreatDoorGj07
set_option linter.unusedVariables false
set_option maxHeartbeats 6400000
set_option maxRecDepth 100000
namespace Go.Proofs.YthhkapcbocgcoaaGreatDoor
open Go.RowKit
theorem zNd_s:∀ i,i < 21→(Tryz.zeroCells200.toList.drop (2 + i * 8)).take 8 = zNd.vs
 | 0,_=>by kernel_rfl
 | 1,_=>by kernel_rfl
 | 2,_=>by kernel_rfl
 | 3,_=>by kernel_rfl
 | 4,_=>by kernel_rfl
 | 5,_=>by kernel_rfl
 | 6,_=>by kernel_rfl
 | 7,_=>by kernel_rfl
 | 8,_=>by kernel_rfl
 | 9,_=>by kernel_rfl
 | 10,_=>by kernel_rfl
 | 11,_=>by kernel_rfl
 | 12,_=>by kernel_rfl
 | 13,_=>by kernel_rfl
 | 14,_=>by kernel_rfl
 | 15,_=>by kernel_rfl
 | 16,_=>by kernel_rfl
 | 17,_=>by kernel_rfl
 | 18,_=>by kernel_rfl
 | 19,_=>by kernel_rfl
 | 20,_=>by kernel_rfl
 | n + 21,h=>absurd h (by omega)
theorem zQo_s:∀ i,i < 21→(Tryz.zeroCells200.toList.drop (171 + i * 7)).take 7 = zQo.vs
 | 0,_=>by kernel_rfl
 | 1,_=>by kernel_rfl
 | 2,_=>by kernel_rfl
 | 3,_=>by kernel_rfl
 | 4,_=>by kernel_rfl
 | 5,_=>by kernel_rfl
 | 6,_=>by kernel_rfl
 | 7,_=>by kernel_rfl
 | 8,_=>by kernel_rfl
 | 9,_=>by kernel_rfl
 | 10,_=>by kernel_rfl
 | 11,_=>by kernel_rfl
 | 12,_=>by kernel_rfl
 | 13,_=>by kernel_rfl
 | 14,_=>by kernel_rfl
 | 15,_=>by kernel_rfl
 | 16,_=>by kernel_rfl
 | 17,_=>by kernel_rfl
 | 18,_=>by kernel_rfl
 | 19,_=>by kernel_rfl
 | 20,_=>by kernel_rfl
 | n + 21,h=>absurd h (by omega)
theorem zTree_s (w:World) (sd:Int):bY 200 false (w.alloc (Obj.cells Tryz.zeroCells200 200)) w.heap.size sd [] :=
 ⟨zTS,.nil,tm_zero w _ _ (by kernel_rfl) (by kernel_rfl) zNd_s (by kernel_rfl) zQo_s,ti_zero _,qi_zero _,Nat.le_refl _⟩
theorem plant_s (v:Value) (l:List Od) (sd:Int) (w:World) (hr:RdR Od.vs 6 w v l) (hn:l.length ≤ 20) (hl:∀ o' ∈ l,0 ≤ o'.left∧o'.left ≤ 1000000) :
  Calls Tryz.prog 125 #[v,H sd] w fun e w' =>
   e = ym (yp w 0)∧bY 200 false w' w.heap.size sd (zr l sd)∧yn w w':=by
 obtain ⟨a,cap,rfl,xD,hc⟩:=hr
 have xr:∀ (k:Nat) (c:Od),l[k]? = some c→∃ b off,a = some (J b off)∧b < w.heap.size∧w.rangeAt b (off + k * 6) c.vs:=by
  intro k c E
  obtain ⟨b,off,Q,D,X⟩:=hc (by intro h; rw [h] at E; simp at E)
  exact ⟨b,off,Q,D,X k c E⟩
 have HC:=M xr
 have HL:=M hl
 have HN:=M hn
 clear xr hc hl
 have HZ:=M (zTree_s w sd)
 have xZ:Hid (yn w (w.alloc (Obj.cells Tryz.zeroCells200 200))):=gZ _ _
 go_enter Tryz.func125,Tryz.ntmps125
 go_wp2_with fail
 generalize (w.alloc (Obj.cells Tryz.zeroCells200 200)) = W0 at HZ xZ ⊢
 go_loopw [11] (fun i wr=>∃ k:Nat,k ≤ l.length∧i = H k∧bY 200 false wr w.heap.size sd (zr (l.take k) sd)∧yn w wr) (fun i _=>l.length - (intOf i).toNat)
 case atStart=>exact ⟨0,Nat.zero_le _,rfl,U HZ,U xZ⟩
 case round =>
  obtain ⟨k,E,rfl,htr,xi⟩:=hrel
  have qd:=M htr
  have vk:=M xi
  clear htr xi HZ xZ
  by_cases xM:k < l.length
  ·obtain ⟨c,uV⟩:∃ c,l[k]? = some c:=⟨_,yI xM⟩
   have kY:=M uV
   obtain ⟨b,off,rfl,A,xo⟩:=U HC k c uV
   obtain ⟨g0,g1,g2,g3,g4,g5⟩:=zC (zc xo (U vk) A)
   have vj:(k:Int) < l.length:=by omega
   clear uV xo A
   by_cases ui:c.side = sd
   ·have HIT:Hid (zr (l.take (k + 1)) c.side = zr (l.take k) c.side ++ [c]):=ofSide_snoc l k c (U kY)
    subst ui
    have kD:(zr (l.take k) c.side).length < 20:=by
     have Q:(zr (l.take k) c.side).length ≤ (l.take k).length:=List.length_filter_le _ _
     have D:(l.take k).length ≤ k:=List.length_take_le _ _
     have X:=U HN
     omega
    have au:=M kD
    have xo:=U HL c (yP (U kY))
    have kH:=M xo
    clear kD xo
    go_wp2_with fail
    refine (add_s w.heap.size c.side (zr (l.take k) c.side) c _ (zu (U qd) (Below.heap_alloc wr _ _ (zG (U qd)))) rfl (U au) (fun o' vu=>U HL o' (List.mem_of_mem_take (List.mem_filter.1 vu).1)) (U kH)).mono ?_
    rintro e w2 ⟨rfl,ba,vh⟩
    rw [← U HIT] at ba
    have aE:=M ba
    have xt:=M (((U vk).alloc (U vk).size _).grown vh (by rw [zi]; have:=(U vk).size; omega) (fun g hg=>by obtain rfl:=Option.some.inj hg; exact Nat.le_refl _))
    clear ba vh
    go_wp2_with fail
    go_roundw
    case rel=>exact ⟨k + 1,by omega,by go_num,U aE,U xt⟩
    case measure=>simp [intOf]; omega
   ·have HIT:Hid (zr (l.take (k + 1)) sd = zr (l.take k) sd):=ofSide_skip l k c (U kY) ui
    go_wp2_with fail
    go_roundw
    case rel =>
     refine ⟨k + 1,by omega,by go_num,?_,?_⟩
     ·rw [U HIT]; exact zu (U qd) (Below.heap_alloc wr _ _ (zG (U qd)))
     ·exact (U vk).alloc (U vk).size _
    case measure=>simp [intOf]; omega
  ·go_wp2_with fail
   go_ret
   have h:=U qd
   rw [xa (by omega)] at h
   exact ⟨rfl,h,U vk⟩
theorem infoH_s:(Tryz.prog.info? 187).map (fun i=>(i.zero,i.size,i.bytes)) = some (some (H 0),1,8):=by kernel_rfl
theorem cellsH_s (w:World) (cs:List Value) (t:TypeId) (j:Nat) (u:Value) (h:cs[j]? = some u):(w.alloc (Obj.cells cs.toArray t)).cell? (((yq w 0):Addr).add j) = some u:=by
 rw [Addr.add_mid,cell_of_row _ w.heap.size (0 + j) cs.toArray t (0,0) (heap_alloc_new w _)]
 simpa using h
def hval_s (h:Nat):Value:=H h
theorem ranked_s (S:TS) (b B:Nat) (bG:b < B):∀ (t:Tr) (w:World) (v:Value) (done:List Nat) (part:Nat),TM 200 w b S→Rep S.nd t part→(∀ h ∈ t.hs,h < 21)→B ≤ w.heap.size →
  w.ownsRow B 187 1 v done.length (done.map hval_s)→done.length + t.hs.length ≤ 1000 →
  Calls Tryz.prog 194 #[I b 0,v,H part] w fun e w' =>
   ∃ v',e = ym v'∧w'.ownsRow B 187 1 v' (done ++ t.hs).length ((done ++ t.hs).map hval_s)∧Below B w w'
 | .nil,w,v,done,part,hT,hrep,hh,hB,xS,xD=>by
  obtain rfl:part = 0:=hrep
  have HO:=M xS
  clear xS hT hh
  go_enter Tryz.func194,Tryz.ntmps194
  go_wp2_with fail
  go_ret
  exact ⟨v,rfl,by simpa [Tr.hs] using U HO,Below.refl _ _⟩
 | .node h l r,w,v,done,part,hT,hrep,hh,hB,xS,xD=>by
  obtain ⟨rfl,h0,hl,hr⟩:=hrep
  have HO:=M xS
  have HT:=M hT
  have HL:=M hl
  have HR:=M hr
  have pu:done.length + (l.hs.length + 1 + r.hs.length) ≤ 1000:=by simp [Tr.hs] at xD; omega
  have qe:=hh part (by simp [Tr.hs])
  have HHL:=M (fun a (ha:a ∈ l.hs)=>hh a (by simp [Tr.hs,ha]))
  have HHR:=M (fun a (ha:a ∈ r.hs)=>hh a (by simp [Tr.hs,ha]))
  have h21':(part:Int) < 21:=by omega
  have h0':¬ ((part:Int) = 0):=by omega
  have kf:=M pu
  obtain ⟨-,-,-,-,n4,-⟩:=zJ (hT.nd part qe)
  obtain ⟨i0,hi,uD,uz,uM⟩:=info_parts infoH_s
  clear xS hT hh hl hr xD pu
  go_enter Tryz.func194,Tryz.ntmps194
  go_wp2_with fail
  refine (ranked_s S b B bG l w v done _ (U HT) (U HL) (U HHL) hB (U HO) (by have:=U kf; omega)).mono ?_
  rintro e w1 ⟨v1,rfl,qA,ub⟩
  have vv:=M qA
  have xU:=M ub
  have hsz1:=ub.size
  have hla:(done ++ l.hs).length ≤ 999:=by have:=U kf; rw [yQ]; omega
  obtain ⟨-,-,-,-,-,n5,-⟩:=zJ ((eK (U HT) ub bG).nd part qe)
  clear qA ub n4
  go_wp2_with (at_builtin; go_must (refine wpList_append_own _ rfl _ _ 220 rfl B 187 i0 _ 1 8 Tryz.underlying220 hi uD uz uM rfl (by decide) v1 (done ++ l.hs).length ((done ++ l.hs).map hval_s) rfl ((U vv).alloc _) (yq w1 0) 1 1 [hval_s part] rfl rfl (cellsH_s w1 _ _) (by simp [Value.oneCell',hval_s]) (by unfold maxLen; omega) (by omega) (by simp at hla ⊢; omega) ?_); intro v2 w2 pw vh _; have qy:=M pw; have xt:=M (((U xU).alloc (yO hB hsz1) _).grown vh (by rw [zi]; omega) (fun k E=>((U vv).lt k E).1)); have m5:=(zJ ((eK (U HT) (U xt) bG).nd part qe)).2.2.2.2.2.1; clear pw vh n5)
  have hsz2:=(U xt).size
  refine (ranked_s S b B bG r w2 v2 (done ++ l.hs ++ [part]) _ (eK (U HT) (U xt) bG) (U HR) (U HHR) (by omega) (by simpa [Nat.add_assoc] using U qy) (by have:=U kf; simp; omega)).mono ?_
  rintro e w3 ⟨v3,rfl,bM,xQ⟩
  have qW:=M bM
  have xG:=M ((U xt).trans xQ)
  clear bM xQ m5
  go_wp2_with fail
  go_ret
  exact ⟨v3,rfl,by simpa [Tr.hs] using U qW,U xG⟩
theorem infoLv_s:(Tryz.prog.info? 189).map (fun i=>(i.zero,i.size,i.bytes)) = some (some (.agg #[H 0,H 0,H 0,H 0]),4,32):=by kernel_rfl
theorem takeR_s {α:Type} (l:List α) (k:Nat) (c:α) (h:l[k]? = some c):l.take (k + 1) = l.take k ++ [c]:=by
 obtain ⟨E,rfl⟩:=yH.1 h
 rw [List.take_succ_eq_append_getElem E]
theorem rowBase_s {W:World} {B B':Nat} {e:TypeId} {sz:Nat} {v:Value} {n:Nat} {xs:List Value} (h:W.ownsRow B e sz v n xs) (hB:B' ≤ B):W.ownsRow B' e sz v n xs :=
 ⟨h.1,by
  rcases h.2 with Q | ⟨g',c',xz,Q,D,X⟩
  ·exact .inl Q
  ·exact .inr ⟨g',c',xz,Q,yO hB D,X⟩⟩
theorem flat1_s (l:List Nat):(l.flatMap fun h=>[hval_s h]) = l.map hval_s:=by
 induction l with
 | nil=>rfl
 | cons a r ih=>rw [List.flatMap_cons,ih]; rfl
theorem levelsO_s (b:Nat) (sd:Int) (seq:List Od) (w:World) (h:bY 200 false w b sd seq) (hn:seq.length ≤ 20) :
  Calls Tryz.prog 170 #[I b 0] w fun e w' =>
   ∃ v',e = ym v'∧w'.ownsRow w.heap.size 189 4 v' (bX false sd seq).length ((bX false sd seq).flatMap Lv.vs)∧yn w w':=by
 obtain ⟨S,t,hT,hi,hq,vB⟩:=h
 have hlv:=gx hi hq
 rw [← hlv]
 have qR:∀ a ∈ t.hs,a < 21:=fun a ha=>by have:=(hi.range a ha).2; omega
 have xD:t.hs.length ≤ 20:=by rw [hi.len]; omega
 have HT:=M hT
 have HR:=M hi.rep
 have HH:=M qR
 have ko:=hT.root
 have oC:=tm_lt hT
 generalize ht:t.hs = hs at *
 have HHS:=M ht
 have HNIL:=M (World.ownsRow_nil w w.heap.size 187 1)
 obtain ⟨i0,uJ,uD,uz,uM⟩:=info_parts infoLv_s
 clear hi hq vB hlv hT qR ht
 go_enter Tryz.func170,Tryz.ntmps170
 go_wp2_with fail
 refine (ranked_s S b w.heap.size oC t w _ [] S.root (U HT) (U HR) (by rw [U HHS]; exact U HH) hU (U HNIL) (by rw [U HHS]; simp; omega)).mono ?_
 rintro e w1 ⟨v1,rfl,qA,ub⟩
 rw [List.nil_append,U HHS] at qA
 have xU:=M ub
 have HOR:=M (eu (f:=fun h=>[hval_s h]) (fun _=>rfl) (by omega) (show w1.ownsRow w.heap.size 187 1 v1 hs.length (hs.flatMap fun h=>[hval_s h]) by rw [flat1_s]; exact qA))
 obtain ⟨a,cap,rfl,_,hc⟩:=U HOR
 have xr:∀ k h,hs[k]? = some h→∃ g,a = some (J g 0)∧g < w1.heap.size∧w1.cell? (J g (0 + k * 1 + 0)) = some (H (h:Nat)):=fun k h E=>by
  obtain ⟨g,Q,_,X,h4,_⟩:=hc (by intro e; rw [e] at E; simp at E)
  exact ⟨g,Q,X,h4 k h E 0 _ rfl⟩
 have HC:=M xr
 clear qA ub hc xr ko
 go_wp2_with fail
 have ub:=(U xU).size
 go_loopw [3,13] (fun ov iv wr=>∃ (k:Nat) (done:List Lv),k ≤ hs.length∧iv = H k∧Hid (done = (hs.map fun h=>(S.nd h).lv).take k)∧wr.ownsRow w1.heap.size 189 4 ov done.length (done.flatMap Lv.vs)∧yn w1 wr) (fun _ iv _=>hs.length - (intOf iv).toNat)
 case atStart=>exact ⟨0,[],Nat.zero_le _,rfl,by simp [Hid],World.ownsRow_nil _ _ _ _,Below.refl _ _⟩
 case round =>
  obtain ⟨k,done,E,rfl,hd,xS,xi⟩:=hrel
  have HOW:=M xS
  have HB:=M xi
  have hdl:done.length = k:=by rw [U hd,List.length_take,List.length_map]; omega
  clear xS xi
  by_cases xM:k < hs.length
  ·obtain ⟨h,hkh⟩:∃ h,hs[k]? = some h:=⟨_,yI xM⟩
   have kY:Hid ((hs.map fun h=>(S.nd h).lv)[k]? = some (S.nd h).lv):=by show _ = _; rw [List.getElem?_map,hkh]; rfl
   obtain ⟨g,rfl,hg,xo⟩:=U HC k h hkh
   have qe:=U HH h (yP hkh)
   have h21':(h:Int) < 21:=by omega
   have qQ:=((U HB).cell (p:=(J g (0 + k * 1 + 0))) hg).trans xo
   rw [show 0 + k * 1 + 0 = k by omega] at qQ
   have hTr:=eK (U HT) ((U xU).trans ((U HB).mono ub)) oC
   obtain ⟨n0,n1,n2,n3,-⟩:=zJ (hTr.nd h qe)
   have vj:(k:Int) < hs.length:=by omega
   have hsr:=(U HB).size
   clear hkh xo hTr hg
   go_wp2_with (at_builtin; go_must (refine wpList_append_own _ rfl _ _ 161 rfl w1.heap.size 189 i0 _ 4 32 Tryz.underlying161 uJ uD uz uM rfl (by decide) _ done.length (done.flatMap Lv.vs) rfl ((U HOW).alloc _) (yq wr 0) 1 1 (S.nd h).lv.vs rfl rfl (cellsH_s wr _ _) (by simp [Value.oneCell',Lv.vs,Nd.lv]) (by unfold maxLen; omega) (by omega) (by simp; omega) ?_); intro v4 w4 jD jt _)
   go_roundw
   case rel =>
    refine ⟨k + 1,done ++ [(S.nd h).lv],by omega,by go_num,?_,?_,?_⟩
    ·show done ++ [(S.nd h).lv] = _
     rw [takeR_s _ k _ (U kY),← U hd]
    ·simpa using jD
    ·exact ((U HB).alloc hsr _).grown jt (by simp; omega) fun k E=>((U HOW).lt k E).1
   case measure=>simp [intOf]; omega
  ·go_wp2_with fail
   go_ret
   have h:=U hd
   rw [xa (by rw [List.length_map]; omega)] at h
   subst h
   exact ⟨_,rfl,rowBase_s (U HOW) ub,(U xU).trans ((U HB).mono ub)⟩
theorem levels_s (b:Nat) (sd:Int) (seq:List Od) (w:World) (h:bY 200 false w b sd seq) (hn:seq.length ≤ 20) :
  Calls Tryz.prog 170 #[I b 0] w fun e w' =>
   ∃ v',e = ym v'∧OwnR Lv.vs 4 w.heap.size w' v' (bX false sd seq)∧yn w w':=by
 have xD:(bX false sd seq).length ≤ 20:=by
  obtain ⟨S,t,hT,hi,hq,vB⟩:=h
  rw [← gx hi hq,List.length_map,hi.len]; omega
 refine (levelsO_s b sd seq w h hn).mono ?_
 rintro e w' ⟨v',rfl,Y,A⟩
 exact ⟨v',rfl,eu Lv.len (by omega) Y,A⟩
theorem best_s {S:TS}:∀ {t:Tr} {v:Nat},Rep S.nd t v→t ≠ .nil→v ∈ t.hs∧((S.nd v).be = 0→t.hs.head? = some v)∧((S.nd v).be ≠ 0→∃ l,Rep S.nd l (S.nd v).be∧l ≠ .nil∧l.hs.head? = t.hs.head?∧l.hs.length < t.hs.length∧∀ a ∈ l.hs,a ∈ t.hs)
 | .nil,_,_,h=>absurd rfl h
 | .node h l r,v,⟨e,h0,Q,D⟩,_=>by
  subst e
  refine ⟨by simp [Tr.hs],fun A=>?_,fun A=>⟨l,Q,?_,?_,?_,fun a ha=>by simp [Tr.hs,ha]⟩⟩
  ·rw [A] at Q; obtain rfl:=rep_nil Q; rfl
  ·rintro rfl; exact A Q
  ·cases l with
   | nil=>exact absurd Q A
   | node a l' r'=>simp [Tr.hs]
  ·simp [Tr.hs]
def FrI_s (S:TS) (hd:Option Nat) (w0:World) (k:Nat) (p:Value) (wr:World):Prop:=∃ (t:Tr) (v:Nat),p = H v∧Rep S.nd t v∧t ≠ .nil∧t.hs.head? = hd∧t.hs.length ≤ k∧(∀ a ∈ t.hs,a < 21)∧w0 = wr
theorem front_s (b:Nat) (sd:Int) (seq:List Od) (w:World) (h:bY 200 false w b sd seq) (hn:seq.length ≤ 20) :
  Calls Tryz.prog 168 #[I b 0] w fun e w'=>e = ym (frOf (quOf false seq))∧yn w w':=by
 obtain ⟨S,t,hT,hi,hq,vB⟩:=h
 have hou:=tree_orders hi hq
 have qR:∀ a ∈ t.hs,a < 21:=fun a ha=>by have:=(hi.range a ha).2; omega
 have HT:=M hT
 have ko:=hT.root
 have oC:=tm_lt hT
 by_cases jY:S.root = 0
 ·have ht:=hi.rep
  rw [jY] at ht ko
  obtain rfl:=rep_nil ht
  have HF:Hid (frOf (quOf false seq) = .tuple #[zOdv,.bool false]):=by show _ = _; rw [← hou]; rfl
  clear hi hq vB hou hT ht qR
  go_enter Tryz.func168,Tryz.ntmps168
  go_wp2_with fail
  go_returns
  refine ⟨by rw [U HF]; rfl,?_⟩
  go_grown
 ·have xC:t ≠ .nil:=by rintro rfl; exact jY hi.rep
  have HI:=M hi
  have HQ:=M hq
  have HOU:=M hou
  have HH:=M qR
  have HNE:=M xC
  have hr0':¬ ((S.root:Int) = 0):=by omega
  clear hi hq vB hou hT qR xC
  go_enter Tryz.func168,Tryz.ntmps168
  go_wp2_with fail
  go_loopg [4] (t.hs.length) (fun k p wr=>FrI_s S t.hs.head? (w.alloc (O (yw 0 0 0 0 0 ⟨#[]⟩).toArray 65)) k p wr)
  case atStart=>exact ⟨t,S.root,rfl,(U HI).rep,U HNE,rfl,Nat.le_refl _,U HH,rfl⟩
  case round =>
   obtain ⟨t1,v,rfl,Q,D,X,h4,h5,rfl⟩:=hrel
   obtain ⟨b1,b2,b3⟩:=best_s Q D
   have hv21:=h5 v b1
   have hv21':(v:Int) < 21:=by omega
   have qz:=cO (U HT) (Below.heap_alloc w (O (yw 0 0 0 0 0 ⟨#[]⟩).toArray 65) b oC)
   obtain ⟨-,-,-,-,n4,-,n6,-⟩:=zJ (qz.nd v hv21)
   have H3:=M X
   have H4:=M h4
   have H5:=M h5
   by_cases jL:(S.nd v).be = 0
   ·have pq:=b2 jL
    rw [X] at pq
    have hvm:v ∈ t.hs:=List.mem_of_head? pq
    have hQ:=(U HQ).q v hvm
    obtain ⟨e,rest,hqs⟩:∃ e rest,qs seq (S.nd v).ticks = e :: rest:=by
     cases hqq:qs seq (S.nd v).ticks with
     | nil=>exact absurd hqq hQ.ne
     | cons e rest=>exact ⟨e,rest,rfl⟩
    have hch:=hQ.chain
    rw [hqs] at hch
    obtain ⟨he,he0,-⟩:=hch
    have he21:e < 21:=by
     have:=(dL (S.nd v).ticks seq 1 e (by have h:e ∈ qs seq (S.nd v).ticks:=(by rw [hqs]; simp); exact h)).2.1
     omega
    have he21':(e:Int) < 21:=by omega
    have HF:Hid (frOf (quOf false seq) = .tuple #[(S.qo e).od.val,.bool true]):=by
     show _ = _
     rw [← U HOU]
     obtain ⟨tl,htl⟩:∃ tl,t.hs = v :: tl:=by
      cases hh:t.hs with
      | nil=>rw [hh] at pq; simp at pq
      | cons a r=>rw [hh] at pq; simp at pq; rw [pq]; exact ⟨r,rfl⟩
     rw [htl,List.flatMap_cons,hqs]
     rfl
    obtain ⟨q0,q1,q2,q3,q4,q5,-⟩:=fJ (qz.qo e he21)
    rw [he] at n6
    rw [jL] at n4
    clear Q D X h4 h5 b1 b2 b3 qz pq hvm hQ hqs he jL
    go_wp2_with fail
    go_region
    go_wp2_with fail
    go_returns
    refine ⟨by rw [U HF]; rfl,?_⟩
    go_grown
   ·obtain ⟨l,l1,l2,l3,l4,l5⟩:=b3 jL
    have hbe':¬ (((S.nd v).be:Int) = 0):=by omega
    have HL:Hid (Rep S.nd l (S.nd v).be∧l ≠ .nil∧l.hs.head? = t1.hs.head?∧l.hs.length < t1.hs.length∧∀ a ∈ l.hs,a ∈ t1.hs):=⟨l1,l2,l3,l4,l5⟩
    clear Q D X h4 h5 b1 b2 b3 qz l1 l2 l3 l4 l5 jL
    go_wp2_with fail
    go_roundg (l.hs.length)
    case measure=>have:=U H4; have:=(U HL).2.2.2.1; omega
    case rel=>exact ⟨l,_,rfl,(U HL).1,(U HL).2.1,(U HL).2.2.1.trans (U H3),Nat.le_refl _,fun a ha=>U H5 a ((U HL).2.2.2.2 a ha),rfl⟩
def cQ (b:Nat):Value:=.agg #[.func (.func 168) #[I b 0] #[],.func (.func 169) #[I b 0] #[],.func (.func 170) #[I b 0] #[]]
theorem ask_s (b:Nat) (w:World) :
  Calls Tryz.prog 124 #[I b 0] w fun e w'=>e = ym (cQ b)∧yn w w':=by
 have hmf:∀ (fn:Fn) (first cap:Array Value) (w:World),(Instr.makeFunc fn first cap).run Tryz.prog w = .ok (.func fn first cap) w:=fun _ _ _ _=>rfl
 go_enter Tryz.func124,Tryz.ntmps124
 go_wp2_with fail
 go_returns
 refine ⟨rfl,?_⟩
 go_grown
end Go.Proofs.YthhkapcbocgcoaaGreatDoor
