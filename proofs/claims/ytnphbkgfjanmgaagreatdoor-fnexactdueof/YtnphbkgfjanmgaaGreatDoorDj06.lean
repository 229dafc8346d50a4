/-
  The tree of a side's orders, planted: proved by walking the function.
-/
import Derived.Test.YtnphbkgfjanmgaaGreatDoorDj05
set_option linter.unusedVariables false
set_option maxHeartbeats 6400000
set_option maxRecDepth 100000
namespace Go.Proofs.YtnphbkgfjanmgaaGreatDoor
open Go.RowKit
theorem zNd_s:∀ i,i < 21→(Tryz.zeroCells204.toList.drop (2 + i * 8)).take 8 = zNd.vs
 | 0,_=>by kernel_rfl
 | 1,_=>by kernel_rfl
 | 2,_=>by kernel_rfl
 | 3,_=>by kernel_rfl
 | 4,_=>by kernel_rfl
 | 5,_=>by kernel_rfl
 | 6,_=>by kernel_rfl
 | 7,_=>by kernel_rfl
 | 8,_=>by kernel_rfl
 | 9,_=>by kernel_rfl
 | 10,_=>by kernel_rfl
 | 11,_=>by kernel_rfl
 | 12,_=>by kernel_rfl
 | 13,_=>by kernel_rfl
 | 14,_=>by kernel_rfl
 | 15,_=>by kernel_rfl
 | 16,_=>by kernel_rfl
 | 17,_=>by kernel_rfl
 | 18,_=>by kernel_rfl
 | 19,_=>by kernel_rfl
 | 20,_=>by kernel_rfl
 | n + 21,h=>absurd h (by omega)
theorem zQo_s:∀ i,i < 21→(Tryz.zeroCells204.toList.drop (171 + i * 7)).take 7 = zQo.vs
 | 0,_=>by kernel_rfl
 | 1,_=>by kernel_rfl
 | 2,_=>by kernel_rfl
 | 3,_=>by kernel_rfl
 | 4,_=>by kernel_rfl
 | 5,_=>by kernel_rfl
 | 6,_=>by kernel_rfl
 | 7,_=>by kernel_rfl
 | 8,_=>by kernel_rfl
 | 9,_=>by kernel_rfl
 | 10,_=>by kernel_rfl
 | 11,_=>by kernel_rfl
 | 12,_=>by kernel_rfl
 | 13,_=>by kernel_rfl
 | 14,_=>by kernel_rfl
 | 15,_=>by kernel_rfl
 | 16,_=>by kernel_rfl
 | 17,_=>by kernel_rfl
 | 18,_=>by kernel_rfl
 | 19,_=>by kernel_rfl
 | 20,_=>by kernel_rfl
 | n + 21,h=>absurd h (by omega)
theorem zTree_s (w:World) (sd:Int):aV 204 false (w.alloc (Obj.cells Tryz.zeroCells204 204)) w.heap.size sd [] :=
 ⟨zTS,.nil,tm_zero w _ _ (by kernel_rfl) (by kernel_rfl) zNd_s (by kernel_rfl) zQo_s,ti_zero _,qi_zero _,Nat.le_refl _⟩
theorem plant_s (v:Value) (l:List Od) (sd:Int) (w:World) (hr:RdR Od.vs 6 w v l) (hn:l.length ≤ 20) (hl:∀ o' ∈ l,0 ≤ o'.left∧o'.left ≤ 1000000) :
  Calls Tryz.prog 131 #[v,I sd] w fun e w' =>
   e = yn (yq w 0)∧aV 204 false w' w.heap.size sd (zt l sd)∧yp w w':=by
 obtain ⟨a,cap,rfl,xA,hc⟩:=hr
 have xt:∀ (k:Nat) (c:Od),l[k]? = some c→∃ b off,a = some (Q b off)∧b < w.heap.size∧w.rangeAt b (off + k * 6) c.vs:=by
  intro k c hk
  obtain ⟨b,off,N,Y,h3⟩:=hc (by intro h; rw [h] at hk; simp at hk)
  exact ⟨b,off,N,Y,h3 k c hk⟩
 have HC:=H xt
 have HL:=H hl
 have HN:=H hn
 clear xt hc hl
 have HZ:=H (zTree_s w sd)
 have xW:Hid (yp w (w.alloc (Obj.cells Tryz.zeroCells204 204))):=fw _ _
 go_enter Tryz.func131,Tryz.ntmps131
 go_wp2_with fail
 generalize (w.alloc (Obj.cells Tryz.zeroCells204 204)) = W0 at HZ xW ⊢
 go_loopw [11] (fun i wr=>∃ k:Nat,k ≤ l.length∧i = I k∧aV 204 false wr w.heap.size sd (zt (l.take k) sd)∧yp w wr) (fun i _=>l.length - (intOf i).toNat)
 case atStart=>exact ⟨0,Nat.zero_le _,rfl,U HZ,U xW⟩
 case round =>
  obtain ⟨k,hk,rfl,htr,xl⟩:=hrel
  have oQ:=H htr
  have vp:=H xl
  clear htr xl HZ xW
  by_cases xJ:k < l.length
  ·obtain ⟨c,ur⟩:∃ c,l[k]? = some c:=⟨_,yI xJ⟩
   have jK:=H ur
   obtain ⟨b,off,rfl,E,X⟩:=U HC k c ur
   obtain ⟨g0,g1,g2,g3,g4,g5⟩:=zB (zc X (U vp) E)
   have uF:(k:Int) < l.length:=by omega
   clear ur X E
   by_cases uS:c.side = sd
   ·have HIT:Hid (zt (l.take (k + 1)) c.side = zt (l.take k) c.side ++ [c]):=ofSide_snoc l k c (U jK)
    subst uS
    have uX:(zt (l.take k) c.side).length < 20:=by
     have N:(zt (l.take k) c.side).length ≤ (l.take k).length:=List.length_filter_le _ _
     have Y:(l.take k).length ≤ k:=List.length_take_le _ _
     have h3:=U HN
     omega
    have oA:=H uX
    have X:=U HL c (yP (U jK))
    have jq:=H X
    clear uX X
    go_wp2_with fail
    refine (add_s w.heap.size c.side (zt (l.take k) c.side) c _ (zu (U oQ) (Below.heap_alloc wr _ _ (zH (U oQ)))) rfl (U oA) (fun o' vM=>U HL o' (List.mem_of_mem_take (List.mem_filter.1 vM).1)) (U jq)).mono ?_
    rintro e w2 ⟨rfl,ah,uZ⟩
    rw [← U HIT] at ah
    have pL:=H ah
    have xw:=H (((U vp).alloc (U vp).size _).grown uZ (by rw [zj]; have:=(U vp).size; omega) (fun g hg=>by obtain rfl:=Option.some.inj hg; exact Nat.le_refl _))
    clear ah uZ
    go_wp2_with fail
    go_roundw
    case rel=>exact ⟨k + 1,by omega,by go_num,U pL,U xw⟩
    case measure=>simp [intOf]; omega
   ·have HIT:Hid (zt (l.take (k + 1)) sd = zt (l.take k) sd):=ofSide_skip l k c (U jK) uS
    go_wp2_with fail
    go_roundw
    case rel =>
     refine ⟨k + 1,by omega,by go_num,?_,?_⟩
     ·rw [U HIT]; exact zu (U oQ) (Below.heap_alloc wr _ _ (zH (U oQ)))
     ·exact (U vp).alloc (U vp).size _
    case measure=>simp [intOf]; omega
  ·go_wp2_with fail
   go_ret
   have h:=U oQ
   rw [xa (by omega)] at h
   exact ⟨rfl,h,U vp⟩
theorem infoH_s:(Tryz.prog.info? 191).map (fun i=>(i.zero,i.size,i.bytes)) = some (some (I 0),1,8):=by kernel_rfl
theorem cellsH_s (w:World) (A:List Value) (t:TypeId) (j:Nat) (u:Value) (h:A[j]? = some u):(w.alloc (Obj.cells A.toArray t)).cell? (((yr w 0):Addr).add j) = some u:=by
 rw [Addr.add_mid,cell_of_row _ w.heap.size (0 + j) A.toArray t (0,0) (heap_alloc_new w _)]
 simpa using h
def hval_s (h:Nat):Value:=I h
theorem ranked_s (S:TS) (b B:Nat) (aB:b < B):∀ (t:Tr) (w:World) (v:Value) (done:List Nat) (part:Nat),TM 204 w b S→Rep S.nd t part→(∀ h ∈ t.hs,h < 21)→B ≤ w.heap.size →
  w.ownsRow B 191 1 v done.length (done.map hval_s)→done.length + t.hs.length ≤ 1000 →
  Calls Tryz.prog 197 #[J b 0,v,I part] w fun e w' =>
   ∃ v',e = yn v'∧w'.ownsRow B 191 1 v' (done ++ t.hs).length ((done ++ t.hs).map hval_s)∧Below B w w'
 | .nil,w,v,done,part,hT,hrep,hh,hB,xS,xA=>by
  obtain rfl:part = 0:=hrep
  have HO:=H xS
  clear xS hT hh
  go_enter Tryz.func197,Tryz.ntmps197
  go_wp2_with fail
  go_ret
  exact ⟨v,rfl,by simpa [Tr.hs] using U HO,Below.refl _ _⟩
 | .node h l r,w,v,done,part,hT,hrep,hh,hB,xS,xA=>by
  obtain ⟨rfl,h0,hl,hr⟩:=hrep
  have HO:=H xS
  have HT:=H hT
  have HL:=H hl
  have HR:=H hr
  have oY:done.length + (l.hs.length + 1 + r.hs.length) ≤ 1000:=by simp [Tr.hs] at xA; omega
  have qh:=hh part (by simp [Tr.hs])
  have HHL:=H (fun a (ha:a ∈ l.hs)=>hh a (by simp [Tr.hs,ha]))
  have HHR:=H (fun a (ha:a ∈ r.hs)=>hh a (by simp [Tr.hs,ha]))
  have h21':(part:Int) < 21:=by omega
  have h0':¬ ((part:Int) = 0):=by omega
  have jV:=H oY
  obtain ⟨-,-,-,-,n4,-⟩:=zQ (hT.nd part qh)
  obtain ⟨i0,hi,uH,uI,uW⟩:=info_parts infoH_s
  clear xS hT hh hl hr xA oY
  go_enter Tryz.func197,Tryz.ntmps197
  go_wp2_with fail
  refine (ranked_s S b B aB l w v done _ (U HT) (U HL) (U HHL) hB (U HO) (by have:=U jV; omega)).mono ?_
  rintro e w1 ⟨v1,rfl,kK,uk⟩
  have qW:=H kK
  have ue:=H uk
  have hsz1:=uk.size
  have hla:(done ++ l.hs).length ≤ 999:=by have:=U jV; rw [yQ]; omega
  obtain ⟨-,-,-,-,-,n5,-⟩:=zQ ((cS (U HT) uk aB).nd part qh)
  clear kK uk n4
  go_wp2_with (at_builtin; go_must (refine wpList_append_own _ rfl _ _ 227 rfl B 191 i0 _ 1 8 Tryz.underlying227 hi uH uI uW rfl (by decide) v1 (done ++ l.hs).length ((done ++ l.hs).map hval_s) rfl ((U qW).alloc _) (yr w1 0) 1 1 [hval_s part] rfl rfl (cellsH_s w1 _ _) (by simp [Value.oneCell',hval_s]) (by unfold maxLen; omega) (by omega) (by simp at hla ⊢; omega) ?_); intro v2 w2 pa uZ _; have jA:=H pa; have xw:=H (((U ue).alloc (yO hB hsz1) _).grown uZ (by rw [zj]; omega) (fun k hk=>((U qW).lt k hk).1)); have m5:=(zQ ((cS (U HT) (U xw) aB).nd part qh)).2.2.2.2.2.1; clear pa uZ n5)
  have hsz2:=(U xw).size
  refine (ranked_s S b B aB r w2 v2 (done ++ l.hs ++ [part]) _ (cS (U HT) (U xw) aB) (U HR) (U HHR) (by omega) (by simpa [Nat.add_assoc] using U jA) (by have:=U jV; simp; omega)).mono ?_
  rintro e w3 ⟨v3,rfl,aI,xQ⟩
  have pF:=H aI
  have xN:=H ((U xw).trans xQ)
  clear aI xQ m5
  go_wp2_with fail
  go_ret
  exact ⟨v3,rfl,by simpa [Tr.hs] using U pF,U xN⟩
theorem infoLv_s:(Tryz.prog.info? 193).map (fun i=>(i.zero,i.size,i.bytes)) = some (some (.agg #[I 0,I 0,I 0,I 0]),4,32):=by kernel_rfl
theorem takeR_s {α:Type} (l:List α) (k:Nat) (c:α) (h:l[k]? = some c):l.take (k + 1) = l.take k ++ [c]:=by
 obtain ⟨hk,rfl⟩:=yH.1 h
 rw [List.take_succ_eq_append_getElem hk]
theorem rowBase_s {W:World} {B B':Nat} {e:TypeId} {sz:Nat} {v:Value} {n:Nat} {xs:List Value} (h:W.ownsRow B e sz v n xs) (hB:B' ≤ B):W.ownsRow B' e sz v n xs :=
 ⟨h.1,by
  rcases h.2 with N | ⟨g',c',xF,N,Y,h3⟩
  ·exact .inl N
  ·exact .inr ⟨g',c',xF,N,yO hB Y,h3⟩⟩
theorem flat1_s (l:List Nat):(l.flatMap fun h=>[hval_s h]) = l.map hval_s:=by
 induction l with
 | nil=>rfl
 | cons a r ih=>rw [List.flatMap_cons,ih]; rfl
theorem levelsO_s (b:Nat) (sd:Int) (seq:List Od) (w:World) (h:aV 204 false w b sd seq) (hn:seq.length ≤ 20) :
  Calls Tryz.prog 172 #[J b 0] w fun e w' =>
   ∃ v',e = yn v'∧w'.ownsRow w.heap.size 193 4 v' (aU false sd seq).length ((aU false sd seq).flatMap Lv.vs)∧yp w w':=by
 obtain ⟨S,t,hT,hi,hq,qb⟩:=h
 have hlv:=eB hi hq
 rw [← hlv]
 have qP:∀ a ∈ t.hs,a < 21:=fun a ha=>by have:=(hi.range a ha).2; omega
 have xA:t.hs.length ≤ 20:=by rw [hi.len]; omega
 have HT:=H hT
 have HR:=H hi.rep
 have HH:=H qP
 have ki:=hT.root
 have pu:=tm_lt hT
 generalize ht:t.hs = hs at *
 have HHS:=H ht
 have HNIL:=H (World.ownsRow_nil w w.heap.size 191 1)
 obtain ⟨i0,vA,uH,uI,uW⟩:=info_parts infoLv_s
 clear hi hq qb hlv hT qP ht
 go_enter Tryz.func172,Tryz.ntmps172
 go_wp2_with fail
 refine (ranked_s S b w.heap.size pu t w _ [] S.root (U HT) (U HR) (by rw [U HHS]; exact U HH) yb (U HNIL) (by rw [U HHS]; simp; omega)).mono ?_
 rintro e w1 ⟨v1,rfl,kK,uk⟩
 rw [List.nil_append,U HHS] at kK
 have ue:=H uk
 have HOR:=H (ownR_row (f:=fun h=>[hval_s h]) (fun _=>rfl) (by omega) (show w1.ownsRow w.heap.size 191 1 v1 hs.length (hs.flatMap fun h=>[hval_s h]) by rw [flat1_s]; exact kK))
 obtain ⟨a,cap,rfl,_,hc⟩:=U HOR
 have xt:∀ k h,hs[k]? = some h→∃ g,a = some (Q g 0)∧g < w1.heap.size∧w1.cell? (Q g (0 + k * 1 + 0)) = some (I (h:Nat)):=fun k h hk=>by
  obtain ⟨g,N,_,h3,h4,_⟩:=hc (by intro e; rw [e] at hk; simp at hk)
  exact ⟨g,N,h3,h4 k h hk 0 _ rfl⟩
 have HC:=H xt
 clear kK uk hc xt ki
 go_wp2_with fail
 have uk:=(U ue).size
 go_loopw [3,13] (fun ov iv wr=>∃ (k:Nat) (done:List Lv),k ≤ hs.length∧iv = I k∧Hid (done = (hs.map fun h=>(S.nd h).lv).take k)∧wr.ownsRow w1.heap.size 193 4 ov done.length (done.flatMap Lv.vs)∧yp w1 wr) (fun _ iv _=>hs.length - (intOf iv).toNat)
 case atStart=>exact ⟨0,[],Nat.zero_le _,rfl,by simp [Hid],World.ownsRow_nil _ _ _ _,Below.refl _ _⟩
 case round =>
  obtain ⟨k,done,hk,rfl,hd,xS,xl⟩:=hrel
  have HOW:=H xS
  have HB:=H xl
  have aE:done.length = k:=by rw [U hd,List.length_take,List.length_map]; omega
  clear xS xl
  by_cases xJ:k < hs.length
  ·obtain ⟨h,hkh⟩:∃ h,hs[k]? = some h:=⟨_,yI xJ⟩
   have jK:Hid ((hs.map fun h=>(S.nd h).lv)[k]? = some (S.nd h).lv):=by show _ = _; rw [List.getElem?_map,hkh]; rfl
   obtain ⟨g,rfl,hg,X⟩:=U HC k h hkh
   have qh:=U HH h (yP hkh)
   have h21':(h:Int) < 21:=by omega
   have qp:=((U HB).cell (p:=(Q g (0 + k * 1 + 0))) hg).trans X
   rw [show 0 + k * 1 + 0 = k by omega] at qp
   have hTr:=cS (U HT) ((U ue).trans ((U HB).mono uk)) pu
   obtain ⟨n0,n1,n2,n3,-⟩:=zQ (hTr.nd h qh)
   have uF:(k:Int) < hs.length:=by omega
   have hsr:=(U HB).size
   clear hkh X hTr hg
   go_wp2_with (at_builtin; go_must (refine wpList_append_own _ rfl _ _ 169 rfl w1.heap.size 193 i0 _ 4 32 Tryz.underlying169 vA uH uI uW rfl (by decide) _ done.length (done.flatMap Lv.vs) rfl ((U HOW).alloc _) (yr wr 0) 1 1 (S.nd h).lv.vs rfl rfl (cellsH_s wr _ _) (by simp [Value.oneCell',Lv.vs,Nd.lv]) (by unfold maxLen; omega) (by omega) (by simp; omega) ?_); intro v4 w4 kM kJ _)
   go_roundw
   case rel =>
    refine ⟨k + 1,done ++ [(S.nd h).lv],by omega,by go_num,?_,?_,?_⟩
    ·show done ++ [(S.nd h).lv] = _
     rw [takeR_s _ k _ (U jK),← U hd]
    ·simpa using kM
    ·exact ((U HB).alloc hsr _).grown kJ (by simp; omega) fun k hk=>((U HOW).lt k hk).1
   case measure=>simp [intOf]; omega
  ·go_wp2_with fail
   go_ret
   have h:=U hd
   rw [xa (by rw [List.length_map]; omega)] at h
   subst h
   exact ⟨_,rfl,rowBase_s (U HOW) uk,(U ue).trans ((U HB).mono uk)⟩
theorem levels_s (b:Nat) (sd:Int) (seq:List Od) (w:World) (h:aV 204 false w b sd seq) (hn:seq.length ≤ 20) :
  Calls Tryz.prog 172 #[J b 0] w fun e w' =>
   ∃ v',e = yn v'∧OwnR Lv.vs 4 w.heap.size w' v' (aU false sd seq)∧yp w w':=by
 have xA:(aU false sd seq).length ≤ 20:=by
  obtain ⟨S,t,hT,hi,hq,qb⟩:=h
  rw [← eB hi hq,List.length_map,hi.len]; omega
 refine (levelsO_s b sd seq w h hn).mono ?_
 rintro e w' ⟨v',rfl,Z,E⟩
 exact ⟨v',rfl,ownR_row Lv.len (by omega) Z,E⟩
theorem best_s {S:TS}:∀ {t:Tr} {v:Nat},Rep S.nd t v→t ≠ .nil→v ∈ t.hs∧((S.nd v).be = 0→t.hs.head? = some v)∧((S.nd v).be ≠ 0→∃ l,Rep S.nd l (S.nd v).be∧l ≠ .nil∧l.hs.head? = t.hs.head?∧l.hs.length < t.hs.length∧∀ a ∈ l.hs,a ∈ t.hs)
 | .nil,_,_,h=>absurd rfl h
 | .node h l r,v,⟨e,h0,N,Y⟩,_=>by
  subst e
  refine ⟨by simp [Tr.hs],fun E=>?_,fun E=>⟨l,N,?_,?_,?_,fun a ha=>by simp [Tr.hs,ha]⟩⟩
  ·rw [E] at N; obtain rfl:=rep_nil N; rfl
  ·rintro rfl; exact E N
  ·cases l with
   | nil=>exact absurd N E
   | node a l' r'=>simp [Tr.hs]
  ·simp [Tr.hs]
def FrI_s (S:TS) (hd:Option Nat) (w0:World) (k:Nat) (p:Value) (wr:World):Prop:=∃ (t:Tr) (v:Nat),p = I v∧Rep S.nd t v∧t ≠ .nil∧t.hs.head? = hd∧t.hs.length ≤ k∧(∀ a ∈ t.hs,a < 21)∧w0 = wr
theorem front_s (b:Nat) (sd:Int) (seq:List Od) (w:World) (h:aV 204 false w b sd seq) (hn:seq.length ≤ 20) :
  Calls Tryz.prog 170 #[J b 0] w fun e w'=>e = yn (frOf (quOf false seq))∧yp w w':=by
 obtain ⟨S,t,hT,hi,hq,qb⟩:=h
 have hou:=tree_orders hi hq
 have qP:∀ a ∈ t.hs,a < 21:=fun a ha=>by have:=(hi.range a ha).2; omega
 have HT:=H hT
 have ki:=hT.root
 have pu:=tm_lt hT
 by_cases jO:S.root = 0
 ·have ht:=hi.rep
  rw [jO] at ht ki
  obtain rfl:=rep_nil ht
  have HF:Hid (frOf (quOf false seq) = .tuple #[zOdv,.bool false]):=by show _ = _; rw [← hou]; rfl
  clear hi hq qb hou hT ht qP
  go_enter Tryz.func170,Tryz.ntmps170
  go_wp2_with fail
  go_returns
  refine ⟨by rw [U HF]; rfl,?_⟩
  go_grown
 ·have xD:t ≠ .nil:=by rintro rfl; exact jO hi.rep
  have HI:=H hi
  have HQ:=H hq
  have HOU:=H hou
  have HH:=H qP
  have HNE:=H xD
  have hr0':¬ ((S.root:Int) = 0):=by omega
  clear hi hq qb hou hT qP xD
  go_enter Tryz.func170,Tryz.ntmps170
  go_wp2_with fail
  go_loopg [4] (t.hs.length) (fun k p wr=>FrI_s S t.hs.head? (w.alloc (L (yx 0 0 0 0 0 ⟨#[]⟩).toArray 78)) k p wr)
  case atStart=>exact ⟨t,S.root,rfl,(U HI).rep,U HNE,rfl,Nat.le_refl _,U HH,rfl⟩
  case round =>
   obtain ⟨t1,v,rfl,N,Y,h3,h4,h5,rfl⟩:=hrel
   obtain ⟨b1,b2,b3⟩:=best_s N Y
   have hv21:=h5 v b1
   have hv21':(v:Int) < 21:=by omega
   have oe:=bD (U HT) (Below.heap_alloc w (L (yx 0 0 0 0 0 ⟨#[]⟩).toArray 78) b pu)
   obtain ⟨-,-,-,-,n4,-,n6,-⟩:=zQ (oe.nd v hv21)
   have H3:=H h3
   have H4:=H h4
   have H5:=H h5
   by_cases jF:(S.nd v).be = 0
   ·have oV:=b2 jF
    rw [h3] at oV
    have hvm:v ∈ t.hs:=List.mem_of_head? oV
    have hQ:=(U HQ).q v hvm
    obtain ⟨e,rest,hqs⟩:∃ e rest,qs seq (S.nd v).ticks = e :: rest:=by
     cases hqq:qs seq (S.nd v).ticks with
     | nil=>exact absurd hqq hQ.ne
     | cons e rest=>exact ⟨e,rest,rfl⟩
    have hch:=hQ.chain
    rw [hqs] at hch
    obtain ⟨he,he0,-⟩:=hch
    have he21:e < 21:=by
     have:=(bW (S.nd v).ticks seq 1 e (by have h:e ∈ qs seq (S.nd v).ticks:=(by rw [hqs]; simp); exact h)).2.1
     omega
    have he21':(e:Int) < 21:=by omega
    have HF:Hid (frOf (quOf false seq) = .tuple #[(S.qo e).od.val,.bool true]):=by
     show _ = _
     rw [← U HOU]
     obtain ⟨tl,htl⟩:∃ tl,t.hs = v :: tl:=by
      cases hh:t.hs with
      | nil=>rw [hh] at oV; simp at oV
      | cons a r=>rw [hh] at oV; simp at oV; rw [oV]; exact ⟨r,rfl⟩
     rw [htl,List.flatMap_cons,hqs]
     rfl
    obtain ⟨q0,q1,q2,q3,q4,q5,-⟩:=dR (oe.qo e he21)
    rw [he] at n6
    rw [jF] at n4
    clear N Y h3 h4 h5 b1 b2 b3 oe oV hvm hQ hqs he jF
    go_wp2_with fail
    go_region
    go_wp2_with fail
    go_returns
    refine ⟨by rw [U HF]; rfl,?_⟩
    go_grown
   ·obtain ⟨l,l1,l2,l3,l4,l5⟩:=b3 jF
    have hbe':¬ (((S.nd v).be:Int) = 0):=by omega
    have HL:Hid (Rep S.nd l (S.nd v).be∧l ≠ .nil∧l.hs.head? = t1.hs.head?∧l.hs.length < t1.hs.length∧∀ a ∈ l.hs,a ∈ t1.hs):=⟨l1,l2,l3,l4,l5⟩
    clear N Y h3 h4 h5 b1 b2 b3 oe l1 l2 l3 l4 l5 jF
    go_wp2_with fail
    go_roundg (l.hs.length)
    case measure=>have:=U H4; have:=(U HL).2.2.2.1; omega
    case rel=>exact ⟨l,_,rfl,(U HL).1,(U HL).2.1,(U HL).2.2.1.trans (U H3),Nat.le_refl _,fun a ha=>U H5 a ((U HL).2.2.2.2 a ha),rfl⟩
def bF (b:Nat):Value:=.agg #[.func (.func 170) #[J b 0] #[],.func (.func 171) #[J b 0] #[],.func (.func 172) #[J b 0] #[]]
theorem ask_s (b:Nat) (w:World) :
  Calls Tryz.prog 130 #[J b 0] w fun e w'=>e = yn (bF b)∧yp w w':=by
 have hmf:∀ (fn:Fn) (first cap:Array Value) (w:World),(Instr.makeFunc fn first cap).run Tryz.prog w = .ok (.func fn first cap) w:=fun _ _ _ _=>rfl
 go_enter Tryz.func130,Tryz.ntmps130
 go_wp2_with fail
 go_returns
 refine ⟨rfl,?_⟩
 go_grown
end Go.Proofs.YtnphbkgfjanmgaaGreatDoor
