/-
  The tree of a side's orders, planted: proved by walking the function.
-/
import Derived.Test.YtnphbkgfjanmgaaGreatDoorAj05
set_option linter.unusedVariables false
set_option maxHeartbeats 6400000
set_option maxRecDepth 100000
namespace Go.Proofs.YtnphbkgfjanmgaaGreatDoor
open Go.RowKit
theorem zNd_s:∀ i,i < 21→(Tryz.zeroCells204.toList.drop (2 + i * 8)).take 8 = zNd.vs
 | 0,_=>by kernel_rfl
 | 1,_=>by kernel_rfl
 | 2,_=>by kernel_rfl
 | 3,_=>by kernel_rfl
 | 4,_=>by kernel_rfl
 | 5,_=>by kernel_rfl
 | 6,_=>by kernel_rfl
 | 7,_=>by kernel_rfl
 | 8,_=>by kernel_rfl
 | 9,_=>by kernel_rfl
 | 10,_=>by kernel_rfl
 | 11,_=>by kernel_rfl
 | 12,_=>by kernel_rfl
 | 13,_=>by kernel_rfl
 | 14,_=>by kernel_rfl
 | 15,_=>by kernel_rfl
 | 16,_=>by kernel_rfl
 | 17,_=>by kernel_rfl
 | 18,_=>by kernel_rfl
 | 19,_=>by kernel_rfl
 | 20,_=>by kernel_rfl
 | n + 21,h=>absurd h (by omega)
theorem zQo_s:∀ i,i < 21→(Tryz.zeroCells204.toList.drop (171 + i * 7)).take 7 = zQo.vs
 | 0,_=>by kernel_rfl
 | 1,_=>by kernel_rfl
 | 2,_=>by kernel_rfl
 | 3,_=>by kernel_rfl
 | 4,_=>by kernel_rfl
 | 5,_=>by kernel_rfl
 | 6,_=>by kernel_rfl
 | 7,_=>by kernel_rfl
 | 8,_=>by kernel_rfl
 | 9,_=>by kernel_rfl
 | 10,_=>by kernel_rfl
 | 11,_=>by kernel_rfl
 | 12,_=>by kernel_rfl
 | 13,_=>by kernel_rfl
 | 14,_=>by kernel_rfl
 | 15,_=>by kernel_rfl
 | 16,_=>by kernel_rfl
 | 17,_=>by kernel_rfl
 | 18,_=>by kernel_rfl
 | 19,_=>by kernel_rfl
 | 20,_=>by kernel_rfl
 | n + 21,h=>absurd h (by omega)
theorem zTree_s (w:World) (sd:Int):bF 204 false (w.alloc (Obj.cells Tryz.zeroCells204 204)) w.heap.size sd [] :=
 ⟨zTS,.nil,tm_zero w _ _ (by kernel_rfl) (by kernel_rfl) zNd_s (by kernel_rfl) zQo_s,ti_zero _,qi_zero _,Nat.le_refl _⟩
theorem plant_s (v:Value) (l:List Od) (sd:Int) (w:World) (hr:RdR Od.vs 6 w v l) (hn:l.length ≤ 20) (hl:∀ o' ∈ l,0 ≤ o'.left∧o'.left ≤ 1000000) :
  Calls Tryz.prog 131 #[v,I sd] w fun e w' =>
   e = yn (yq w 0)∧bF 204 false w' w.heap.size sd (zv l sd)∧yp w w':=by
 obtain ⟨a,cap,rfl,xz,hc⟩:=hr
 have xr:∀ (k:Nat) (c:Od),l[k]? = some c→∃ b off,a = some (D b off)∧b < w.heap.size∧w.rangeAt b (off + k * 6) c.vs:=by
  intro k c hk
  obtain ⟨b,off,N,Y,h3⟩:=hc (by intro h; rw [h] at hk; simp at hk)
  exact ⟨b,off,N,Y,h3 k c hk⟩
 have HC:=H xr
 have HL:=H hl
 have HN:=H hn
 clear xr hc hl
 have HZ:=H (zTree_s w sd)
 have xX:Hid (yp w (w.alloc (Obj.cells Tryz.zeroCells204 204))):=gp _ _
 go_enter Tryz.func131,Tryz.ntmps131
 go_wp2_with fail
 generalize (w.alloc (Obj.cells Tryz.zeroCells204 204)) = W0 at HZ xX ⊢
 go_loopw [11] (fun i wr=>∃ k:Nat,k ≤ l.length∧i = I k∧bF 204 false wr w.heap.size sd (zv (l.take k) sd)∧yp w wr) (fun i _=>l.length - (intOf i).toNat)
 case atStart=>exact ⟨0,Nat.zero_le _,rfl,U HZ,U xX⟩
 case round =>
  obtain ⟨k,hk,rfl,htr,xl⟩:=hrel
  have pl:=H htr
  have vy:=H xl
  clear htr xl HZ xX
  by_cases xI:k < l.length
  ·obtain ⟨c,uu⟩:∃ c,l[k]? = some c:=⟨_,yI xI⟩
   have jV:=H uu
   obtain ⟨b,off,rfl,Q,F⟩:=U HC k c uu
   obtain ⟨g0,g1,g2,g3,g4,g5⟩:=zB (zc F (U vy) Q)
   have uF:(k:Int) < l.length:=by omega
   clear uu F Q
   by_cases uV:c.side = sd
   ·have HIT:Hid (zv (l.take (k + 1)) c.side = zv (l.take k) c.side ++ [c]):=ofSide_snoc l k c (U jV)
    subst uV
    have vf:(zv (l.take k) c.side).length < 20:=by
     have N:(zv (l.take k) c.side).length ≤ (l.take k).length:=List.length_filter_le _ _
     have Y:(l.take k).length ≤ k:=List.length_take_le _ _
     have h3:=U HN
     omega
    have oQ:=H vf
    have F:=U HL c (yP (U jV))
    have jB:=H F
    clear vf F
    go_wp2_with fail
    refine (add_s w.heap.size c.side (zv (l.take k) c.side) c _ (zw (U pl) (Below.heap_alloc wr _ _ (zJ (U pl)))) rfl (U oQ) (fun o' vO=>U HL o' (List.mem_of_mem_take (List.mem_filter.1 vO).1)) (U jB)).mono ?_
    rintro e w2 ⟨rfl,aJ,vh⟩
    rw [← U HIT] at aJ
    have ah:=H aJ
    have xw:=H (((U vy).alloc (U vy).size _).grown vh (by rw [zj]; have:=(U vy).size; omega) (fun g hg=>by obtain rfl:=Option.some.inj hg; exact Nat.le_refl _))
    clear aJ vh
    go_wp2_with fail
    go_roundw
    case rel=>exact ⟨k + 1,by omega,by go_num,U ah,U xw⟩
    case measure=>simp [intOf]; omega
   ·have HIT:Hid (zv (l.take (k + 1)) sd = zv (l.take k) sd):=ofSide_skip l k c (U jV) uV
    go_wp2_with fail
    go_roundw
    case rel =>
     refine ⟨k + 1,by omega,by go_num,?_,?_⟩
     ·rw [U HIT]; exact zw (U pl) (Below.heap_alloc wr _ _ (zJ (U pl)))
     ·exact (U vy).alloc (U vy).size _
    case measure=>simp [intOf]; omega
  ·go_wp2_with fail
   go_ret
   have h:=U pl
   rw [xa (by omega)] at h
   exact ⟨rfl,h,U vy⟩
theorem infoH_s:(Tryz.prog.info? 191).map (fun i=>(i.zero,i.size,i.bytes)) = some (some (I 0),1,8):=by kernel_rfl
theorem cellsH_s (w:World) (L:List Value) (t:TypeId) (j:Nat) (u:Value) (h:L[j]? = some u):(w.alloc (Obj.cells L.toArray t)).cell? (((yr w 0):Addr).add j) = some u:=by
 rw [Addr.add_mid,cell_of_row _ w.heap.size (0 + j) L.toArray t (0,0) (heap_alloc_new w _)]
 simpa using h
def hval_s (h:Nat):Value:=I h
theorem ranked_s (S:TS) (b B:Nat) (aX:b < B):∀ (t:Tr) (w:World) (v:Value) (done:List Nat) (part:Nat),TM 204 w b S→Rep S.nd t part→(∀ h ∈ t.hs,h < 21)→B ≤ w.heap.size →
  w.ownsRow B 191 1 v done.length (done.map hval_s)→done.length + t.hs.length ≤ 1000 →
  Calls Tryz.prog 197 #[J b 0,v,I part] w fun e w' =>
   ∃ v',e = yn v'∧w'.ownsRow B 191 1 v' (done ++ t.hs).length ((done ++ t.hs).map hval_s)∧Below B w w'
 | .nil,w,v,done,part,hT,hrep,hh,hB,xS,xz=>by
  obtain rfl:part = 0:=hrep
  have HO:=H xS
  clear xS hT hh
  go_enter Tryz.func197,Tryz.ntmps197
  go_wp2_with fail
  go_ret
  exact ⟨v,rfl,by simpa [Tr.hs] using U HO,Below.refl _ _⟩
 | .node h l r,w,v,done,part,hT,hrep,hh,hB,xS,xz=>by
  obtain ⟨rfl,h0,hl,hr⟩:=hrep
  have HO:=H xS
  have HT:=H hT
  have HL:=H hl
  have HR:=H hr
  have pv:done.length + (l.hs.length + 1 + r.hs.length) ≤ 1000:=by simp [Tr.hs] at xz; omega
  have qr:=hh part (by simp [Tr.hs])
  have HHL:=H (fun a (ha:a ∈ l.hs)=>hh a (by simp [Tr.hs,ha]))
  have HHR:=H (fun a (ha:a ∈ r.hs)=>hh a (by simp [Tr.hs,ha]))
  have h21':(part:Int) < 21:=by omega
  have h0':¬ ((part:Int) = 0):=by omega
  have ki:=H pv
  obtain ⟨-,-,-,-,n4,-⟩:=zS (hT.nd part qr)
  obtain ⟨i0,hi,uK,uL,uZ⟩:=info_parts infoH_s
  clear xS hT hh hl hr xz pv
  go_enter Tryz.func197,Tryz.ntmps197
  go_wp2_with fail
  refine (ranked_s S b B aX l w v done _ (U HT) (U HL) (U HHL) hB (U HO) (by have:=U ki; omega)).mono ?_
  rintro e w1 ⟨v1,rfl,oa,ul⟩
  have qX:=H oa
  have uf:=H ul
  have hsz1:=ul.size
  have hla:(done ++ l.hs).length ≤ 999:=by have:=U ki; rw [yQ]; omega
  obtain ⟨-,-,-,-,-,n5,-⟩:=zS ((dS (U HT) ul aX).nd part qr)
  clear oa ul n4
  go_wp2_with (at_builtin; go_must (refine wpList_append_own _ rfl _ _ 227 rfl B 191 i0 _ 1 8 Tryz.underlying227 hi uK uL uZ rfl (by decide) v1 (done ++ l.hs).length ((done ++ l.hs).map hval_s) rfl ((U qX).alloc _) (yr w1 0) 1 1 [hval_s part] rfl rfl (cellsH_s w1 _ _) (by simp [Value.oneCell',hval_s]) (by unfold maxLen; omega) (by omega) (by simp at hla ⊢; omega) ?_); intro v2 w2 px vh _; have qS:=H px; have xw:=H (((U uf).alloc (yO hB hsz1) _).grown vh (by rw [zj]; omega) (fun k hk=>((U qX).lt k hk).1)); have m5:=(zS ((dS (U HT) (U xw) aX).nd part qr)).2.2.2.2.2.1; clear px vh n5)
  have hsz2:=(U xw).size
  refine (ranked_s S b B aX r w2 v2 (done ++ l.hs ++ [part]) _ (dS (U HT) (U xw) aX) (U HR) (U HHR) (by omega) (by simpa [Nat.add_assoc] using U qS) (by have:=U ki; simp; omega)).mono ?_
  rintro e w3 ⟨v3,rfl,bh,xQ⟩
  have pX:=H bh
  have xN:=H ((U xw).trans xQ)
  clear bh xQ m5
  go_wp2_with fail
  go_ret
  exact ⟨v3,rfl,by simpa [Tr.hs] using U pX,U xN⟩
theorem infoLv_s:(Tryz.prog.info? 193).map (fun i=>(i.zero,i.size,i.bytes)) = some (some (.agg #[I 0,I 0,I 0,I 0]),4,32):=by kernel_rfl
theorem takeR_s {α:Type} (l:List α) (k:Nat) (c:α) (h:l[k]? = some c):l.take (k + 1) = l.take k ++ [c]:=by
 obtain ⟨hk,rfl⟩:=yH.1 h
 rw [List.take_succ_eq_append_getElem hk]
theorem rowBase_s {W:World} {B B':Nat} {e:TypeId} {sz:Nat} {v:Value} {n:Nat} {xs:List Value} (h:W.ownsRow B e sz v n xs) (hB:B' ≤ B):W.ownsRow B' e sz v n xs :=
 ⟨h.1,by
  rcases h.2 with N | ⟨g',c',xF,N,Y,h3⟩
  ·exact .inl N
  ·exact .inr ⟨g',c',xF,N,yO hB Y,h3⟩⟩
theorem flat1_s (l:List Nat):(l.flatMap fun h=>[hval_s h]) = l.map hval_s:=by
 induction l with
 | nil=>rfl
 | cons a r ih=>rw [List.flatMap_cons,ih]; rfl
theorem levelsO_s (b:Nat) (sd:Int) (seq:List Od) (w:World) (h:bF 204 false w b sd seq) (hn:seq.length ≤ 20) :
  Calls Tryz.prog 172 #[J b 0] w fun e w' =>
   ∃ v',e = yn v'∧w'.ownsRow w.heap.size 193 4 v' (bE false sd seq).length ((bE false sd seq).flatMap Lv.vs)∧yp w w':=by
 obtain ⟨S,t,hT,hi,hq,qh⟩:=h
 have hlv:=fE hi hq
 rw [← hlv]
 have qZ:∀ a ∈ t.hs,a < 21:=fun a ha=>by have:=(hi.range a ha).2; omega
 have xz:t.hs.length ≤ 20:=by rw [hi.len]; omega
 have HT:=H hT
 have HR:=H hi.rep
 have HH:=H qZ
 have kA:=hT.root
 have pN:=tm_lt hT
 generalize ht:t.hs = hs at *
 have HHS:=H ht
 have HNIL:=H (World.ownsRow_nil w w.heap.size 191 1)
 obtain ⟨i0,vC,uK,uL,uZ⟩:=info_parts infoLv_s
 clear hi hq qh hlv hT qZ ht
 go_enter Tryz.func172,Tryz.ntmps172
 go_wp2_with fail
 refine (ranked_s S b w.heap.size pN t w _ [] S.root (U HT) (U HR) (by rw [U HHS]; exact U HH) yb (U HNIL) (by rw [U HHS]; simp; omega)).mono ?_
 rintro e w1 ⟨v1,rfl,oa,ul⟩
 rw [List.nil_append,U HHS] at oa
 have uf:=H ul
 have HOR:=H (dP (f:=fun h=>[hval_s h]) (fun _=>rfl) (by omega) (show w1.ownsRow w.heap.size 191 1 v1 hs.length (hs.flatMap fun h=>[hval_s h]) by rw [flat1_s]; exact oa))
 obtain ⟨a,cap,rfl,_,hc⟩:=U HOR
 have xr:∀ k h,hs[k]? = some h→∃ g,a = some (D g 0)∧g < w1.heap.size∧w1.cell? (D g (0 + k * 1 + 0)) = some (I (h:Nat)):=fun k h hk=>by
  obtain ⟨g,N,_,h3,h4,_⟩:=hc (by intro e; rw [e] at hk; simp at hk)
  exact ⟨g,N,h3,h4 k h hk 0 _ rfl⟩
 have HC:=H xr
 clear oa ul hc xr kA
 go_wp2_with fail
 have ul:=(U uf).size
 go_loopw [3,13] (fun ov iv wr=>∃ (k:Nat) (done:List Lv),k ≤ hs.length∧iv = I k∧Hid (done = (hs.map fun h=>(S.nd h).lv).take k)∧wr.ownsRow w1.heap.size 193 4 ov done.length (done.flatMap Lv.vs)∧yp w1 wr) (fun _ iv _=>hs.length - (intOf iv).toNat)
 case atStart=>exact ⟨0,[],Nat.zero_le _,rfl,by simp [Hid],World.ownsRow_nil _ _ _ _,Below.refl _ _⟩
 case round =>
  obtain ⟨k,done,hk,rfl,hd,xS,xl⟩:=hrel
  have HOW:=H xS
  have HB:=H xl
  have ba:done.length = k:=by rw [U hd,List.length_take,List.length_map]; omega
  clear xS xl
  by_cases xI:k < hs.length
  ·obtain ⟨h,hkh⟩:∃ h,hs[k]? = some h:=⟨_,yI xI⟩
   have jV:Hid ((hs.map fun h=>(S.nd h).lv)[k]? = some (S.nd h).lv):=by show _ = _; rw [List.getElem?_map,hkh]; rfl
   obtain ⟨g,rfl,hg,F⟩:=U HC k h hkh
   have qr:=U HH h (yP hkh)
   have h21':(h:Int) < 21:=by omega
   have qz:=((U HB).cell (p:=(D g (0 + k * 1 + 0))) hg).trans F
   rw [show 0 + k * 1 + 0 = k by omega] at qz
   have hTr:=dS (U HT) ((U uf).trans ((U HB).mono ul)) pN
   obtain ⟨n0,n1,n2,n3,-⟩:=zS (hTr.nd h qr)
   have uF:(k:Int) < hs.length:=by omega
   have hsr:=(U HB).size
   clear hkh F hTr hg
   go_wp2_with (at_builtin; go_must (refine wpList_append_own _ rfl _ _ 169 rfl w1.heap.size 193 i0 _ 4 32 Tryz.underlying169 vC uK uL uZ rfl (by decide) _ done.length (done.flatMap Lv.vs) rfl ((U HOW).alloc _) (yr wr 0) 1 1 (S.nd h).lv.vs rfl rfl (cellsH_s wr _ _) (by simp [Value.oneCell',Lv.vs,Nd.lv]) (by unfold maxLen; omega) (by omega) (by simp; omega) ?_); intro v4 w4 og kZ _)
   go_roundw
   case rel =>
    refine ⟨k + 1,done ++ [(S.nd h).lv],by omega,by go_num,?_,?_,?_⟩
    ·show done ++ [(S.nd h).lv] = _
     rw [takeR_s _ k _ (U jV),← U hd]
    ·simpa using og
    ·exact ((U HB).alloc hsr _).grown kZ (by simp; omega) fun k hk=>((U HOW).lt k hk).1
   case measure=>simp [intOf]; omega
  ·go_wp2_with fail
   go_ret
   have h:=U hd
   rw [xa (by rw [List.length_map]; omega)] at h
   subst h
   exact ⟨_,rfl,rowBase_s (U HOW) ul,(U uf).trans ((U HB).mono ul)⟩
theorem levels_s (b:Nat) (sd:Int) (seq:List Od) (w:World) (h:bF 204 false w b sd seq) (hn:seq.length ≤ 20) :
  Calls Tryz.prog 172 #[J b 0] w fun e w' =>
   ∃ v',e = yn v'∧OwnR Lv.vs 4 w.heap.size w' v' (bE false sd seq)∧yp w w':=by
 have xz:(bE false sd seq).length ≤ 20:=by
  obtain ⟨S,t,hT,hi,hq,qh⟩:=h
  rw [← fE hi hq,List.length_map,hi.len]; omega
 refine (levelsO_s b sd seq w h hn).mono ?_
 rintro e w' ⟨v',rfl,Z,Q⟩
 exact ⟨v',rfl,dP Lv.len (by omega) Z,Q⟩
theorem best_s {S:TS}:∀ {t:Tr} {v:Nat},Rep S.nd t v→t ≠ .nil→v ∈ t.hs∧((S.nd v).be = 0→t.hs.head? = some v)∧((S.nd v).be ≠ 0→∃ l,Rep S.nd l (S.nd v).be∧l ≠ .nil∧l.hs.head? = t.hs.head?∧l.hs.length < t.hs.length∧∀ a ∈ l.hs,a ∈ t.hs)
 | .nil,_,_,h=>absurd rfl h
 | .node h l r,v,⟨e,h0,N,Y⟩,_=>by
  subst e
  refine ⟨by simp [Tr.hs],fun Q=>?_,fun Q=>⟨l,N,?_,?_,?_,fun a ha=>by simp [Tr.hs,ha]⟩⟩
  ·rw [Q] at N; obtain rfl:=rep_nil N; rfl
  ·rintro rfl; exact Q N
  ·cases l with
   | nil=>exact absurd N Q
   | node a l' r'=>simp [Tr.hs]
  ·simp [Tr.hs]
def FrI_s (S:TS) (hd:Option Nat) (w0:World) (k:Nat) (p:Value) (wr:World):Prop:=∃ (t:Tr) (v:Nat),p = I v∧Rep S.nd t v∧t ≠ .nil∧t.hs.head? = hd∧t.hs.length ≤ k∧(∀ a ∈ t.hs,a < 21)∧w0 = wr
theorem front_s (b:Nat) (sd:Int) (seq:List Od) (w:World) (h:bF 204 false w b sd seq) (hn:seq.length ≤ 20) :
  Calls Tryz.prog 170 #[J b 0] w fun e w'=>e = yn (frOf (quOf false seq))∧yp w w':=by
 obtain ⟨S,t,hT,hi,hq,qh⟩:=h
 have hou:=tree_orders hi hq
 have qZ:∀ a ∈ t.hs,a < 21:=fun a ha=>by have:=(hi.range a ha).2; omega
 have HT:=H hT
 have kA:=hT.root
 have pN:=tm_lt hT
 by_cases jZ:S.root = 0
 ·have ht:=hi.rep
  rw [jZ] at ht kA
  obtain rfl:=rep_nil ht
  have HF:Hid (frOf (quOf false seq) = .tuple #[zOdv,.bool false]):=by show _ = _; rw [← hou]; rfl
  clear hi hq qh hou hT ht qZ
  go_enter Tryz.func170,Tryz.ntmps170
  go_wp2_with fail
  go_returns
  refine ⟨by rw [U HF]; rfl,?_⟩
  go_grown
 ·have xA:t ≠ .nil:=by rintro rfl; exact jZ hi.rep
  have HI:=H hi
  have HQ:=H hq
  have HOU:=H hou
  have HH:=H qZ
  have HNE:=H xA
  have hr0':¬ ((S.root:Int) = 0):=by omega
  clear hi hq qh hou hT qZ xA
  go_enter Tryz.func170,Tryz.ntmps170
  go_wp2_with fail
  go_loopg [4] (t.hs.length) (fun k p wr=>FrI_s S t.hs.head? (w.alloc (A (yx 0 0 0 0 0 ⟨#[]⟩).toArray 78)) k p wr)
  case atStart=>exact ⟨t,S.root,rfl,(U HI).rep,U HNE,rfl,Nat.le_refl _,U HH,rfl⟩
  case round =>
   obtain ⟨t1,v,rfl,N,Y,h3,h4,h5,rfl⟩:=hrel
   obtain ⟨b1,b2,b3⟩:=best_s N Y
   have hv21:=h5 v b1
   have hv21':(v:Int) < 21:=by omega
   have oA:=cw (U HT) (Below.heap_alloc w (A (yx 0 0 0 0 0 ⟨#[]⟩).toArray 78) b pN)
   obtain ⟨-,-,-,-,n4,-,n6,-⟩:=zS (oA.nd v hv21)
   have H3:=H h3
   have H4:=H h4
   have H5:=H h5
   by_cases jP:(S.nd v).be = 0
   ·have pq:=b2 jP
    rw [h3] at pq
    have hvm:v ∈ t.hs:=List.mem_of_head? pq
    have hQ:=(U HQ).q v hvm
    obtain ⟨e,rest,hqs⟩:∃ e rest,qs seq (S.nd v).ticks = e :: rest:=by
     cases hqq:qs seq (S.nd v).ticks with
     | nil=>exact absurd hqq hQ.ne
     | cons e rest=>exact ⟨e,rest,rfl⟩
    have hch:=hQ.chain
    rw [hqs] at hch
    obtain ⟨he,he0,-⟩:=hch
    have he21:e < 21:=by
     have:=(cU (S.nd v).ticks seq 1 e (by have h:e ∈ qs seq (S.nd v).ticks:=(by rw [hqs]; simp); exact h)).2.1
     omega
    have he21':(e:Int) < 21:=by omega
    have HF:Hid (frOf (quOf false seq) = .tuple #[(S.qo e).od.val,.bool true]):=by
     show _ = _
     rw [← U HOU]
     obtain ⟨tl,htl⟩:∃ tl,t.hs = v :: tl:=by
      cases hh:t.hs with
      | nil=>rw [hh] at pq; simp at pq
      | cons a r=>rw [hh] at pq; simp at pq; rw [pq]; exact ⟨r,rfl⟩
     rw [htl,List.flatMap_cons,hqs]
     rfl
    obtain ⟨q0,q1,q2,q3,q4,q5,-⟩:=eG (oA.qo e he21)
    rw [he] at n6
    rw [jP] at n4
    clear N Y h3 h4 h5 b1 b2 b3 oA pq hvm hQ hqs he jP
    go_wp2_with fail
    go_region
    go_wp2_with fail
    go_returns
    refine ⟨by rw [U HF]; rfl,?_⟩
    go_grown
   ·obtain ⟨l,l1,l2,l3,l4,l5⟩:=b3 jP
    have hbe':¬ (((S.nd v).be:Int) = 0):=by omega
    have HL:Hid (Rep S.nd l (S.nd v).be∧l ≠ .nil∧l.hs.head? = t1.hs.head?∧l.hs.length < t1.hs.length∧∀ a ∈ l.hs,a ∈ t1.hs):=⟨l1,l2,l3,l4,l5⟩
    clear N Y h3 h4 h5 b1 b2 b3 oA l1 l2 l3 l4 l5 jP
    go_wp2_with fail
    go_roundg (l.hs.length)
    case measure=>have:=U H4; have:=(U HL).2.2.2.1; omega
    case rel=>exact ⟨l,_,rfl,(U HL).1,(U HL).2.1,(U HL).2.2.1.trans (U H3),Nat.le_refl _,fun a ha=>U H5 a ((U HL).2.2.2.2 a ha),rfl⟩
def cy (b:Nat):Value:=.agg #[.func (.func 170) #[J b 0] #[],.func (.func 171) #[J b 0] #[],.func (.func 172) #[J b 0] #[]]
theorem ask_s (b:Nat) (w:World) :
  Calls Tryz.prog 130 #[J b 0] w fun e w'=>e = yn (cy b)∧yp w w':=by
 have hmf:∀ (fn:Fn) (first cap:Array Value) (w:World),(Instr.makeFunc fn first cap).run Tryz.prog w = .ok (.func fn first cap) w:=fun _ _ _ _=>rfl
 go_enter Tryz.func130,Tryz.ntmps130
 go_wp2_with fail
 go_returns
 refine ⟨rfl,?_⟩
 go_grown
end Go.Proofs.YtnphbkgfjanmgaaGreatDoor
