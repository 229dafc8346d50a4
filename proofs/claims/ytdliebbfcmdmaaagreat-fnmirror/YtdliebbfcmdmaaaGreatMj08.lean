/-
  The handles of a tree's levels, the best first: proved by walking the function, which calls itself.
-/
import Derived.Test.YtdliebbfcmdmaaaGreatMj06
import Derived.Test.YtdliebbfcmdmaaaGreatMj07
set_option linter.unusedVariables false
set_option maxHeartbeats 6400000
set_option maxRecDepth 100000
namespace Go.Proofs.YtdliebbfcmdmaaaGreat
open Go.RowKit
theorem infoH_s:(Tryz.prog.info? 154).map (fun i=>(i.zero,i.size,i.bytes)) = some (some (H 0),1,8):=by kernel_rfl
theorem cellsH_s (w:World) (cs:List Value) (t:TypeId) (j:Nat) (u:Value) (h:cs[j]? = some u):(w.alloc (Obj.cells cs.toArray t)).cell? (((yq w 0):Addr).add j) = some u:=by
 rw [Addr.add_mid,cell_of_row _ w.heap.size (0 + j) cs.toArray t (0,0) (heap_alloc_new w _)]
 simpa using h
def hval_s (h:Nat):Value:=H h
theorem ranked_s (S:TS) (b B:Nat) (hbB:b < B):∀ (t:Tr) (w:World) (v:Value) (done:List Nat) (part:Nat),TM 166 w b S→Rep S.nd t part→(∀ h ∈ t.hs,h < 21)→B ≤ w.heap.size →
  w.ownsRow B 154 1 v done.length (done.map hval_s)→done.length + t.hs.length ≤ 1000 →
  Calls Tryz.prog 118 #[I b 0,v,H part] w fun e w' =>
   ∃ v',e = ym v'∧w'.ownsRow B 154 1 v' (done ++ t.hs).length ((done ++ t.hs).map hval_s)∧Below B w w'
 | .nil,w,v,done,part,hT,hrep,hh,hB,xL,xD=>by
  obtain rfl:part = 0:=hrep
  have HO:=Y xL
  clear xL hT hh
  go_enter Tryz.func118,Tryz.ntmps118
  go_wp2_with fail
  go_ret
  exact ⟨v,rfl,by simpa [Tr.hs] using U HO,Below.refl _ _⟩
 | .node h l r,w,v,done,part,hT,hrep,hh,hB,xL,xD=>by
  obtain ⟨rfl,h0,hl,hr⟩:=hrep
  have HO:=Y xL
  have HT:=Y hT
  have HL:=Y hl
  have HR:=Y hr
  have oO:done.length + (l.hs.length + 1 + r.hs.length) ≤ 1000:=by simp [Tr.hs] at xD; omega
  have vM:=hh part (by simp [Tr.hs])
  have HHL:=Y (fun a (ha:a ∈ l.hs)=>hh a (by simp [Tr.hs,ha]))
  have HHR:=Y (fun a (ha:a ∈ r.hs)=>hh a (by simp [Tr.hs,ha]))
  have h21':(part:Int) < 21:=by omega
  have h0':¬ ((part:Int) = 0):=by omega
  have jR:=Y oO
  obtain ⟨-,-,-,-,n4,-⟩:=zI (hT.nd part vM)
  obtain ⟨i0,hi,uA,uC,uM⟩:=info_parts infoH_s
  clear xL hT hh hl hr xD oO
  go_enter Tryz.func118,Tryz.ntmps118
  go_wp2_with fail
  refine (ranked_s S b B hbB l w v done _ (U HT) (U HL) (U HHL) hB (U HO) (by have:=U jR; omega)).mono ?_
  rintro e w1 ⟨v1,rfl,qb,xX⟩
  have vh:=Y qb
  have xW:=Y xX
  have hsz1:=xX.size
  have hla:(done ++ l.hs).length ≤ 999:=by have:=U jR; rw [yP]; omega
  obtain ⟨-,-,-,-,-,n5,-⟩:=zI ((cD (U HT) xX hbB).nd part vM)
  clear qb xX n4
  go_wp2_with (at_builtin; go_must (refine wpList_append_own _ rfl _ _ 168 rfl B 154 i0 _ 1 8 Tryz.underlying168 hi uA uC uM rfl (by decide) v1 (done ++ l.hs).length ((done ++ l.hs).map hval_s) rfl ((U vh).alloc _) (yq w1 0) 1 1 [hval_s part] rfl rfl (cellsH_s w1 _ _) (by simp [Value.oneCell',hval_s]) (by unfold maxLen; omega) (by omega) (by simp at hla ⊢; omega) ?_); intro v2 w2 oR vN _; have vW:=Y oR; have xF:=Y (((U xW).alloc (yN hB hsz1) _).grown vN (by rw [ze]; omega) (fun k hk=>((U vh).lt k hk).1)); have m5:=(zI ((cD (U HT) (U xF) hbB).nd part vM)).2.2.2.2.2.1; clear oR vN n5)
  have hsz2:=(U xF).size
  refine (ranked_s S b B hbB r w2 v2 (done ++ l.hs ++ [part]) _ (cD (U HT) (U xF) hbB) (U HR) (U HHR) (by omega) (by simpa [Nat.add_assoc] using U vW) (by have:=U jR; simp; omega)).mono ?_
  rintro e w3 ⟨v3,rfl,ho3,uH⟩
  have qL:=Y ho3
  have xT:=Y ((U xF).trans uH)
  clear ho3 uH m5
  go_wp2_with fail
  go_ret
  exact ⟨v3,rfl,by simpa [Tr.hs] using U qL,U xT⟩
theorem infoLv_s:(Tryz.prog.info? 156).map (fun i=>(i.zero,i.size,i.bytes)) = some (some (.agg #[H 0,H 0,H 0,H 0]),4,32):=by kernel_rfl
theorem takeR_s {α:Type} (l:List α) (k:Nat) (c:α) (h:l[k]? = some c):l.take (k + 1) = l.take k ++ [c]:=by
 obtain ⟨hk,rfl⟩:=yG.1 h
 rw [List.take_succ_eq_append_getElem hk]
theorem rowBase_s {W:World} {B B':Nat} {e:TypeId} {sz:Nat} {v:Value} {n:Nat} {xs:List Value} (h:W.ownsRow B e sz v n xs) (hB:B' ≤ B):W.ownsRow B' e sz v n xs :=
 ⟨h.1,by
  rcases h.2 with Q | ⟨g',c',xr,Q,N,h3⟩
  ·exact .inl Q
  ·exact .inr ⟨g',c',xr,Q,yN hB N,h3⟩⟩
theorem flat1_s (l:List Nat):(l.flatMap fun h=>[hval_s h]) = l.map hval_s:=by
 induction l with
 | nil=>rfl
 | cons a r ih=>rw [List.flatMap_cons,ih]; rfl
theorem levelsO_s (b:Nat) (sd:Int) (seq:List Od) (w:World) (h:aG 166 false w b sd seq) (hn:seq.length ≤ 20) :
  Calls Tryz.prog 114 #[I b 0] w fun e w' =>
   ∃ v',e = ym v'∧w'.ownsRow w.heap.size 156 4 v' (aE false sd seq).length ((aE false sd seq).flatMap Lv.vs)∧yn w w':=by
 obtain ⟨S,t,hT,hi,hq,qn⟩:=h
 have hlv:=dJ hi hq
 rw [← hlv]
 have qD:∀ a ∈ t.hs,a < 21:=fun a ha=>by have:=(hi.range a ha).2; omega
 have xD:t.hs.length ≤ 20:=by rw [hi.len]; omega
 have HT:=Y hT
 have HR:=Y hi.rep
 have HH:=Y qD
 have kb:=hT.root
 have ju:=tm_lt hT
 generalize ht:t.hs = hs at *
 have HHS:=Y ht
 have HNIL:=Y (World.ownsRow_nil w w.heap.size 154 1)
 obtain ⟨i0,uE,uA,uC,uM⟩:=info_parts infoLv_s
 clear hi hq qn hlv hT qD ht
 go_enter Tryz.func114,Tryz.ntmps114
 go_wp2_with fail
 refine (ranked_s S b w.heap.size ju t w _ [] S.root (U HT) (U HR) (by rw [U HHS]; exact U HH) tg (U HNIL) (by rw [U HHS]; simp; omega)).mono ?_
 rintro e w1 ⟨v1,rfl,qb,xX⟩
 rw [List.nil_append,U HHS] at qb
 have xW:=Y xX
 have HOR:=Y (bS (f:=fun h=>[hval_s h]) (fun _=>rfl) (by omega) (show w1.ownsRow w.heap.size 154 1 v1 hs.length (hs.flatMap fun h=>[hval_s h]) by rw [flat1_s]; exact qb))
 obtain ⟨a,A,rfl,_,hc⟩:=U HOR
 have xq:∀ k h,hs[k]? = some h→∃ g,a = some (J g 0)∧g < w1.heap.size∧w1.cell? (J g (0 + k * 1 + 0)) = some (H (h:Nat)):=fun k h hk=>by
  obtain ⟨g,Q,_,h3,h4,_⟩:=hc (by intro e; rw [e] at hk; simp at hk)
  exact ⟨g,Q,h3,h4 k h hk 0 _ rfl⟩
 have HC:=Y xq
 clear qb xX hc xq kb
 go_wp2_with fail
 have xX:=(U xW).size
 go_loopw [3,13] (fun ov iv wr=>∃ (k:Nat) (done:List Lv),k ≤ hs.length∧iv = H k∧Hid (done = (hs.map fun h=>(S.nd h).lv).take k)∧wr.ownsRow w1.heap.size 156 4 ov done.length (done.flatMap Lv.vs)∧yn w1 wr) (fun _ iv _=>hs.length - (intOf iv).toNat)
 case atStart=>exact ⟨0,[],Nat.zero_le _,rfl,by simp [Hid],World.ownsRow_nil _ _ _ _,Below.refl _ _⟩
 case round =>
  obtain ⟨k,done,hk,rfl,hd,xL,xk⟩:=hrel
  have jC:=Y xL
  have HB:=Y xk
  have hdl:done.length = k:=by rw [U hd,List.length_take,List.length_map]; omega
  clear xL xk
  by_cases xK:k < hs.length
  ·obtain ⟨h,hkh⟩:∃ h,hs[k]? = some h:=⟨_,yH xK⟩
   have jP:Hid ((hs.map fun h=>(S.nd h).lv)[k]? = some (S.nd h).lv):=by show _ = _; rw [List.getElem?_map,hkh]; rfl
   obtain ⟨g,rfl,hg,xo⟩:=U HC k h hkh
   have vM:=U HH h (yO hkh)
   have h21':(h:Int) < 21:=by omega
   have qu:=((U HB).cell (p:=(J g (0 + k * 1 + 0))) hg).trans xo
   rw [show 0 + k * 1 + 0 = k by omega] at qu
   have hTr:=cD (U HT) ((U xW).trans ((U HB).mono xX)) ju
   obtain ⟨n0,n1,n2,n3,-⟩:=zI (hTr.nd h vM)
   have uv:(k:Int) < hs.length:=by omega
   have hsr:=(U HB).size
   clear hkh xo hTr hg
   go_wp2_with (at_builtin; go_must (refine wpList_append_own _ rfl _ _ 167 rfl w1.heap.size 156 i0 _ 4 32 Tryz.underlying167 uE uA uC uM rfl (by decide) _ done.length (done.flatMap Lv.vs) rfl ((U jC).alloc _) (yq wr 0) 1 1 (S.nd h).lv.vs rfl rfl (cellsH_s wr _ _) (by simp [Value.oneCell',Lv.vs,Nd.lv]) (by unfold maxLen; omega) (by omega) (by simp; omega) ?_); intro v4 w4 uR jX _)
   go_roundw
   case rel =>
    refine ⟨k + 1,done ++ [(S.nd h).lv],by omega,by go_num,?_,?_,?_⟩
    ·show done ++ [(S.nd h).lv] = _
     rw [takeR_s _ k _ (U jP),← U hd]
    ·simpa using uR
    ·exact ((U HB).alloc hsr _).grown jX (by simp; omega) fun k hk=>((U jC).lt k hk).1
   case measure=>simp [intOf]; omega
  ·go_wp2_with fail
   go_ret
   have h:=U hd
   rw [yZ (by rw [List.length_map]; omega)] at h
   subst h
   exact ⟨_,rfl,rowBase_s (U jC) xX,(U xW).trans ((U HB).mono xX)⟩
theorem levels_s (b:Nat) (sd:Int) (seq:List Od) (w:World) (h:aG 166 false w b sd seq) (hn:seq.length ≤ 20) :
  Calls Tryz.prog 114 #[I b 0] w fun e w' =>
   ∃ v',e = ym v'∧OwnR Lv.vs 4 w.heap.size w' v' (aE false sd seq)∧yn w w':=by
 have xD:(aE false sd seq).length ≤ 20:=by
  obtain ⟨S,t,hT,hi,hq,qn⟩:=h
  rw [← dJ hi hq,List.length_map,hi.len]; omega
 refine (levelsO_s b sd seq w h hn).mono ?_
 rintro e w' ⟨v',rfl,Z,L⟩
 exact ⟨v',rfl,bS Lv.len (by omega) Z,L⟩
theorem best_s {S:TS}:∀ {t:Tr} {v:Nat},Rep S.nd t v→t ≠ .nil→v ∈ t.hs∧((S.nd v).be = 0→t.hs.head? = some v)∧((S.nd v).be ≠ 0→∃ l,Rep S.nd l (S.nd v).be∧l ≠ .nil∧l.hs.head? = t.hs.head?∧l.hs.length < t.hs.length∧∀ a ∈ l.hs,a ∈ t.hs)
 | .nil,_,_,h=>absurd rfl h
 | .node h l r,v,⟨e,h0,Q,N⟩,_=>by
  subst e
  refine ⟨by simp [Tr.hs],fun L=>?_,fun L=>⟨l,Q,?_,?_,?_,fun a ha=>by simp [Tr.hs,ha]⟩⟩
  ·rw [L] at Q; obtain rfl:=rep_nil Q; rfl
  ·rintro rfl; exact L Q
  ·cases l with
   | nil=>exact absurd Q L
   | node a l' r'=>simp [Tr.hs]
  ·simp [Tr.hs]
def FrI_s (S:TS) (hd:Option Nat) (w0:World) (k:Nat) (p:Value) (wr:World):Prop:=∃ (t:Tr) (v:Nat),p = H v∧Rep S.nd t v∧t ≠ .nil∧t.hs.head? = hd∧t.hs.length ≤ k∧(∀ a ∈ t.hs,a < 21)∧w0 = wr
theorem front_s (b:Nat) (sd:Int) (seq:List Od) (w:World) (h:aG 166 false w b sd seq) (hn:seq.length ≤ 20) :
  Calls Tryz.prog 112 #[I b 0] w fun e w'=>e = ym (frOf (quOf false seq))∧yn w w':=by
 obtain ⟨S,t,hT,hi,hq,qn⟩:=h
 have hou:=tree_orders hi hq
 have qD:∀ a ∈ t.hs,a < 21:=fun a ha=>by have:=(hi.range a ha).2; omega
 have HT:=Y hT
 have kb:=hT.root
 have ju:=tm_lt hT
 by_cases pJ:S.root = 0
 ·have ht:=hi.rep
  rw [pJ] at ht kb
  obtain rfl:=rep_nil ht
  have HF:Hid (frOf (quOf false seq) = .tuple #[zOdv,.bool false]):=by show _ = _; rw [← hou]; rfl
  clear hi hq qn hou hT ht qD
  go_enter Tryz.func112,Tryz.ntmps112
  go_wp2_with fail
  go_returns
  refine ⟨by rw [U HF]; rfl,?_⟩
  go_grown
 ·have xB:t ≠ .nil:=by rintro rfl; exact pJ hi.rep
  have HI:=Y hi
  have HQ:=Y hq
  have HOU:=Y hou
  have HH:=Y qD
  have HNE:=Y xB
  have hr0':¬ ((S.root:Int) = 0):=by omega
  clear hi hq qn hou hT qD xB
  go_enter Tryz.func112,Tryz.ntmps112
  go_wp2_with fail
  go_loopg [4] (t.hs.length) (fun k p wr=>FrI_s S t.hs.head? (w.alloc (E (yv 0 0 0 0 0 ⟨#[]⟩).toArray 66)) k p wr)
  case atStart=>exact ⟨t,S.root,rfl,(U HI).rep,U HNE,rfl,Nat.le_refl _,U HH,rfl⟩
  case round =>
   obtain ⟨t1,v,rfl,Q,N,h3,h4,h5,rfl⟩:=hrel
   obtain ⟨b1,b2,b3⟩:=best_s Q N
   have hv21:=h5 v b1
   have hv21':(v:Int) < 21:=by omega
   have qh:=aW (U HT) (Below.heap_alloc w (E (yv 0 0 0 0 0 ⟨#[]⟩).toArray 66) b ju)
   obtain ⟨-,-,-,-,n4,-,n6,-⟩:=zI (qh.nd v hv21)
   have H3:=Y h3
   have H4:=Y h4
   have H5:=Y h5
   by_cases kV:(S.nd v).be = 0
   ·have oL:=b2 kV
    rw [h3] at oL
    have hvm:v ∈ t.hs:=List.mem_of_head? oL
    have hQ:=(U HQ).q v hvm
    obtain ⟨e,rest,hqs⟩:∃ e rest,qs seq (S.nd v).ticks = e :: rest:=by
     cases hqq:qs seq (S.nd v).ticks with
     | nil=>exact absurd hqq hQ.ne
     | cons e rest=>exact ⟨e,rest,rfl⟩
    have hch:=hQ.chain
    rw [hqs] at hch
    obtain ⟨he,he0,-⟩:=hch
    have he21:e < 21:=by
     have:=(bD (S.nd v).ticks seq 1 e (by have h:e ∈ qs seq (S.nd v).ticks:=(by rw [hqs]; simp); exact h)).2.1
     omega
    have he21':(e:Int) < 21:=by omega
    have HF:Hid (frOf (quOf false seq) = .tuple #[(S.qo e).od.val,.bool true]):=by
     show _ = _
     rw [← U HOU]
     obtain ⟨tl,htl⟩:∃ tl,t.hs = v :: tl:=by
      cases hh:t.hs with
      | nil=>rw [hh] at oL; simp at oL
      | cons a r=>rw [hh] at oL; simp at oL; rw [oL]; exact ⟨r,rfl⟩
     rw [htl,List.flatMap_cons,hqs]
     rfl
    obtain ⟨q0,q1,q2,q3,q4,q5,-⟩:=di (qh.qo e he21)
    rw [he] at n6
    rw [kV] at n4
    clear Q N h3 h4 h5 b1 b2 b3 qh oL hvm hQ hqs he kV
    go_wp2_with fail
    go_region
    go_wp2_with fail
    go_returns
    refine ⟨by rw [U HF]; rfl,?_⟩
    go_grown
   ·obtain ⟨l,l1,l2,l3,l4,l5⟩:=b3 kV
    have hbe':¬ (((S.nd v).be:Int) = 0):=by omega
    have HL:Hid (Rep S.nd l (S.nd v).be∧l ≠ .nil∧l.hs.head? = t1.hs.head?∧l.hs.length < t1.hs.length∧∀ a ∈ l.hs,a ∈ t1.hs):=⟨l1,l2,l3,l4,l5⟩
    clear Q N h3 h4 h5 b1 b2 b3 qh l1 l2 l3 l4 l5 kV
    go_wp2_with fail
    go_roundg (l.hs.length)
    case measure=>have:=U H4; have:=(U HL).2.2.2.1; omega
    case rel=>exact ⟨l,_,rfl,(U HL).1,(U HL).2.1,(U HL).2.2.1.trans (U H3),Nat.le_refl _,fun a ha=>U H5 a ((U HL).2.2.2.2 a ha),rfl⟩
def bK (b:Nat):Value:=.agg #[.func (.func 112) #[I b 0] #[],.func (.func 113) #[I b 0] #[],.func (.func 114) #[I b 0] #[]]
theorem ask_s (b:Nat) (w:World) :
  Calls Tryz.prog 103 #[I b 0] w fun e w'=>e = ym (bK b)∧yn w w':=by
 have hmf:∀ (fn:Fn) (first A:Array Value) (w:World),(Instr.makeFunc fn first A).run Tryz.prog w = .ok (.func fn first A) w:=fun _ _ _ _=>rfl
 go_enter Tryz.func103,Tryz.ntmps103
 go_wp2_with fail
 go_returns
 refine ⟨rfl,?_⟩
 go_grown
theorem sideOf_buy (next:Int) (v:Value) (l:List Od) (w:World) (hr:RdR Od.vs 6 w v l) (hn:l.length ≤ 20) (hl:∀ o' ∈ l,0 ≤ o'.left∧o'.left ≤ 1000000) :
  Calls Tryz.prog 84 #[.agg #[H next,v],H 1] w fun e w' =>
   ∃ b,e = ym (bJ b)∧aG 164 true w' b 1 (zt l 1)∧w.heap.size ≤ b∧yn w w':=by
 have HR:=Y hr
 have HL:=Y hl
 obtain ⟨a,A,rfl,xD,hc⟩:=hr
 have xA:=ze w (E #[H next,.slice a l.length A] 31)
 have r1:=zg (w.alloc (E #[H next,.slice a l.length A] 31)) [.nilFunc,.nilFunc,.nilFunc] 135
 have t1:=cn (n:=3) (heap_alloc_new (w.alloc (E #[H next,.slice a l.length A] 31)) (E #[.nilFunc,.nilFunc,.nilFunc] 135)) (by simp)
 rw [xA] at r1 t1
 have uc:((w.alloc (E #[H next,.slice a l.length A] 31)).alloc (E #[.nilFunc,.nilFunc,.nilFunc] 135)).heap.size = w.heap.size + 1 + 1:=by rw [ze,xA]
 have vj:Hid (yn w ((w.alloc (E #[H next,.slice a l.length A] 31)).alloc (E #[.nilFunc,.nilFunc,.nilFunc] 135))) :=
  (ed _ _).alloc (by rw [xA]; omega) _
 have HX:Hid (_∧_):=⟨r1,t1⟩
 have qY:=Y uc
 clear r1 t1 xA uc hc hl
 go_enter Tryz.func84,Tryz.ntmps84
 go_wp2_with fail
 generalize ((w.alloc (E #[H next,.slice a l.length A] 31)).alloc (E #[.nilFunc,.nilFunc,.nilFunc] 135)) = W2 at vj HX qY ⊢
 refine (plant_b _ l 1 W2 (zl (U HR) (U vj) tg) hn (U HL)).mono ?_
 rintro e w1 ⟨rfl,ob,xX⟩
 have vX:=Y ob
 have xW:=Y xX
 clear ob xX
 go_wp2_with fail
 refine (ask_b W2.heap.size w1).mono ?_
 rintro e w2 ⟨rfl,xZ⟩
 have ps:=Y (zE (U vX) (xZ.block _ (aX (U vX))))
 have ky:=(U xW).trans (xZ.mono (U xW).size)
 obtain ⟨x1,x2⟩:=U HX
 have y1:=zb x1 ky (by rw [U qY]; omega)
 have y2:=zf x2 ky (by rw [U qY]; omega)
 have xF:=Y (eh (U vj) ky)
 have c0:w2.cell? (J (w.heap.size + 1) 0) = some .nilFunc:=y1 0 _ rfl
 have c1:w2.cell? (J (w.heap.size + 1) 1) = some .nilFunc:=y1 1 _ rfl
 have c2:w2.cell? (J (w.heap.size + 1) 2) = some .nilFunc:=y1 2 _ rfl
 have f0:w2.frozen? (J (w.heap.size + 1) 0) = false:=(y2 0 (by omega)).2
 have f1:w2.frozen? (J (w.heap.size + 1) 1) = false:=(y2 1 (by omega)).2
 have f2:w2.frozen? (J (w.heap.size + 1) 2) = false:=(y2 2 (by omega)).2
 clear xZ ky x1 x2 y1 y2
 unfold bJ
 generalize hF0:Value.func (.func 108) #[yp W2 0] #[] = F0
 generalize hF1:Value.func (.func 109) #[yp W2 0] #[] = F1
 generalize hF2:Value.func (.func 110) #[yp W2 0] #[] = F2
 have vv:∀ (W:World) (o:Nat) (m:Mode),((store (J (w.heap.size + 1) o) F0 m).run Tryz.prog W = stored Tryz.prog W (J (w.heap.size + 1) o) F0 m)∧((store (J (w.heap.size + 1) o) F1 m).run Tryz.prog W = stored Tryz.prog W (J (w.heap.size + 1) o) F1 m)∧((store (J (w.heap.size + 1) o) F2 m).run Tryz.prog W = stored Tryz.prog W (J (w.heap.size + 1) o) F2 m):=fun W o m=>by
  subst hF0 hF1 hF2
  exact ⟨run_store _ W _ _ m rfl,run_store _ W _ _ m rfl,run_store _ W _ _ m rfl⟩
 have hst0:=fun W o m=>(vv W o m).1
 have hst1:=fun W o m=>(vv W o m).2.1
 have hst2:=fun W o m=>(vv W o m).2.2
 clear vv
 go_wp2_with fail
 have hn01:((J (w.heap.size + 1) 0):Addr) ≠ (J (w.heap.size + 1) 1):=fun e=>by simp at e
 have hn02:((J (w.heap.size + 1) 0):Addr) ≠ (J (w.heap.size + 1) 2):=fun e=>by simp at e
 have hn12:((J (w.heap.size + 1) 1):Addr) ≠ (J (w.heap.size + 1) 2):=fun e=>by simp at e
 have d2:(((w2.setCell (J (w.heap.size + 1) 0) F0).setCell (J (w.heap.size + 1) 1) F1).setCell (J (w.heap.size + 1) 2) F2).cell? (J (w.heap.size + 1) 2) = some F2 :=
  yM _ _ _ ((yL _ _ _ _ hn12).trans ((yL _ _ _ _ hn02).trans c2))
 have d1:(((w2.setCell (J (w.heap.size + 1) 0) F0).setCell (J (w.heap.size + 1) 1) F1).setCell (J (w.heap.size + 1) 2) F2).cell? (J (w.heap.size + 1) 1) = some F1 :=
  (yL _ _ _ _ hn12.symm).trans (yM _ _ _ ((yL _ _ _ _ hn01).trans c1))
 have d0:(((w2.setCell (J (w.heap.size + 1) 0) F0).setCell (J (w.heap.size + 1) 1) F1).setCell (J (w.heap.size + 1) 2) F2).cell? (J (w.heap.size + 1) 0) = some F0 :=
  (yL _ _ _ _ hn02.symm).trans ((yL _ _ _ _ hn01.symm).trans (yM _ _ _ c0))
 have xB:W2.heap.size ≠ w.heap.size + 1:=by rw [U qY]; omega
 have HT5:=Y (zE (U ps) (w':=((w2.setCell (J (w.heap.size + 1) 0) F0).setCell (J (w.heap.size + 1) 1) F1).setCell (J (w.heap.size + 1) 2) F2) ((yS _ _ _ _ xB).trans ((yS _ _ _ _ xB).trans (yS _ _ _ _ xB))))
 have km:=Y ((((U xF).setCell (p:=(J (w.heap.size + 1) 0)) (by simp) F0).setCell (p:=(J (w.heap.size + 1) 1)) (by simp) F1).setCell (p:=(J (w.heap.size + 1) 2)) (by simp) F2)
 generalize ((w2.setCell (J (w.heap.size + 1) 0) F0).setCell (J (w.heap.size + 1) 1) F1).setCell (J (w.heap.size + 1) 2) F2 = W5 at *
 try simp only [Exit.inBlock,Exit.then]
 refine bodyPost_ret (by simp [results,Tryz.results84,go_sem,d0,d1,d2]; try rfl) rfl ?_
 refine ⟨W2.heap.size,?_,U HT5,by rw [U qY]; omega,U km⟩
 subst hF0 hF1 hF2
 rfl
theorem sideOf_sell (next:Int) (sd:Int) (uF:¬ sd = 1) (v:Value) (l:List Od) (w:World) (hr:RdR Od.vs 6 w v l) (hn:l.length ≤ 20) (hl:∀ o' ∈ l,0 ≤ o'.left∧o'.left ≤ 1000000) :
  Calls Tryz.prog 84 #[.agg #[H next,v],H sd] w fun e w' =>
   ∃ b,e = ym (bK b)∧aG 166 false w' b sd (zt l sd)∧w.heap.size ≤ b∧yn w w':=by
 have HR:=Y hr
 have HL:=Y hl
 obtain ⟨a,A,rfl,xD,hc⟩:=hr
 have xA:=ze w (E #[H next,.slice a l.length A] 31)
 have r1:=zg (w.alloc (E #[H next,.slice a l.length A] 31)) [.nilFunc,.nilFunc,.nilFunc] 135
 have t1:=cn (n:=3) (heap_alloc_new (w.alloc (E #[H next,.slice a l.length A] 31)) (E #[.nilFunc,.nilFunc,.nilFunc] 135)) (by simp)
 rw [xA] at r1 t1
 have uc:((w.alloc (E #[H next,.slice a l.length A] 31)).alloc (E #[.nilFunc,.nilFunc,.nilFunc] 135)).heap.size = w.heap.size + 1 + 1:=by rw [ze,xA]
 have vj:Hid (yn w ((w.alloc (E #[H next,.slice a l.length A] 31)).alloc (E #[.nilFunc,.nilFunc,.nilFunc] 135))) :=
  (ed _ _).alloc (by rw [xA]; omega) _
 have HX:Hid (_∧_):=⟨r1,t1⟩
 have qY:=Y uc
 clear r1 t1 xA uc hc hl
 go_enter Tryz.func84,Tryz.ntmps84
 go_wp2_with fail
 generalize ((w.alloc (E #[H next,.slice a l.length A] 31)).alloc (E #[.nilFunc,.nilFunc,.nilFunc] 135)) = W2 at vj HX qY ⊢
 refine (plant_s _ l sd W2 (zl (U HR) (U vj) tg) hn (U HL)).mono ?_
 rintro e w1 ⟨rfl,ob,xX⟩
 have vX:=Y ob
 have xW:=Y xX
 clear ob xX
 go_wp2_with fail
 refine (ask_s W2.heap.size w1).mono ?_
 rintro e w2 ⟨rfl,xZ⟩
 have ps:=Y (zE (U vX) (xZ.block _ (aX (U vX))))
 have ky:=(U xW).trans (xZ.mono (U xW).size)
 obtain ⟨x1,x2⟩:=U HX
 have y1:=zb x1 ky (by rw [U qY]; omega)
 have y2:=zf x2 ky (by rw [U qY]; omega)
 have xF:=Y (eh (U vj) ky)
 have c0:w2.cell? (J (w.heap.size + 1) 0) = some .nilFunc:=y1 0 _ rfl
 have c1:w2.cell? (J (w.heap.size + 1) 1) = some .nilFunc:=y1 1 _ rfl
 have c2:w2.cell? (J (w.heap.size + 1) 2) = some .nilFunc:=y1 2 _ rfl
 have f0:w2.frozen? (J (w.heap.size + 1) 0) = false:=(y2 0 (by omega)).2
 have f1:w2.frozen? (J (w.heap.size + 1) 1) = false:=(y2 1 (by omega)).2
 have f2:w2.frozen? (J (w.heap.size + 1) 2) = false:=(y2 2 (by omega)).2
 clear xZ ky x1 x2 y1 y2
 unfold bK
 generalize hF0:Value.func (.func 112) #[yp W2 0] #[] = F0
 generalize hF1:Value.func (.func 113) #[yp W2 0] #[] = F1
 generalize hF2:Value.func (.func 114) #[yp W2 0] #[] = F2
 have vv:∀ (W:World) (o:Nat) (m:Mode),((store (J (w.heap.size + 1) o) F0 m).run Tryz.prog W = stored Tryz.prog W (J (w.heap.size + 1) o) F0 m)∧((store (J (w.heap.size + 1) o) F1 m).run Tryz.prog W = stored Tryz.prog W (J (w.heap.size + 1) o) F1 m)∧((store (J (w.heap.size + 1) o) F2 m).run Tryz.prog W = stored Tryz.prog W (J (w.heap.size + 1) o) F2 m):=fun W o m=>by
  subst hF0 hF1 hF2
  exact ⟨run_store _ W _ _ m rfl,run_store _ W _ _ m rfl,run_store _ W _ _ m rfl⟩
 have hst0:=fun W o m=>(vv W o m).1
 have hst1:=fun W o m=>(vv W o m).2.1
 have hst2:=fun W o m=>(vv W o m).2.2
 clear vv
 go_wp2_with fail
 have hn01:((J (w.heap.size + 1) 0):Addr) ≠ (J (w.heap.size + 1) 1):=fun e=>by simp at e
 have hn02:((J (w.heap.size + 1) 0):Addr) ≠ (J (w.heap.size + 1) 2):=fun e=>by simp at e
 have hn12:((J (w.heap.size + 1) 1):Addr) ≠ (J (w.heap.size + 1) 2):=fun e=>by simp at e
 have d2:(((w2.setCell (J (w.heap.size + 1) 0) F0).setCell (J (w.heap.size + 1) 1) F1).setCell (J (w.heap.size + 1) 2) F2).cell? (J (w.heap.size + 1) 2) = some F2 :=
  yM _ _ _ ((yL _ _ _ _ hn12).trans ((yL _ _ _ _ hn02).trans c2))
 have d1:(((w2.setCell (J (w.heap.size + 1) 0) F0).setCell (J (w.heap.size + 1) 1) F1).setCell (J (w.heap.size + 1) 2) F2).cell? (J (w.heap.size + 1) 1) = some F1 :=
  (yL _ _ _ _ hn12.symm).trans (yM _ _ _ ((yL _ _ _ _ hn01).trans c1))
 have d0:(((w2.setCell (J (w.heap.size + 1) 0) F0).setCell (J (w.heap.size + 1) 1) F1).setCell (J (w.heap.size + 1) 2) F2).cell? (J (w.heap.size + 1) 0) = some F0 :=
  (yL _ _ _ _ hn02.symm).trans ((yL _ _ _ _ hn01.symm).trans (yM _ _ _ c0))
 have xB:W2.heap.size ≠ w.heap.size + 1:=by rw [U qY]; omega
 have HT5:=Y (zE (U ps) (w':=((w2.setCell (J (w.heap.size + 1) 0) F0).setCell (J (w.heap.size + 1) 1) F1).setCell (J (w.heap.size + 1) 2) F2) ((yS _ _ _ _ xB).trans ((yS _ _ _ _ xB).trans (yS _ _ _ _ xB))))
 have km:=Y ((((U xF).setCell (p:=(J (w.heap.size + 1) 0)) (by simp) F0).setCell (p:=(J (w.heap.size + 1) 1)) (by simp) F1).setCell (p:=(J (w.heap.size + 1) 2)) (by simp) F2)
 generalize ((w2.setCell (J (w.heap.size + 1) 0) F0).setCell (J (w.heap.size + 1) 1) F1).setCell (J (w.heap.size + 1) 2) F2 = W5 at *
 try simp only [Exit.inBlock,Exit.then]
 refine bodyPost_ret (by simp [results,Tryz.results84,go_sem,d0,d1,d2]; try rfl) rfl ?_
 refine ⟨W2.heap.size,?_,U HT5,by rw [U qY]; omega,U km⟩
 subst hF0 hF1 hF2
 rfl
def hdO (q:List Od):Od:=(q.head?).getD zOd
def hdF (q:List Od):Bool:=(q.head?).isSome
theorem frOf_eq (q:List Od):frOf q = .tuple #[.agg (yv ((hdO q).id) ((hdO q).side) ((hdO q).ticks) ((hdO q).left) ((hdO q).life) ((hdO q).tag)).toArray,.bool (hdF q)]:=by
 unfold frOf hdO hdF
 cases q.head? <;> rfl
end Go.Proofs.YtdliebbfcmdmaaaGreat
