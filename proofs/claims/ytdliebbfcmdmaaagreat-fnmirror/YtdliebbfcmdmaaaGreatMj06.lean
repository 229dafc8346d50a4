/-
  The tree of a side's orders, planted: proved by walking the function.
-/
import Derived.Test.YtdliebbfcmdmaaaGreatMj05
import Derived.Laws.EntriesVeiled
set_option linter.unusedVariables false
set_option maxHeartbeats 6400000
set_option maxRecDepth 100000
namespace Go.Proofs.YtdliebbfcmdmaaaGreat
open Go.RowKit
theorem zNd_b:∀ i,i < 21→(Tryz.zeroCells164.toList.drop (2 + i * 8)).take 8 = zNd.vs
 | 0,_=>by kernel_rfl
 | 1,_=>by kernel_rfl
 | 2,_=>by kernel_rfl
 | 3,_=>by kernel_rfl
 | 4,_=>by kernel_rfl
 | 5,_=>by kernel_rfl
 | 6,_=>by kernel_rfl
 | 7,_=>by kernel_rfl
 | 8,_=>by kernel_rfl
 | 9,_=>by kernel_rfl
 | 10,_=>by kernel_rfl
 | 11,_=>by kernel_rfl
 | 12,_=>by kernel_rfl
 | 13,_=>by kernel_rfl
 | 14,_=>by kernel_rfl
 | 15,_=>by kernel_rfl
 | 16,_=>by kernel_rfl
 | 17,_=>by kernel_rfl
 | 18,_=>by kernel_rfl
 | 19,_=>by kernel_rfl
 | 20,_=>by kernel_rfl
 | n + 21,h=>absurd h (by omega)
theorem zQo_b:∀ i,i < 21→(Tryz.zeroCells164.toList.drop (171 + i * 7)).take 7 = zQo.vs
 | 0,_=>by kernel_rfl
 | 1,_=>by kernel_rfl
 | 2,_=>by kernel_rfl
 | 3,_=>by kernel_rfl
 | 4,_=>by kernel_rfl
 | 5,_=>by kernel_rfl
 | 6,_=>by kernel_rfl
 | 7,_=>by kernel_rfl
 | 8,_=>by kernel_rfl
 | 9,_=>by kernel_rfl
 | 10,_=>by kernel_rfl
 | 11,_=>by kernel_rfl
 | 12,_=>by kernel_rfl
 | 13,_=>by kernel_rfl
 | 14,_=>by kernel_rfl
 | 15,_=>by kernel_rfl
 | 16,_=>by kernel_rfl
 | 17,_=>by kernel_rfl
 | 18,_=>by kernel_rfl
 | 19,_=>by kernel_rfl
 | 20,_=>by kernel_rfl
 | n + 21,h=>absurd h (by omega)
theorem zTree_b (w:World) (sd:Int):aG 164 true (w.alloc (Obj.cells Tryz.zeroCells164 164)) w.heap.size sd [] :=
 ⟨zTS,.nil,tm_zero w _ _ (by kernel_rfl) (by kernel_rfl) zNd_b (by kernel_rfl) zQo_b,ti_zero _,qi_zero _,Nat.le_refl _⟩
theorem plant_b (v:Value) (l:List Od) (sd:Int) (w:World) (hr:RdR Od.vs 6 w v l) (hn:l.length ≤ 20) (hl:∀ o' ∈ l,0 ≤ o'.left∧o'.left ≤ 1000000) :
  Calls Tryz.prog 102 #[v,H sd] w fun e w' =>
   e = ym (yp w 0)∧aG 164 true w' w.heap.size sd (zt l sd)∧yn w w':=by
 obtain ⟨a,A,rfl,xD,hc⟩:=hr
 have xq:∀ (k:Nat) (c:Od),l[k]? = some c→∃ b off,a = some (J b off)∧b < w.heap.size∧w.rangeAt b (off + k * 6) c.vs:=by
  intro k c hk
  obtain ⟨b,off,Q,N,h3⟩:=hc (by intro h; rw [h] at hk; simp at hk)
  exact ⟨b,off,Q,N,h3 k c hk⟩
 have HC:=Y xq
 have HL:=Y hl
 have HN:=Y hn
 clear xq hc hl
 have HZ:=Y (zTree_b w sd)
 have vj:Hid (yn w (w.alloc (Obj.cells Tryz.zeroCells164 164))):=ed _ _
 go_enter Tryz.func102,Tryz.ntmps102
 go_wp2_with fail
 generalize (w.alloc (Obj.cells Tryz.zeroCells164 164)) = W0 at HZ vj ⊢
 go_loopw [11] (fun i wr=>∃ k:Nat,k ≤ l.length∧i = H k∧aG 164 true wr w.heap.size sd (zt (l.take k) sd)∧yn w wr) (fun i _=>l.length - (intOf i).toNat)
 case atStart=>exact ⟨0,Nat.zero_le _,rfl,U HZ,U vj⟩
 case round =>
  obtain ⟨k,hk,rfl,ob,xk⟩:=hrel
  have vX:=Y ob
  have kB:=Y xk
  clear ob xk HZ vj
  by_cases xK:k < l.length
  ·obtain ⟨c,vd⟩:∃ c,l[k]? = some c:=⟨_,yH xK⟩
   have jP:=Y vd
   obtain ⟨b,off,rfl,L,xo⟩:=U HC k c vd
   obtain ⟨g0,g1,g2,g3,g4,g5⟩:=zC (zb xo (U kB) L)
   have uv:(k:Int) < l.length:=by omega
   clear vd xo L
   by_cases uF:c.side = sd
   ·have HIT:Hid (zt (l.take (k + 1)) c.side = zt (l.take k) c.side ++ [c]):=ofSide_snoc l k c (U jP)
    subst uF
    have hlk:(zt (l.take k) c.side).length < 20:=by
     have Q:(zt (l.take k) c.side).length ≤ (l.take k).length:=List.length_filter_le _ _
     have N:(l.take k).length ≤ k:=List.length_take_le _ _
     have h3:=U HN
     omega
    have HLK:=Y hlk
    have xo:=U HL c (yO (U jP))
    have qk:=Y xo
    clear hlk xo
    go_wp2_with fail
    refine (add_b w.heap.size c.side (zt (l.take k) c.side) c _ (zE (U vX) (Below.heap_alloc wr _ _ (aX (U vX)))) rfl (U HLK) (fun o' vC=>U HL o' (List.mem_of_mem_take (List.mem_filter.1 vC).1)) (U qk)).mono ?_
    rintro e w2 ⟨rfl,pN,vN⟩
    rw [← U HIT] at pN
    have ps:=Y pN
    have xF:=Y (((U kB).alloc (U kB).size _).grown vN (by rw [ze]; have:=(U kB).size; omega) (fun g hg=>by obtain rfl:=Option.some.inj hg; exact Nat.le_refl _))
    clear pN vN
    go_wp2_with fail
    go_roundw
    case rel=>exact ⟨k + 1,by omega,by go_num,U ps,U xF⟩
    case measure=>simp [intOf]; omega
   ·have HIT:Hid (zt (l.take (k + 1)) sd = zt (l.take k) sd):=ofSide_skip l k c (U jP) uF
    go_wp2_with fail
    go_roundw
    case rel =>
     refine ⟨k + 1,by omega,by go_num,?_,?_⟩
     ·rw [U HIT]; exact zE (U vX) (Below.heap_alloc wr _ _ (aX (U vX)))
     ·exact (U kB).alloc (U kB).size _
    case measure=>simp [intOf]; omega
  ·go_wp2_with fail
   go_ret
   have h:=U vX
   rw [yZ (by omega)] at h
   exact ⟨rfl,h,U kB⟩
theorem infoH_b:(Tryz.prog.info? 154).map (fun i=>(i.zero,i.size,i.bytes)) = some (some (H 0),1,8):=by kernel_rfl
theorem cellsH_b (w:World) (cs:List Value) (t:TypeId) (j:Nat) (u:Value) (h:cs[j]? = some u):(w.alloc (Obj.cells cs.toArray t)).cell? (((yq w 0):Addr).add j) = some u:=by
 rw [Addr.add_mid,cell_of_row _ w.heap.size (0 + j) cs.toArray t (0,0) (heap_alloc_new w _)]
 simpa using h
def hval_b (h:Nat):Value:=H h
theorem ranked_b (S:TS) (b B:Nat) (hbB:b < B):∀ (t:Tr) (w:World) (v:Value) (done:List Nat) (part:Nat),TM 164 w b S→Rep S.nd t part→(∀ h ∈ t.hs,h < 21)→B ≤ w.heap.size →
  w.ownsRow B 154 1 v done.length (done.map hval_b)→done.length + t.hs.length ≤ 1000 →
  Calls Tryz.prog 116 #[I b 0,v,H part] w fun e w' =>
   ∃ v',e = ym v'∧w'.ownsRow B 154 1 v' (done ++ t.hs).length ((done ++ t.hs).map hval_b)∧Below B w w'
 | .nil,w,v,done,part,hT,hrep,hh,hB,xL,xD=>by
  obtain rfl:part = 0:=hrep
  have HO:=Y xL
  clear xL hT hh
  go_enter Tryz.func116,Tryz.ntmps116
  go_wp2_with fail
  go_ret
  exact ⟨v,rfl,by simpa [Tr.hs] using U HO,Below.refl _ _⟩
 | .node h l r,w,v,done,part,hT,hrep,hh,hB,xL,xD=>by
  obtain ⟨rfl,h0,hl,hr⟩:=hrep
  have HO:=Y xL
  have HT:=Y hT
  have HL:=Y hl
  have HR:=Y hr
  have oO:done.length + (l.hs.length + 1 + r.hs.length) ≤ 1000:=by simp [Tr.hs] at xD; omega
  have vM:=hh part (by simp [Tr.hs])
  have HHL:=Y (fun a (ha:a ∈ l.hs)=>hh a (by simp [Tr.hs,ha]))
  have HHR:=Y (fun a (ha:a ∈ r.hs)=>hh a (by simp [Tr.hs,ha]))
  have h21':(part:Int) < 21:=by omega
  have h0':¬ ((part:Int) = 0):=by omega
  have jR:=Y oO
  obtain ⟨-,-,-,-,n4,-⟩:=zI (hT.nd part vM)
  obtain ⟨i0,hi,uA,uC,uM⟩:=info_parts infoH_b
  clear xL hT hh hl hr xD oO
  go_enter Tryz.func116,Tryz.ntmps116
  go_wp2_with fail
  refine (ranked_b S b B hbB l w v done _ (U HT) (U HL) (U HHL) hB (U HO) (by have:=U jR; omega)).mono ?_
  rintro e w1 ⟨v1,rfl,qb,xX⟩
  have vh:=Y qb
  have xW:=Y xX
  have hsz1:=xX.size
  have hla:(done ++ l.hs).length ≤ 999:=by have:=U jR; rw [yP]; omega
  obtain ⟨-,-,-,-,-,n5,-⟩:=zI ((cD (U HT) xX hbB).nd part vM)
  clear qb xX n4
  go_wp2_with (at_builtin; go_must (refine wpList_append_own _ rfl _ _ 168 rfl B 154 i0 _ 1 8 Tryz.underlying168 hi uA uC uM rfl (by decide) v1 (done ++ l.hs).length ((done ++ l.hs).map hval_b) rfl ((U vh).alloc _) (yq w1 0) 1 1 [hval_b part] rfl rfl (cellsH_b w1 _ _) (by simp [Value.oneCell',hval_b]) (by unfold maxLen; omega) (by omega) (by simp at hla ⊢; omega) ?_); intro v2 w2 oR vN _; have vW:=Y oR; have xF:=Y (((U xW).alloc (yN hB hsz1) _).grown vN (by rw [ze]; omega) (fun k hk=>((U vh).lt k hk).1)); have m5:=(zI ((cD (U HT) (U xF) hbB).nd part vM)).2.2.2.2.2.1; clear oR vN n5)
  have hsz2:=(U xF).size
  refine (ranked_b S b B hbB r w2 v2 (done ++ l.hs ++ [part]) _ (cD (U HT) (U xF) hbB) (U HR) (U HHR) (by omega) (by simpa [Nat.add_assoc] using U vW) (by have:=U jR; simp; omega)).mono ?_
  rintro e w3 ⟨v3,rfl,ho3,uH⟩
  have qL:=Y ho3
  have xT:=Y ((U xF).trans uH)
  clear ho3 uH m5
  go_wp2_with fail
  go_ret
  exact ⟨v3,rfl,by simpa [Tr.hs] using U qL,U xT⟩
theorem infoLv_b:(Tryz.prog.info? 156).map (fun i=>(i.zero,i.size,i.bytes)) = some (some (.agg #[H 0,H 0,H 0,H 0]),4,32):=by kernel_rfl
theorem takeR_b {α:Type} (l:List α) (k:Nat) (c:α) (h:l[k]? = some c):l.take (k + 1) = l.take k ++ [c]:=by
 obtain ⟨hk,rfl⟩:=yG.1 h
 rw [List.take_succ_eq_append_getElem hk]
theorem bO {W:World} {B B':Nat} {e:TypeId} {sz:Nat} {v:Value} {n:Nat} {xs:List Value} (h:W.ownsRow B e sz v n xs) (hB:B' ≤ B):W.ownsRow B' e sz v n xs :=
 ⟨h.1,by
  rcases h.2 with Q | ⟨g',c',xr,Q,N,h3⟩
  ·exact .inl Q
  ·exact .inr ⟨g',c',xr,Q,yN hB N,h3⟩⟩
theorem flat1_b (l:List Nat):(l.flatMap fun h=>[hval_b h]) = l.map hval_b:=by
 induction l with
 | nil=>rfl
 | cons a r ih=>rw [List.flatMap_cons,ih]; rfl
theorem levelsO_b (b:Nat) (sd:Int) (seq:List Od) (w:World) (h:aG 164 true w b sd seq) (hn:seq.length ≤ 20) :
  Calls Tryz.prog 110 #[I b 0] w fun e w' =>
   ∃ v',e = ym v'∧w'.ownsRow w.heap.size 156 4 v' (aE true sd seq).length ((aE true sd seq).flatMap Lv.vs)∧yn w w':=by
 obtain ⟨S,t,hT,hi,hq,qn⟩:=h
 have hlv:=dJ hi hq
 rw [← hlv]
 have qD:∀ a ∈ t.hs,a < 21:=fun a ha=>by have:=(hi.range a ha).2; omega
 have xD:t.hs.length ≤ 20:=by rw [hi.len]; omega
 have HT:=Y hT
 have HR:=Y hi.rep
 have HH:=Y qD
 have kb:=hT.root
 have ju:=tm_lt hT
 generalize ht:t.hs = hs at *
 have HHS:=Y ht
 have HNIL:=Y (World.ownsRow_nil w w.heap.size 154 1)
 obtain ⟨i0,uE,uA,uC,uM⟩:=info_parts infoLv_b
 clear hi hq qn hlv hT qD ht
 go_enter Tryz.func110,Tryz.ntmps110
 go_wp2_with fail
 refine (ranked_b S b w.heap.size ju t w _ [] S.root (U HT) (U HR) (by rw [U HHS]; exact U HH) tg (U HNIL) (by rw [U HHS]; simp; omega)).mono ?_
 rintro e w1 ⟨v1,rfl,qb,xX⟩
 rw [List.nil_append,U HHS] at qb
 have xW:=Y xX
 have HOR:=Y (bS (f:=fun h=>[hval_b h]) (fun _=>rfl) (by omega) (show w1.ownsRow w.heap.size 154 1 v1 hs.length (hs.flatMap fun h=>[hval_b h]) by rw [flat1_b]; exact qb))
 obtain ⟨a,A,rfl,_,hc⟩:=U HOR
 have xq:∀ k h,hs[k]? = some h→∃ g,a = some (J g 0)∧g < w1.heap.size∧w1.cell? (J g (0 + k * 1 + 0)) = some (H (h:Nat)):=fun k h hk=>by
  obtain ⟨g,Q,_,h3,h4,_⟩:=hc (by intro e; rw [e] at hk; simp at hk)
  exact ⟨g,Q,h3,h4 k h hk 0 _ rfl⟩
 have HC:=Y xq
 clear qb xX hc xq kb
 go_wp2_with fail
 have xX:=(U xW).size
 go_loopw [3,13] (fun ov iv wr=>∃ (k:Nat) (done:List Lv),k ≤ hs.length∧iv = H k∧Hid (done = (hs.map fun h=>(S.nd h).lv).take k)∧wr.ownsRow w1.heap.size 156 4 ov done.length (done.flatMap Lv.vs)∧yn w1 wr) (fun _ iv _=>hs.length - (intOf iv).toNat)
 case atStart=>exact ⟨0,[],Nat.zero_le _,rfl,by simp [Hid],World.ownsRow_nil _ _ _ _,Below.refl _ _⟩
 case round =>
  obtain ⟨k,done,hk,rfl,hd,xL,xk⟩:=hrel
  have jC:=Y xL
  have HB:=Y xk
  have hdl:done.length = k:=by rw [U hd,List.length_take,List.length_map]; omega
  clear xL xk
  by_cases xK:k < hs.length
  ·obtain ⟨h,hkh⟩:∃ h,hs[k]? = some h:=⟨_,yH xK⟩
   have jP:Hid ((hs.map fun h=>(S.nd h).lv)[k]? = some (S.nd h).lv):=by show _ = _; rw [List.getElem?_map,hkh]; rfl
   obtain ⟨g,rfl,hg,xo⟩:=U HC k h hkh
   have vM:=U HH h (yO hkh)
   have h21':(h:Int) < 21:=by omega
   have qu:=((U HB).cell (p:=(J g (0 + k * 1 + 0))) hg).trans xo
   rw [show 0 + k * 1 + 0 = k by omega] at qu
   have hTr:=cD (U HT) ((U xW).trans ((U HB).mono xX)) ju
   obtain ⟨n0,n1,n2,n3,-⟩:=zI (hTr.nd h vM)
   have uv:(k:Int) < hs.length:=by omega
   have hsr:=(U HB).size
   clear hkh xo hTr hg
   go_wp2_with (at_builtin; go_must (refine wpList_append_own _ rfl _ _ 167 rfl w1.heap.size 156 i0 _ 4 32 Tryz.underlying167 uE uA uC uM rfl (by decide) _ done.length (done.flatMap Lv.vs) rfl ((U jC).alloc _) (yq wr 0) 1 1 (S.nd h).lv.vs rfl rfl (cellsH_b wr _ _) (by simp [Value.oneCell',Lv.vs,Nd.lv]) (by unfold maxLen; omega) (by omega) (by simp; omega) ?_); intro v4 w4 uR jX _)
   go_roundw
   case rel =>
    refine ⟨k + 1,done ++ [(S.nd h).lv],by omega,by go_num,?_,?_,?_⟩
    ·show done ++ [(S.nd h).lv] = _
     rw [takeR_b _ k _ (U jP),← U hd]
    ·simpa using uR
    ·exact ((U HB).alloc hsr _).grown jX (by simp; omega) fun k hk=>((U jC).lt k hk).1
   case measure=>simp [intOf]; omega
  ·go_wp2_with fail
   go_ret
   have h:=U hd
   rw [yZ (by rw [List.length_map]; omega)] at h
   subst h
   exact ⟨_,rfl,bO (U jC) xX,(U xW).trans ((U HB).mono xX)⟩
theorem levels_b (b:Nat) (sd:Int) (seq:List Od) (w:World) (h:aG 164 true w b sd seq) (hn:seq.length ≤ 20) :
  Calls Tryz.prog 110 #[I b 0] w fun e w' =>
   ∃ v',e = ym v'∧OwnR Lv.vs 4 w.heap.size w' v' (aE true sd seq)∧yn w w':=by
 have xD:(aE true sd seq).length ≤ 20:=by
  obtain ⟨S,t,hT,hi,hq,qn⟩:=h
  rw [← dJ hi hq,List.length_map,hi.len]; omega
 refine (levelsO_b b sd seq w h hn).mono ?_
 rintro e w' ⟨v',rfl,Z,L⟩
 exact ⟨v',rfl,bS Lv.len (by omega) Z,L⟩
theorem best_b {S:TS}:∀ {t:Tr} {v:Nat},Rep S.nd t v→t ≠ .nil→v ∈ t.hs∧((S.nd v).be = 0→t.hs.head? = some v)∧((S.nd v).be ≠ 0→∃ l,Rep S.nd l (S.nd v).be∧l ≠ .nil∧l.hs.head? = t.hs.head?∧l.hs.length < t.hs.length∧∀ a ∈ l.hs,a ∈ t.hs)
 | .nil,_,_,h=>absurd rfl h
 | .node h l r,v,⟨e,h0,Q,N⟩,_=>by
  subst e
  refine ⟨by simp [Tr.hs],fun L=>?_,fun L=>⟨l,Q,?_,?_,?_,fun a ha=>by simp [Tr.hs,ha]⟩⟩
  ·rw [L] at Q; obtain rfl:=rep_nil Q; rfl
  ·rintro rfl; exact L Q
  ·cases l with
   | nil=>exact absurd Q L
   | node a l' r'=>simp [Tr.hs]
  ·simp [Tr.hs]
def FrI_b (S:TS) (hd:Option Nat) (w0:World) (k:Nat) (p:Value) (wr:World):Prop:=∃ (t:Tr) (v:Nat),p = H v∧Rep S.nd t v∧t ≠ .nil∧t.hs.head? = hd∧t.hs.length ≤ k∧(∀ a ∈ t.hs,a < 21)∧w0 = wr
theorem front_b (b:Nat) (sd:Int) (seq:List Od) (w:World) (h:aG 164 true w b sd seq) (hn:seq.length ≤ 20) :
  Calls Tryz.prog 108 #[I b 0] w fun e w'=>e = ym (frOf (quOf true seq))∧yn w w':=by
 obtain ⟨S,t,hT,hi,hq,qn⟩:=h
 have hou:=tree_orders hi hq
 have qD:∀ a ∈ t.hs,a < 21:=fun a ha=>by have:=(hi.range a ha).2; omega
 have HT:=Y hT
 have kb:=hT.root
 have ju:=tm_lt hT
 by_cases pJ:S.root = 0
 ·have ht:=hi.rep
  rw [pJ] at ht kb
  obtain rfl:=rep_nil ht
  have HF:Hid (frOf (quOf true seq) = .tuple #[zOdv,.bool false]):=by show _ = _; rw [← hou]; rfl
  clear hi hq qn hou hT ht qD
  go_enter Tryz.func108,Tryz.ntmps108
  go_wp2_with fail
  go_returns
  refine ⟨by rw [U HF]; rfl,?_⟩
  go_grown
 ·have xB:t ≠ .nil:=by rintro rfl; exact pJ hi.rep
  have HI:=Y hi
  have HQ:=Y hq
  have HOU:=Y hou
  have HH:=Y qD
  have HNE:=Y xB
  have hr0':¬ ((S.root:Int) = 0):=by omega
  clear hi hq qn hou hT qD xB
  go_enter Tryz.func108,Tryz.ntmps108
  go_wp2_with fail
  go_loopg [4] (t.hs.length) (fun k p wr=>FrI_b S t.hs.head? (w.alloc (E (yv 0 0 0 0 0 ⟨#[]⟩).toArray 66)) k p wr)
  case atStart=>exact ⟨t,S.root,rfl,(U HI).rep,U HNE,rfl,Nat.le_refl _,U HH,rfl⟩
  case round =>
   obtain ⟨t1,v,rfl,Q,N,h3,h4,h5,rfl⟩:=hrel
   obtain ⟨b1,b2,b3⟩:=best_b Q N
   have hv21:=h5 v b1
   have hv21':(v:Int) < 21:=by omega
   have qh:=aW (U HT) (Below.heap_alloc w (E (yv 0 0 0 0 0 ⟨#[]⟩).toArray 66) b ju)
   obtain ⟨-,-,-,-,n4,-,n6,-⟩:=zI (qh.nd v hv21)
   have H3:=Y h3
   have H4:=Y h4
   have H5:=Y h5
   by_cases kV:(S.nd v).be = 0
   ·have oL:=b2 kV
    rw [h3] at oL
    have hvm:v ∈ t.hs:=List.mem_of_head? oL
    have hQ:=(U HQ).q v hvm
    obtain ⟨e,rest,hqs⟩:∃ e rest,qs seq (S.nd v).ticks = e :: rest:=by
     cases hqq:qs seq (S.nd v).ticks with
     | nil=>exact absurd hqq hQ.ne
     | cons e rest=>exact ⟨e,rest,rfl⟩
    have hch:=hQ.chain
    rw [hqs] at hch
    obtain ⟨he,he0,-⟩:=hch
    have he21:e < 21:=by
     have:=(bD (S.nd v).ticks seq 1 e (by have h:e ∈ qs seq (S.nd v).ticks:=(by rw [hqs]; simp); exact h)).2.1
     omega
    have he21':(e:Int) < 21:=by omega
    have HF:Hid (frOf (quOf true seq) = .tuple #[(S.qo e).od.val,.bool true]):=by
     show _ = _
     rw [← U HOU]
     obtain ⟨tl,htl⟩:∃ tl,t.hs = v :: tl:=by
      cases hh:t.hs with
      | nil=>rw [hh] at oL; simp at oL
      | cons a r=>rw [hh] at oL; simp at oL; rw [oL]; exact ⟨r,rfl⟩
     rw [htl,List.flatMap_cons,hqs]
     rfl
    obtain ⟨q0,q1,q2,q3,q4,q5,-⟩:=di (qh.qo e he21)
    rw [he] at n6
    rw [kV] at n4
    clear Q N h3 h4 h5 b1 b2 b3 qh oL hvm hQ hqs he kV
    go_wp2_with fail
    go_region
    go_wp2_with fail
    go_returns
    refine ⟨by rw [U HF]; rfl,?_⟩
    go_grown
   ·obtain ⟨l,l1,l2,l3,l4,l5⟩:=b3 kV
    have hbe':¬ (((S.nd v).be:Int) = 0):=by omega
    have HL:Hid (Rep S.nd l (S.nd v).be∧l ≠ .nil∧l.hs.head? = t1.hs.head?∧l.hs.length < t1.hs.length∧∀ a ∈ l.hs,a ∈ t1.hs):=⟨l1,l2,l3,l4,l5⟩
    clear Q N h3 h4 h5 b1 b2 b3 qh l1 l2 l3 l4 l5 kV
    go_wp2_with fail
    go_roundg (l.hs.length)
    case measure=>have:=U H4; have:=(U HL).2.2.2.1; omega
    case rel=>exact ⟨l,_,rfl,(U HL).1,(U HL).2.1,(U HL).2.2.1.trans (U H3),Nat.le_refl _,fun a ha=>U H5 a ((U HL).2.2.2.2 a ha),rfl⟩
def bJ (b:Nat):Value:=.agg #[.func (.func 108) #[I b 0] #[],.func (.func 109) #[I b 0] #[],.func (.func 110) #[I b 0] #[]]
theorem ask_b (b:Nat) (w:World) :
  Calls Tryz.prog 101 #[I b 0] w fun e w'=>e = ym (bJ b)∧yn w w':=by
 have hmf:∀ (fn:Fn) (first A:Array Value) (w:World),(Instr.makeFunc fn first A).run Tryz.prog w = .ok (.func fn first A) w:=fun _ _ _ _=>rfl
 go_enter Tryz.func101,Tryz.ntmps101
 go_wp2_with fail
 go_returns
 refine ⟨rfl,?_⟩
 go_grown
end Go.Proofs.YtdliebbfcmdmaaaGreat
