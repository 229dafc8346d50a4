/-
  The tree of a side's orders, planted: proved by walking the function.
-/
import Derived.Test.YtbakanofkghmiaaGreatTj07
import Derived.Test.YtbakanofkghmiaaGreatTj10
import Derived.Laws.EntriesVeiled
set_option linter.unusedVariables false
set_option maxHeartbeats 6400000
set_option maxRecDepth 100000
namespace Go.Proofs.YtbakanofkghmiaaGreat
open Go.RowKit
theorem zNd_s:∀ i,i < 21→(Tryz.zeroCells179.toList.drop (2 + i * 8)).take 8 = zNd.vs
 | 0,_=>by kernel_rfl
 | 1,_=>by kernel_rfl
 | 2,_=>by kernel_rfl
 | 3,_=>by kernel_rfl
 | 4,_=>by kernel_rfl
 | 5,_=>by kernel_rfl
 | 6,_=>by kernel_rfl
 | 7,_=>by kernel_rfl
 | 8,_=>by kernel_rfl
 | 9,_=>by kernel_rfl
 | 10,_=>by kernel_rfl
 | 11,_=>by kernel_rfl
 | 12,_=>by kernel_rfl
 | 13,_=>by kernel_rfl
 | 14,_=>by kernel_rfl
 | 15,_=>by kernel_rfl
 | 16,_=>by kernel_rfl
 | 17,_=>by kernel_rfl
 | 18,_=>by kernel_rfl
 | 19,_=>by kernel_rfl
 | 20,_=>by kernel_rfl
 | n + 21,h=>absurd h (by omega)
theorem zQo_s:∀ i,i < 21→(Tryz.zeroCells179.toList.drop (171 + i * 7)).take 7 = zQo.vs
 | 0,_=>by kernel_rfl
 | 1,_=>by kernel_rfl
 | 2,_=>by kernel_rfl
 | 3,_=>by kernel_rfl
 | 4,_=>by kernel_rfl
 | 5,_=>by kernel_rfl
 | 6,_=>by kernel_rfl
 | 7,_=>by kernel_rfl
 | 8,_=>by kernel_rfl
 | 9,_=>by kernel_rfl
 | 10,_=>by kernel_rfl
 | 11,_=>by kernel_rfl
 | 12,_=>by kernel_rfl
 | 13,_=>by kernel_rfl
 | 14,_=>by kernel_rfl
 | 15,_=>by kernel_rfl
 | 16,_=>by kernel_rfl
 | 17,_=>by kernel_rfl
 | 18,_=>by kernel_rfl
 | 19,_=>by kernel_rfl
 | 20,_=>by kernel_rfl
 | n + 21,h=>absurd h (by omega)
theorem zTree_s (w:World) (sd:Int):pS 179 false (w.alloc (Obj.cells Tryz.zeroCells179 179)) w.heap.size sd [] :=
 ⟨zTS,.nil,tm_zero w _ _ (by kernel_rfl) (by kernel_rfl) zNd_s (by kernel_rfl) zQo_s,ti_zero _,qi_zero _,Nat.le_refl _⟩
theorem plant_s (v:Value) (l:List Od) (sd:Int) (w:World) (hr:RdR Od.vs 6 w v l) (hn:l.length ≤ 20) (hl:∀ o' ∈ l,0 ≤ o'.left∧o'.left ≤ 1000000) :
  Calls Tryz.prog 78 #[v,H sd] w fun e w' =>
   e = yl (yn w 0)∧pS 179 false w' w.heap.size sd (zw l sd)∧ym w w':=by
 obtain ⟨a,E,rfl,xB,hc⟩:=hr
 have xo:∀ (k:Nat) (c:Od),l[k]? = some c→∃ b off,a = some (J b off)∧b < w.heap.size∧w.rangeAt b (off + k * 6) c.vs:=by
  intro k c hk
  obtain ⟨b,off,Q,N,h3⟩:=hc (by intro h; rw [h] at hk; simp at hk)
  exact ⟨b,off,Q,N,h3 k c hk⟩
 have HC:=Y xo
 have HL:=Y hl
 have HN:=Y hn
 clear xo hc hl
 have HZ:=Y (zTree_s w sd)
 have vf:Hid (ym w (w.alloc (Obj.cells Tryz.zeroCells179 179))):=dm _ _
 go_enter Tryz.func78,Tryz.ntmps78
 go_wp2_with fail
 generalize (w.alloc (Obj.cells Tryz.zeroCells179 179)) = W0 at HZ vf ⊢
 go_loopw [11] (fun i wr=>∃ k:Nat,k ≤ l.length∧i = H k∧pS 179 false wr w.heap.size sd (zw (l.take k) sd)∧ym w wr) (fun i _=>l.length - (intOf i).toNat)
 case atStart=>exact ⟨0,Nat.zero_le _,rfl,U HZ,U vf⟩
 case round =>
  obtain ⟨k,hk,rfl,kI,xh⟩:=hrel
  have vN:=Y kI
  have kS:=Y xh
  clear kI xh HZ vf
  by_cases xH:k < l.length
  ·obtain ⟨c,uW⟩:∃ c,l[k]? = some c:=⟨_,yF xH⟩
   have jD:=Y uW
   obtain ⟨b,off,rfl,F,L⟩:=U HC k c uW
   obtain ⟨g0,g1,g2,g3,g4,g5⟩:=zC (zb L (U kS) F)
   have uu:(k:Int) < l.length:=by omega
   clear uW L F
   by_cases uD:c.side = sd
   ·have HIT:Hid (zw (l.take (k + 1)) c.side = zw (l.take k) c.side ++ [c]):=ofSide_snoc l k c (U jD)
    subst uD
    have hlk:(zw (l.take k) c.side).length < 20:=by
     have Q:(zw (l.take k) c.side).length ≤ (l.take k).length:=List.length_filter_le _ _
     have N:(l.take k).length ≤ k:=List.length_take_le _ _
     have h3:=U HN
     omega
    have HLK:=Y hlk
    have L:=U HL c (yM (U jD))
    have HCL:=Y L
    clear hlk L
    go_wp2_with fail
    refine (add_s w.heap.size c.side (zw (l.take k) c.side) c _ (zE (U vN) (Below.heap_alloc wr _ _ (au (U vN)))) rfl (U HLK) (fun o' vu=>U HL o' (List.mem_of_mem_take (List.mem_filter.1 vu).1)) (U HCL)).mono ?_
    rintro e w2 ⟨rfl,ps,vW⟩
    rw [← U HIT] at ps
    have oV:=Y ps
    have xC:=Y (((U kS).alloc (U kS).size _).grown vW (by rw [zf]; have:=(U kS).size; omega) (fun g hg=>by obtain rfl:=Option.some.inj hg; exact Nat.le_refl _))
    clear ps vW
    go_wp2_with fail
    go_roundw
    case rel=>exact ⟨k + 1,by omega,by go_num,U oV,U xC⟩
    case measure=>simp [intOf]; omega
   ·have HIT:Hid (zw (l.take (k + 1)) sd = zw (l.take k) sd):=ofSide_skip l k c (U jD) uD
    go_wp2_with fail
    go_roundw
    case rel =>
     refine ⟨k + 1,by omega,by go_num,?_,?_⟩
     ·rw [U HIT]; exact zE (U vN) (Below.heap_alloc wr _ _ (au (U vN)))
     ·exact (U kS).alloc (U kS).size _
    case measure=>simp [intOf]; omega
  ·go_wp2_with fail
   go_ret
   have h:=U vN
   rw [yX (by omega)] at h
   exact ⟨rfl,h,U kS⟩
theorem infoH_s:(Tryz.prog.info? 166).map (fun i=>(i.zero,i.size,i.bytes)) = some (some (H 0),1,8):=by kernel_rfl
theorem cellsH_s (w:World) (cs:List Value) (t:TypeId) (j:Nat) (u:Value) (h:cs[j]? = some u):(w.alloc (Obj.cells cs.toArray t)).cell? (((yp w 0):Addr).add j) = some u:=by
 rw [Addr.add_mid,cell_of_row _ w.heap.size (0 + j) cs.toArray t (0,0) (heap_alloc_new w _)]
 simpa using h
def hval_s (h:Nat):Value:=H h
theorem ranked_s (S:TS) (b B:Nat) (hbB:b < B):∀ (t:Tr) (w:World) (v:Value) (done:List Nat) (part:Nat),TM 179 w b S→Rep S.nd t part→(∀ h ∈ t.hs,h < 21)→B ≤ w.heap.size →
  w.ownsRow B 166 1 v done.length (done.map hval_s)→done.length + t.hs.length ≤ 1000 →
  Calls Tryz.prog 157 #[I b 0,v,H part] w fun e w' =>
   ∃ v',e = yl v'∧w'.ownsRow B 166 1 v' (done ++ t.hs).length ((done ++ t.hs).map hval_s)∧Below B w w'
 | .nil,w,v,done,part,hT,hrep,hh,hB,xK,xB=>by
  obtain rfl:part = 0:=hrep
  have HO:=Y xK
  clear xK hT hh
  go_enter Tryz.func157,Tryz.ntmps157
  go_wp2_with fail
  go_ret
  exact ⟨v,rfl,by simpa [Tr.hs] using U HO,Below.refl _ _⟩
 | .node h l r,w,v,done,part,hT,hrep,hh,hB,xK,xB=>by
  obtain ⟨rfl,h0,hl,hr⟩:=hrep
  have HO:=Y xK
  have HT:=Y hT
  have HL:=Y hl
  have HR:=Y hr
  have ou:done.length + (l.hs.length + 1 + r.hs.length) ≤ 1000:=by simp [Tr.hs] at xB; omega
  have vE:=hh part (by simp [Tr.hs])
  have HHL:=Y (fun a (ha:a ∈ l.hs)=>hh a (by simp [Tr.hs,ha]))
  have HHR:=Y (fun a (ha:a ∈ r.hs)=>hh a (by simp [Tr.hs,ha]))
  have h21':(part:Int) < 21:=by omega
  have h0':¬ ((part:Int) = 0):=by omega
  have jE:=Y ou
  obtain ⟨-,-,-,-,n4,-⟩:=zI (hT.nd part vE)
  obtain ⟨i0,hi,uA,uF,uR⟩:=info_parts infoH_s
  clear xK hT hh hl hr xB ou
  go_enter Tryz.func157,Tryz.ntmps157
  go_wp2_with fail
  refine (ranked_s S b B hbB l w v done _ (U HT) (U HL) (U HHL) hB (U HO) (by have:=U jE; omega)).mono ?_
  rintro e w1 ⟨v1,rfl,vR,xS⟩
  have vh:=Y vR
  have xT:=Y xS
  have hsz1:=xS.size
  have hla:(done ++ l.hs).length ≤ 999:=by have:=U jE; rw [yN]; omega
  obtain ⟨-,-,-,-,-,n5,-⟩:=zI ((bE (U HT) xS hbB).nd part vE)
  clear vR xS n4
  go_wp2_with (at_builtin; go_must (refine wpList_append_own _ rfl _ _ 195 rfl B 166 i0 _ 1 8 Tryz.underlying195 hi uA uF uR rfl (by decide) v1 (done ++ l.hs).length ((done ++ l.hs).map hval_s) rfl ((U vh).alloc _) (yp w1 0) 1 1 [hval_s part] rfl rfl (cellsH_s w1 _ _) (by simp [Value.oneCell',hval_s]) (by unfold maxLen; omega) (by omega) (by simp at hla ⊢; omega) ?_); intro v2 w2 ox vW _; have vL:=Y ox; have xC:=Y (((U xT).alloc (yL hB hsz1) _).grown vW (by rw [zf]; omega) (fun k hk=>((U vh).lt k hk).1)); have m5:=(zI ((bE (U HT) (U xC) hbB).nd part vE)).2.2.2.2.2.1; clear ox vW n5)
  have hsz2:=(U xC).size
  refine (ranked_s S b B hbB r w2 v2 (done ++ l.hs ++ [part]) _ (bE (U HT) (U xC) hbB) (U HR) (U HHR) (by omega) (by simpa [Nat.add_assoc] using U vL) (by have:=U jE; simp; omega)).mono ?_
  rintro e w3 ⟨v3,rfl,ho3,uC⟩
  have qD:=Y ho3
  have xW:=Y ((U xC).trans uC)
  clear ho3 uC m5
  go_wp2_with fail
  go_ret
  exact ⟨v3,rfl,by simpa [Tr.hs] using U qD,U xW⟩
theorem infoLv_s:(Tryz.prog.info? 168).map (fun i=>(i.zero,i.size,i.bytes)) = some (some (.agg #[H 0,H 0,H 0,H 0]),4,32):=by kernel_rfl
theorem takeR_s {α:Type} (l:List α) (k:Nat) (c:α) (h:l[k]? = some c):l.take (k + 1) = l.take k ++ [c]:=by
 obtain ⟨hk,rfl⟩:=yE.1 h
 rw [List.take_succ_eq_append_getElem hk]
theorem rowBase_s {W:World} {B B':Nat} {e:TypeId} {sz:Nat} {v:Value} {n:Nat} {xs:List Value} (h:W.ownsRow B e sz v n xs) (hB:B' ≤ B):W.ownsRow B' e sz v n xs :=
 ⟨h.1,by
  rcases h.2 with Q | ⟨g',c',xp,Q,N,h3⟩
  ·exact .inl Q
  ·exact .inr ⟨g',c',xp,Q,yL hB N,h3⟩⟩
theorem flat1_s (l:List Nat):(l.flatMap fun h=>[hval_s h]) = l.map hval_s:=by
 induction l with
 | nil=>rfl
 | cons a r ih=>rw [List.flatMap_cons,ih]; rfl
theorem levelsO_s (b:Nat) (sd:Int) (seq:List Od) (w:World) (h:pS 179 false w b sd seq) (hn:seq.length ≤ 20) :
  Calls Tryz.prog 128 #[I b 0] w fun e w' =>
   ∃ v',e = yl v'∧w'.ownsRow w.heap.size 168 4 v' (pU false sd seq).length ((pU false sd seq).flatMap Lv.vs)∧ym w w':=by
 obtain ⟨S,t,hT,hi,hq,qh⟩:=h
 have hlv:=cU hi hq
 rw [← hlv]
 have qw:∀ a ∈ t.hs,a < 21:=fun a ha=>by have:=(hi.range a ha).2; omega
 have xB:t.hs.length ≤ 20:=by rw [hi.len]; omega
 have HT:=Y hT
 have HR:=Y hi.rep
 have HH:=Y qw
 have jO:=hT.root
 have jm:=tm_lt hT
 generalize ht:t.hs = hs at *
 have HHS:=Y ht
 have HNIL:=Y (World.ownsRow_nil w w.heap.size 166 1)
 obtain ⟨i0,uz,uA,uF,uR⟩:=info_parts infoLv_s
 clear hi hq qh hlv hT qw ht
 go_enter Tryz.func128,Tryz.ntmps128
 go_wp2_with fail
 refine (ranked_s S b w.heap.size jm t w _ [] S.root (U HT) (U HR) (by rw [U HHS]; exact U HH) qt (U HNIL) (by rw [U HHS]; simp; omega)).mono ?_
 rintro e w1 ⟨v1,rfl,vR,xS⟩
 rw [List.nil_append,U HHS] at vR
 have xT:=Y xS
 have HOR:=Y (bj (f:=fun h=>[hval_s h]) (fun _=>rfl) (by omega) (show w1.ownsRow w.heap.size 166 1 v1 hs.length (hs.flatMap fun h=>[hval_s h]) by rw [flat1_s]; exact vR))
 obtain ⟨a,E,rfl,_,hc⟩:=U HOR
 have xo:∀ k h,hs[k]? = some h→∃ g,a = some (J g 0)∧g < w1.heap.size∧w1.cell? (J g (0 + k * 1 + 0)) = some (H (h:Nat)):=fun k h hk=>by
  obtain ⟨g,Q,_,h3,h4,_⟩:=hc (by intro e; rw [e] at hk; simp at hk)
  exact ⟨g,Q,h3,h4 k h hk 0 _ rfl⟩
 have HC:=Y xo
 clear vR xS hc xo jO
 go_wp2_with fail
 have xS:=(U xT).size
 go_loopw [3,13] (fun ov iv wr=>∃ (k:Nat) (done:List Lv),k ≤ hs.length∧iv = H k∧Hid (done = (hs.map fun h=>(S.nd h).lv).take k)∧wr.ownsRow w1.heap.size 168 4 ov done.length (done.flatMap Lv.vs)∧ym w1 wr) (fun _ iv _=>hs.length - (intOf iv).toNat)
 case atStart=>exact ⟨0,[],Nat.zero_le _,rfl,by simp [Hid],World.ownsRow_nil _ _ _ _,Below.refl _ _⟩
 case round =>
  obtain ⟨k,done,hk,rfl,hd,xK,xh⟩:=hrel
  have HOW:=Y xK
  have HB:=Y xh
  have hdl:done.length = k:=by rw [U hd,List.length_take,List.length_map]; omega
  clear xK xh
  by_cases xH:k < hs.length
  ·obtain ⟨h,hkh⟩:∃ h,hs[k]? = some h:=⟨_,yF xH⟩
   have jD:Hid ((hs.map fun h=>(S.nd h).lv)[k]? = some (S.nd h).lv):=by show _ = _; rw [List.getElem?_map,hkh]; rfl
   obtain ⟨g,rfl,hg,L⟩:=U HC k h hkh
   have vE:=U HH h (yM hkh)
   have h21':(h:Int) < 21:=by omega
   have qk:=((U HB).cell (p:=(J g (0 + k * 1 + 0))) hg).trans L
   rw [show 0 + k * 1 + 0 = k by omega] at qk
   have hTr:=bE (U HT) ((U xT).trans ((U HB).mono xS)) jm
   obtain ⟨n0,n1,n2,n3,-⟩:=zI (hTr.nd h vE)
   have uu:(k:Int) < hs.length:=by omega
   have hsr:=(U HB).size
   clear hkh L hTr hg
   go_wp2_with (at_builtin; go_must (refine wpList_append_own _ rfl _ _ 133 rfl w1.heap.size 168 i0 _ 4 32 Tryz.underlying133 uz uA uF uR rfl (by decide) _ done.length (done.flatMap Lv.vs) rfl ((U HOW).alloc _) (yp wr 0) 1 1 (S.nd h).lv.vs rfl rfl (cellsH_s wr _ _) (by simp [Value.oneCell',Lv.vs,Nd.lv]) (by unfold maxLen; omega) (by omega) (by simp; omega) ?_); intro v4 w4 jd hg4 _)
   go_roundw
   case rel =>
    refine ⟨k + 1,done ++ [(S.nd h).lv],by omega,by go_num,?_,?_,?_⟩
    ·show done ++ [(S.nd h).lv] = _
     rw [takeR_s _ k _ (U jD),← U hd]
    ·simpa using jd
    ·exact ((U HB).alloc hsr _).grown hg4 (by simp; omega) fun k hk=>((U HOW).lt k hk).1
   case measure=>simp [intOf]; omega
  ·go_wp2_with fail
   go_ret
   have h:=U hd
   rw [yX (by rw [List.length_map]; omega)] at h
   subst h
   exact ⟨_,rfl,rowBase_s (U HOW) xS,(U xT).trans ((U HB).mono xS)⟩
theorem levels_s (b:Nat) (sd:Int) (seq:List Od) (w:World) (h:pS 179 false w b sd seq) (hn:seq.length ≤ 20) :
  Calls Tryz.prog 128 #[I b 0] w fun e w' =>
   ∃ v',e = yl v'∧OwnR Lv.vs 4 w.heap.size w' v' (pU false sd seq)∧ym w w':=by
 have xB:(pU false sd seq).length ≤ 20:=by
  obtain ⟨S,t,hT,hi,hq,qh⟩:=h
  rw [← cU hi hq,List.length_map,hi.len]; omega
 refine (levelsO_s b sd seq w h hn).mono ?_
 rintro e w' ⟨v',rfl,Z,F⟩
 exact ⟨v',rfl,bj Lv.len (by omega) Z,F⟩
theorem best_s {S:TS}:∀ {t:Tr} {v:Nat},Rep S.nd t v→t ≠ .nil→v ∈ t.hs∧((S.nd v).be = 0→t.hs.head? = some v)∧((S.nd v).be ≠ 0→∃ l,Rep S.nd l (S.nd v).be∧l ≠ .nil∧l.hs.head? = t.hs.head?∧l.hs.length < t.hs.length∧∀ a ∈ l.hs,a ∈ t.hs)
 | .nil,_,_,h=>absurd rfl h
 | .node h l r,v,⟨e,h0,Q,N⟩,_=>by
  subst e
  refine ⟨by simp [Tr.hs],fun F=>?_,fun F=>⟨l,Q,?_,?_,?_,fun a ha=>by simp [Tr.hs,ha]⟩⟩
  ·rw [F] at Q; obtain rfl:=rep_nil Q; rfl
  ·rintro rfl; exact F Q
  ·cases l with
   | nil=>exact absurd Q F
   | node a l' r'=>simp [Tr.hs]
  ·simp [Tr.hs]
def FrI_s (S:TS) (hd:Option Nat) (w0:World) (k:Nat) (p:Value) (wr:World):Prop:=∃ (t:Tr) (v:Nat),p = H v∧Rep S.nd t v∧t ≠ .nil∧t.hs.head? = hd∧t.hs.length ≤ k∧(∀ a ∈ t.hs,a < 21)∧w0 = wr
theorem front_s (b:Nat) (sd:Int) (seq:List Od) (w:World) (h:pS 179 false w b sd seq) (hn:seq.length ≤ 20) :
  Calls Tryz.prog 126 #[I b 0] w fun e w'=>e = yl (frOf (quOf false seq))∧ym w w':=by
 obtain ⟨S,t,hT,hi,hq,qh⟩:=h
 have hou:=tree_orders hi hq
 have qw:∀ a ∈ t.hs,a < 21:=fun a ha=>by have:=(hi.range a ha).2; omega
 have HT:=Y hT
 have jO:=hT.root
 have jm:=tm_lt hT
 by_cases pq:S.root = 0
 ·have ht:=hi.rep
  rw [pq] at ht jO
  obtain rfl:=rep_nil ht
  have HF:Hid (frOf (quOf false seq) = .tuple #[zOdv,.bool false]):=by show _ = _; rw [← hou]; rfl
  clear hi hq qh hou hT ht qw
  go_enter Tryz.func126,Tryz.ntmps126
  go_wp2_with fail
  go_returns
  refine ⟨by rw [U HF]; rfl,?_⟩
  go_grown
 ·have xA:t ≠ .nil:=by rintro rfl; exact pq hi.rep
  have HI:=Y hi
  have HQ:=Y hq
  have HOU:=Y hou
  have HH:=Y qw
  have HNE:=Y xA
  have hr0':¬ ((S.root:Int) = 0):=by omega
  clear hi hq qh hou hT qw xA
  go_enter Tryz.func126,Tryz.ntmps126
  go_wp2_with fail
  go_loopg [4] (t.hs.length) (fun k p wr=>FrI_s S t.hs.head? (w.alloc (D (yu 0 0 0 0 0 ⟨#[]⟩).toArray 49)) k p wr)
  case atStart=>exact ⟨t,S.root,rfl,(U HI).rep,U HNE,rfl,Nat.le_refl _,U HH,rfl⟩
  case round =>
   obtain ⟨t1,v,rfl,Q,N,h3,h4,h5,rfl⟩:=hrel
   obtain ⟨b1,b2,b3⟩:=best_s Q N
   have hv21:=h5 v b1
   have hv21':(v:Int) < 21:=by omega
   have qa:=ar (U HT) (Below.heap_alloc w (D (yu 0 0 0 0 0 ⟨#[]⟩).toArray 49) b jm)
   obtain ⟨-,-,-,-,n4,-,n6,-⟩:=zI (qa.nd v hv21)
   have H3:=Y h3
   have H4:=Y h4
   have H5:=Y h5
   by_cases kD:(S.nd v).be = 0
   ·have om:=b2 kD
    rw [h3] at om
    have hvm:v ∈ t.hs:=List.mem_of_head? om
    have hQ:=(U HQ).q v hvm
    obtain ⟨e,rest,hqs⟩:∃ e rest,qs seq (S.nd v).ticks = e :: rest:=by
     cases hqq:qs seq (S.nd v).ticks with
     | nil=>exact absurd hqq hQ.ne
     | cons e rest=>exact ⟨e,rest,rfl⟩
    have hch:=hQ.chain
    rw [hqs] at hch
    obtain ⟨he,he0,-⟩:=hch
    have he21:e < 21:=by
     have:=(aM (S.nd v).ticks seq 1 e (by have h:e ∈ qs seq (S.nd v).ticks:=(by rw [hqs]; simp); exact h)).2.1
     omega
    have he21':(e:Int) < 21:=by omega
    have HF:Hid (frOf (quOf false seq) = .tuple #[(S.qo e).od.val,.bool true]):=by
     show _ = _
     rw [← U HOU]
     obtain ⟨tl,htl⟩:∃ tl,t.hs = v :: tl:=by
      cases hh:t.hs with
      | nil=>rw [hh] at om; simp at om
      | cons a r=>rw [hh] at om; simp at om; rw [om]; exact ⟨r,rfl⟩
     rw [htl,List.flatMap_cons,hqs]
     rfl
    obtain ⟨q0,q1,q2,q3,q4,q5,-⟩:=cy (qa.qo e he21)
    rw [he] at n6
    rw [kD] at n4
    clear Q N h3 h4 h5 b1 b2 b3 qa om hvm hQ hqs he kD
    go_wp2_with fail
    go_region
    go_wp2_with fail
    go_returns
    refine ⟨by rw [U HF]; rfl,?_⟩
    go_grown
   ·obtain ⟨l,l1,l2,l3,l4,l5⟩:=b3 kD
    have hbe':¬ (((S.nd v).be:Int) = 0):=by omega
    have HL:Hid (Rep S.nd l (S.nd v).be∧l ≠ .nil∧l.hs.head? = t1.hs.head?∧l.hs.length < t1.hs.length∧∀ a ∈ l.hs,a ∈ t1.hs):=⟨l1,l2,l3,l4,l5⟩
    clear Q N h3 h4 h5 b1 b2 b3 qa l1 l2 l3 l4 l5 kD
    go_wp2_with fail
    go_roundg (l.hs.length)
    case measure=>have:=U H4; have:=(U HL).2.2.2.1; omega
    case rel=>exact ⟨l,_,rfl,(U HL).1,(U HL).2.1,(U HL).2.2.1.trans (U H3),Nat.le_refl _,fun a ha=>U H5 a ((U HL).2.2.2.2 a ha),rfl⟩
def aT (b:Nat):Value:=.agg #[.func (.func 126) #[I b 0] #[],.func (.func 127) #[I b 0] #[],.func (.func 128) #[I b 0] #[]]
theorem ask_s (b:Nat) (w:World) :
  Calls Tryz.prog 77 #[I b 0] w fun e w'=>e = yl (aT b)∧ym w w':=by
 have hmf:∀ (fn:Fn) (first E:Array Value) (w:World),(Instr.makeFunc fn first E).run Tryz.prog w = .ok (.func fn first E) w:=fun _ _ _ _=>rfl
 go_enter Tryz.func77,Tryz.ntmps77
 go_wp2_with fail
 go_returns
 refine ⟨rfl,?_⟩
 go_grown
end Go.Proofs.YtbakanofkghmiaaGreat
