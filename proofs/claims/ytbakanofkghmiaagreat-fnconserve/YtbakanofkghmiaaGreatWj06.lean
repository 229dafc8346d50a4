/-
  The handles of a tree's levels, the best first: proved by walking the function, which calls itself.
-/
import Derived.Test.YtbakanofkghmiaaGreatWj05
import Derived.Laws.EntriesVeiled
set_option linter.unusedVariables false
set_option maxHeartbeats 6400000
set_option maxRecDepth 100000
namespace Go.Proofs.YtbakanofkghmiaaGreat
open Go.RowKit
theorem infoH_b:(Tryz.prog.info? 166).map (fun i=>(i.zero,i.size,i.bytes)) = some (some (H 0),1,8):=by kernel_rfl
theorem cellsH_b (w:World) (cs:List Value) (t:TypeId) (j:Nat) (u:Value) (h:cs[j]? = some u):(w.alloc (Obj.cells cs.toArray t)).cell? (((yq w 0):Addr).add j) = some u:=by
 rw [Addr.add_mid,cell_of_row _ w.heap.size (0 + j) cs.toArray t (0,0) (heap_alloc_new w _)]
 simpa using h
def hval_b (h:Nat):Value:=H h
theorem ranked_b (S:TS) (b B:Nat) (hbB:b < B):∀ (t:Tr) (w:World) (v:Value) (done:List Nat) (part:Nat),TM 176 w b S→Rep S.nd t part→(∀ h ∈ t.hs,h < 21)→B ≤ w.heap.size →
  w.ownsRow B 166 1 v done.length (done.map hval_b)→done.length + t.hs.length ≤ 1000 →
  Calls Tryz.prog 155 #[I b 0,v,H part] w fun e w' =>
   ∃ v',e = ym v'∧w'.ownsRow B 166 1 v' (done ++ t.hs).length ((done ++ t.hs).map hval_b)∧Below B w w'
 | .nil,w,v,done,part,hT,hrep,hh,hB,xN,xE=>by
  obtain rfl:part = 0:=hrep
  have HO:=Y xN
  clear xN hT hh
  go_enter Tryz.func155,Tryz.ntmps155
  go_wp2_with fail
  go_ret
  exact ⟨v,rfl,by simpa [Tr.hs] using U HO,Below.refl _ _⟩
 | .node h l r,w,v,done,part,hT,hrep,hh,hB,xN,xE=>by
  obtain ⟨rfl,h0,hl,hr⟩:=hrep
  have HO:=Y xN
  have HT:=Y hT
  have HL:=Y hl
  have HR:=Y hr
  have oX:done.length + (l.hs.length + 1 + r.hs.length) ≤ 1000:=by simp [Tr.hs] at xE; omega
  have vL:=hh part (by simp [Tr.hs])
  have HHL:=Y (fun a (ha:a ∈ l.hs)=>hh a (by simp [Tr.hs,ha]))
  have HHR:=Y (fun a (ha:a ∈ r.hs)=>hh a (by simp [Tr.hs,ha]))
  have h21':(part:Int) < 21:=by omega
  have h0':¬ ((part:Int) = 0):=by omega
  have jQ:=Y oX
  obtain ⟨-,-,-,-,n4,-⟩:=zL (hT.nd part vL)
  obtain ⟨i0,hi,uF,uJ,uQ⟩:=info_parts infoH_b
  clear xN hT hh hl hr xE oX
  go_enter Tryz.func155,Tryz.ntmps155
  go_wp2_with fail
  refine (ranked_b S b B hbB l w v done _ (U HT) (U HL) (U HHL) hB (U HO) (by have:=U jQ; omega)).mono ?_
  rintro e w1 ⟨v1,rfl,vu,xW⟩
  have vp:=Y vu
  have xU:=Y xW
  have hsz1:=xW.size
  have hla:(done ++ l.hs).length ≤ 999:=by have:=U jQ; rw [yP]; omega
  obtain ⟨-,-,-,-,-,n5,-⟩:=zL ((cY (U HT) xW hbB).nd part vL)
  clear vu xW n4
  go_wp2_with (at_builtin; go_must (refine wpList_append_own _ rfl _ _ 195 rfl B 166 i0 _ 1 8 Tryz.underlying195 hi uF uJ uQ rfl (by decide) v1 (done ++ l.hs).length ((done ++ l.hs).map hval_b) rfl ((U vp).alloc _) (yq w1 0) 1 1 [hval_b part] rfl rfl (cellsH_b w1 _ _) (by simp [Value.oneCell',hval_b]) (by unfold maxLen; omega) (by omega) (by simp at hla ⊢; omega) ?_); intro v2 w2 qY qc _; have vT:=Y qY; have xD:=Y (((U xU).alloc (yN hB hsz1) _).grown qc (by rw [zh]; omega) (fun k hk=>((U vp).lt k hk).1)); have m5:=(zL ((cY (U HT) (U xD) hbB).nd part vL)).2.2.2.2.2.1; clear qY qc n5)
  have hsz2:=(U xD).size
  refine (ranked_b S b B hbB r w2 v2 (done ++ l.hs ++ [part]) _ (cY (U HT) (U xD) hbB) (U HR) (U HHR) (by omega) (by simpa [Nat.add_assoc] using U vT) (by have:=U jQ; simp; omega)).mono ?_
  rintro e w3 ⟨v3,rfl,ho3,uC⟩
  have qQ:=Y ho3
  have xV:=Y ((U xD).trans uC)
  clear ho3 uC m5
  go_wp2_with fail
  go_ret
  exact ⟨v3,rfl,by simpa [Tr.hs] using U qQ,U xV⟩
theorem infoLv_b:(Tryz.prog.info? 168).map (fun i=>(i.zero,i.size,i.bytes)) = some (some (.agg #[H 0,H 0,H 0,H 0]),4,32):=by kernel_rfl
theorem takeR_b {α:Type} (l:List α) (k:Nat) (c:α) (h:l[k]? = some c):l.take (k + 1) = l.take k ++ [c]:=by
 obtain ⟨hk,rfl⟩:=yG.1 h
 rw [List.take_succ_eq_append_getElem hk]
theorem cA {W:World} {B B':Nat} {e:TypeId} {sz:Nat} {v:Value} {n:Nat} {xs:List Value} (h:W.ownsRow B e sz v n xs) (hB:B' ≤ B):W.ownsRow B' e sz v n xs :=
 ⟨h.1,by
  rcases h.2 with G | ⟨g',c',xr,G,E,h3⟩
  ·exact .inl G
  ·exact .inr ⟨g',c',xr,G,yN hB E,h3⟩⟩
theorem flat1_b (l:List Nat):(l.flatMap fun h=>[hval_b h]) = l.map hval_b:=by
 induction l with
 | nil=>rfl
 | cons a r ih=>rw [List.flatMap_cons,ih]; rfl
theorem levelsO_b (b:Nat) (sd:Int) (seq:List Od) (w:World) (h:aS 176 true w b sd seq) (hn:seq.length ≤ 20) :
  Calls Tryz.prog 124 #[I b 0] w fun e w' =>
   ∃ v',e = ym v'∧w'.ownsRow w.heap.size 168 4 v' (aW true sd seq).length ((aW true sd seq).flatMap Lv.vs)∧yn w w':=by
 obtain ⟨S,t,hT,hi,hq,qK⟩:=h
 have hlv:=dZ hi hq
 rw [← hlv]
 have qJ:∀ a ∈ t.hs,a < 21:=fun a ha=>by have:=(hi.range a ha).2; omega
 have xE:t.hs.length ≤ 20:=by rw [hi.len]; omega
 have HT:=Y hT
 have HR:=Y hi.rep
 have HH:=Y qJ
 have jZ:=hT.root
 have jB:=tm_lt hT
 generalize ht:t.hs = hs at *
 have HHS:=Y ht
 have HNIL:=Y (World.ownsRow_nil w w.heap.size 166 1)
 obtain ⟨i0,uH,uF,uJ,uQ⟩:=info_parts infoLv_b
 clear hi hq qK hlv hT qJ ht
 go_enter Tryz.func124,Tryz.ntmps124
 go_wp2_with fail
 refine (ranked_b S b w.heap.size jB t w _ [] S.root (U HT) (U HR) (by rw [U HHS]; exact U HH) qt (U HNIL) (by rw [U HHS]; simp; omega)).mono ?_
 rintro e w1 ⟨v1,rfl,vu,xW⟩
 rw [List.nil_append,U HHS] at vu
 have xU:=Y xW
 have HOR:=Y (bQ (f:=fun h=>[hval_b h]) (fun _=>rfl) (by omega) (show w1.ownsRow w.heap.size 166 1 v1 hs.length (hs.flatMap fun h=>[hval_b h]) by rw [flat1_b]; exact vu))
 obtain ⟨a,A,rfl,_,hc⟩:=U HOR
 have xq:∀ k h,hs[k]? = some h→∃ g,a = some (J g 0)∧g < w1.heap.size∧w1.cell? (J g (0 + k * 1 + 0)) = some (H (h:Nat)):=fun k h hk=>by
  obtain ⟨g,G,_,h3,h4,_⟩:=hc (by intro e; rw [e] at hk; simp at hk)
  exact ⟨g,G,h3,h4 k h hk 0 _ rfl⟩
 have HC:=Y xq
 clear vu xW hc xq jZ
 go_wp2_with fail
 have xW:=(U xU).size
 go_loopw [3,13] (fun ov iv wr=>∃ (k:Nat) (done:List Lv),k ≤ hs.length∧iv = H k∧Hid (done = (hs.map fun h=>(S.nd h).lv).take k)∧wr.ownsRow w1.heap.size 168 4 ov done.length (done.flatMap Lv.vs)∧yn w1 wr) (fun _ iv _=>hs.length - (intOf iv).toNat)
 case atStart=>exact ⟨0,[],Nat.zero_le _,rfl,by simp [Hid],World.ownsRow_nil _ _ _ _,Below.refl _ _⟩
 case round =>
  obtain ⟨k,done,hk,rfl,hd,xN,xk⟩:=hrel
  have HOW:=Y xN
  have HB:=Y xk
  have hdl:done.length = k:=by rw [U hd,List.length_take,List.length_map]; omega
  clear xN xk
  by_cases xJ:k < hs.length
  ·obtain ⟨h,hkh⟩:∃ h,hs[k]? = some h:=⟨_,yH xJ⟩
   have jO:Hid ((hs.map fun h=>(S.nd h).lv)[k]? = some (S.nd h).lv):=by show _ = _; rw [List.getElem?_map,hkh]; rfl
   obtain ⟨g,rfl,hg,xo⟩:=U HC k h hkh
   have vL:=U HH h (yO hkh)
   have h21':(h:Int) < 21:=by omega
   have vM:=((U HB).cell (p:=(J g (0 + k * 1 + 0))) hg).trans xo
   rw [show 0 + k * 1 + 0 = k by omega] at vM
   have hTr:=cY (U HT) ((U xU).trans ((U HB).mono xW)) jB
   obtain ⟨n0,n1,n2,n3,-⟩:=zL (hTr.nd h vL)
   have un:(k:Int) < hs.length:=by omega
   have hsr:=(U HB).size
   clear hkh xo hTr hg
   go_wp2_with (at_builtin; go_must (refine wpList_append_own _ rfl _ _ 133 rfl w1.heap.size 168 i0 _ 4 32 Tryz.underlying133 uH uF uJ uQ rfl (by decide) _ done.length (done.flatMap Lv.vs) rfl ((U HOW).alloc _) (yq wr 0) 1 1 (S.nd h).lv.vs rfl rfl (cellsH_b wr _ _) (by simp [Value.oneCell',Lv.vs,Nd.lv]) (by unfold maxLen; omega) (by omega) (by simp; omega) ?_); intro v4 w4 js hg4 _)
   go_roundw
   case rel =>
    refine ⟨k + 1,done ++ [(S.nd h).lv],by omega,by go_num,?_,?_,?_⟩
    ·show done ++ [(S.nd h).lv] = _
     rw [takeR_b _ k _ (U jO),← U hd]
    ·simpa using js
    ·exact ((U HB).alloc hsr _).grown hg4 (by simp; omega) fun k hk=>((U HOW).lt k hk).1
   case measure=>simp [intOf]; omega
  ·go_wp2_with fail
   go_ret
   have h:=U hd
   rw [yZ (by rw [List.length_map]; omega)] at h
   subst h
   exact ⟨_,rfl,cA (U HOW) xW,(U xU).trans ((U HB).mono xW)⟩
theorem levels_b (b:Nat) (sd:Int) (seq:List Od) (w:World) (h:aS 176 true w b sd seq) (hn:seq.length ≤ 20) :
  Calls Tryz.prog 124 #[I b 0] w fun e w' =>
   ∃ v',e = ym v'∧OwnR Lv.vs 4 w.heap.size w' v' (aW true sd seq)∧yn w w':=by
 have xE:(aW true sd seq).length ≤ 20:=by
  obtain ⟨S,t,hT,hi,hq,qK⟩:=h
  rw [← dZ hi hq,List.length_map,hi.len]; omega
 refine (levelsO_b b sd seq w h hn).mono ?_
 rintro e w' ⟨v',rfl,Z,F⟩
 exact ⟨v',rfl,bQ Lv.len (by omega) Z,F⟩
theorem best_b {S:TS}:∀ {t:Tr} {v:Nat},Rep S.nd t v→t ≠ .nil→v ∈ t.hs∧((S.nd v).be = 0→t.hs.head? = some v)∧((S.nd v).be ≠ 0→∃ l,Rep S.nd l (S.nd v).be∧l ≠ .nil∧l.hs.head? = t.hs.head?∧l.hs.length < t.hs.length∧∀ a ∈ l.hs,a ∈ t.hs)
 | .nil,_,_,h=>absurd rfl h
 | .node h l r,v,⟨e,h0,G,E⟩,_=>by
  subst e
  refine ⟨by simp [Tr.hs],fun F=>?_,fun F=>⟨l,G,?_,?_,?_,fun a ha=>by simp [Tr.hs,ha]⟩⟩
  ·rw [F] at G; obtain rfl:=rep_nil G; rfl
  ·rintro rfl; exact F G
  ·cases l with
   | nil=>exact absurd G F
   | node a l' r'=>simp [Tr.hs]
  ·simp [Tr.hs]
def FrI_b (S:TS) (hd:Option Nat) (w0:World) (k:Nat) (p:Value) (wr:World):Prop:=∃ (t:Tr) (v:Nat),p = H v∧Rep S.nd t v∧t ≠ .nil∧t.hs.head? = hd∧t.hs.length ≤ k∧(∀ a ∈ t.hs,a < 21)∧w0 = wr
theorem front_b (b:Nat) (sd:Int) (seq:List Od) (w:World) (h:aS 176 true w b sd seq) (hn:seq.length ≤ 20) :
  Calls Tryz.prog 122 #[I b 0] w fun e w'=>e = ym (frOf (quOf true seq))∧yn w w':=by
 obtain ⟨S,t,hT,hi,hq,qK⟩:=h
 have hou:=tree_orders hi hq
 have qJ:∀ a ∈ t.hs,a < 21:=fun a ha=>by have:=(hi.range a ha).2; omega
 have HT:=Y hT
 have jZ:=hT.root
 have jB:=tm_lt hT
 by_cases pU:S.root = 0
 ·have ht:=hi.rep
  rw [pU] at ht jZ
  obtain rfl:=rep_nil ht
  have HF:Hid (frOf (quOf true seq) = .tuple #[zOdv,.bool false]):=by show _ = _; rw [← hou]; rfl
  clear hi hq qK hou hT ht qJ
  go_enter Tryz.func122,Tryz.ntmps122
  go_wp2_with fail
  go_returns
  refine ⟨by rw [U HF]; rfl,?_⟩
  go_grown
 ·have xB:t ≠ .nil:=by rintro rfl; exact pU hi.rep
  have HI:=Y hi
  have HQ:=Y hq
  have HOU:=Y hou
  have HH:=Y qJ
  have HNE:=Y xB
  have hr0':¬ ((S.root:Int) = 0):=by omega
  clear hi hq qK hou hT qJ xB
  go_enter Tryz.func122,Tryz.ntmps122
  go_wp2_with fail
  go_loopg [4] (t.hs.length) (fun k p wr=>FrI_b S t.hs.head? (w.alloc (eF (yv 0 0 0 0 0 ⟨#[]⟩).toArray 49)) k p wr)
  case atStart=>exact ⟨t,S.root,rfl,(U HI).rep,U HNE,rfl,Nat.le_refl _,U HH,rfl⟩
  case round =>
   obtain ⟨t1,v,rfl,G,E,h3,h4,h5,rfl⟩:=hrel
   obtain ⟨b1,b2,b3⟩:=best_b G E
   have hv21:=h5 v b1
   have hv21':(v:Int) < 21:=by omega
   have qm:=bu (U HT) (Below.heap_alloc w (eF (yv 0 0 0 0 0 ⟨#[]⟩).toArray 49) b jB)
   obtain ⟨-,-,-,-,n4,-,n6,-⟩:=zL (qm.nd v hv21)
   have H3:=Y h3
   have H4:=Y h4
   have H5:=Y h5
   by_cases kT:(S.nd v).be = 0
   ·have oV:=b2 kT
    rw [h3] at oV
    have hvm:v ∈ t.hs:=List.mem_of_head? oV
    have hQ:=(U HQ).q v hvm
    obtain ⟨e,rest,hqs⟩:∃ e rest,qs seq (S.nd v).ticks = e :: rest:=by
     cases hqq:qs seq (S.nd v).ticks with
     | nil=>exact absurd hqq hQ.ne
     | cons e rest=>exact ⟨e,rest,rfl⟩
    have hch:=hQ.chain
    rw [hqs] at hch
    obtain ⟨he,he0,-⟩:=hch
    have he21:e < 21:=by
     have:=(bT (S.nd v).ticks seq 1 e (by have h:e ∈ qs seq (S.nd v).ticks:=(by rw [hqs]; simp); exact h)).2.1
     omega
    have he21':(e:Int) < 21:=by omega
    have HF:Hid (frOf (quOf true seq) = .tuple #[(S.qo e).od.val,.bool true]):=by
     show _ = _
     rw [← U HOU]
     obtain ⟨tl,htl⟩:∃ tl,t.hs = v :: tl:=by
      cases hh:t.hs with
      | nil=>rw [hh] at oV; simp at oV
      | cons a r=>rw [hh] at oV; simp at oV; rw [oV]; exact ⟨r,rfl⟩
     rw [htl,List.flatMap_cons,hqs]
     rfl
    obtain ⟨q0,q1,q2,q3,q4,q5,-⟩:=dF (qm.qo e he21)
    rw [he] at n6
    rw [kT] at n4
    clear G E h3 h4 h5 b1 b2 b3 qm oV hvm hQ hqs he kT
    go_wp2_with fail
    go_region
    go_wp2_with fail
    go_returns
    refine ⟨by rw [U HF]; rfl,?_⟩
    go_grown
   ·obtain ⟨l,l1,l2,l3,l4,l5⟩:=b3 kT
    have hbe':¬ (((S.nd v).be:Int) = 0):=by omega
    have HL:Hid (Rep S.nd l (S.nd v).be∧l ≠ .nil∧l.hs.head? = t1.hs.head?∧l.hs.length < t1.hs.length∧∀ a ∈ l.hs,a ∈ t1.hs):=⟨l1,l2,l3,l4,l5⟩
    clear G E h3 h4 h5 b1 b2 b3 qm l1 l2 l3 l4 l5 kT
    go_wp2_with fail
    go_roundg (l.hs.length)
    case measure=>have:=U H4; have:=(U HL).2.2.2.1; omega
    case rel=>exact ⟨l,_,rfl,(U HL).1,(U HL).2.1,(U HL).2.2.1.trans (U H3),Nat.le_refl _,fun a ha=>U H5 a ((U HL).2.2.2.2 a ha),rfl⟩
def ch (b:Nat):Value:=.agg #[.func (.func 122) #[I b 0] #[],.func (.func 123) #[I b 0] #[],.func (.func 124) #[I b 0] #[]]
theorem ask_b (b:Nat) (w:World) :
  Calls Tryz.prog 75 #[I b 0] w fun e w'=>e = ym (ch b)∧yn w w':=by
 have hmf:∀ (fn:Fn) (first A:Array Value) (w:World),(Instr.makeFunc fn first A).run Tryz.prog w = .ok (.func fn first A) w:=fun _ _ _ _=>rfl
 go_enter Tryz.func75,Tryz.ntmps75
 go_wp2_with fail
 go_returns
 refine ⟨rfl,?_⟩
 go_grown
theorem better_s (a c:Int) (w:World) :
  Calls Tryz.prog 189 #[.agg #[],H a,H c] w fun e w'=>e = ym (.bool (decide (a < c)))∧w.grownBy w' none:=by
 go_enter Tryz.func189,Tryz.ntmps189
 go_wp2_with fail
 go_ret
 exact ⟨rfl,World.grownBy_alloc _ _ _⟩
theorem method_s (w:World):Sem.run Tryz.prog (method 322 130 (.agg #[]) "loop.example/g00092/impl.better") w = .ok (189,.agg #[]) w:=by kernel_rfl
theorem part_s {w:World} {b:Nat} (h:∃ xr,w.heap[b]? = some (.cells xr 179 (0,0))):Sem.run Tryz.prog (partAt (J b 0) 0 0) w = .ok (J b 0) w:=by
 obtain ⟨xr,h⟩:=h
 have hc:Tryz.prog.cellsOf 179 = 318:=by kernel_rfl
 have hy:byteOfCell Tryz.prog Tryz.prog.depth 179 0 = some 0:=by kernel_rfl
 have hs:w.shape? b = some (179,xr.size):=by simp [World.shape?,h]
 simp [partAt,byteOf,noView,viewAt,hs,hc,hy]
theorem levelFor_s (b:Nat) (S:TS) (t:Tr) (o:Od) (w:World) (hT:TM 179 w b S) (hi:TI false S t) (qK:S.lc < 20) :
  Calls Tryz.prog 158 #[I b 0,.agg (yv o.id o.side o.ticks o.left o.life o.tag).toArray] w fun e w' =>
   ∃ (h:Nat),e = ym (H h)∧LFEnd false 179 b S t o w h w':=by
 have HT:=Y hT
 have HI:=Y hi
 clear hT hi
 go_enter Tryz.func158,Tryz.ntmps158
 go_wp2_with fail
 have HW:Hid (∃ W,W = (w.alloc (eF (yv o.id o.side o.ticks o.left o.life o.tag).toArray 49))∧W.rangeAt w.heap.size 0 o.vs∧TM 179 W b S∧w.grownBy W (some b)∧w.heap.size < W.heap.size∧b ≠ w.heap.size) :=
  ⟨_,rfl,zi w o.vs _,bu (U HT) (Below.heap_alloc w _ _ (tm_lt (U HT))),World.grownBy_alloc _ _ _,by rw [zh]; omega,by have:=tm_lt (U HT); omega⟩
 obtain ⟨W,hW,hWW⟩:=U HW
 rw [← hW]
 have pH:=Y hWW
 clear hW hWW HW HT
 go_loopg [5] (t.hs.length) (fun k p wr=>LFI false b S t o.ticks W k p wr)
 case atStart=>exact ⟨[],t,rfl,Nat.le_refl _,way_start (U HI) _,yR _ _⟩
 case round =>
  obtain ⟨c,u,rfl,hk,hw,hg⟩:=hrel
  have jU:=Y hw
  have HG:=Y hg
  have HK:=Y hk
  have hT:=dH (U pH).2.1 hg (by simp)
  have c0:=cur_cell hT (zU c) (cur_ok (U HI) hw qK)
  obtain ⟨o0,o1,o2,o3,o4,o5⟩:=zz (zt (U pH).1 hg (U pH).2.2.2.1 (by simp))
  clear hk hw hg
  by_cases ha:S.rd (zU c) = 0
  ·have pU:=hT.lc
   have hf:=hT.fr
   have HA0:=Y ha
   rw [ha] at c0
   have hlc':(S.lc:Int) < 20:=by omega
   have e1:((S.lc + 1:Nat):Int) = (S.lc:Int) + 1:=by omega
   have vG:=cur_ok (U HI) (U jU) qK
   have t1:=tm_lc hT (S.lc + 1)
   have t2:=tm_cur t1 (zU c) vG (S.lc + 1)
   rw [e1] at t1 t2
   have d2:_ = _:=(cur_cell t1 (zU c) vG).trans (congrArg (fun x:Nat=>some (H x)) (show TS.rd _ (zU c) = 0 from by rw [← ha]; cases (zU c) <;> rfl))
   have d3:_ = _:=t2.lc
   rw [(wr_same _ _ _).1] at d3
   simp only [e1] at d3
   have g1:=t1.fr
   have g2:=t2.fr
   obtain ⟨n0,n1,n2,n3,-⟩:=zL (t2.nd (S.lc + 1) (by omega))
   have F:b ≠ w.heap.size:=(U pH).2.2.2.2
   have p1:((wr.setCell (J b 1) (H ((S.lc:Int) + 1))).setCell (J b ((zU c).off)) (H ((S.lc:Int) + 1))).cell? (yq w (0 + 1)) = some (H o.side):=by
    rw [yL _ _ _ _ (fun e=>F (congrArg Addr.block e)),yL _ _ _ _ (fun e=>F (congrArg Addr.block e))]; exact o1
   have p2:((wr.setCell (J b 1) (H ((S.lc:Int) + 1))).setCell (J b ((zU c).off)) (H ((S.lc:Int) + 1))).cell? (yq w (0 + 2)) = some (H o.ticks):=by
    rw [yL _ _ _ _ (fun e=>F (congrArg Addr.block e)),yL _ _ _ _ (fun e=>F (congrArg Addr.block e))]; exact o2
   have vD:=Y t2
   have HB:=Y F
   clear ha hT t1 t2 vG F
   go_wp2_with fail
   have HG4:Hid (wr.grownBy ((wr.setCell (J b 1) (H ((S.lc:Int) + 1))).setCell (J b ((zU c).off)) (H ((S.lc:Int) + 1))) (some b)):=zM (zM (yR _ _) _ _) _ _
   generalize hW4:((wr.setCell (J b 1) (H ((S.lc:Int) + 1))).setCell (J b ((zU c).off)) (H ((S.lc:Int) + 1))) = W4 at *
   rw [← e1] at d3
   obtain ⟨m,hm⟩:∃ m,m = S.lc + 1:=⟨_,rfl⟩
   rw [← hm] at d3 n0 n1 n2 n3
   have hm21:(m:Int) < 21:=by omega
   have HM:=Y hm
   clear hW4 hm e1 d2 pU hf g1 c0 o0 o1 o2 o3 o4 o5 hlc'
   go_region
   have t3:=U vD
   have t4:=aX t3 (S.lc + 1) 0 (by omega) (by omega) (H o.side) { (TS.nd _ (S.lc + 1)) with side:=o.side } rfl _ rfl
   have t5:=aX t4 (S.lc + 1) 1 (by omega) (by omega) (H o.ticks) { (TS.nd _ (S.lc + 1)) with ticks:=o.ticks } rfl _ rfl
   have t6:=aX t5 (S.lc + 1) 2 (by omega) (by omega) (H 0) { (TS.nd _ (S.lc + 1)) with qty:=0 } rfl _ rfl
   have t7:=aX t6 (S.lc + 1) 3 (by omega) (by omega) (H 0) { (TS.nd _ (S.lc + 1)) with count:=0 } rfl _ rfl
   have pD:=Y (gr_drew (zM (zM (zM (zM (U HG4) (2 + m * 8) (H o.side)) (2 + m * 8 + 1) (H o.ticks)) (2 + m * 8 + 2) (H 0)) (2 + m * 8 + 3) (H 0)))
   rw [← U HM] at t7
   simp only [cO,zp] at t7
   have hS:_ = S.grow (zU c) o.side o.ticks:=grow_eq S (zU c) o m (U HM)
   rw [hS] at t7
   have d7:_ = some (H (m:Int)):=t7.lc.trans (by rw [U HM]; rfl)
   have HT7:=Y t7
   clear t3 t4 t5 t6 t7 n0 n1 n2 n3 d3 p1 p2
   generalize (((W4.setCell (J b (2 + m * 8)) (H o.side)).setCell (J b (2 + m * 8 + 1)) (H o.ticks)).setCell (J b (2 + m * 8 + 2)) (H 0)).setCell (J b (2 + m * 8 + 3)) (H 0) = W7 at *
   go_wp2_with fail
   go_ret
   exact ⟨m,rfl,_,bu (U HT7) rfl,(U pH).2.2.1.trans (((U HG).but _).trans (U pD)),.inr ⟨c,u,U jU,U HA0,U HM,rfl⟩⟩
  ·have ham:=way_at (U jU) rfl ha
   have har:=(U HI).range _ ham
   obtain ⟨a,hae⟩:∃ a,a = S.rd (zU c):=⟨_,rfl⟩
   rw [← hae] at c0 ha ham har
   have HAE:=Y hae
   have ha':¬ ((a:Int) = 0):=by omega
   have ha21:(a:Int) < 21:=by omega
   obtain ⟨n0,n1,n2,n3,n4,n5,n6,n7⟩:=zL (hT.nd a (by omega))
   have HTM:=Y hT
   have qZ:∀ w',wr.grownBy w' none→Sem.run Tryz.prog (partAt (J b 0) 0 0) w' = .ok (J b 0) w':=fun w' h=>part_s (dH (U HTM) h (by simp)).obj
   have HPT:=Y qZ
   have HN1:=Y (fun w' (h:wr.grownBy w' none)=>h.cell n1 (by simp))
   have vT:=Y (fun w' (h:wr.grownBy w' none)=>h.cell o2 (by simp))
   clear hae hT qZ
   go_wp2_with fail
   go_quiet (fail)
   go_wp2_with fail
   refine dn (W:=wr) (by kernel_rfl) (by kernel_rfl) ⟨rfl,rfl,rfl,Nat.le_refl _,fun _ _ _=>rfl⟩ ?_
   iterate 12 (
    refine bc (v:=?_) ?_ ?_ ?_
    rotate_left
    ·rfl
    ·intro w' ul
     have f1:=U HN1 w' ul
     have f2:=U vT w' ul
     have f3:=U HPT w' ul
     go_simp
     try rfl
    intro hj hK
    go_simp
    refine hK _ ?_
    clear hK hj)
   refine bc (v:=.bool (decide (o.ticks < (S.nd a).ticks))) ?_ ?_ ?_
   ·rfl
   ·intro w' ul
    have hm:=method_s w'
    go_simp
    refine (better_s _ _ _).mono ?_
    rintro e w3 ⟨rfl,vd⟩
    exact ⟨rfl,ul.trans vd⟩
   intro hj hK
   go_simp
   refine hK _ ?_
   clear hK hj
   refine bc (v:=?_) ?_ ?_ ?_
   rotate_left
   ·rfl
   ·intro w' ul
    go_simp
    try rfl
   intro hj hK
   go_simp
   refine hK _ ?_
   clear hK hj
   refine wpQuiet_nil ?_
   intro w2 qc
   have uM:=Y qc
   clear qc
   by_cases G:o.ticks < (S.nd a).ticks
   ·have kS:decide (o.ticks < (S.nd a).ticks) = true:=by simpa using G
    go_wp2_with fail
    obtain ⟨l,r,rfl,hw2⟩:=way_be (U HI) (U jU) (U HAE).symm ha G
    go_roundg (l.hs.length)
    case measure=>have:=U HK; simp [Tr.hs] at this; omega
    case rel=>exact ⟨_,l,rfl,Nat.le_refl _,hw2,(U HG).trans (U uM)⟩
   ·have kS:decide (o.ticks < (S.nd a).ticks) = false:=by simpa using G
    go_wp2_with fail
    refine dn (W:=wr) (by kernel_rfl) (by kernel_rfl) (U uM) ?_
    iterate 12 (
     refine bc (v:=?_) ?_ ?_ ?_
     rotate_left
     ·rfl
     ·intro w' ul
      have f1:=U HN1 w' ul
      have f2:=U vT w' ul
      have f3:=U HPT w' ul
      go_simp
      try rfl
     intro hj hK
     go_simp
     refine hK _ ?_
     clear hK hj)
    refine bc (v:=.bool (decide ((S.nd a).ticks < o.ticks))) ?_ ?_ ?_
    ·rfl
    ·intro w' ul
     have hm:=method_s w'
     go_simp
     refine (better_s _ _ _).mono ?_
     rintro e w3 ⟨rfl,vd⟩
     exact ⟨rfl,ul.trans vd⟩
    intro hj hK
    go_simp
    refine hK _ ?_
    clear hK hj
    refine bc (v:=?_) ?_ ?_ ?_
    rotate_left
    ·rfl
    ·intro w' ul
     go_simp
     try rfl
    intro hj hK
    go_simp
    refine hK _ ?_
    clear hK hj
    refine wpQuiet_nil ?_
    intro w3 vd
    have qh:=Y vd
    clear vd
    by_cases E:(S.nd a).ticks < o.ticks
    ·have ki:decide ((S.nd a).ticks < o.ticks) = true:=by simpa using E
     go_wp2_with fail
     obtain ⟨l,r,rfl,hw2⟩:=way_wo (U HI) (U jU) (U HAE).symm ha E
     go_roundg (r.hs.length)
     case measure=>have:=U HK; simp [Tr.hs] at this; omega
     case rel=>exact ⟨_,r,rfl,Nat.le_refl _,hw2,(U HG).trans (U qh)⟩
    ·have ki:decide ((S.nd a).ticks < o.ticks) = false:=by simpa using E
     have c3:=(U qh).cell c0 (by simp)
     go_wp2_with fail
     go_ret
     have hG:=(U HG).trans (U qh)
     exact ⟨a,rfl,S,dH (U pH).2.1 hG (by simp),(U pH).2.2.1.trans (hG.but _),.inl ⟨ham,by omega,rfl⟩⟩
end Go.Proofs.YtbakanofkghmiaaGreat
