/-
  The levels of a tree in turn: proved by walking the function.
-/
import Derived.Test.YthhkapcbocgcoaaGreatDoorGj06
import Derived.Laws.EntriesVeiled
set_option linter.unusedVariables false
set_option maxHeartbeats 6400000
set_option maxRecDepth 100000
namespace Go.Proofs.YthhkapcbocgcoaaGreatDoor
open Go.RowKit
theorem infoLv_b:(Tryz.prog.info? 189).map (fun i=>(i.zero,i.size,i.bytes)) = some (some (.agg #[H 0,H 0,H 0,H 0]),4,32):=by kernel_rfl
theorem takeR_b {α:Type} (l:List α) (k:Nat) (c:α) (h:l[k]? = some c):l.take (k + 1) = l.take k ++ [c]:=by
 obtain ⟨E,rfl⟩:=yH.1 h
 rw [List.take_succ_eq_append_getElem E]
theorem dE {W:World} {B B':Nat} {e:TypeId} {sz:Nat} {v:Value} {n:Nat} {xs:List Value} (h:W.ownsRow B e sz v n xs) (hB:B' ≤ B):W.ownsRow B' e sz v n xs :=
 ⟨h.1,by
  rcases h.2 with Q | ⟨g',c',xz,Q,D,X⟩
  ·exact .inl Q
  ·exact .inr ⟨g',c',xz,Q,yO hB D,X⟩⟩
theorem flat1_b (l:List Nat):(l.flatMap fun h=>[hval_b h]) = l.map hval_b:=by
 induction l with
 | nil=>rfl
 | cons a r ih=>rw [List.flatMap_cons,ih]; rfl
theorem levelsO_b (b:Nat) (sd:Int) (seq:List Od) (w:World) (h:bY 197 true w b sd seq) (hn:seq.length ≤ 20) :
  Calls Tryz.prog 166 #[I b 0] w fun e w' =>
   ∃ v',e = ym v'∧w'.ownsRow w.heap.size 189 4 v' (bX true sd seq).length ((bX true sd seq).flatMap Lv.vs)∧yn w w':=by
 obtain ⟨S,t,hT,hi,hq,vB⟩:=h
 have hlv:=gx hi hq
 rw [← hlv]
 have qR:∀ a ∈ t.hs,a < 21:=fun a ha=>by have:=(hi.range a ha).2; omega
 have xD:t.hs.length ≤ 20:=by rw [hi.len]; omega
 have HT:=M hT
 have HR:=M hi.rep
 have HH:=M qR
 have ko:=hT.root
 have oC:=tm_lt hT
 generalize ht:t.hs = hs at *
 have HHS:=M ht
 have HNIL:=M (World.ownsRow_nil w w.heap.size 187 1)
 obtain ⟨i0,uJ,uD,uz,uM⟩:=info_parts infoLv_b
 clear hi hq vB hlv hT qR ht
 go_enter Tryz.func166,Tryz.ntmps166
 go_wp2_with fail
 refine (ranked_b S b w.heap.size oC t w _ [] S.root (U HT) (U HR) (by rw [U HHS]; exact U HH) hU (U HNIL) (by rw [U HHS]; simp; omega)).mono ?_
 rintro e w1 ⟨v1,rfl,qA,ub⟩
 rw [List.nil_append,U HHS] at qA
 have xU:=M ub
 have HOR:=M (eu (f:=fun h=>[hval_b h]) (fun _=>rfl) (by omega) (show w1.ownsRow w.heap.size 187 1 v1 hs.length (hs.flatMap fun h=>[hval_b h]) by rw [flat1_b]; exact qA))
 obtain ⟨a,cap,rfl,_,hc⟩:=U HOR
 have xr:∀ k h,hs[k]? = some h→∃ g,a = some (J g 0)∧g < w1.heap.size∧w1.cell? (J g (0 + k * 1 + 0)) = some (H (h:Nat)):=fun k h E=>by
  obtain ⟨g,Q,_,X,h4,_⟩:=hc (by intro e; rw [e] at E; simp at E)
  exact ⟨g,Q,X,h4 k h E 0 _ rfl⟩
 have HC:=M xr
 clear qA ub hc xr ko
 go_wp2_with fail
 have ub:=(U xU).size
 go_loopw [3,13] (fun ov iv wr=>∃ (k:Nat) (done:List Lv),k ≤ hs.length∧iv = H k∧Hid (done = (hs.map fun h=>(S.nd h).lv).take k)∧wr.ownsRow w1.heap.size 189 4 ov done.length (done.flatMap Lv.vs)∧yn w1 wr) (fun _ iv _=>hs.length - (intOf iv).toNat)
 case atStart=>exact ⟨0,[],Nat.zero_le _,rfl,by simp [Hid],World.ownsRow_nil _ _ _ _,Below.refl _ _⟩
 case round =>
  obtain ⟨k,done,E,rfl,hd,xS,xi⟩:=hrel
  have HOW:=M xS
  have HB:=M xi
  have hdl:done.length = k:=by rw [U hd,List.length_take,List.length_map]; omega
  clear xS xi
  by_cases xM:k < hs.length
  ·obtain ⟨h,hkh⟩:∃ h,hs[k]? = some h:=⟨_,yI xM⟩
   have kY:Hid ((hs.map fun h=>(S.nd h).lv)[k]? = some (S.nd h).lv):=by show _ = _; rw [List.getElem?_map,hkh]; rfl
   obtain ⟨g,rfl,hg,xo⟩:=U HC k h hkh
   have qe:=U HH h (yP hkh)
   have h21':(h:Int) < 21:=by omega
   have qQ:=((U HB).cell (p:=(J g (0 + k * 1 + 0))) hg).trans xo
   rw [show 0 + k * 1 + 0 = k by omega] at qQ
   have hTr:=eK (U HT) ((U xU).trans ((U HB).mono ub)) oC
   obtain ⟨n0,n1,n2,n3,-⟩:=zJ (hTr.nd h qe)
   have vj:(k:Int) < hs.length:=by omega
   have hsr:=(U HB).size
   clear hkh xo hTr hg
   go_wp2_with (at_builtin; go_must (refine wpList_append_own _ rfl _ _ 161 rfl w1.heap.size 189 i0 _ 4 32 Tryz.underlying161 uJ uD uz uM rfl (by decide) _ done.length (done.flatMap Lv.vs) rfl ((U HOW).alloc _) (yq wr 0) 1 1 (S.nd h).lv.vs rfl rfl (cellsH_b wr _ _) (by simp [Value.oneCell',Lv.vs,Nd.lv]) (by unfold maxLen; omega) (by omega) (by simp; omega) ?_); intro v4 w4 jD jt _)
   go_roundw
   case rel =>
    refine ⟨k + 1,done ++ [(S.nd h).lv],by omega,by go_num,?_,?_,?_⟩
    ·show done ++ [(S.nd h).lv] = _
     rw [takeR_b _ k _ (U kY),← U hd]
    ·simpa using jD
    ·exact ((U HB).alloc hsr _).grown jt (by simp; omega) fun k E=>((U HOW).lt k E).1
   case measure=>simp [intOf]; omega
  ·go_wp2_with fail
   go_ret
   have h:=U hd
   rw [xa (by rw [List.length_map]; omega)] at h
   subst h
   exact ⟨_,rfl,dE (U HOW) ub,(U xU).trans ((U HB).mono ub)⟩
theorem levels_b (b:Nat) (sd:Int) (seq:List Od) (w:World) (h:bY 197 true w b sd seq) (hn:seq.length ≤ 20) :
  Calls Tryz.prog 166 #[I b 0] w fun e w' =>
   ∃ v',e = ym v'∧OwnR Lv.vs 4 w.heap.size w' v' (bX true sd seq)∧yn w w':=by
 have xD:(bX true sd seq).length ≤ 20:=by
  obtain ⟨S,t,hT,hi,hq,vB⟩:=h
  rw [← gx hi hq,List.length_map,hi.len]; omega
 refine (levelsO_b b sd seq w h hn).mono ?_
 rintro e w' ⟨v',rfl,Y,A⟩
 exact ⟨v',rfl,eu Lv.len (by omega) Y,A⟩
theorem best_b {S:TS}:∀ {t:Tr} {v:Nat},Rep S.nd t v→t ≠ .nil→v ∈ t.hs∧((S.nd v).be = 0→t.hs.head? = some v)∧((S.nd v).be ≠ 0→∃ l,Rep S.nd l (S.nd v).be∧l ≠ .nil∧l.hs.head? = t.hs.head?∧l.hs.length < t.hs.length∧∀ a ∈ l.hs,a ∈ t.hs)
 | .nil,_,_,h=>absurd rfl h
 | .node h l r,v,⟨e,h0,Q,D⟩,_=>by
  subst e
  refine ⟨by simp [Tr.hs],fun A=>?_,fun A=>⟨l,Q,?_,?_,?_,fun a ha=>by simp [Tr.hs,ha]⟩⟩
  ·rw [A] at Q; obtain rfl:=rep_nil Q; rfl
  ·rintro rfl; exact A Q
  ·cases l with
   | nil=>exact absurd Q A
   | node a l' r'=>simp [Tr.hs]
  ·simp [Tr.hs]
def FrI_b (S:TS) (hd:Option Nat) (w0:World) (k:Nat) (p:Value) (wr:World):Prop:=∃ (t:Tr) (v:Nat),p = H v∧Rep S.nd t v∧t ≠ .nil∧t.hs.head? = hd∧t.hs.length ≤ k∧(∀ a ∈ t.hs,a < 21)∧w0 = wr
theorem front_b (b:Nat) (sd:Int) (seq:List Od) (w:World) (h:bY 197 true w b sd seq) (hn:seq.length ≤ 20) :
  Calls Tryz.prog 164 #[I b 0] w fun e w'=>e = ym (frOf (quOf true seq))∧yn w w':=by
 obtain ⟨S,t,hT,hi,hq,vB⟩:=h
 have hou:=tree_orders hi hq
 have qR:∀ a ∈ t.hs,a < 21:=fun a ha=>by have:=(hi.range a ha).2; omega
 have HT:=M hT
 have ko:=hT.root
 have oC:=tm_lt hT
 by_cases jY:S.root = 0
 ·have ht:=hi.rep
  rw [jY] at ht ko
  obtain rfl:=rep_nil ht
  have HF:Hid (frOf (quOf true seq) = .tuple #[zOdv,.bool false]):=by show _ = _; rw [← hou]; rfl
  clear hi hq vB hou hT ht qR
  go_enter Tryz.func164,Tryz.ntmps164
  go_wp2_with fail
  go_returns
  refine ⟨by rw [U HF]; rfl,?_⟩
  go_grown
 ·have xC:t ≠ .nil:=by rintro rfl; exact jY hi.rep
  have HI:=M hi
  have HQ:=M hq
  have HOU:=M hou
  have HH:=M qR
  have HNE:=M xC
  have hr0':¬ ((S.root:Int) = 0):=by omega
  clear hi hq vB hou hT qR xC
  go_enter Tryz.func164,Tryz.ntmps164
  go_wp2_with fail
  go_loopg [4] (t.hs.length) (fun k p wr=>FrI_b S t.hs.head? (w.alloc (O (yw 0 0 0 0 0 ⟨#[]⟩).toArray 65)) k p wr)
  case atStart=>exact ⟨t,S.root,rfl,(U HI).rep,U HNE,rfl,Nat.le_refl _,U HH,rfl⟩
  case round =>
   obtain ⟨t1,v,rfl,Q,D,X,h4,h5,rfl⟩:=hrel
   obtain ⟨b1,b2,b3⟩:=best_b Q D
   have hv21:=h5 v b1
   have hv21':(v:Int) < 21:=by omega
   have qz:=cO (U HT) (Below.heap_alloc w (O (yw 0 0 0 0 0 ⟨#[]⟩).toArray 65) b oC)
   obtain ⟨-,-,-,-,n4,-,n6,-⟩:=zJ (qz.nd v hv21)
   have H3:=M X
   have H4:=M h4
   have H5:=M h5
   by_cases jL:(S.nd v).be = 0
   ·have pq:=b2 jL
    rw [X] at pq
    have hvm:v ∈ t.hs:=List.mem_of_head? pq
    have hQ:=(U HQ).q v hvm
    obtain ⟨e,rest,hqs⟩:∃ e rest,qs seq (S.nd v).ticks = e :: rest:=by
     cases hqq:qs seq (S.nd v).ticks with
     | nil=>exact absurd hqq hQ.ne
     | cons e rest=>exact ⟨e,rest,rfl⟩
    have hch:=hQ.chain
    rw [hqs] at hch
    obtain ⟨he,he0,-⟩:=hch
    have he21:e < 21:=by
     have:=(dL (S.nd v).ticks seq 1 e (by have h:e ∈ qs seq (S.nd v).ticks:=(by rw [hqs]; simp); exact h)).2.1
     omega
    have he21':(e:Int) < 21:=by omega
    have HF:Hid (frOf (quOf true seq) = .tuple #[(S.qo e).od.val,.bool true]):=by
     show _ = _
     rw [← U HOU]
     obtain ⟨tl,htl⟩:∃ tl,t.hs = v :: tl:=by
      cases hh:t.hs with
      | nil=>rw [hh] at pq; simp at pq
      | cons a r=>rw [hh] at pq; simp at pq; rw [pq]; exact ⟨r,rfl⟩
     rw [htl,List.flatMap_cons,hqs]
     rfl
    obtain ⟨q0,q1,q2,q3,q4,q5,-⟩:=fJ (qz.qo e he21)
    rw [he] at n6
    rw [jL] at n4
    clear Q D X h4 h5 b1 b2 b3 qz pq hvm hQ hqs he jL
    go_wp2_with fail
    go_region
    go_wp2_with fail
    go_returns
    refine ⟨by rw [U HF]; rfl,?_⟩
    go_grown
   ·obtain ⟨l,l1,l2,l3,l4,l5⟩:=b3 jL
    have hbe':¬ (((S.nd v).be:Int) = 0):=by omega
    have HL:Hid (Rep S.nd l (S.nd v).be∧l ≠ .nil∧l.hs.head? = t1.hs.head?∧l.hs.length < t1.hs.length∧∀ a ∈ l.hs,a ∈ t1.hs):=⟨l1,l2,l3,l4,l5⟩
    clear Q D X h4 h5 b1 b2 b3 qz l1 l2 l3 l4 l5 jL
    go_wp2_with fail
    go_roundg (l.hs.length)
    case measure=>have:=U H4; have:=(U HL).2.2.2.1; omega
    case rel=>exact ⟨l,_,rfl,(U HL).1,(U HL).2.1,(U HL).2.2.1.trans (U H3),Nat.le_refl _,fun a ha=>U H5 a ((U HL).2.2.2.2 a ha),rfl⟩
def cP (b:Nat):Value:=.agg #[.func (.func 164) #[I b 0] #[],.func (.func 165) #[I b 0] #[],.func (.func 166) #[I b 0] #[]]
theorem ask_b (b:Nat) (w:World) :
  Calls Tryz.prog 122 #[I b 0] w fun e w'=>e = ym (cP b)∧yn w w':=by
 have hmf:∀ (fn:Fn) (first cap:Array Value) (w:World),(Instr.makeFunc fn first cap).run Tryz.prog w = .ok (.func fn first cap) w:=fun _ _ _ _=>rfl
 go_enter Tryz.func122,Tryz.ntmps122
 go_wp2_with fail
 go_returns
 refine ⟨rfl,?_⟩
 go_grown
theorem better_s (a c:Int) (w:World) :
  Calls Tryz.prog 233 #[.agg #[],H a,H c] w fun e w'=>e = ym (.bool (decide (a < c)))∧w.grownBy w' none:=by
 go_enter Tryz.func233,Tryz.ntmps233
 go_wp2_with fail
 go_ret
 exact ⟨rfl,World.grownBy_alloc _ _ _⟩
theorem method_s (w:World):Sem.run Tryz.prog (method 390 158 (.agg #[]) "loop.example/g00092/impl.better") w = .ok (233,.agg #[]) w:=by kernel_rfl
theorem part_s {w:World} {b:Nat} (h:∃ xz,w.heap[b]? = some (.cells xz 200 (0,0))):Sem.run Tryz.prog (partAt (J b 0) 0 0) w = .ok (J b 0) w:=by
 obtain ⟨xz,h⟩:=h
 have hc:Tryz.prog.cellsOf 200 = 318:=by kernel_rfl
 have hy:byteOfCell Tryz.prog Tryz.prog.depth 200 0 = some 0:=by kernel_rfl
 have hs:w.shape? b = some (200,xz.size):=by simp [World.shape?,h]
 simp [partAt,byteOf,noView,viewAt,hs,hc,hy]
theorem levelFor_s (b:Nat) (S:TS) (t:Tr) (o:Od) (w:World) (hT:TM 200 w b S) (hi:TI false S t) (vB:S.lc < 20) :
  Calls Tryz.prog 195 #[I b 0,.agg (yw o.id o.side o.ticks o.left o.life o.tag).toArray] w fun e w' =>
   ∃ (h:Nat),e = ym (H h)∧LFEnd false 200 b S t o w h w':=by
 have HT:=M hT
 have HI:=M hi
 clear hT hi
 go_enter Tryz.func195,Tryz.ntmps195
 go_wp2_with fail
 have HW:Hid (∃ W,W = (w.alloc (O (yw o.id o.side o.ticks o.left o.life o.tag).toArray 65))∧W.rangeAt w.heap.size 0 o.vs∧TM 200 W b S∧w.grownBy W (some b)∧w.heap.size < W.heap.size∧b ≠ w.heap.size) :=
  ⟨_,rfl,zm w o.vs _,cO (U HT) (Below.heap_alloc w _ _ (tm_lt (U HT))),World.grownBy_alloc _ _ _,by rw [zi]; omega,by have:=tm_lt (U HT); omega⟩
 obtain ⟨W,hW,hWW⟩:=U HW
 rw [← hW]
 have aG:=M hWW
 clear hW hWW HW HT
 go_loopg [5] (t.hs.length) (fun k p wr=>LFI false b S t o.ticks W k p wr)
 case atStart=>exact ⟨[],t,rfl,Nat.le_refl _,way_start (U HI) _,yS _ _⟩
 case round =>
  obtain ⟨c,u,rfl,E,hw,hg⟩:=hrel
  have kh:=M hw
  have HG:=M hg
  have HK:=M E
  have hT:=fL (U aG).2.1 hg (by simp)
  have c0:=cur_cell hT (zQ c) (cur_ok (U HI) hw vB)
  obtain ⟨o0,o1,o2,o3,o4,o5⟩:=zC (zv (U aG).1 hg (U aG).2.2.2.1 (by simp))
  clear E hw hg
  by_cases ha:S.rd (zQ c) = 0
  ·have jY:=hT.lc
   have hf:=hT.fr
   have HA0:=M ha
   rw [ha] at c0
   have hlc':(S.lc:Int) < 20:=by omega
   have e1:((S.lc + 1:Nat):Int) = (S.lc:Int) + 1:=by omega
   have un:=cur_ok (U HI) (U kh) vB
   have t1:=tm_lc hT (S.lc + 1)
   have t2:=tm_cur t1 (zQ c) un (S.lc + 1)
   rw [e1] at t1 t2
   have d2:_ = _:=(cur_cell t1 (zQ c) un).trans (congrArg (fun x:Nat=>some (H x)) (show TS.rd _ (zQ c) = 0 from by rw [← ha]; cases (zQ c) <;> rfl))
   have d3:_ = _:=t2.lc
   rw [(wr_same _ _ _).1] at d3
   simp only [e1] at d3
   have g1:=t1.fr
   have g2:=t2.fr
   obtain ⟨n0,n1,n2,n3,-⟩:=zJ (t2.nd (S.lc + 1) (by omega))
   have A:b ≠ w.heap.size:=(U aG).2.2.2.2
   have p1:((wr.setCell (J b 1) (H ((S.lc:Int) + 1))).setCell (J b ((zQ c).off)) (H ((S.lc:Int) + 1))).cell? (yq w (0 + 1)) = some (H o.side):=by
    rw [yM _ _ _ _ (fun e=>A (congrArg Addr.block e)),yM _ _ _ _ (fun e=>A (congrArg Addr.block e))]; exact o1
   have p2:((wr.setCell (J b 1) (H ((S.lc:Int) + 1))).setCell (J b ((zQ c).off)) (H ((S.lc:Int) + 1))).cell? (yq w (0 + 2)) = some (H o.ticks):=by
    rw [yM _ _ _ _ (fun e=>A (congrArg Addr.block e)),yM _ _ _ _ (fun e=>A (congrArg Addr.block e))]; exact o2
   have vp:=M t2
   have HB:=M A
   clear ha hT t1 t2 un A
   go_wp2_with fail
   have uk:Hid (wr.grownBy ((wr.setCell (J b 1) (H ((S.lc:Int) + 1))).setCell (J b ((zQ c).off)) (H ((S.lc:Int) + 1))) (some b)):=zK (zK (yS _ _) _ _) _ _
   generalize hW4:((wr.setCell (J b 1) (H ((S.lc:Int) + 1))).setCell (J b ((zQ c).off)) (H ((S.lc:Int) + 1))) = W4 at *
   rw [← e1] at d3
   obtain ⟨m,hm⟩:∃ m,m = S.lc + 1:=⟨_,rfl⟩
   rw [← hm] at d3 n0 n1 n2 n3
   have hm21:(m:Int) < 21:=by omega
   have HM:=M hm
   clear hW4 hm e1 d2 jY hf g1 c0 o0 o1 o2 o3 o4 o5 hlc'
   go_region
   have t3:=U vp
   have t4:=cA t3 (S.lc + 1) 0 (by omega) (by omega) (H o.side) { (TS.nd _ (S.lc + 1)) with side:=o.side } rfl _ rfl
   have t5:=cA t4 (S.lc + 1) 1 (by omega) (by omega) (H o.ticks) { (TS.nd _ (S.lc + 1)) with ticks:=o.ticks } rfl _ rfl
   have t6:=cA t5 (S.lc + 1) 2 (by omega) (by omega) (H 0) { (TS.nd _ (S.lc + 1)) with qty:=0 } rfl _ rfl
   have t7:=cA t6 (S.lc + 1) 3 (by omega) (by omega) (H 0) { (TS.nd _ (S.lc + 1)) with count:=0 } rfl _ rfl
   have qP:=M (gr_drew (zK (zK (zK (zK (U uk) (2 + m * 8) (H o.side)) (2 + m * 8 + 1) (H o.ticks)) (2 + m * 8 + 2) (H 0)) (2 + m * 8 + 3) (H 0)))
   rw [← U HM] at t7
   simp only [ez,zt] at t7
   have hS:_ = S.grow (zQ c) o.side o.ticks:=grow_eq S (zQ c) o m (U HM)
   rw [hS] at t7
   have d7:_ = some (H (m:Int)):=t7.lc.trans (by rw [U HM]; rfl)
   have HT7:=M t7
   clear t3 t4 t5 t6 t7 n0 n1 n2 n3 d3 p1 p2
   generalize (((W4.setCell (J b (2 + m * 8)) (H o.side)).setCell (J b (2 + m * 8 + 1)) (H o.ticks)).setCell (J b (2 + m * 8 + 2)) (H 0)).setCell (J b (2 + m * 8 + 3)) (H 0) = W7 at *
   go_wp2_with fail
   go_ret
   exact ⟨m,rfl,_,cO (U HT7) rfl,(U aG).2.2.1.trans (((U HG).but _).trans (U qP)),.inr ⟨c,u,U kh,U HA0,U HM,rfl⟩⟩
  ·have ham:=way_at (U kh) rfl ha
   have har:=(U HI).range _ ham
   obtain ⟨a,oA⟩:∃ a,a = S.rd (zQ c):=⟨_,rfl⟩
   rw [← oA] at c0 ha ham har
   have HAE:=M oA
   have ha':¬ ((a:Int) = 0):=by omega
   have ha21:(a:Int) < 21:=by omega
   obtain ⟨n0,n1,n2,n3,n4,n5,n6,n7⟩:=zJ (hT.nd a (by omega))
   have HTM:=M hT
   have pR:∀ w',wr.grownBy w' none→Sem.run Tryz.prog (partAt (J b 0) 0 0) w' = .ok (J b 0) w':=fun w' h=>part_s (fL (U HTM) h (by simp)).obj
   have HPT:=M pR
   have HN1:=M (fun w' (h:wr.grownBy w' none)=>h.cell n1 (by simp))
   have qy:=M (fun w' (h:wr.grownBy w' none)=>h.cell o2 (by simp))
   clear oA hT pR
   go_wp2_with fail
   go_quiet (fail)
   go_wp2_with fail
   refine fq (W:=wr) (by kernel_rfl) (by kernel_rfl) ⟨rfl,rfl,rfl,Nat.le_refl _,fun _ _ _=>rfl⟩ ?_
   iterate 12 (
    refine cH (v:=?_) ?_ ?_ ?_
    rotate_left
    ·rfl
    ·intro w' uh
     have f1:=U HN1 w' uh
     have f2:=U qy w' uh
     have f3:=U HPT w' uh
     go_simp
     try rfl
    intro xh hK
    go_simp
    refine hK _ ?_
    clear hK xh)
   refine cH (v:=.bool (decide (o.ticks < (S.nd a).ticks))) ?_ ?_ ?_
   ·rfl
   ·intro w' uh
    have hm:=method_s w'
    go_simp
    refine (better_s _ _ _).mono ?_
    rintro e w3 ⟨rfl,uF⟩
    exact ⟨rfl,uh.trans uF⟩
   intro xh hK
   go_simp
   refine hK _ ?_
   clear hK xh
   refine cH (v:=?_) ?_ ?_ ?_
   rotate_left
   ·rfl
   ·intro w' uh
    go_simp
    try rfl
   intro xh hK
   go_simp
   refine hK _ ?_
   clear hK xh
   refine wpQuiet_nil ?_
   intro w2 vh
   have uo:=M vh
   clear vh
   by_cases Q:o.ticks < (S.nd a).ticks
   ·have aM:decide (o.ticks < (S.nd a).ticks) = true:=by simpa using Q
    go_wp2_with fail
    obtain ⟨l,r,rfl,hw2⟩:=way_be (U HI) (U kh) (U HAE).symm ha Q
    go_roundg (l.hs.length)
    case measure=>have:=U HK; simp [Tr.hs] at this; omega
    case rel=>exact ⟨_,l,rfl,Nat.le_refl _,hw2,(U HG).trans (U uo)⟩
   ·have aM:decide (o.ticks < (S.nd a).ticks) = false:=by simpa using Q
    go_wp2_with fail
    refine fq (W:=wr) (by kernel_rfl) (by kernel_rfl) (U uo) ?_
    iterate 12 (
     refine cH (v:=?_) ?_ ?_ ?_
     rotate_left
     ·rfl
     ·intro w' uh
      have f1:=U HN1 w' uh
      have f2:=U qy w' uh
      have f3:=U HPT w' uh
      go_simp
      try rfl
     intro xh hK
     go_simp
     refine hK _ ?_
     clear hK xh)
    refine cH (v:=.bool (decide ((S.nd a).ticks < o.ticks))) ?_ ?_ ?_
    ·rfl
    ·intro w' uh
     have hm:=method_s w'
     go_simp
     refine (better_s _ _ _).mono ?_
     rintro e w3 ⟨rfl,uF⟩
     exact ⟨rfl,uh.trans uF⟩
    intro xh hK
    go_simp
    refine hK _ ?_
    clear hK xh
    refine cH (v:=?_) ?_ ?_ ?_
    rotate_left
    ·rfl
    ·intro w' uh
     go_simp
     try rfl
    intro xh hK
    go_simp
    refine hK _ ?_
    clear hK xh
    refine wpQuiet_nil ?_
    intro w3 uF
    have uS:=M uF
    clear uF
    by_cases D:(S.nd a).ticks < o.ticks
    ·have og:decide ((S.nd a).ticks < o.ticks) = true:=by simpa using D
     go_wp2_with fail
     obtain ⟨l,r,rfl,hw2⟩:=way_wo (U HI) (U kh) (U HAE).symm ha D
     go_roundg (r.hs.length)
     case measure=>have:=U HK; simp [Tr.hs] at this; omega
     case rel=>exact ⟨_,r,rfl,Nat.le_refl _,hw2,(U HG).trans (U uS)⟩
    ·have og:decide ((S.nd a).ticks < o.ticks) = false:=by simpa using D
     have c3:=(U uS).cell c0 (by simp)
     go_wp2_with fail
     go_ret
     have hG:=(U HG).trans (U uS)
     exact ⟨a,rfl,S,fL (U aG).2.1 hG (by simp),(U aG).2.2.1.trans (hG.but _),.inl ⟨ham,by omega,rfl⟩⟩
theorem add_s (b:Nat) (sd:Int) (seq:List Od) (o:Od) (w:World) (h:bY 200 false w b sd seq) (ui:o.side = sd) (hn:seq.length < 20) (hl:∀ o' ∈ seq,0 ≤ o'.left∧o'.left ≤ 1000000) (aU:0 ≤ o.left∧o.left ≤ 1000000) :
  Calls Tryz.prog 171 #[I b 0,.agg (yw o.id o.side o.ticks o.left o.life o.tag).toArray] w fun e w' =>
   e = ym (.tuple #[])∧bY 200 false w' b sd (seq ++ [o])∧w.grownBy w' (some b):=by
 obtain ⟨S,t,hT,hi,hq,vB⟩:=h
 have HI:=M hi
 have HQ:=M hq
 have HT:=M hT
 have HLC:=M vB
 have HL:=M hl
 have HSD:=M ui
 have HOC:=M hq.oc
 have hoc':(S.oc:Int) < 20:=by have:=hq.oc; omega
 have e1:((S.oc + 1:Nat):Int) = (S.oc:Int) + 1:=by omega
 have A:b ≠ w.heap.size:=by have:=tm_lt hT; omega
 have kn:World.rangeAt (w.alloc (O (yw o.id o.side o.ticks o.left o.life o.tag).toArray 65)) w.heap.size 0 o.vs:=zm w o.vs 65
 have qz:TM 200 (w.alloc (O (yw o.id o.side o.ticks o.left o.life o.tag).toArray 65)) b S:=cO hT (Below.heap_alloc w _ _ (tm_lt hT))
 have c1:=qz.oc
 have f1:=qz.fr
 have hT1:=tm_oc qz (S.oc + 1)
 have hR1:Hid (World.rangeAt (World.setCell (w.alloc (O (yw o.id o.side o.ticks o.left o.life o.tag).toArray 65)) (J b 170) (H ((S.oc + 1:Nat):Int))) w.heap.size 0 o.vs):=fun j u hu=>by
  rw [yM _ _ _ _ (fun e=>A (congrArg Addr.block e))]; exact kn j u hu
 have hG1:Hid (w.grownBy (World.setCell (w.alloc (O (yw o.id o.side o.ticks o.left o.life o.tag).toArray 65)) (J b 170) (H ((S.oc + 1:Nat):Int))) (some b)):=zK (World.grownBy_alloc w (O (yw o.id o.side o.ticks o.left o.life o.tag).toArray 65) _) _ _
 have qZ:=M hT1
 have xF:Hid (w.heap.size < (World.heap (World.setCell (w.alloc (O (yw o.id o.side o.ticks o.left o.life o.tag).toArray 65)) (J b 170) (H ((S.oc + 1:Nat):Int)))).size):=(by
  have:=yL _ _ (hR1 0 _ rfl)
  exact this)
 clear hi hq vB hl ui hT qz kn hT1
 go_enter Tryz.func171,Tryz.ntmps171
 go_wp2_with fail
 rw [← e1]
 have em:∃ m,m = S.oc + 1:=⟨_,rfl⟩
 obtain ⟨m,hm⟩:=em
 rw [← hm] at hR1 hG1 qZ xF ⊢
 generalize hW1:World.setCell (w.alloc (O (yw o.id o.side o.ticks o.left o.life o.tag).toArray 65)) (J b 170) (H (m:Int)) = W1 at hR1 hG1 qZ xF ⊢
 have HM:=M hm
 have hm21:(m:Int) < 21:=by omega
 obtain ⟨o0,o1,o2,o3,o4,o5⟩:=zC (U hR1)
 obtain ⟨q0,q1,q2,q3,q4,q5,q6⟩:=fJ ((U qZ).qo m (by omega))
 have f2:=(U qZ).fr
 have ps:S.lc < 20:=by have:=U HLC; omega
 have HB:=M A
 clear hW1 hm e1 c1 f1 hoc' A
 go_region
 have vp:=M (tm_put (U qZ) m (by omega) o)
 have uo:=M (gr_put (w:=W1) (b:=b) o m)
 generalize hW2:(((((((W1.setCell (J b (171 + m * 7)) (H o.id)).setCell (J b (171 + m * 7 + 1)) (H o.side)).setCell (J b (171 + m * 7 + 2)) (H o.ticks)).setCell (J b (171 + m * 7 + 3)) (H o.left)).setCell
   (J b (171 + m * 7 + 4)) (H o.life)).setCell (J b (171 + m * 7 + 5)) (yk o.tag)).setCell (J b (171 + m * 7 + 6)) (H 0)) = W2 at vp uo ⊢
 clear hW2 o0 o1 o2 o3 o4 o5 q0 q1 q2 q3 q4 q5 q6 f2
 rw [show ({ root:=S.root,lc:=S.lc,oc:=m,nd:=S.nd,qo:=upd S.qo m ⟨o,0⟩ }:TS) = S.lay o from by rw [U HM]; rfl] at vp
 have hR2:=M (zv (U hR1) (U uo) (U xF) (fun e=>U HB (Option.some.inj e).symm))
 obtain ⟨o0,o1,o2,o3,o4,o5⟩:=zC (U hR2)
 have HTI:=M (ti_lay o (U HI))
 have HT2d:Hid (TM 200 W2.drew.drew b (S.lay o)):=cO (U vp) rfl
 go_wp2_with fail
 go_region_with (go_at_call 195; refine (levelFor_s b (S.lay o) t o W2.drew.drew (U HT2d) (U HTI) ps).mono ?_; rintro e W3 ⟨h,rfl,uU⟩; have HE:=M uU; have qR:(h:Int) < 21:=lf_lt uU (U HTI) ps; clear uU)
 obtain ⟨S3,hT3,uF,jB⟩:=U HE
 rw [← U HSD] at HQ
 obtain ⟨r1,r2,r3,r4,r5,t',r6,r7⟩:=add_ready (U HI) (U HQ) jB
 have R4:=M r4
 have R6:=M r6
 have R7:=M r7
 have R23:Hid ((0:Int) ≤ (S3.nd h).qty∧(S3.nd h).qty ≤ 20000000∧(0:Int) ≤ (S3.nd h).count∧(S3.nd h).count ≤ 20):=by
  have A:=sumL_bound (atK seq o.ticks) (fun o' vu=>U HL o' (List.mem_filter.1 vu).1)
  have qx:(atK seq o.ticks).length ≤ seq.length:=List.length_filter_le _ _
  rw [r2,r3]
  refine ⟨A.1,?_,by omega,by omega⟩
  have:=A.2
  have h20:((atK seq o.ticks).length:Int) ≤ 20:=by omega
  omega
 have jx:=M hT3
 have uS:Hid (W2.grownBy W3 (some b)):=⟨uF.os,uF.tape,uF.output,uF.size,uF.block⟩
 have hR3:=M (zv (U hR2) (U uS) (yK (U xF) (U uo).size) (fun e=>U HB (Option.some.inj e).symm))
 have hy21:(S3.nd h).yo < 21:=by omega
 have hm1:m = 1 + seq.length:=by have:=U HM; have:=U HOC; omega
 have bx:=M hm1
 clear hT3 uF jB r1 r2 r3 r4 r5 r6 r7 o0 o1 o2 o3 o4 o5 hm1 HE
 have xQ:=(U jx).fr
 obtain ⟨n0,n1,n2,n3,n4,n5,n6,n7⟩:=zJ ((U jx).nd h (by omega))
 have qe:h < 21:=by omega
 clear n0 n1 n2 n3 n4 n5
 by_cases hy:(S3.nd h).yo = 0
 ·have t5:=cA (U jx) h 6 qe (by omega) (H m) { S3.nd h with el:=m } rfl _ rfl
  have t6:=cA t5 h 7 qe (by omega) (H m) { (TS.nd _ h) with yo:=m } rfl _ rfl
  simp only [ez,zt] at t6
  obtain ⟨-,-,-,-,-,-,-,k7⟩:=zJ (t5.nd h qe)
  have f5:=t5.fr
  rw [hy] at n7
  have qE:=M (zK (zK (yS W3 (some b)) (2 + h * 8 + 6) (H m)) (2 + h * 8 + 7) (H m))
  have jy:=M t6
  clear t5 t6
  go_wp2_with fail
  generalize hW6:(W3.setCell (J b (2 + h * 8 + 6)) (H m)).setCell (J b (2 + h * 8 + 7)) (H m) = W6 at qE jy ⊢
  clear jx hW6
  have f6:=(U jy).fr
  obtain ⟨-,-,m2,m3,-⟩:=zJ ((U jy).nd h qe)
  simp only [zt] at m2 m3
  have hR6:=zv (U hR3) (U qE) (yK (U xF) (yO (U uo).size (U uS).size)) (fun e=>U HB (Option.some.inj e).symm)
  obtain ⟨-,-,-,x3,-⟩:=zC hR6
  obtain ⟨b1,b2,b3,b4⟩:=U R23
  have t7:=cA (U jy) h 2 qe (by omega) (H ((S3.nd h).qty + o.left)) { (TS.nd _ h) with qty:=(S3.nd h).qty + o.left } rfl _ rfl
  have t8:=cA t7 h 3 qe (by omega) (H ((S3.nd h).count + 1)) { (TS.nd _ h) with count:=(S3.nd h).count + 1 } rfl _ rfl
  obtain ⟨-,-,-,y3,-⟩:=zJ (t7.nd h qe)
  have f7:=t7.fr
  simp only [ez,zt] at t8 y3
  have aC:=M t8
  have HG8:=M (zK (zK (yS W6 (some b)) (2 + h * 8 + 2) (H ((S3.nd h).qty + o.left))) (2 + h * 8 + 3) (H ((S3.nd h).count + 1)))
  have aY:wrap64 ((S3.nd h).qty + o.left) = (S3.nd h).qty + o.left:=by unfold wrap64; omega
  clear t7 t8 hR6
  go_region
  try simp only [IntKind.wrap_i64]
  try rw [show (IntKind.i64.wrap ((S3.nd h).qty + o.left)) = (S3.nd h).qty + o.left from by rw [IntKind.wrap_i64]; exact aY]
  generalize hW7:W6.setCell (J b (2 + h * 8 + 2)) (H ((S3.nd h).qty + o.left)) = W7 at *
  go_wp2_with fail
  go_end0
  have HS8:Hid (_ = S3.link h m o.left):=link_eq0 S3 h m o.left hy
  rw [U HS8] at aC
  rw [U bx] at aC
  refine ⟨rfl,?_,?_⟩
  ·rw [← U HSD]
   refine ⟨_,t',cO (U aC) rfl,U R6,U R7,?_⟩
   have Q:=U R4
   have D:=U HLC
   show S3.lc ≤ _
   simp; omega
  ·exact ef (((((U hG1).trans (U uo)).trans (U uS)).trans (U qE)).trans (U HG8)) rfl rfl rfl rfl
 ·have t5:=tm_qo (U jx) (S3.nd h).yo 6 hy21 (by omega) (H m) { S3.qo (S3.nd h).yo with yg:=m } rfl _ rfl
  have t6:=cA t5 h 7 qe (by omega) (H m) { (TS.nd _ h) with yo:=m } rfl _ rfl
  obtain ⟨-,-,-,-,-,-,-,k7⟩:=zJ (t5.nd h qe)
  obtain ⟨-,-,-,-,-,-,q6⟩:=fJ ((U jx).qo (S3.nd h).yo hy21)
  have f5:=t5.fr
  have hyi:((S3.nd h).yo:Int) < 21:=by omega
  have bh:¬ (((S3.nd h).yo:Int) = 0):=by omega
  have qE:=M (zK (zK (yS W3 (some b)) (171 + (S3.nd h).yo * 7 + 6) (H m)) (2 + h * 8 + 7) (H m))
  have jy:=M t6
  clear t5 t6
  go_wp2_with fail
  go_region
  go_wp2_with fail
  generalize hW6:(W3.setCell (J b (171 + (S3.nd h).yo * 7 + 6)) (H m)).setCell (J b (2 + h * 8 + 7)) (H m) = W6 at qE jy ⊢
  clear jx hW6
  have f6:=(U jy).fr
  obtain ⟨-,-,m2,m3,-⟩:=zJ ((U jy).nd h qe)
  simp only [zt] at m2 m3
  have hR6:=zv (U hR3) (U qE) (yK (U xF) (yO (U uo).size (U uS).size)) (fun e=>U HB (Option.some.inj e).symm)
  obtain ⟨-,-,-,x3,-⟩:=zC hR6
  obtain ⟨b1,b2,b3,b4⟩:=U R23
  have t7:=cA (U jy) h 2 qe (by omega) (H ((S3.nd h).qty + o.left)) { (TS.nd _ h) with qty:=(S3.nd h).qty + o.left } rfl _ rfl
  have t8:=cA t7 h 3 qe (by omega) (H ((S3.nd h).count + 1)) { (TS.nd _ h) with count:=(S3.nd h).count + 1 } rfl _ rfl
  obtain ⟨-,-,-,y3,-⟩:=zJ (t7.nd h qe)
  have f7:=t7.fr
  simp only [ez,zt] at t8 y3
  have aC:=M t8
  have HG8:=M (zK (zK (yS W6 (some b)) (2 + h * 8 + 2) (H ((S3.nd h).qty + o.left))) (2 + h * 8 + 3) (H ((S3.nd h).count + 1)))
  have aY:wrap64 ((S3.nd h).qty + o.left) = (S3.nd h).qty + o.left:=by unfold wrap64; omega
  clear t7 t8 hR6
  go_region
  try simp only [IntKind.wrap_i64]
  try rw [show (IntKind.i64.wrap ((S3.nd h).qty + o.left)) = (S3.nd h).qty + o.left from by rw [IntKind.wrap_i64]; exact aY]
  generalize hW7:W6.setCell (J b (2 + h * 8 + 2)) (H ((S3.nd h).qty + o.left)) = W7 at *
  go_wp2_with fail
  go_end0
  have HS8:Hid (_ = S3.link h m o.left):=link_eq1 S3 h m o.left hy
  rw [U HS8] at aC
  rw [U bx] at aC
  refine ⟨rfl,?_,?_⟩
  ·rw [← U HSD]
   refine ⟨_,t',cO (U aC) rfl,U R6,U R7,?_⟩
   have Q:=U R4
   have D:=U HLC
   show S3.lc ≤ _
   simp; omega
  ·exact ef (((((U hG1).trans (U uo)).trans (U uS)).trans (U qE)).trans (U HG8)) rfl rfl rfl rfl
end Go.Proofs.YthhkapcbocgcoaaGreatDoor
