/-
  The levels of a tree in turn: proved by walking the function.
-/
import Derived.Test.YtnphbkgfjanmgaaGreatDoorBj04
import Derived.Laws.EntriesVeiled
set_option linter.unusedVariables false
set_option maxHeartbeats 6400000
set_option maxRecDepth 100000
namespace Go.Proofs.YtnphbkgfjanmgaaGreatDoor
open Go.RowKit
theorem infoLv_b:(Tryz.prog.info? 193).map (fun i=>(i.zero,i.size,i.bytes)) = some (some (.agg #[I 0,I 0,I 0,I 0]),4,32):=by kernel_rfl
theorem takeR_b {α:Type} (l:List α) (k:Nat) (c:α) (h:l[k]? = some c):l.take (k + 1) = l.take k ++ [c]:=by
 obtain ⟨hk,rfl⟩:=yG.1 h
 rw [List.take_succ_eq_append_getElem hk]
theorem zS {W:World} {B B':Nat} {e:TypeId} {sz:Nat} {v:Value} {n:Nat} {xs:List Value} (h:W.ownsRow B e sz v n xs) (hB:B' ≤ B):W.ownsRow B' e sz v n xs :=
 ⟨h.1,by
  rcases h.2 with Q | ⟨g',c',xF,Q,E,h3⟩
  ·exact .inl Q
  ·exact .inr ⟨g',c',xF,Q,yN hB E,h3⟩⟩
theorem flat1_b (l:List Nat):(l.flatMap fun h=>[hval_b h]) = l.map hval_b:=by
 induction l with
 | nil=>rfl
 | cons a r ih=>rw [List.flatMap_cons,ih]; rfl
theorem levelsO_b (b:Nat) (sd:Int) (seq:List Od) (w:World) (h:aZ 201 true w b sd seq) (hn:seq.length ≤ 20) :
  Calls Tryz.prog 168 #[J b 0] w fun e w' =>
   ∃ v',e = ym v'∧w'.ownsRow w.heap.size 193 4 v' (aY true sd seq).length ((aY true sd seq).flatMap Lv.vs)∧yn w w':=by
 obtain ⟨S,t,hT,hi,hq,qb⟩:=h
 have hlv:=eG hi hq
 rw [← hlv]
 have qS:∀ a ∈ t.hs,a < 21:=fun a ha=>by have:=(hi.range a ha).2; omega
 have xA:t.hs.length ≤ 20:=by rw [hi.len]; omega
 have HT:=M hT
 have HR:=M hi.rep
 have HH:=M qS
 have ki:=hT.root
 have py:=tm_lt hT
 generalize ht:t.hs = hs at *
 have HHS:=M ht
 have HNIL:=M (World.ownsRow_nil w w.heap.size 191 1)
 obtain ⟨i0,vA,uL,uM,uF⟩:=info_parts infoLv_b
 clear hi hq qb hlv hT qS ht
 go_enter Tryz.func168,Tryz.ntmps168
 go_wp2_with fail
 refine (ranked_b S b w.heap.size py t w _ [] S.root (H HT) (H HR) (by rw [H HHS]; exact H HH) ya (H HNIL) (by rw [H HHS]; simp; omega)).mono ?_
 rintro e w1 ⟨v1,rfl,kN,ui⟩
 rw [List.nil_append,H HHS] at kN
 have ud:=M ui
 have HOR:=M (ownR_row (f:=fun h=>[hval_b h]) (fun _=>rfl) (by omega) (show w1.ownsRow w.heap.size 191 1 v1 hs.length (hs.flatMap fun h=>[hval_b h]) by rw [flat1_b]; exact kN))
 obtain ⟨a,cap,rfl,_,hc⟩:=H HOR
 have xr:∀ k h,hs[k]? = some h→∃ g,a = some (U g 0)∧g < w1.heap.size∧w1.cell? (U g (0 + k * 1 + 0)) = some (I (h:Nat)):=fun k h hk=>by
  obtain ⟨g,Q,_,h3,h4,_⟩:=hc (by intro e; rw [e] at hk; simp at hk)
  exact ⟨g,Q,h3,h4 k h hk 0 _ rfl⟩
 have HC:=M xr
 clear kN ui hc xr ki
 go_wp2_with fail
 have ui:=(H ud).size
 go_loopw [3,13] (fun ov iv wr=>∃ (k:Nat) (done:List Lv),k ≤ hs.length∧iv = I k∧Hid (done = (hs.map fun h=>(S.nd h).lv).take k)∧wr.ownsRow w1.heap.size 193 4 ov done.length (done.flatMap Lv.vs)∧yn w1 wr) (fun _ iv _=>hs.length - (intOf iv).toNat)
 case atStart=>exact ⟨0,[],Nat.zero_le _,rfl,by simp [Hid],World.ownsRow_nil _ _ _ _,Below.refl _ _⟩
 case round =>
  obtain ⟨k,done,hk,rfl,hd,xR,xk⟩:=hrel
  have HOW:=M xR
  have HB:=M xk
  have aI:done.length = k:=by rw [H hd,List.length_take,List.length_map]; omega
  clear xR xk
  by_cases xI:k < hs.length
  ·obtain ⟨h,hkh⟩:∃ h,hs[k]? = some h:=⟨_,yH xI⟩
   have jK:Hid ((hs.map fun h=>(S.nd h).lv)[k]? = some (S.nd h).lv):=by show _ = _; rw [List.getElem?_map,hkh]; rfl
   obtain ⟨g,rfl,hg,V⟩:=H HC k h hkh
   have qh:=H HH h (yO hkh)
   have h21':(h:Int) < 21:=by omega
   have qr:=((H HB).cell (p:=(U g (0 + k * 1 + 0))) hg).trans V
   rw [show 0 + k * 1 + 0 = k by omega] at qr
   have hTr:=dc (H HT) ((H ud).trans ((H HB).mono ui)) py
   obtain ⟨n0,n1,n2,n3,-⟩:=zQ (hTr.nd h qh)
   have uJ:(k:Int) < hs.length:=by omega
   have hsr:=(H HB).size
   clear hkh V hTr hg
   go_wp2_with (at_builtin; go_must (refine wpList_append_own _ rfl _ _ 169 rfl w1.heap.size 193 i0 _ 4 32 Tryz.underlying169 vA uL uM uF rfl (by decide) _ done.length (done.flatMap Lv.vs) rfl ((H HOW).alloc _) (yq wr 0) 1 1 (S.nd h).lv.vs rfl rfl (cellsH_b wr _ _) (by simp [Value.oneCell',Lv.vs,Nd.lv]) (by unfold maxLen; omega) (by omega) (by simp; omega) ?_); intro v4 w4 kQ kM _)
   go_roundw
   case rel =>
    refine ⟨k + 1,done ++ [(S.nd h).lv],by omega,by go_num,?_,?_,?_⟩
    ·show done ++ [(S.nd h).lv] = _
     rw [takeR_b _ k _ (H jK),← H hd]
    ·simpa using kQ
    ·exact ((H HB).alloc hsr _).grown kM (by simp; omega) fun k hk=>((H HOW).lt k hk).1
   case measure=>simp [intOf]; omega
  ·go_wp2_with fail
   go_ret
   have h:=H hd
   rw [yZ (by rw [List.length_map]; omega)] at h
   subst h
   exact ⟨_,rfl,zS (H HOW) ui,(H ud).trans ((H HB).mono ui)⟩
theorem levels_b (b:Nat) (sd:Int) (seq:List Od) (w:World) (h:aZ 201 true w b sd seq) (hn:seq.length ≤ 20) :
  Calls Tryz.prog 168 #[J b 0] w fun e w' =>
   ∃ v',e = ym v'∧OwnR Lv.vs 4 w.heap.size w' v' (aY true sd seq)∧yn w w':=by
 have xA:(aY true sd seq).length ≤ 20:=by
  obtain ⟨S,t,hT,hi,hq,qb⟩:=h
  rw [← eG hi hq,List.length_map,hi.len]; omega
 refine (levelsO_b b sd seq w h hn).mono ?_
 rintro e w' ⟨v',rfl,N,Y⟩
 exact ⟨v',rfl,ownR_row Lv.len (by omega) N,Y⟩
theorem best_b {S:TS}:∀ {t:Tr} {v:Nat},Rep S.nd t v→t ≠ .nil→v ∈ t.hs∧((S.nd v).be = 0→t.hs.head? = some v)∧((S.nd v).be ≠ 0→∃ l,Rep S.nd l (S.nd v).be∧l ≠ .nil∧l.hs.head? = t.hs.head?∧l.hs.length < t.hs.length∧∀ a ∈ l.hs,a ∈ t.hs)
 | .nil,_,_,h=>absurd rfl h
 | .node h l r,v,⟨e,h0,Q,E⟩,_=>by
  subst e
  refine ⟨by simp [Tr.hs],fun Y=>?_,fun Y=>⟨l,Q,?_,?_,?_,fun a ha=>by simp [Tr.hs,ha]⟩⟩
  ·rw [Y] at Q; obtain rfl:=rep_nil Q; rfl
  ·rintro rfl; exact Y Q
  ·cases l with
   | nil=>exact absurd Q Y
   | node a l' r'=>simp [Tr.hs]
  ·simp [Tr.hs]
def FrI_b (S:TS) (hd:Option Nat) (w0:World) (k:Nat) (p:Value) (wr:World):Prop:=∃ (t:Tr) (v:Nat),p = I v∧Rep S.nd t v∧t ≠ .nil∧t.hs.head? = hd∧t.hs.length ≤ k∧(∀ a ∈ t.hs,a < 21)∧w0 = wr
theorem front_b (b:Nat) (sd:Int) (seq:List Od) (w:World) (h:aZ 201 true w b sd seq) (hn:seq.length ≤ 20) :
  Calls Tryz.prog 166 #[J b 0] w fun e w'=>e = ym (frOf (quOf true seq))∧yn w w':=by
 obtain ⟨S,t,hT,hi,hq,qb⟩:=h
 have hou:=tree_orders hi hq
 have qS:∀ a ∈ t.hs,a < 21:=fun a ha=>by have:=(hi.range a ha).2; omega
 have HT:=M hT
 have ki:=hT.root
 have py:=tm_lt hT
 by_cases jO:S.root = 0
 ·have ht:=hi.rep
  rw [jO] at ht ki
  obtain rfl:=rep_nil ht
  have HF:Hid (frOf (quOf true seq) = .tuple #[zOdv,.bool false]):=by show _ = _; rw [← hou]; rfl
  clear hi hq qb hou hT ht qS
  go_enter Tryz.func166,Tryz.ntmps166
  go_wp2_with fail
  go_returns
  refine ⟨by rw [H HF]; rfl,?_⟩
  go_grown
 ·have xD:t ≠ .nil:=by rintro rfl; exact jO hi.rep
  have HI:=M hi
  have HQ:=M hq
  have HOU:=M hou
  have HH:=M qS
  have HNE:=M xD
  have hr0':¬ ((S.root:Int) = 0):=by omega
  clear hi hq qb hou hT qS xD
  go_enter Tryz.func166,Tryz.ntmps166
  go_wp2_with fail
  go_loopg [4] (t.hs.length) (fun k p wr=>FrI_b S t.hs.head? (w.alloc (A (yw 0 0 0 0 0 ⟨#[]⟩).toArray 78)) k p wr)
  case atStart=>exact ⟨t,S.root,rfl,(H HI).rep,H HNE,rfl,Nat.le_refl _,H HH,rfl⟩
  case round =>
   obtain ⟨t1,v,rfl,Q,E,h3,h4,h5,rfl⟩:=hrel
   obtain ⟨b1,b2,b3⟩:=best_b Q E
   have hv21:=h5 v b1
   have hv21':(v:Int) < 21:=by omega
   have oj:=bJ (H HT) (Below.heap_alloc w (A (yw 0 0 0 0 0 ⟨#[]⟩).toArray 78) b py)
   obtain ⟨-,-,-,-,n4,-,n6,-⟩:=zQ (oj.nd v hv21)
   have H3:=M h3
   have H4:=M h4
   have H5:=M h5
   by_cases jF:(S.nd v).be = 0
   ·have oZ:=b2 jF
    rw [h3] at oZ
    have hvm:v ∈ t.hs:=List.mem_of_head? oZ
    have hQ:=(H HQ).q v hvm
    obtain ⟨e,rest,hqs⟩:∃ e rest,qs seq (S.nd v).ticks = e :: rest:=by
     cases hqq:qs seq (S.nd v).ticks with
     | nil=>exact absurd hqq hQ.ne
     | cons e rest=>exact ⟨e,rest,rfl⟩
    have hch:=hQ.chain
    rw [hqs] at hch
    obtain ⟨he,he0,-⟩:=hch
    have he21:e < 21:=by
     have:=(cj (S.nd v).ticks seq 1 e (by have h:e ∈ qs seq (S.nd v).ticks:=(by rw [hqs]; simp); exact h)).2.1
     omega
    have he21':(e:Int) < 21:=by omega
    have HF:Hid (frOf (quOf true seq) = .tuple #[(S.qo e).od.val,.bool true]):=by
     show _ = _
     rw [← H HOU]
     obtain ⟨tl,htl⟩:∃ tl,t.hs = v :: tl:=by
      cases hh:t.hs with
      | nil=>rw [hh] at oZ; simp at oZ
      | cons a r=>rw [hh] at oZ; simp at oZ; rw [oZ]; exact ⟨r,rfl⟩
     rw [htl,List.flatMap_cons,hqs]
     rfl
    obtain ⟨q0,q1,q2,q3,q4,q5,-⟩:=dW (oj.qo e he21)
    rw [he] at n6
    rw [jF] at n4
    clear Q E h3 h4 h5 b1 b2 b3 oj oZ hvm hQ hqs he jF
    go_wp2_with fail
    go_region
    go_wp2_with fail
    go_returns
    refine ⟨by rw [H HF]; rfl,?_⟩
    go_grown
   ·obtain ⟨l,l1,l2,l3,l4,l5⟩:=b3 jF
    have hbe':¬ (((S.nd v).be:Int) = 0):=by omega
    have HL:Hid (Rep S.nd l (S.nd v).be∧l ≠ .nil∧l.hs.head? = t1.hs.head?∧l.hs.length < t1.hs.length∧∀ a ∈ l.hs,a ∈ t1.hs):=⟨l1,l2,l3,l4,l5⟩
    clear Q E h3 h4 h5 b1 b2 b3 oj l1 l2 l3 l4 l5 jF
    go_wp2_with fail
    go_roundg (l.hs.length)
    case measure=>have:=H H4; have:=(H HL).2.2.2.1; omega
    case rel=>exact ⟨l,_,rfl,(H HL).1,(H HL).2.1,(H HL).2.2.1.trans (H H3),Nat.le_refl _,fun a ha=>H H5 a ((H HL).2.2.2.2 a ha),rfl⟩
def bK (b:Nat):Value:=.agg #[.func (.func 166) #[J b 0] #[],.func (.func 167) #[J b 0] #[],.func (.func 168) #[J b 0] #[]]
theorem ask_b (b:Nat) (w:World) :
  Calls Tryz.prog 128 #[J b 0] w fun e w'=>e = ym (bK b)∧yn w w':=by
 have hmf:∀ (fn:Fn) (first cap:Array Value) (w:World),(Instr.makeFunc fn first cap).run Tryz.prog w = .ok (.func fn first cap) w:=fun _ _ _ _=>rfl
 go_enter Tryz.func128,Tryz.ntmps128
 go_wp2_with fail
 go_returns
 refine ⟨rfl,?_⟩
 go_grown
theorem better_s (a c:Int) (w:World) :
  Calls Tryz.prog 237 #[.agg #[],I a,I c] w fun e w'=>e = ym (.bool (decide (a < c)))∧w.grownBy w' none:=by
 go_enter Tryz.func237,Tryz.ntmps237
 go_wp2_with fail
 go_ret
 exact ⟨rfl,World.grownBy_alloc _ _ _⟩
theorem method_s (w:World):Sem.run Tryz.prog (method 399 166 (.agg #[]) "loop.example/g00092/impl.better") w = .ok (237,.agg #[]) w:=by kernel_rfl
theorem part_s {w:World} {b:Nat} (h:∃ xF,w.heap[b]? = some (.cells xF 204 (0,0))):Sem.run Tryz.prog (partAt (U b 0) 0 0) w = .ok (U b 0) w:=by
 obtain ⟨xF,h⟩:=h
 have hc:Tryz.prog.cellsOf 204 = 318:=by kernel_rfl
 have hy:byteOfCell Tryz.prog Tryz.prog.depth 204 0 = some 0:=by kernel_rfl
 have hs:w.shape? b = some (204,xF.size):=by simp [World.shape?,h]
 simp [partAt,byteOf,noView,viewAt,hs,hc,hy]
theorem levelFor_s (b:Nat) (S:TS) (t:Tr) (o:Od) (w:World) (hT:TM 204 w b S) (hi:TI false S t) (qb:S.lc < 20) :
  Calls Tryz.prog 198 #[J b 0,.agg (yw o.id o.side o.ticks o.left o.life o.tag).toArray] w fun e w' =>
   ∃ (h:Nat),e = ym (I h)∧LFEnd false 204 b S t o w h w':=by
 have HT:=M hT
 have HI:=M hi
 clear hT hi
 go_enter Tryz.func198,Tryz.ntmps198
 go_wp2_with fail
 have HW:Hid (∃ W,W = (w.alloc (A (yw o.id o.side o.ticks o.left o.life o.tag).toArray 78))∧W.rangeAt w.heap.size 0 o.vs∧TM 204 W b S∧w.grownBy W (some b)∧w.heap.size < W.heap.size∧b ≠ w.heap.size) :=
  ⟨_,rfl,zn w o.vs _,bJ (H HT) (Below.heap_alloc w _ _ (tm_lt (H HT))),World.grownBy_alloc _ _ _,by rw [zi]; omega,by have:=tm_lt (H HT); omega⟩
 obtain ⟨W,hW,hWW⟩:=H HW
 rw [← hW]
 have pP:=M hWW
 clear hW hWW HW HT
 go_loopg [5] (t.hs.length) (fun k p wr=>LFI false b S t o.ticks W k p wr)
 case atStart=>exact ⟨[],t,rfl,Nat.le_refl _,way_start (H HI) _,yR _ _⟩
 case round =>
  obtain ⟨c,u,rfl,hk,hw,hg⟩:=hrel
  have jX:=M hw
  have HG:=M hg
  have HK:=M hk
  have hT:=dY (H pP).2.1 hg (by simp)
  have c0:=cur_cell hT (zW c) (cur_ok (H HI) hw qb)
  obtain ⟨o0,o1,o2,o3,o4,o5⟩:=zA (zw (H pP).1 hg (H pP).2.2.2.1 (by simp))
  clear hk hw hg
  by_cases ha:S.rd (zW c) = 0
  ·have jO:=hT.lc
   have hf:=hT.fr
   have HA0:=M ha
   rw [ha] at c0
   have hlc':(S.lc:Int) < 20:=by omega
   have e1:((S.lc + 1:Nat):Int) = (S.lc:Int) + 1:=by omega
   have vw:=cur_ok (H HI) (H jX) qb
   have t1:=tm_lc hT (S.lc + 1)
   have t2:=tm_cur t1 (zW c) vw (S.lc + 1)
   rw [e1] at t1 t2
   have d2:_ = _:=(cur_cell t1 (zW c) vw).trans (congrArg (fun x:Nat=>some (I x)) (show TS.rd _ (zW c) = 0 from by rw [← ha]; cases (zW c) <;> rfl))
   have d3:_ = _:=t2.lc
   rw [(wr_same _ _ _).1] at d3
   simp only [e1] at d3
   have g1:=t1.fr
   have g2:=t2.fr
   obtain ⟨n0,n1,n2,n3,-⟩:=zQ (t2.nd (S.lc + 1) (by omega))
   have Y:b ≠ w.heap.size:=(H pP).2.2.2.2
   have p1:((wr.setCell (U b 1) (I ((S.lc:Int) + 1))).setCell (U b ((zW c).off)) (I ((S.lc:Int) + 1))).cell? (yq w (0 + 1)) = some (I o.side):=by
    rw [yL _ _ _ _ (fun e=>Y (congrArg Addr.block e)),yL _ _ _ _ (fun e=>Y (congrArg Addr.block e))]; exact o1
   have p2:((wr.setCell (U b 1) (I ((S.lc:Int) + 1))).setCell (U b ((zW c).off)) (I ((S.lc:Int) + 1))).cell? (yq w (0 + 2)) = some (I o.ticks):=by
    rw [yL _ _ _ _ (fun e=>Y (congrArg Addr.block e)),yL _ _ _ _ (fun e=>Y (congrArg Addr.block e))]; exact o2
   have ux:=M t2
   have HB:=M Y
   clear ha hT t1 t2 vw Y
   go_wp2_with fail
   have ut:Hid (wr.grownBy ((wr.setCell (U b 1) (I ((S.lc:Int) + 1))).setCell (U b ((zW c).off)) (I ((S.lc:Int) + 1))) (some b)):=zR (zR (yR _ _) _ _) _ _
   generalize hW4:((wr.setCell (U b 1) (I ((S.lc:Int) + 1))).setCell (U b ((zW c).off)) (I ((S.lc:Int) + 1))) = W4 at *
   rw [← e1] at d3
   obtain ⟨m,hm⟩:∃ m,m = S.lc + 1:=⟨_,rfl⟩
   rw [← hm] at d3 n0 n1 n2 n3
   have hm21:(m:Int) < 21:=by omega
   have HM:=M hm
   clear hW4 hm e1 d2 jO hf g1 c0 o0 o1 o2 o3 o4 o5 hlc'
   go_region
   have t3:=H ux
   have t4:=bi t3 (S.lc + 1) 0 (by omega) (by omega) (I o.side) { (TS.nd _ (S.lc + 1)) with side:=o.side } rfl _ rfl
   have t5:=bi t4 (S.lc + 1) 1 (by omega) (by omega) (I o.ticks) { (TS.nd _ (S.lc + 1)) with ticks:=o.ticks } rfl _ rfl
   have t6:=bi t5 (S.lc + 1) 2 (by omega) (by omega) (I 0) { (TS.nd _ (S.lc + 1)) with qty:=0 } rfl _ rfl
   have t7:=bi t6 (S.lc + 1) 3 (by omega) (by omega) (I 0) { (TS.nd _ (S.lc + 1)) with count:=0 } rfl _ rfl
   have jz:=M (gr_drew (zR (zR (zR (zR (H ut) (2 + m * 8) (I o.side)) (2 + m * 8 + 1) (I o.ticks)) (2 + m * 8 + 2) (I 0)) (2 + m * 8 + 3) (I 0)))
   rw [← H HM] at t7
   simp only [cS,zr] at t7
   have hS:_ = S.grow (zW c) o.side o.ticks:=grow_eq S (zW c) o m (H HM)
   rw [hS] at t7
   have d7:_ = some (I (m:Int)):=t7.lc.trans (by rw [H HM]; rfl)
   have HT7:=M t7
   clear t3 t4 t5 t6 t7 n0 n1 n2 n3 d3 p1 p2
   generalize (((W4.setCell (U b (2 + m * 8)) (I o.side)).setCell (U b (2 + m * 8 + 1)) (I o.ticks)).setCell (U b (2 + m * 8 + 2)) (I 0)).setCell (U b (2 + m * 8 + 3)) (I 0) = W7 at *
   go_wp2_with fail
   go_ret
   exact ⟨m,rfl,_,bJ (H HT7) rfl,(H pP).2.2.1.trans (((H HG).but _).trans (H jz)),.inr ⟨c,u,H jX,H HA0,H HM,rfl⟩⟩
  ·have ham:=way_at (H jX) rfl ha
   have har:=(H HI).range _ ham
   obtain ⟨a,oo⟩:∃ a,a = S.rd (zW c):=⟨_,rfl⟩
   rw [← oo] at c0 ha ham har
   have HAE:=M oo
   have ha':¬ ((a:Int) = 0):=by omega
   have ha21:(a:Int) < 21:=by omega
   obtain ⟨n0,n1,n2,n3,n4,n5,n6,n7⟩:=zQ (hT.nd a (by omega))
   have HTM:=M hT
   have hpt:∀ w',wr.grownBy w' none→Sem.run Tryz.prog (partAt (U b 0) 0 0) w' = .ok (U b 0) w':=fun w' h=>part_s (dY (H HTM) h (by simp)).obj
   have HPT:=M hpt
   have HN1:=M (fun w' (h:wr.grownBy w' none)=>h.cell n1 (by simp))
   have kw:=M (fun w' (h:wr.grownBy w' none)=>h.cell o2 (by simp))
   clear oo hT hpt
   go_wp2_with fail
   go_quiet (fail)
   go_wp2_with fail
   refine dL (W:=wr) (by kernel_rfl) (by kernel_rfl) ⟨rfl,rfl,rfl,Nat.le_refl _,fun _ _ _=>rfl⟩ ?_
   iterate 12 (
    refine bE (v:=?_) ?_ ?_ ?_
    rotate_left
    ·rfl
    ·intro w' un
     have f1:=H HN1 w' un
     have f2:=H kw w' un
     have f3:=H HPT w' un
     go_simp
     try rfl
    intro hR hK
    go_simp
    refine hK _ ?_
    clear hK hR)
   refine bE (v:=.bool (decide (o.ticks < (S.nd a).ticks))) ?_ ?_ ?_
   ·rfl
   ·intro w' un
    have hm:=method_s w'
    go_simp
    refine (better_s _ _ _).mono ?_
    rintro e w3 ⟨rfl,uG⟩
    exact ⟨rfl,un.trans uG⟩
   intro hR hK
   go_simp
   refine hK _ ?_
   clear hK hR
   refine bE (v:=?_) ?_ ?_ ?_
   rotate_left
   ·rfl
   ·intro w' un
    go_simp
    try rfl
   intro hR hK
   go_simp
   refine hK _ ?_
   clear hK hR
   refine wpQuiet_nil ?_
   intro w2 uZ
   have uh:=M uZ
   clear uZ
   by_cases Q:o.ticks < (S.nd a).ticks
   ·have pu:decide (o.ticks < (S.nd a).ticks) = true:=by simpa using Q
    go_wp2_with fail
    obtain ⟨l,r,rfl,hw2⟩:=way_be (H HI) (H jX) (H HAE).symm ha Q
    go_roundg (l.hs.length)
    case measure=>have:=H HK; simp [Tr.hs] at this; omega
    case rel=>exact ⟨_,l,rfl,Nat.le_refl _,hw2,(H HG).trans (H uh)⟩
   ·have pu:decide (o.ticks < (S.nd a).ticks) = false:=by simpa using Q
    go_wp2_with fail
    refine dL (W:=wr) (by kernel_rfl) (by kernel_rfl) (H uh) ?_
    iterate 12 (
     refine bE (v:=?_) ?_ ?_ ?_
     rotate_left
     ·rfl
     ·intro w' un
      have f1:=H HN1 w' un
      have f2:=H kw w' un
      have f3:=H HPT w' un
      go_simp
      try rfl
     intro hR hK
     go_simp
     refine hK _ ?_
     clear hK hR)
    refine bE (v:=.bool (decide ((S.nd a).ticks < o.ticks))) ?_ ?_ ?_
    ·rfl
    ·intro w' un
     have hm:=method_s w'
     go_simp
     refine (better_s _ _ _).mono ?_
     rintro e w3 ⟨rfl,uG⟩
     exact ⟨rfl,un.trans uG⟩
    intro hR hK
    go_simp
    refine hK _ ?_
    clear hK hR
    refine bE (v:=?_) ?_ ?_ ?_
    rotate_left
    ·rfl
    ·intro w' un
     go_simp
     try rfl
    intro hR hK
    go_simp
    refine hK _ ?_
    clear hK hR
    refine wpQuiet_nil ?_
    intro w3 uG
    have vi:=M uG
    clear uG
    by_cases E:(S.nd a).ticks < o.ticks
    ·have oI:decide ((S.nd a).ticks < o.ticks) = true:=by simpa using E
     go_wp2_with fail
     obtain ⟨l,r,rfl,hw2⟩:=way_wo (H HI) (H jX) (H HAE).symm ha E
     go_roundg (r.hs.length)
     case measure=>have:=H HK; simp [Tr.hs] at this; omega
     case rel=>exact ⟨_,r,rfl,Nat.le_refl _,hw2,(H HG).trans (H vi)⟩
    ·have oI:decide ((S.nd a).ticks < o.ticks) = false:=by simpa using E
     have c3:=(H vi).cell c0 (by simp)
     go_wp2_with fail
     go_ret
     have hG:=(H HG).trans (H vi)
     exact ⟨a,rfl,S,dY (H pP).2.1 hG (by simp),(H pP).2.2.1.trans (hG.but _),.inl ⟨ham,by omega,rfl⟩⟩
theorem add_s (b:Nat) (sd:Int) (seq:List Od) (o:Od) (w:World) (h:aZ 204 false w b sd seq) (uT:o.side = sd) (hn:seq.length < 20) (hl:∀ o' ∈ seq,0 ≤ o'.left∧o'.left ≤ 1000000) (hlo:0 ≤ o.left∧o.left ≤ 1000000) :
  Calls Tryz.prog 173 #[J b 0,.agg (yw o.id o.side o.ticks o.left o.life o.tag).toArray] w fun e w' =>
   e = ym (.tuple #[])∧aZ 204 false w' b sd (seq ++ [o])∧w.grownBy w' (some b):=by
 obtain ⟨S,t,hT,hi,hq,qb⟩:=h
 have HI:=M hi
 have HQ:=M hq
 have HT:=M hT
 have HLC:=M qb
 have HL:=M hl
 have HSD:=M uT
 have HOC:=M hq.oc
 have hoc':(S.oc:Int) < 20:=by have:=hq.oc; omega
 have e1:((S.oc + 1:Nat):Int) = (S.oc:Int) + 1:=by omega
 have Y:b ≠ w.heap.size:=by have:=tm_lt hT; omega
 have kh:World.rangeAt (w.alloc (A (yw o.id o.side o.ticks o.left o.life o.tag).toArray 78)) w.heap.size 0 o.vs:=zn w o.vs 78
 have oj:TM 204 (w.alloc (A (yw o.id o.side o.ticks o.left o.life o.tag).toArray 78)) b S:=bJ hT (Below.heap_alloc w _ _ (tm_lt hT))
 have c1:=oj.oc
 have f1:=oj.fr
 have hT1:=tm_oc oj (S.oc + 1)
 have hR1:Hid (World.rangeAt (World.setCell (w.alloc (A (yw o.id o.side o.ticks o.left o.life o.tag).toArray 78)) (U b 170) (I ((S.oc + 1:Nat):Int))) w.heap.size 0 o.vs):=fun j u hu=>by
  rw [yL _ _ _ _ (fun e=>Y (congrArg Addr.block e))]; exact kh j u hu
 have hG1:Hid (w.grownBy (World.setCell (w.alloc (A (yw o.id o.side o.ticks o.left o.life o.tag).toArray 78)) (U b 170) (I ((S.oc + 1:Nat):Int))) (some b)):=zR (World.grownBy_alloc w (A (yw o.id o.side o.ticks o.left o.life o.tag).toArray 78) _) _ _
 have je:=M hT1
 have xK:Hid (w.heap.size < (World.heap (World.setCell (w.alloc (A (yw o.id o.side o.ticks o.left o.life o.tag).toArray 78)) (U b 170) (I ((S.oc + 1:Nat):Int)))).size):=(by
  have:=yK _ _ (hR1 0 _ rfl)
  exact this)
 clear hi hq qb hl uT hT oj kh hT1
 go_enter Tryz.func173,Tryz.ntmps173
 go_wp2_with fail
 rw [← e1]
 have em:∃ m,m = S.oc + 1:=⟨_,rfl⟩
 obtain ⟨m,hm⟩:=em
 rw [← hm] at hR1 hG1 je xK ⊢
 generalize hW1:World.setCell (w.alloc (A (yw o.id o.side o.ticks o.left o.life o.tag).toArray 78)) (U b 170) (I (m:Int)) = W1 at hR1 hG1 je xK ⊢
 have HM:=M hm
 have hm21:(m:Int) < 21:=by omega
 obtain ⟨o0,o1,o2,o3,o4,o5⟩:=zA (H hR1)
 obtain ⟨q0,q1,q2,q3,q4,q5,q6⟩:=dW ((H je).qo m (by omega))
 have f2:=(H je).fr
 have pd:S.lc < 20:=by have:=H HLC; omega
 have HB:=M Y
 clear hW1 hm e1 c1 f1 hoc' Y
 go_region
 have ux:=M (tm_put (H je) m (by omega) o)
 have uh:=M (gr_put (w:=W1) (b:=b) o m)
 generalize hW2:(((((((W1.setCell (U b (171 + m * 7)) (I o.id)).setCell (U b (171 + m * 7 + 1)) (I o.side)).setCell (U b (171 + m * 7 + 2)) (I o.ticks)).setCell (U b (171 + m * 7 + 3)) (I o.left)).setCell
   (U b (171 + m * 7 + 4)) (I o.life)).setCell (U b (171 + m * 7 + 5)) (yk o.tag)).setCell (U b (171 + m * 7 + 6)) (I 0)) = W2 at ux uh ⊢
 clear hW2 o0 o1 o2 o3 o4 o5 q0 q1 q2 q3 q4 q5 q6 f2
 rw [show ({ root:=S.root,lc:=S.lc,oc:=m,nd:=S.nd,qo:=upd S.qo m ⟨o,0⟩ }:TS) = S.lay o from by rw [H HM]; rfl] at ux
 have hR2:=M (zw (H hR1) (H uh) (H xK) (fun e=>H HB (Option.some.inj e).symm))
 obtain ⟨o0,o1,o2,o3,o4,o5⟩:=zA (H hR2)
 have HTI:=M (ti_lay o (H HI))
 have HT2d:Hid (TM 204 W2.drew.drew b (S.lay o)):=bJ (H ux) rfl
 go_wp2_with fail
 go_region_with (go_at_call 198; refine (levelFor_s b (S.lay o) t o W2.drew.drew (H HT2d) (H HTI) pd).mono ?_; rintro e W3 ⟨h,rfl,vo⟩; have HE:=M vo; have qS:(h:Int) < 21:=lf_lt vo (H HTI) pd; clear vo)
 obtain ⟨S3,hT3,uG,qn⟩:=H HE
 rw [← H HSD] at HQ
 obtain ⟨r1,r2,r3,r4,r5,t',r6,r7⟩:=add_ready (H HI) (H HQ) qn
 have R4:=M r4
 have R6:=M r6
 have R7:=M r7
 have R23:Hid ((0:Int) ≤ (S3.nd h).qty∧(S3.nd h).qty ≤ 20000000∧(0:Int) ≤ (S3.nd h).count∧(S3.nd h).count ≤ 20):=by
  have Y:=sumL_bound (atK seq o.ticks) (fun o' vM=>H HL o' (List.mem_filter.1 vM).1)
  have qi:(atK seq o.ticks).length ≤ seq.length:=List.length_filter_le _ _
  rw [r2,r3]
  refine ⟨Y.1,?_,by omega,by omega⟩
  have:=Y.2
  have h20:((atK seq o.ticks).length:Int) ≤ 20:=by omega
  omega
 have ju:=M hT3
 have vi:Hid (W2.grownBy W3 (some b)):=⟨uG.os,uG.tape,uG.output,uG.size,uG.block⟩
 have hR3:=M (zw (H hR2) (H vi) (yJ (H xK) (H uh).size) (fun e=>H HB (Option.some.inj e).symm))
 have hy21:(S3.nd h).yo < 21:=by omega
 have pY:m = 1 + seq.length:=by have:=H HM; have:=H HOC; omega
 have az:=M pY
 clear hT3 uG qn r1 r2 r3 r4 r5 r6 r7 o0 o1 o2 o3 o4 o5 pY HE
 have xM:=(H ju).fr
 obtain ⟨n0,n1,n2,n3,n4,n5,n6,n7⟩:=zQ ((H ju).nd h (by omega))
 have qh:h < 21:=by omega
 clear n0 n1 n2 n3 n4 n5
 by_cases hy:(S3.nd h).yo = 0
 ·have t5:=bi (H ju) h 6 qh (by omega) (I m) { S3.nd h with el:=m } rfl _ rfl
  have t6:=bi t5 h 7 qh (by omega) (I m) { (TS.nd _ h) with yo:=m } rfl _ rfl
  simp only [cS,zr] at t6
  obtain ⟨-,-,-,-,-,-,-,k7⟩:=zQ (t5.nd h qh)
  have f5:=t5.fr
  rw [hy] at n7
  have qF:=M (zR (zR (yR W3 (some b)) (2 + h * 8 + 6) (I m)) (2 + h * 8 + 7) (I m))
  have ky:=M t6
  clear t5 t6
  go_wp2_with fail
  generalize hW6:(W3.setCell (U b (2 + h * 8 + 6)) (I m)).setCell (U b (2 + h * 8 + 7)) (I m) = W6 at qF ky ⊢
  clear ju hW6
  have f6:=(H ky).fr
  obtain ⟨-,-,m2,m3,-⟩:=zQ ((H ky).nd h qh)
  simp only [zr] at m2 m3
  have hR6:=zw (H hR3) (H qF) (yJ (H xK) (yN (H uh).size (H vi).size)) (fun e=>H HB (Option.some.inj e).symm)
  obtain ⟨-,-,-,x3,-⟩:=zA hR6
  obtain ⟨b1,b2,b3,b4⟩:=H R23
  have t7:=bi (H ky) h 2 qh (by omega) (I ((S3.nd h).qty + o.left)) { (TS.nd _ h) with qty:=(S3.nd h).qty + o.left } rfl _ rfl
  have t8:=bi t7 h 3 qh (by omega) (I ((S3.nd h).count + 1)) { (TS.nd _ h) with count:=(S3.nd h).count + 1 } rfl _ rfl
  obtain ⟨-,-,-,y3,-⟩:=zQ (t7.nd h qh)
  have f7:=t7.fr
  simp only [cS,zr] at t8 y3
  have pN:=M t8
  have HG8:=M (zR (zR (yR W6 (some b)) (2 + h * 8 + 2) (I ((S3.nd h).qty + o.left))) (2 + h * 8 + 3) (I ((S3.nd h).count + 1)))
  have aj:wrap64 ((S3.nd h).qty + o.left) = (S3.nd h).qty + o.left:=by unfold wrap64; omega
  clear t7 t8 hR6
  go_region
  try simp only [IntKind.wrap_i64]
  try rw [show (IntKind.i64.wrap ((S3.nd h).qty + o.left)) = (S3.nd h).qty + o.left from by rw [IntKind.wrap_i64]; exact aj]
  generalize hW7:W6.setCell (U b (2 + h * 8 + 2)) (I ((S3.nd h).qty + o.left)) = W7 at *
  go_wp2_with fail
  go_end0
  have HS8:Hid (_ = S3.link h m o.left):=link_eq0 S3 h m o.left hy
  rw [H HS8] at pN
  rw [H az] at pN
  refine ⟨rfl,?_,?_⟩
  ·rw [← H HSD]
   refine ⟨_,t',bJ (H pN) rfl,H R6,H R7,?_⟩
   have Q:=H R4
   have E:=H HLC
   show S3.lc ≤ _
   simp; omega
  ·exact cL (((((H hG1).trans (H uh)).trans (H vi)).trans (H qF)).trans (H HG8)) rfl rfl rfl rfl
 ·have t5:=tm_qo (H ju) (S3.nd h).yo 6 hy21 (by omega) (I m) { S3.qo (S3.nd h).yo with yg:=m } rfl _ rfl
  have t6:=bi t5 h 7 qh (by omega) (I m) { (TS.nd _ h) with yo:=m } rfl _ rfl
  obtain ⟨-,-,-,-,-,-,-,k7⟩:=zQ (t5.nd h qh)
  obtain ⟨-,-,-,-,-,-,q6⟩:=dW ((H ju).qo (S3.nd h).yo hy21)
  have f5:=t5.fr
  have hyi:((S3.nd h).yo:Int) < 21:=by omega
  have hy0:¬ (((S3.nd h).yo:Int) = 0):=by omega
  have qF:=M (zR (zR (yR W3 (some b)) (171 + (S3.nd h).yo * 7 + 6) (I m)) (2 + h * 8 + 7) (I m))
  have ky:=M t6
  clear t5 t6
  go_wp2_with fail
  go_region
  go_wp2_with fail
  generalize hW6:(W3.setCell (U b (171 + (S3.nd h).yo * 7 + 6)) (I m)).setCell (U b (2 + h * 8 + 7)) (I m) = W6 at qF ky ⊢
  clear ju hW6
  have f6:=(H ky).fr
  obtain ⟨-,-,m2,m3,-⟩:=zQ ((H ky).nd h qh)
  simp only [zr] at m2 m3
  have hR6:=zw (H hR3) (H qF) (yJ (H xK) (yN (H uh).size (H vi).size)) (fun e=>H HB (Option.some.inj e).symm)
  obtain ⟨-,-,-,x3,-⟩:=zA hR6
  obtain ⟨b1,b2,b3,b4⟩:=H R23
  have t7:=bi (H ky) h 2 qh (by omega) (I ((S3.nd h).qty + o.left)) { (TS.nd _ h) with qty:=(S3.nd h).qty + o.left } rfl _ rfl
  have t8:=bi t7 h 3 qh (by omega) (I ((S3.nd h).count + 1)) { (TS.nd _ h) with count:=(S3.nd h).count + 1 } rfl _ rfl
  obtain ⟨-,-,-,y3,-⟩:=zQ (t7.nd h qh)
  have f7:=t7.fr
  simp only [cS,zr] at t8 y3
  have pN:=M t8
  have HG8:=M (zR (zR (yR W6 (some b)) (2 + h * 8 + 2) (I ((S3.nd h).qty + o.left))) (2 + h * 8 + 3) (I ((S3.nd h).count + 1)))
  have aj:wrap64 ((S3.nd h).qty + o.left) = (S3.nd h).qty + o.left:=by unfold wrap64; omega
  clear t7 t8 hR6
  go_region
  try simp only [IntKind.wrap_i64]
  try rw [show (IntKind.i64.wrap ((S3.nd h).qty + o.left)) = (S3.nd h).qty + o.left from by rw [IntKind.wrap_i64]; exact aj]
  generalize hW7:W6.setCell (U b (2 + h * 8 + 2)) (I ((S3.nd h).qty + o.left)) = W7 at *
  go_wp2_with fail
  go_end0
  have HS8:Hid (_ = S3.link h m o.left):=link_eq1 S3 h m o.left hy
  rw [H HS8] at pN
  rw [H az] at pN
  refine ⟨rfl,?_,?_⟩
  ·rw [← H HSD]
   refine ⟨_,t',bJ (H pN) rfl,H R6,H R7,?_⟩
   have Q:=H R4
   have E:=H HLC
   show S3.lc ≤ _
   simp; omega
  ·exact cL (((((H hG1).trans (H uh)).trans (H vi)).trans (H qF)).trans (H HG8)) rfl rfl rfl rfl
end Go.Proofs.YtnphbkgfjanmgaaGreatDoor
