/-
  The levels of a tree in turn: proved by walking the function.
-/
import Derived.Test.YtnphbkgfjanmgaaGreatDoorDj04
import Derived.Laws.EntriesVeiled
set_option linter.unusedVariables false
set_option maxHeartbeats 6400000
set_option maxRecDepth 100000
namespace Go.Proofs.YtnphbkgfjanmgaaGreatDoor
open Go.RowKit
theorem infoLv_b:(Tryz.prog.info? 193).map (fun i=>(i.zero,i.size,i.bytes)) = some (some (.agg #[I 0,I 0,I 0,I 0]),4,32):=by kernel_rfl
theorem takeR_b {α:Type} (l:List α) (k:Nat) (c:α) (h:l[k]? = some c):l.take (k + 1) = l.take k ++ [c]:=by
 obtain ⟨hk,rfl⟩:=yH.1 h
 rw [List.take_succ_eq_append_getElem hk]
theorem zS {W:World} {B B':Nat} {e:TypeId} {sz:Nat} {v:Value} {n:Nat} {xs:List Value} (h:W.ownsRow B e sz v n xs) (hB:B' ≤ B):W.ownsRow B' e sz v n xs :=
 ⟨h.1,by
  rcases h.2 with N | ⟨g',c',xF,N,Y,h3⟩
  ·exact .inl N
  ·exact .inr ⟨g',c',xF,N,yO hB Y,h3⟩⟩
theorem flat1_b (l:List Nat):(l.flatMap fun h=>[hval_b h]) = l.map hval_b:=by
 induction l with
 | nil=>rfl
 | cons a r ih=>rw [List.flatMap_cons,ih]; rfl
theorem levelsO_b (b:Nat) (sd:Int) (seq:List Od) (w:World) (h:aV 201 true w b sd seq) (hn:seq.length ≤ 20) :
  Calls Tryz.prog 168 #[J b 0] w fun e w' =>
   ∃ v',e = yn v'∧w'.ownsRow w.heap.size 193 4 v' (aU true sd seq).length ((aU true sd seq).flatMap Lv.vs)∧yp w w':=by
 obtain ⟨S,t,hT,hi,hq,qb⟩:=h
 have hlv:=eB hi hq
 rw [← hlv]
 have qP:∀ a ∈ t.hs,a < 21:=fun a ha=>by have:=(hi.range a ha).2; omega
 have xA:t.hs.length ≤ 20:=by rw [hi.len]; omega
 have HT:=H hT
 have HR:=H hi.rep
 have HH:=H qP
 have ki:=hT.root
 have pu:=tm_lt hT
 generalize ht:t.hs = hs at *
 have HHS:=H ht
 have HNIL:=H (World.ownsRow_nil w w.heap.size 191 1)
 obtain ⟨i0,vA,uH,uI,uW⟩:=info_parts infoLv_b
 clear hi hq qb hlv hT qP ht
 go_enter Tryz.func168,Tryz.ntmps168
 go_wp2_with fail
 refine (ranked_b S b w.heap.size pu t w _ [] S.root (U HT) (U HR) (by rw [U HHS]; exact U HH) yb (U HNIL) (by rw [U HHS]; simp; omega)).mono ?_
 rintro e w1 ⟨v1,rfl,kK,uk⟩
 rw [List.nil_append,U HHS] at kK
 have ue:=H uk
 have HOR:=H (ownR_row (f:=fun h=>[hval_b h]) (fun _=>rfl) (by omega) (show w1.ownsRow w.heap.size 191 1 v1 hs.length (hs.flatMap fun h=>[hval_b h]) by rw [flat1_b]; exact kK))
 obtain ⟨a,cap,rfl,_,hc⟩:=U HOR
 have xt:∀ k h,hs[k]? = some h→∃ g,a = some (Q g 0)∧g < w1.heap.size∧w1.cell? (Q g (0 + k * 1 + 0)) = some (I (h:Nat)):=fun k h hk=>by
  obtain ⟨g,N,_,h3,h4,_⟩:=hc (by intro e; rw [e] at hk; simp at hk)
  exact ⟨g,N,h3,h4 k h hk 0 _ rfl⟩
 have HC:=H xt
 clear kK uk hc xt ki
 go_wp2_with fail
 have uk:=(U ue).size
 go_loopw [3,13] (fun ov iv wr=>∃ (k:Nat) (done:List Lv),k ≤ hs.length∧iv = I k∧Hid (done = (hs.map fun h=>(S.nd h).lv).take k)∧wr.ownsRow w1.heap.size 193 4 ov done.length (done.flatMap Lv.vs)∧yp w1 wr) (fun _ iv _=>hs.length - (intOf iv).toNat)
 case atStart=>exact ⟨0,[],Nat.zero_le _,rfl,by simp [Hid],World.ownsRow_nil _ _ _ _,Below.refl _ _⟩
 case round =>
  obtain ⟨k,done,hk,rfl,hd,xS,xl⟩:=hrel
  have HOW:=H xS
  have HB:=H xl
  have aE:done.length = k:=by rw [U hd,List.length_take,List.length_map]; omega
  clear xS xl
  by_cases xJ:k < hs.length
  ·obtain ⟨h,hkh⟩:∃ h,hs[k]? = some h:=⟨_,yI xJ⟩
   have jK:Hid ((hs.map fun h=>(S.nd h).lv)[k]? = some (S.nd h).lv):=by show _ = _; rw [List.getElem?_map,hkh]; rfl
   obtain ⟨g,rfl,hg,X⟩:=U HC k h hkh
   have qh:=U HH h (yP hkh)
   have h21':(h:Int) < 21:=by omega
   have qp:=((U HB).cell (p:=(Q g (0 + k * 1 + 0))) hg).trans X
   rw [show 0 + k * 1 + 0 = k by omega] at qp
   have hTr:=cS (U HT) ((U ue).trans ((U HB).mono uk)) pu
   obtain ⟨n0,n1,n2,n3,-⟩:=zQ (hTr.nd h qh)
   have uF:(k:Int) < hs.length:=by omega
   have hsr:=(U HB).size
   clear hkh X hTr hg
   go_wp2_with (at_builtin; go_must (refine wpList_append_own _ rfl _ _ 169 rfl w1.heap.size 193 i0 _ 4 32 Tryz.underlying169 vA uH uI uW rfl (by decide) _ done.length (done.flatMap Lv.vs) rfl ((U HOW).alloc _) (yr wr 0) 1 1 (S.nd h).lv.vs rfl rfl (cellsH_b wr _ _) (by simp [Value.oneCell',Lv.vs,Nd.lv]) (by unfold maxLen; omega) (by omega) (by simp; omega) ?_); intro v4 w4 kM kJ _)
   go_roundw
   case rel =>
    refine ⟨k + 1,done ++ [(S.nd h).lv],by omega,by go_num,?_,?_,?_⟩
    ·show done ++ [(S.nd h).lv] = _
     rw [takeR_b _ k _ (U jK),← U hd]
    ·simpa using kM
    ·exact ((U HB).alloc hsr _).grown kJ (by simp; omega) fun k hk=>((U HOW).lt k hk).1
   case measure=>simp [intOf]; omega
  ·go_wp2_with fail
   go_ret
   have h:=U hd
   rw [xa (by rw [List.length_map]; omega)] at h
   subst h
   exact ⟨_,rfl,zS (U HOW) uk,(U ue).trans ((U HB).mono uk)⟩
theorem levels_b (b:Nat) (sd:Int) (seq:List Od) (w:World) (h:aV 201 true w b sd seq) (hn:seq.length ≤ 20) :
  Calls Tryz.prog 168 #[J b 0] w fun e w' =>
   ∃ v',e = yn v'∧OwnR Lv.vs 4 w.heap.size w' v' (aU true sd seq)∧yp w w':=by
 have xA:(aU true sd seq).length ≤ 20:=by
  obtain ⟨S,t,hT,hi,hq,qb⟩:=h
  rw [← eB hi hq,List.length_map,hi.len]; omega
 refine (levelsO_b b sd seq w h hn).mono ?_
 rintro e w' ⟨v',rfl,Z,E⟩
 exact ⟨v',rfl,ownR_row Lv.len (by omega) Z,E⟩
theorem best_b {S:TS}:∀ {t:Tr} {v:Nat},Rep S.nd t v→t ≠ .nil→v ∈ t.hs∧((S.nd v).be = 0→t.hs.head? = some v)∧((S.nd v).be ≠ 0→∃ l,Rep S.nd l (S.nd v).be∧l ≠ .nil∧l.hs.head? = t.hs.head?∧l.hs.length < t.hs.length∧∀ a ∈ l.hs,a ∈ t.hs)
 | .nil,_,_,h=>absurd rfl h
 | .node h l r,v,⟨e,h0,N,Y⟩,_=>by
  subst e
  refine ⟨by simp [Tr.hs],fun E=>?_,fun E=>⟨l,N,?_,?_,?_,fun a ha=>by simp [Tr.hs,ha]⟩⟩
  ·rw [E] at N; obtain rfl:=rep_nil N; rfl
  ·rintro rfl; exact E N
  ·cases l with
   | nil=>exact absurd N E
   | node a l' r'=>simp [Tr.hs]
  ·simp [Tr.hs]
def FrI_b (S:TS) (hd:Option Nat) (w0:World) (k:Nat) (p:Value) (wr:World):Prop:=∃ (t:Tr) (v:Nat),p = I v∧Rep S.nd t v∧t ≠ .nil∧t.hs.head? = hd∧t.hs.length ≤ k∧(∀ a ∈ t.hs,a < 21)∧w0 = wr
theorem front_b (b:Nat) (sd:Int) (seq:List Od) (w:World) (h:aV 201 true w b sd seq) (hn:seq.length ≤ 20) :
  Calls Tryz.prog 166 #[J b 0] w fun e w'=>e = yn (frOf (quOf true seq))∧yp w w':=by
 obtain ⟨S,t,hT,hi,hq,qb⟩:=h
 have hou:=tree_orders hi hq
 have qP:∀ a ∈ t.hs,a < 21:=fun a ha=>by have:=(hi.range a ha).2; omega
 have HT:=H hT
 have ki:=hT.root
 have pu:=tm_lt hT
 by_cases jO:S.root = 0
 ·have ht:=hi.rep
  rw [jO] at ht ki
  obtain rfl:=rep_nil ht
  have HF:Hid (frOf (quOf true seq) = .tuple #[zOdv,.bool false]):=by show _ = _; rw [← hou]; rfl
  clear hi hq qb hou hT ht qP
  go_enter Tryz.func166,Tryz.ntmps166
  go_wp2_with fail
  go_returns
  refine ⟨by rw [U HF]; rfl,?_⟩
  go_grown
 ·have xD:t ≠ .nil:=by rintro rfl; exact jO hi.rep
  have HI:=H hi
  have HQ:=H hq
  have HOU:=H hou
  have HH:=H qP
  have HNE:=H xD
  have hr0':¬ ((S.root:Int) = 0):=by omega
  clear hi hq qb hou hT qP xD
  go_enter Tryz.func166,Tryz.ntmps166
  go_wp2_with fail
  go_loopg [4] (t.hs.length) (fun k p wr=>FrI_b S t.hs.head? (w.alloc (L (yx 0 0 0 0 0 ⟨#[]⟩).toArray 78)) k p wr)
  case atStart=>exact ⟨t,S.root,rfl,(U HI).rep,U HNE,rfl,Nat.le_refl _,U HH,rfl⟩
  case round =>
   obtain ⟨t1,v,rfl,N,Y,h3,h4,h5,rfl⟩:=hrel
   obtain ⟨b1,b2,b3⟩:=best_b N Y
   have hv21:=h5 v b1
   have hv21':(v:Int) < 21:=by omega
   have oe:=bD (U HT) (Below.heap_alloc w (L (yx 0 0 0 0 0 ⟨#[]⟩).toArray 78) b pu)
   obtain ⟨-,-,-,-,n4,-,n6,-⟩:=zQ (oe.nd v hv21)
   have H3:=H h3
   have H4:=H h4
   have H5:=H h5
   by_cases jF:(S.nd v).be = 0
   ·have oV:=b2 jF
    rw [h3] at oV
    have hvm:v ∈ t.hs:=List.mem_of_head? oV
    have hQ:=(U HQ).q v hvm
    obtain ⟨e,rest,hqs⟩:∃ e rest,qs seq (S.nd v).ticks = e :: rest:=by
     cases hqq:qs seq (S.nd v).ticks with
     | nil=>exact absurd hqq hQ.ne
     | cons e rest=>exact ⟨e,rest,rfl⟩
    have hch:=hQ.chain
    rw [hqs] at hch
    obtain ⟨he,he0,-⟩:=hch
    have he21:e < 21:=by
     have:=(bW (S.nd v).ticks seq 1 e (by have h:e ∈ qs seq (S.nd v).ticks:=(by rw [hqs]; simp); exact h)).2.1
     omega
    have he21':(e:Int) < 21:=by omega
    have HF:Hid (frOf (quOf true seq) = .tuple #[(S.qo e).od.val,.bool true]):=by
     show _ = _
     rw [← U HOU]
     obtain ⟨tl,htl⟩:∃ tl,t.hs = v :: tl:=by
      cases hh:t.hs with
      | nil=>rw [hh] at oV; simp at oV
      | cons a r=>rw [hh] at oV; simp at oV; rw [oV]; exact ⟨r,rfl⟩
     rw [htl,List.flatMap_cons,hqs]
     rfl
    obtain ⟨q0,q1,q2,q3,q4,q5,-⟩:=dR (oe.qo e he21)
    rw [he] at n6
    rw [jF] at n4
    clear N Y h3 h4 h5 b1 b2 b3 oe oV hvm hQ hqs he jF
    go_wp2_with fail
    go_region
    go_wp2_with fail
    go_returns
    refine ⟨by rw [U HF]; rfl,?_⟩
    go_grown
   ·obtain ⟨l,l1,l2,l3,l4,l5⟩:=b3 jF
    have hbe':¬ (((S.nd v).be:Int) = 0):=by omega
    have HL:Hid (Rep S.nd l (S.nd v).be∧l ≠ .nil∧l.hs.head? = t1.hs.head?∧l.hs.length < t1.hs.length∧∀ a ∈ l.hs,a ∈ t1.hs):=⟨l1,l2,l3,l4,l5⟩
    clear N Y h3 h4 h5 b1 b2 b3 oe l1 l2 l3 l4 l5 jF
    go_wp2_with fail
    go_roundg (l.hs.length)
    case measure=>have:=U H4; have:=(U HL).2.2.2.1; omega
    case rel=>exact ⟨l,_,rfl,(U HL).1,(U HL).2.1,(U HL).2.2.1.trans (U H3),Nat.le_refl _,fun a ha=>U H5 a ((U HL).2.2.2.2 a ha),rfl⟩
def bE (b:Nat):Value:=.agg #[.func (.func 166) #[J b 0] #[],.func (.func 167) #[J b 0] #[],.func (.func 168) #[J b 0] #[]]
theorem ask_b (b:Nat) (w:World) :
  Calls Tryz.prog 128 #[J b 0] w fun e w'=>e = yn (bE b)∧yp w w':=by
 have hmf:∀ (fn:Fn) (first cap:Array Value) (w:World),(Instr.makeFunc fn first cap).run Tryz.prog w = .ok (.func fn first cap) w:=fun _ _ _ _=>rfl
 go_enter Tryz.func128,Tryz.ntmps128
 go_wp2_with fail
 go_returns
 refine ⟨rfl,?_⟩
 go_grown
theorem better_s (a c:Int) (w:World) :
  Calls Tryz.prog 237 #[.agg #[],I a,I c] w fun e w'=>e = yn (.bool (decide (a < c)))∧w.grownBy w' none:=by
 go_enter Tryz.func237,Tryz.ntmps237
 go_wp2_with fail
 go_ret
 exact ⟨rfl,World.grownBy_alloc _ _ _⟩
theorem method_s (w:World):Sem.run Tryz.prog (method 399 166 (.agg #[]) "loop.example/g00092/impl.better") w = .ok (237,.agg #[]) w:=by kernel_rfl
theorem part_s {w:World} {b:Nat} (h:∃ xF,w.heap[b]? = some (.cells xF 204 (0,0))):Sem.run Tryz.prog (partAt (Q b 0) 0 0) w = .ok (Q b 0) w:=by
 obtain ⟨xF,h⟩:=h
 have hc:Tryz.prog.cellsOf 204 = 318:=by kernel_rfl
 have hy:byteOfCell Tryz.prog Tryz.prog.depth 204 0 = some 0:=by kernel_rfl
 have hs:w.shape? b = some (204,xF.size):=by simp [World.shape?,h]
 simp [partAt,byteOf,noView,viewAt,hs,hc,hy]
theorem levelFor_s (b:Nat) (S:TS) (t:Tr) (o:Od) (w:World) (hT:TM 204 w b S) (hi:TI false S t) (qb:S.lc < 20) :
  Calls Tryz.prog 198 #[J b 0,.agg (yx o.id o.side o.ticks o.left o.life o.tag).toArray] w fun e w' =>
   ∃ (h:Nat),e = yn (I h)∧LFEnd false 204 b S t o w h w':=by
 have HT:=H hT
 have HI:=H hi
 clear hT hi
 go_enter Tryz.func198,Tryz.ntmps198
 go_wp2_with fail
 have HW:Hid (∃ W,W = (w.alloc (L (yx o.id o.side o.ticks o.left o.life o.tag).toArray 78))∧W.rangeAt w.heap.size 0 o.vs∧TM 204 W b S∧w.grownBy W (some b)∧w.heap.size < W.heap.size∧b ≠ w.heap.size) :=
  ⟨_,rfl,zn w o.vs _,bD (U HT) (Below.heap_alloc w _ _ (tm_lt (U HT))),World.grownBy_alloc _ _ _,by rw [zj]; omega,by have:=tm_lt (U HT); omega⟩
 obtain ⟨W,hW,hWW⟩:=U HW
 rw [← hW]
 have pM:=H hWW
 clear hW hWW HW HT
 go_loopg [5] (t.hs.length) (fun k p wr=>LFI false b S t o.ticks W k p wr)
 case atStart=>exact ⟨[],t,rfl,Nat.le_refl _,way_start (U HI) _,yS _ _⟩
 case round =>
  obtain ⟨c,u,rfl,hk,hw,hg⟩:=hrel
  have jX:=H hw
  have HG:=H hg
  have HK:=H hk
  have hT:=dT (U pM).2.1 hg (by simp)
  have c0:=cur_cell hT (zW c) (cur_ok (U HI) hw qb)
  obtain ⟨o0,o1,o2,o3,o4,o5⟩:=zB (zx (U pM).1 hg (U pM).2.2.2.1 (by simp))
  clear hk hw hg
  by_cases ha:S.rd (zW c) = 0
  ·have jO:=hT.lc
   have hf:=hT.fr
   have HA0:=H ha
   rw [ha] at c0
   have hlc':(S.lc:Int) < 20:=by omega
   have e1:((S.lc + 1:Nat):Int) = (S.lc:Int) + 1:=by omega
   have vu:=cur_ok (U HI) (U jX) qb
   have t1:=tm_lc hT (S.lc + 1)
   have t2:=tm_cur t1 (zW c) vu (S.lc + 1)
   rw [e1] at t1 t2
   have d2:_ = _:=(cur_cell t1 (zW c) vu).trans (congrArg (fun x:Nat=>some (I x)) (show TS.rd _ (zW c) = 0 from by rw [← ha]; cases (zW c) <;> rfl))
   have d3:_ = _:=t2.lc
   rw [(wr_same _ _ _).1] at d3
   simp only [e1] at d3
   have g1:=t1.fr
   have g2:=t2.fr
   obtain ⟨n0,n1,n2,n3,-⟩:=zQ (t2.nd (S.lc + 1) (by omega))
   have E:b ≠ w.heap.size:=(U pM).2.2.2.2
   have p1:((wr.setCell (Q b 1) (I ((S.lc:Int) + 1))).setCell (Q b ((zW c).off)) (I ((S.lc:Int) + 1))).cell? (yr w (0 + 1)) = some (I o.side):=by
    rw [yM _ _ _ _ (fun e=>E (congrArg Addr.block e)),yM _ _ _ _ (fun e=>E (congrArg Addr.block e))]; exact o1
   have p2:((wr.setCell (Q b 1) (I ((S.lc:Int) + 1))).setCell (Q b ((zW c).off)) (I ((S.lc:Int) + 1))).cell? (yr w (0 + 2)) = some (I o.ticks):=by
    rw [yM _ _ _ _ (fun e=>E (congrArg Addr.block e)),yM _ _ _ _ (fun e=>E (congrArg Addr.block e))]; exact o2
   have ux:=H t2
   have HB:=H E
   clear ha hT t1 t2 vu E
   go_wp2_with fail
   have ut:Hid (wr.grownBy ((wr.setCell (Q b 1) (I ((S.lc:Int) + 1))).setCell (Q b ((zW c).off)) (I ((S.lc:Int) + 1))) (some b)):=zR (zR (yS _ _) _ _) _ _
   generalize hW4:((wr.setCell (Q b 1) (I ((S.lc:Int) + 1))).setCell (Q b ((zW c).off)) (I ((S.lc:Int) + 1))) = W4 at *
   rw [← e1] at d3
   obtain ⟨m,hm⟩:∃ m,m = S.lc + 1:=⟨_,rfl⟩
   rw [← hm] at d3 n0 n1 n2 n3
   have hm21:(m:Int) < 21:=by omega
   have HM:=H hm
   clear hW4 hm e1 d2 jO hf g1 c0 o0 o1 o2 o3 o4 o5 hlc'
   go_region
   have t3:=U ux
   have t4:=aZ t3 (S.lc + 1) 0 (by omega) (by omega) (I o.side) { (TS.nd _ (S.lc + 1)) with side:=o.side } rfl _ rfl
   have t5:=aZ t4 (S.lc + 1) 1 (by omega) (by omega) (I o.ticks) { (TS.nd _ (S.lc + 1)) with ticks:=o.ticks } rfl _ rfl
   have t6:=aZ t5 (S.lc + 1) 2 (by omega) (by omega) (I 0) { (TS.nd _ (S.lc + 1)) with qty:=0 } rfl _ rfl
   have t7:=aZ t6 (S.lc + 1) 3 (by omega) (by omega) (I 0) { (TS.nd _ (S.lc + 1)) with count:=0 } rfl _ rfl
   have jz:=H (gr_drew (zR (zR (zR (zR (U ut) (2 + m * 8) (I o.side)) (2 + m * 8 + 1) (I o.ticks)) (2 + m * 8 + 2) (I 0)) (2 + m * 8 + 3) (I 0)))
   rw [← U HM] at t7
   simp only [cL,zr] at t7
   have hS:_ = S.grow (zW c) o.side o.ticks:=grow_eq S (zW c) o m (U HM)
   rw [hS] at t7
   have d7:_ = some (I (m:Int)):=t7.lc.trans (by rw [U HM]; rfl)
   have HT7:=H t7
   clear t3 t4 t5 t6 t7 n0 n1 n2 n3 d3 p1 p2
   generalize (((W4.setCell (Q b (2 + m * 8)) (I o.side)).setCell (Q b (2 + m * 8 + 1)) (I o.ticks)).setCell (Q b (2 + m * 8 + 2)) (I 0)).setCell (Q b (2 + m * 8 + 3)) (I 0) = W7 at *
   go_wp2_with fail
   go_ret
   exact ⟨m,rfl,_,bD (U HT7) rfl,(U pM).2.2.1.trans (((U HG).but _).trans (U jz)),.inr ⟨c,u,U jX,U HA0,U HM,rfl⟩⟩
  ·have ham:=way_at (U jX) rfl ha
   have har:=(U HI).range _ ham
   obtain ⟨a,oh⟩:∃ a,a = S.rd (zW c):=⟨_,rfl⟩
   rw [← oh] at c0 ha ham har
   have HAE:=H oh
   have ha':¬ ((a:Int) = 0):=by omega
   have ha21:(a:Int) < 21:=by omega
   obtain ⟨n0,n1,n2,n3,n4,n5,n6,n7⟩:=zQ (hT.nd a (by omega))
   have HTM:=H hT
   have hpt:∀ w',wr.grownBy w' none→Sem.run Tryz.prog (partAt (Q b 0) 0 0) w' = .ok (Q b 0) w':=fun w' h=>part_s (dT (U HTM) h (by simp)).obj
   have HPT:=H hpt
   have HN1:=H (fun w' (h:wr.grownBy w' none)=>h.cell n1 (by simp))
   have jA:=H (fun w' (h:wr.grownBy w' none)=>h.cell o2 (by simp))
   clear oh hT hpt
   go_wp2_with fail
   go_quiet (fail)
   go_wp2_with fail
   refine dG (W:=wr) (by kernel_rfl) (by kernel_rfl) ⟨rfl,rfl,rfl,Nat.le_refl _,fun _ _ _=>rfl⟩ ?_
   iterate 12 (
    refine bx (v:=?_) ?_ ?_ ?_
    rotate_left
    ·rfl
    ·intro w' un
     have f1:=U HN1 w' un
     have f2:=U jA w' un
     have f3:=U HPT w' un
     go_simp
     try rfl
    intro zb hK
    go_simp
    refine hK _ ?_
    clear hK zb)
   refine bx (v:=.bool (decide (o.ticks < (S.nd a).ticks))) ?_ ?_ ?_
   ·rfl
   ·intro w' un
    have hm:=method_s w'
    go_simp
    refine (better_s _ _ _).mono ?_
    rintro e w3 ⟨rfl,uD⟩
    exact ⟨rfl,un.trans uD⟩
   intro zb hK
   go_simp
   refine hK _ ?_
   clear hK zb
   refine bx (v:=?_) ?_ ?_ ?_
   rotate_left
   ·rfl
   ·intro w' un
    go_simp
    try rfl
   intro zb hK
   go_simp
   refine hK _ ?_
   clear hK zb
   refine wpQuiet_nil ?_
   intro w2 uZ
   have ug:=H uZ
   clear uZ
   by_cases N:o.ticks < (S.nd a).ticks
   ·have pp:decide (o.ticks < (S.nd a).ticks) = true:=by simpa using N
    go_wp2_with fail
    obtain ⟨l,r,rfl,hw2⟩:=way_be (U HI) (U jX) (U HAE).symm ha N
    go_roundg (l.hs.length)
    case measure=>have:=U HK; simp [Tr.hs] at this; omega
    case rel=>exact ⟨_,l,rfl,Nat.le_refl _,hw2,(U HG).trans (U ug)⟩
   ·have pp:decide (o.ticks < (S.nd a).ticks) = false:=by simpa using N
    go_wp2_with fail
    refine dG (W:=wr) (by kernel_rfl) (by kernel_rfl) (U ug) ?_
    iterate 12 (
     refine bx (v:=?_) ?_ ?_ ?_
     rotate_left
     ·rfl
     ·intro w' un
      have f1:=U HN1 w' un
      have f2:=U jA w' un
      have f3:=U HPT w' un
      go_simp
      try rfl
     intro zb hK
     go_simp
     refine hK _ ?_
     clear hK zb)
    refine bx (v:=.bool (decide ((S.nd a).ticks < o.ticks))) ?_ ?_ ?_
    ·rfl
    ·intro w' un
     have hm:=method_s w'
     go_simp
     refine (better_s _ _ _).mono ?_
     rintro e w3 ⟨rfl,uD⟩
     exact ⟨rfl,un.trans uD⟩
    intro zb hK
    go_simp
    refine hK _ ?_
    clear hK zb
    refine bx (v:=?_) ?_ ?_ ?_
    rotate_left
    ·rfl
    ·intro w' un
     go_simp
     try rfl
    intro zb hK
    go_simp
    refine hK _ ?_
    clear hK zb
    refine wpQuiet_nil ?_
    intro w3 uD
    have vi:=H uD
    clear uD
    by_cases Y:(S.nd a).ticks < o.ticks
    ·have oE:decide ((S.nd a).ticks < o.ticks) = true:=by simpa using Y
     go_wp2_with fail
     obtain ⟨l,r,rfl,hw2⟩:=way_wo (U HI) (U jX) (U HAE).symm ha Y
     go_roundg (r.hs.length)
     case measure=>have:=U HK; simp [Tr.hs] at this; omega
     case rel=>exact ⟨_,r,rfl,Nat.le_refl _,hw2,(U HG).trans (U vi)⟩
    ·have oE:decide ((S.nd a).ticks < o.ticks) = false:=by simpa using Y
     have c3:=(U vi).cell c0 (by simp)
     go_wp2_with fail
     go_ret
     have hG:=(U HG).trans (U vi)
     exact ⟨a,rfl,S,dT (U pM).2.1 hG (by simp),(U pM).2.2.1.trans (hG.but _),.inl ⟨ham,by omega,rfl⟩⟩
theorem add_s (b:Nat) (sd:Int) (seq:List Od) (o:Od) (w:World) (h:aV 204 false w b sd seq) (uS:o.side = sd) (hn:seq.length < 20) (hl:∀ o' ∈ seq,0 ≤ o'.left∧o'.left ≤ 1000000) (hlo:0 ≤ o.left∧o.left ≤ 1000000) :
  Calls Tryz.prog 173 #[J b 0,.agg (yx o.id o.side o.ticks o.left o.life o.tag).toArray] w fun e w' =>
   e = yn (.tuple #[])∧aV 204 false w' b sd (seq ++ [o])∧w.grownBy w' (some b):=by
 obtain ⟨S,t,hT,hi,hq,qb⟩:=h
 have HI:=H hi
 have HQ:=H hq
 have HT:=H hT
 have HLC:=H qb
 have HL:=H hl
 have HSD:=H uS
 have HOC:=H hq.oc
 have hoc':(S.oc:Int) < 20:=by have:=hq.oc; omega
 have e1:((S.oc + 1:Nat):Int) = (S.oc:Int) + 1:=by omega
 have E:b ≠ w.heap.size:=by have:=tm_lt hT; omega
 have kh:World.rangeAt (w.alloc (L (yx o.id o.side o.ticks o.left o.life o.tag).toArray 78)) w.heap.size 0 o.vs:=zn w o.vs 78
 have oe:TM 204 (w.alloc (L (yx o.id o.side o.ticks o.left o.life o.tag).toArray 78)) b S:=bD hT (Below.heap_alloc w _ _ (tm_lt hT))
 have c1:=oe.oc
 have f1:=oe.fr
 have hT1:=tm_oc oe (S.oc + 1)
 have hR1:Hid (World.rangeAt (World.setCell (w.alloc (L (yx o.id o.side o.ticks o.left o.life o.tag).toArray 78)) (Q b 170) (I ((S.oc + 1:Nat):Int))) w.heap.size 0 o.vs):=fun j u hu=>by
  rw [yM _ _ _ _ (fun e=>E (congrArg Addr.block e))]; exact kh j u hu
 have hG1:Hid (w.grownBy (World.setCell (w.alloc (L (yx o.id o.side o.ticks o.left o.life o.tag).toArray 78)) (Q b 170) (I ((S.oc + 1:Nat):Int))) (some b)):=zR (World.grownBy_alloc w (L (yx o.id o.side o.ticks o.left o.life o.tag).toArray 78) _) _ _
 have jd:=H hT1
 have xK:Hid (w.heap.size < (World.heap (World.setCell (w.alloc (L (yx o.id o.side o.ticks o.left o.life o.tag).toArray 78)) (Q b 170) (I ((S.oc + 1:Nat):Int)))).size):=(by
  have:=yL _ _ (hR1 0 _ rfl)
  exact this)
 clear hi hq qb hl uS hT oe kh hT1
 go_enter Tryz.func173,Tryz.ntmps173
 go_wp2_with fail
 rw [← e1]
 have em:∃ m,m = S.oc + 1:=⟨_,rfl⟩
 obtain ⟨m,hm⟩:=em
 rw [← hm] at hR1 hG1 jd xK ⊢
 generalize hW1:World.setCell (w.alloc (L (yx o.id o.side o.ticks o.left o.life o.tag).toArray 78)) (Q b 170) (I (m:Int)) = W1 at hR1 hG1 jd xK ⊢
 have HM:=H hm
 have hm21:(m:Int) < 21:=by omega
 obtain ⟨o0,o1,o2,o3,o4,o5⟩:=zB (U hR1)
 obtain ⟨q0,q1,q2,q3,q4,q5,q6⟩:=dR ((U jd).qo m (by omega))
 have f2:=(U jd).fr
 have oX:S.lc < 20:=by have:=U HLC; omega
 have HB:=H E
 clear hW1 hm e1 c1 f1 hoc' E
 go_region
 have ux:=H (tm_put (U jd) m (by omega) o)
 have ug:=H (gr_put (w:=W1) (b:=b) o m)
 generalize hW2:(((((((W1.setCell (Q b (171 + m * 7)) (I o.id)).setCell (Q b (171 + m * 7 + 1)) (I o.side)).setCell (Q b (171 + m * 7 + 2)) (I o.ticks)).setCell (Q b (171 + m * 7 + 3)) (I o.left)).setCell
   (Q b (171 + m * 7 + 4)) (I o.life)).setCell (Q b (171 + m * 7 + 5)) (yl o.tag)).setCell (Q b (171 + m * 7 + 6)) (I 0)) = W2 at ux ug ⊢
 clear hW2 o0 o1 o2 o3 o4 o5 q0 q1 q2 q3 q4 q5 q6 f2
 rw [show ({ root:=S.root,lc:=S.lc,oc:=m,nd:=S.nd,qo:=upd S.qo m ⟨o,0⟩ }:TS) = S.lay o from by rw [U HM]; rfl] at ux
 have hR2:=H (zx (U hR1) (U ug) (U xK) (fun e=>U HB (Option.some.inj e).symm))
 obtain ⟨o0,o1,o2,o3,o4,o5⟩:=zB (U hR2)
 have HTI:=H (ti_lay o (U HI))
 have HT2d:Hid (TM 204 W2.drew.drew b (S.lay o)):=bD (U ux) rfl
 go_wp2_with fail
 go_region_with (go_at_call 198; refine (levelFor_s b (S.lay o) t o W2.drew.drew (U HT2d) (U HTI) oX).mono ?_; rintro e W3 ⟨h,rfl,vk⟩; have HE:=H vk; have qP:(h:Int) < 21:=lf_lt vk (U HTI) oX; clear vk)
 obtain ⟨S3,hT3,uD,qm⟩:=U HE
 rw [← U HSD] at HQ
 obtain ⟨r1,r2,r3,r4,r5,t',r6,r7⟩:=add_ready (U HI) (U HQ) qm
 have R4:=H r4
 have R6:=H r6
 have R7:=H r7
 have R23:Hid ((0:Int) ≤ (S3.nd h).qty∧(S3.nd h).qty ≤ 20000000∧(0:Int) ≤ (S3.nd h).count∧(S3.nd h).count ≤ 20):=by
  have E:=sumL_bound (atK seq o.ticks) (fun o' vM=>U HL o' (List.mem_filter.1 vM).1)
  have qj:(atK seq o.ticks).length ≤ seq.length:=List.length_filter_le _ _
  rw [r2,r3]
  refine ⟨E.1,?_,by omega,by omega⟩
  have:=E.2
  have h20:((atK seq o.ticks).length:Int) ≤ 20:=by omega
  omega
 have js:=H hT3
 have vi:Hid (W2.grownBy W3 (some b)):=⟨uD.os,uD.tape,uD.output,uD.size,uD.block⟩
 have hR3:=H (zx (U hR2) (U vi) (yK (U xK) (U ug).size) (fun e=>U HB (Option.some.inj e).symm))
 have hy21:(S3.nd h).yo < 21:=by omega
 have pV:m = 1 + seq.length:=by have:=U HM; have:=U HOC; omega
 have au:=H pV
 clear hT3 uD qm r1 r2 r3 r4 r5 r6 r7 o0 o1 o2 o3 o4 o5 pV HE
 have xQ:=(U js).fr
 obtain ⟨n0,n1,n2,n3,n4,n5,n6,n7⟩:=zQ ((U js).nd h (by omega))
 have qh:h < 21:=by omega
 clear n0 n1 n2 n3 n4 n5
 by_cases hy:(S3.nd h).yo = 0
 ·have t5:=aZ (U js) h 6 qh (by omega) (I m) { S3.nd h with el:=m } rfl _ rfl
  have t6:=aZ t5 h 7 qh (by omega) (I m) { (TS.nd _ h) with yo:=m } rfl _ rfl
  simp only [cL,zr] at t6
  obtain ⟨-,-,-,-,-,-,-,k7⟩:=zQ (t5.nd h qh)
  have f5:=t5.fr
  rw [hy] at n7
  have qD:=H (zR (zR (yS W3 (some b)) (2 + h * 8 + 6) (I m)) (2 + h * 8 + 7) (I m))
  have kt:=H t6
  clear t5 t6
  go_wp2_with fail
  generalize hW6:(W3.setCell (Q b (2 + h * 8 + 6)) (I m)).setCell (Q b (2 + h * 8 + 7)) (I m) = W6 at qD kt ⊢
  clear js hW6
  have f6:=(U kt).fr
  obtain ⟨-,-,m2,m3,-⟩:=zQ ((U kt).nd h qh)
  simp only [zr] at m2 m3
  have hR6:=zx (U hR3) (U qD) (yK (U xK) (yO (U ug).size (U vi).size)) (fun e=>U HB (Option.some.inj e).symm)
  obtain ⟨-,-,-,x3,-⟩:=zB hR6
  obtain ⟨b1,b2,b3,b4⟩:=U R23
  have t7:=aZ (U kt) h 2 qh (by omega) (I ((S3.nd h).qty + o.left)) { (TS.nd _ h) with qty:=(S3.nd h).qty + o.left } rfl _ rfl
  have t8:=aZ t7 h 3 qh (by omega) (I ((S3.nd h).count + 1)) { (TS.nd _ h) with count:=(S3.nd h).count + 1 } rfl _ rfl
  obtain ⟨-,-,-,y3,-⟩:=zQ (t7.nd h qh)
  have f7:=t7.fr
  simp only [cL,zr] at t8 y3
  have pK:=H t8
  have HG8:=H (zR (zR (yS W6 (some b)) (2 + h * 8 + 2) (I ((S3.nd h).qty + o.left))) (2 + h * 8 + 3) (I ((S3.nd h).count + 1)))
  have ag:wrap64 ((S3.nd h).qty + o.left) = (S3.nd h).qty + o.left:=by unfold wrap64; omega
  clear t7 t8 hR6
  go_region
  try simp only [IntKind.wrap_i64]
  try rw [show (IntKind.i64.wrap ((S3.nd h).qty + o.left)) = (S3.nd h).qty + o.left from by rw [IntKind.wrap_i64]; exact ag]
  generalize hW7:W6.setCell (Q b (2 + h * 8 + 2)) (I ((S3.nd h).qty + o.left)) = W7 at *
  go_wp2_with fail
  go_end0
  have HS8:Hid (_ = S3.link h m o.left):=link_eq0 S3 h m o.left hy
  rw [U HS8] at pK
  rw [U au] at pK
  refine ⟨rfl,?_,?_⟩
  ·rw [← U HSD]
   refine ⟨_,t',bD (U pK) rfl,U R6,U R7,?_⟩
   have N:=U R4
   have Y:=U HLC
   show S3.lc ≤ _
   simp; omega
  ·exact cE (((((U hG1).trans (U ug)).trans (U vi)).trans (U qD)).trans (U HG8)) rfl rfl rfl rfl
 ·have t5:=tm_qo (U js) (S3.nd h).yo 6 hy21 (by omega) (I m) { S3.qo (S3.nd h).yo with yg:=m } rfl _ rfl
  have t6:=aZ t5 h 7 qh (by omega) (I m) { (TS.nd _ h) with yo:=m } rfl _ rfl
  obtain ⟨-,-,-,-,-,-,-,k7⟩:=zQ (t5.nd h qh)
  obtain ⟨-,-,-,-,-,-,q6⟩:=dR ((U js).qo (S3.nd h).yo hy21)
  have f5:=t5.fr
  have hyi:((S3.nd h).yo:Int) < 21:=by omega
  have hy0:¬ (((S3.nd h).yo:Int) = 0):=by omega
  have qD:=H (zR (zR (yS W3 (some b)) (171 + (S3.nd h).yo * 7 + 6) (I m)) (2 + h * 8 + 7) (I m))
  have kt:=H t6
  clear t5 t6
  go_wp2_with fail
  go_region
  go_wp2_with fail
  generalize hW6:(W3.setCell (Q b (171 + (S3.nd h).yo * 7 + 6)) (I m)).setCell (Q b (2 + h * 8 + 7)) (I m) = W6 at qD kt ⊢
  clear js hW6
  have f6:=(U kt).fr
  obtain ⟨-,-,m2,m3,-⟩:=zQ ((U kt).nd h qh)
  simp only [zr] at m2 m3
  have hR6:=zx (U hR3) (U qD) (yK (U xK) (yO (U ug).size (U vi).size)) (fun e=>U HB (Option.some.inj e).symm)
  obtain ⟨-,-,-,x3,-⟩:=zB hR6
  obtain ⟨b1,b2,b3,b4⟩:=U R23
  have t7:=aZ (U kt) h 2 qh (by omega) (I ((S3.nd h).qty + o.left)) { (TS.nd _ h) with qty:=(S3.nd h).qty + o.left } rfl _ rfl
  have t8:=aZ t7 h 3 qh (by omega) (I ((S3.nd h).count + 1)) { (TS.nd _ h) with count:=(S3.nd h).count + 1 } rfl _ rfl
  obtain ⟨-,-,-,y3,-⟩:=zQ (t7.nd h qh)
  have f7:=t7.fr
  simp only [cL,zr] at t8 y3
  have pK:=H t8
  have HG8:=H (zR (zR (yS W6 (some b)) (2 + h * 8 + 2) (I ((S3.nd h).qty + o.left))) (2 + h * 8 + 3) (I ((S3.nd h).count + 1)))
  have ag:wrap64 ((S3.nd h).qty + o.left) = (S3.nd h).qty + o.left:=by unfold wrap64; omega
  clear t7 t8 hR6
  go_region
  try simp only [IntKind.wrap_i64]
  try rw [show (IntKind.i64.wrap ((S3.nd h).qty + o.left)) = (S3.nd h).qty + o.left from by rw [IntKind.wrap_i64]; exact ag]
  generalize hW7:W6.setCell (Q b (2 + h * 8 + 2)) (I ((S3.nd h).qty + o.left)) = W7 at *
  go_wp2_with fail
  go_end0
  have HS8:Hid (_ = S3.link h m o.left):=link_eq1 S3 h m o.left hy
  rw [U HS8] at pK
  rw [U au] at pK
  refine ⟨rfl,?_,?_⟩
  ·rw [← U HSD]
   refine ⟨_,t',bD (U pK) rfl,U R6,U R7,?_⟩
   have N:=U R4
   have Y:=U HLC
   show S3.lc ≤ _
   simp; omega
  ·exact cE (((((U hG1).trans (U ug)).trans (U vi)).trans (U qD)).trans (U HG8)) rfl rfl rfl rfl
end Go.Proofs.YtnphbkgfjanmgaaGreatDoor
