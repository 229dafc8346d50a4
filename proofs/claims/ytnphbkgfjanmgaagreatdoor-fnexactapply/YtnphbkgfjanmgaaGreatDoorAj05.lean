/-
  The levels of a tree in turn: proved by walking the function.
-/
import Derived.Test.YtnphbkgfjanmgaaGreatDoorAj04
import Derived.Laws.EntriesVeiled
set_option linter.unusedVariables false
set_option maxHeartbeats 6400000
set_option maxRecDepth 100000
namespace Go.Proofs.YtnphbkgfjanmgaaGreatDoor
open Go.RowKit
theorem infoLv_b:(Tryz.prog.info? 193).map (fun i=>(i.zero,i.size,i.bytes)) = some (some (.agg #[I 0,I 0,I 0,I 0]),4,32):=by kernel_rfl
theorem takeR_b {α:Type} (l:List α) (k:Nat) (c:α) (h:l[k]? = some c):l.take (k + 1) = l.take k ++ [c]:=by
 obtain ⟨hk,rfl⟩:=yH.1 h
 rw [List.take_succ_eq_append_getElem hk]
theorem zU {W:World} {B B':Nat} {e:TypeId} {sz:Nat} {v:Value} {n:Nat} {xs:List Value} (h:W.ownsRow B e sz v n xs) (hB:B' ≤ B):W.ownsRow B' e sz v n xs :=
 ⟨h.1,by
  rcases h.2 with N | ⟨g',c',xF,N,Y,h3⟩
  ·exact .inl N
  ·exact .inr ⟨g',c',xF,N,yO hB Y,h3⟩⟩
theorem flat1_b (l:List Nat):(l.flatMap fun h=>[hval_b h]) = l.map hval_b:=by
 induction l with
 | nil=>rfl
 | cons a r ih=>rw [List.flatMap_cons,ih]; rfl
theorem levelsO_b (b:Nat) (sd:Int) (seq:List Od) (w:World) (h:bF 201 true w b sd seq) (hn:seq.length ≤ 20) :
  Calls Tryz.prog 168 #[J b 0] w fun e w' =>
   ∃ v',e = yn v'∧w'.ownsRow w.heap.size 193 4 v' (bE true sd seq).length ((bE true sd seq).flatMap Lv.vs)∧yp w w':=by
 obtain ⟨S,t,hT,hi,hq,qh⟩:=h
 have hlv:=fE hi hq
 rw [← hlv]
 have qZ:∀ a ∈ t.hs,a < 21:=fun a ha=>by have:=(hi.range a ha).2; omega
 have xz:t.hs.length ≤ 20:=by rw [hi.len]; omega
 have HT:=H hT
 have HR:=H hi.rep
 have HH:=H qZ
 have kA:=hT.root
 have pN:=tm_lt hT
 generalize ht:t.hs = hs at *
 have HHS:=H ht
 have HNIL:=H (World.ownsRow_nil w w.heap.size 191 1)
 obtain ⟨i0,vC,uK,uL,uZ⟩:=info_parts infoLv_b
 clear hi hq qh hlv hT qZ ht
 go_enter Tryz.func168,Tryz.ntmps168
 go_wp2_with fail
 refine (ranked_b S b w.heap.size pN t w _ [] S.root (U HT) (U HR) (by rw [U HHS]; exact U HH) yb (U HNIL) (by rw [U HHS]; simp; omega)).mono ?_
 rintro e w1 ⟨v1,rfl,oa,ul⟩
 rw [List.nil_append,U HHS] at oa
 have uf:=H ul
 have HOR:=H (dP (f:=fun h=>[hval_b h]) (fun _=>rfl) (by omega) (show w1.ownsRow w.heap.size 191 1 v1 hs.length (hs.flatMap fun h=>[hval_b h]) by rw [flat1_b]; exact oa))
 obtain ⟨a,cap,rfl,_,hc⟩:=U HOR
 have xr:∀ k h,hs[k]? = some h→∃ g,a = some (D g 0)∧g < w1.heap.size∧w1.cell? (D g (0 + k * 1 + 0)) = some (I (h:Nat)):=fun k h hk=>by
  obtain ⟨g,N,_,h3,h4,_⟩:=hc (by intro e; rw [e] at hk; simp at hk)
  exact ⟨g,N,h3,h4 k h hk 0 _ rfl⟩
 have HC:=H xr
 clear oa ul hc xr kA
 go_wp2_with fail
 have ul:=(U uf).size
 go_loopw [3,13] (fun ov iv wr=>∃ (k:Nat) (done:List Lv),k ≤ hs.length∧iv = I k∧Hid (done = (hs.map fun h=>(S.nd h).lv).take k)∧wr.ownsRow w1.heap.size 193 4 ov done.length (done.flatMap Lv.vs)∧yp w1 wr) (fun _ iv _=>hs.length - (intOf iv).toNat)
 case atStart=>exact ⟨0,[],Nat.zero_le _,rfl,by simp [Hid],World.ownsRow_nil _ _ _ _,Below.refl _ _⟩
 case round =>
  obtain ⟨k,done,hk,rfl,hd,xS,xl⟩:=hrel
  have HOW:=H xS
  have HB:=H xl
  have ba:done.length = k:=by rw [U hd,List.length_take,List.length_map]; omega
  clear xS xl
  by_cases xI:k < hs.length
  ·obtain ⟨h,hkh⟩:∃ h,hs[k]? = some h:=⟨_,yI xI⟩
   have jV:Hid ((hs.map fun h=>(S.nd h).lv)[k]? = some (S.nd h).lv):=by show _ = _; rw [List.getElem?_map,hkh]; rfl
   obtain ⟨g,rfl,hg,F⟩:=U HC k h hkh
   have qr:=U HH h (yP hkh)
   have h21':(h:Int) < 21:=by omega
   have qz:=((U HB).cell (p:=(D g (0 + k * 1 + 0))) hg).trans F
   rw [show 0 + k * 1 + 0 = k by omega] at qz
   have hTr:=dS (U HT) ((U uf).trans ((U HB).mono ul)) pN
   obtain ⟨n0,n1,n2,n3,-⟩:=zS (hTr.nd h qr)
   have uF:(k:Int) < hs.length:=by omega
   have hsr:=(U HB).size
   clear hkh F hTr hg
   go_wp2_with (at_builtin; go_must (refine wpList_append_own _ rfl _ _ 169 rfl w1.heap.size 193 i0 _ 4 32 Tryz.underlying169 vC uK uL uZ rfl (by decide) _ done.length (done.flatMap Lv.vs) rfl ((U HOW).alloc _) (yr wr 0) 1 1 (S.nd h).lv.vs rfl rfl (cellsH_b wr _ _) (by simp [Value.oneCell',Lv.vs,Nd.lv]) (by unfold maxLen; omega) (by omega) (by simp; omega) ?_); intro v4 w4 og kZ _)
   go_roundw
   case rel =>
    refine ⟨k + 1,done ++ [(S.nd h).lv],by omega,by go_num,?_,?_,?_⟩
    ·show done ++ [(S.nd h).lv] = _
     rw [takeR_b _ k _ (U jV),← U hd]
    ·simpa using og
    ·exact ((U HB).alloc hsr _).grown kZ (by simp; omega) fun k hk=>((U HOW).lt k hk).1
   case measure=>simp [intOf]; omega
  ·go_wp2_with fail
   go_ret
   have h:=U hd
   rw [xa (by rw [List.length_map]; omega)] at h
   subst h
   exact ⟨_,rfl,zU (U HOW) ul,(U uf).trans ((U HB).mono ul)⟩
theorem levels_b (b:Nat) (sd:Int) (seq:List Od) (w:World) (h:bF 201 true w b sd seq) (hn:seq.length ≤ 20) :
  Calls Tryz.prog 168 #[J b 0] w fun e w' =>
   ∃ v',e = yn v'∧OwnR Lv.vs 4 w.heap.size w' v' (bE true sd seq)∧yp w w':=by
 have xz:(bE true sd seq).length ≤ 20:=by
  obtain ⟨S,t,hT,hi,hq,qh⟩:=h
  rw [← fE hi hq,List.length_map,hi.len]; omega
 refine (levelsO_b b sd seq w h hn).mono ?_
 rintro e w' ⟨v',rfl,Z,Q⟩
 exact ⟨v',rfl,dP Lv.len (by omega) Z,Q⟩
theorem best_b {S:TS}:∀ {t:Tr} {v:Nat},Rep S.nd t v→t ≠ .nil→v ∈ t.hs∧((S.nd v).be = 0→t.hs.head? = some v)∧((S.nd v).be ≠ 0→∃ l,Rep S.nd l (S.nd v).be∧l ≠ .nil∧l.hs.head? = t.hs.head?∧l.hs.length < t.hs.length∧∀ a ∈ l.hs,a ∈ t.hs)
 | .nil,_,_,h=>absurd rfl h
 | .node h l r,v,⟨e,h0,N,Y⟩,_=>by
  subst e
  refine ⟨by simp [Tr.hs],fun Q=>?_,fun Q=>⟨l,N,?_,?_,?_,fun a ha=>by simp [Tr.hs,ha]⟩⟩
  ·rw [Q] at N; obtain rfl:=rep_nil N; rfl
  ·rintro rfl; exact Q N
  ·cases l with
   | nil=>exact absurd N Q
   | node a l' r'=>simp [Tr.hs]
  ·simp [Tr.hs]
def FrI_b (S:TS) (hd:Option Nat) (w0:World) (k:Nat) (p:Value) (wr:World):Prop:=∃ (t:Tr) (v:Nat),p = I v∧Rep S.nd t v∧t ≠ .nil∧t.hs.head? = hd∧t.hs.length ≤ k∧(∀ a ∈ t.hs,a < 21)∧w0 = wr
theorem front_b (b:Nat) (sd:Int) (seq:List Od) (w:World) (h:bF 201 true w b sd seq) (hn:seq.length ≤ 20) :
  Calls Tryz.prog 166 #[J b 0] w fun e w'=>e = yn (frOf (quOf true seq))∧yp w w':=by
 obtain ⟨S,t,hT,hi,hq,qh⟩:=h
 have hou:=tree_orders hi hq
 have qZ:∀ a ∈ t.hs,a < 21:=fun a ha=>by have:=(hi.range a ha).2; omega
 have HT:=H hT
 have kA:=hT.root
 have pN:=tm_lt hT
 by_cases jZ:S.root = 0
 ·have ht:=hi.rep
  rw [jZ] at ht kA
  obtain rfl:=rep_nil ht
  have HF:Hid (frOf (quOf true seq) = .tuple #[zOdv,.bool false]):=by show _ = _; rw [← hou]; rfl
  clear hi hq qh hou hT ht qZ
  go_enter Tryz.func166,Tryz.ntmps166
  go_wp2_with fail
  go_returns
  refine ⟨by rw [U HF]; rfl,?_⟩
  go_grown
 ·have xA:t ≠ .nil:=by rintro rfl; exact jZ hi.rep
  have HI:=H hi
  have HQ:=H hq
  have HOU:=H hou
  have HH:=H qZ
  have HNE:=H xA
  have hr0':¬ ((S.root:Int) = 0):=by omega
  clear hi hq qh hou hT qZ xA
  go_enter Tryz.func166,Tryz.ntmps166
  go_wp2_with fail
  go_loopg [4] (t.hs.length) (fun k p wr=>FrI_b S t.hs.head? (w.alloc (A (yx 0 0 0 0 0 ⟨#[]⟩).toArray 78)) k p wr)
  case atStart=>exact ⟨t,S.root,rfl,(U HI).rep,U HNE,rfl,Nat.le_refl _,U HH,rfl⟩
  case round =>
   obtain ⟨t1,v,rfl,N,Y,h3,h4,h5,rfl⟩:=hrel
   obtain ⟨b1,b2,b3⟩:=best_b N Y
   have hv21:=h5 v b1
   have hv21':(v:Int) < 21:=by omega
   have oA:=cw (U HT) (Below.heap_alloc w (A (yx 0 0 0 0 0 ⟨#[]⟩).toArray 78) b pN)
   obtain ⟨-,-,-,-,n4,-,n6,-⟩:=zS (oA.nd v hv21)
   have H3:=H h3
   have H4:=H h4
   have H5:=H h5
   by_cases jP:(S.nd v).be = 0
   ·have pq:=b2 jP
    rw [h3] at pq
    have hvm:v ∈ t.hs:=List.mem_of_head? pq
    have hQ:=(U HQ).q v hvm
    obtain ⟨e,rest,hqs⟩:∃ e rest,qs seq (S.nd v).ticks = e :: rest:=by
     cases hqq:qs seq (S.nd v).ticks with
     | nil=>exact absurd hqq hQ.ne
     | cons e rest=>exact ⟨e,rest,rfl⟩
    have hch:=hQ.chain
    rw [hqs] at hch
    obtain ⟨he,he0,-⟩:=hch
    have he21:e < 21:=by
     have:=(cU (S.nd v).ticks seq 1 e (by have h:e ∈ qs seq (S.nd v).ticks:=(by rw [hqs]; simp); exact h)).2.1
     omega
    have he21':(e:Int) < 21:=by omega
    have HF:Hid (frOf (quOf true seq) = .tuple #[(S.qo e).od.val,.bool true]):=by
     show _ = _
     rw [← U HOU]
     obtain ⟨tl,htl⟩:∃ tl,t.hs = v :: tl:=by
      cases hh:t.hs with
      | nil=>rw [hh] at pq; simp at pq
      | cons a r=>rw [hh] at pq; simp at pq; rw [pq]; exact ⟨r,rfl⟩
     rw [htl,List.flatMap_cons,hqs]
     rfl
    obtain ⟨q0,q1,q2,q3,q4,q5,-⟩:=eG (oA.qo e he21)
    rw [he] at n6
    rw [jP] at n4
    clear N Y h3 h4 h5 b1 b2 b3 oA pq hvm hQ hqs he jP
    go_wp2_with fail
    go_region
    go_wp2_with fail
    go_returns
    refine ⟨by rw [U HF]; rfl,?_⟩
    go_grown
   ·obtain ⟨l,l1,l2,l3,l4,l5⟩:=b3 jP
    have hbe':¬ (((S.nd v).be:Int) = 0):=by omega
    have HL:Hid (Rep S.nd l (S.nd v).be∧l ≠ .nil∧l.hs.head? = t1.hs.head?∧l.hs.length < t1.hs.length∧∀ a ∈ l.hs,a ∈ t1.hs):=⟨l1,l2,l3,l4,l5⟩
    clear N Y h3 h4 h5 b1 b2 b3 oA l1 l2 l3 l4 l5 jP
    go_wp2_with fail
    go_roundg (l.hs.length)
    case measure=>have:=U H4; have:=(U HL).2.2.2.1; omega
    case rel=>exact ⟨l,_,rfl,(U HL).1,(U HL).2.1,(U HL).2.2.1.trans (U H3),Nat.le_refl _,fun a ha=>U H5 a ((U HL).2.2.2.2 a ha),rfl⟩
def cx (b:Nat):Value:=.agg #[.func (.func 166) #[J b 0] #[],.func (.func 167) #[J b 0] #[],.func (.func 168) #[J b 0] #[]]
theorem ask_b (b:Nat) (w:World) :
  Calls Tryz.prog 128 #[J b 0] w fun e w'=>e = yn (cx b)∧yp w w':=by
 have hmf:∀ (fn:Fn) (first cap:Array Value) (w:World),(Instr.makeFunc fn first cap).run Tryz.prog w = .ok (.func fn first cap) w:=fun _ _ _ _=>rfl
 go_enter Tryz.func128,Tryz.ntmps128
 go_wp2_with fail
 go_returns
 refine ⟨rfl,?_⟩
 go_grown
theorem better_s (a c:Int) (w:World) :
  Calls Tryz.prog 237 #[.agg #[],I a,I c] w fun e w'=>e = yn (.bool (decide (a < c)))∧w.grownBy w' none:=by
 go_enter Tryz.func237,Tryz.ntmps237
 go_wp2_with fail
 go_ret
 exact ⟨rfl,World.grownBy_alloc _ _ _⟩
theorem method_s (w:World):Sem.run Tryz.prog (method 399 166 (.agg #[]) "loop.example/g00092/impl.better") w = .ok (237,.agg #[]) w:=by kernel_rfl
theorem part_s {w:World} {b:Nat} (h:∃ xF,w.heap[b]? = some (.cells xF 204 (0,0))):Sem.run Tryz.prog (partAt (D b 0) 0 0) w = .ok (D b 0) w:=by
 obtain ⟨xF,h⟩:=h
 have hc:Tryz.prog.cellsOf 204 = 318:=by kernel_rfl
 have hy:byteOfCell Tryz.prog Tryz.prog.depth 204 0 = some 0:=by kernel_rfl
 have hs:w.shape? b = some (204,xF.size):=by simp [World.shape?,h]
 simp [partAt,byteOf,noView,viewAt,hs,hc,hy]
theorem levelFor_s (b:Nat) (S:TS) (t:Tr) (o:Od) (w:World) (hT:TM 204 w b S) (hi:TI false S t) (qh:S.lc < 20) :
  Calls Tryz.prog 198 #[J b 0,.agg (yx o.id o.side o.ticks o.left o.life o.tag).toArray] w fun e w' =>
   ∃ (h:Nat),e = yn (I h)∧LFEnd false 204 b S t o w h w':=by
 have HT:=H hT
 have HI:=H hi
 clear hT hi
 go_enter Tryz.func198,Tryz.ntmps198
 go_wp2_with fail
 have HW:Hid (∃ W,W = (w.alloc (A (yx o.id o.side o.ticks o.left o.life o.tag).toArray 78))∧W.rangeAt w.heap.size 0 o.vs∧TM 204 W b S∧w.grownBy W (some b)∧w.heap.size < W.heap.size∧b ≠ w.heap.size) :=
  ⟨_,rfl,zo w o.vs _,cw (U HT) (Below.heap_alloc w _ _ (tm_lt (U HT))),World.grownBy_alloc _ _ _,by rw [zj]; omega,by have:=tm_lt (U HT); omega⟩
 obtain ⟨W,hW,hWW⟩:=U HW
 rw [← hW]
 have ai:=H hWW
 clear hW hWW HW HT
 go_loopg [5] (t.hs.length) (fun k p wr=>LFI false b S t o.ticks W k p wr)
 case atStart=>exact ⟨[],t,rfl,Nat.le_refl _,way_start (U HI) _,yS _ _⟩
 case round =>
  obtain ⟨c,u,rfl,hk,hw,hg⟩:=hrel
  have km:=H hw
  have HG:=H hg
  have HK:=H hk
  have hT:=eH (U ai).2.1 hg (by simp)
  have c0:=cur_cell hT (zY c) (cur_ok (U HI) hw qh)
  obtain ⟨o0,o1,o2,o3,o4,o5⟩:=zB (zy (U ai).1 hg (U ai).2.2.2.1 (by simp))
  clear hk hw hg
  by_cases ha:S.rd (zY c) = 0
  ·have jZ:=hT.lc
   have hf:=hT.fr
   have HA0:=H ha
   rw [ha] at c0
   have hlc':(S.lc:Int) < 20:=by omega
   have e1:((S.lc + 1:Nat):Int) = (S.lc:Int) + 1:=by omega
   have vr:=cur_ok (U HI) (U km) qh
   have t1:=tm_lc hT (S.lc + 1)
   have t2:=tm_cur t1 (zY c) vr (S.lc + 1)
   rw [e1] at t1 t2
   have d2:_ = _:=(cur_cell t1 (zY c) vr).trans (congrArg (fun x:Nat=>some (I x)) (show TS.rd _ (zY c) = 0 from by rw [← ha]; cases (zY c) <;> rfl))
   have d3:_ = _:=t2.lc
   rw [(wr_same _ _ _).1] at d3
   simp only [e1] at d3
   have g1:=t1.fr
   have g2:=t2.fr
   obtain ⟨n0,n1,n2,n3,-⟩:=zS (t2.nd (S.lc + 1) (by omega))
   have Q:b ≠ w.heap.size:=(U ai).2.2.2.2
   have p1:((wr.setCell (D b 1) (I ((S.lc:Int) + 1))).setCell (D b ((zY c).off)) (I ((S.lc:Int) + 1))).cell? (yr w (0 + 1)) = some (I o.side):=by
    rw [yM _ _ _ _ (fun e=>Q (congrArg Addr.block e)),yM _ _ _ _ (fun e=>Q (congrArg Addr.block e))]; exact o1
   have p2:((wr.setCell (D b 1) (I ((S.lc:Int) + 1))).setCell (D b ((zY c).off)) (I ((S.lc:Int) + 1))).cell? (yr w (0 + 2)) = some (I o.ticks):=by
    rw [yM _ _ _ _ (fun e=>Q (congrArg Addr.block e)),yM _ _ _ _ (fun e=>Q (congrArg Addr.block e))]; exact o2
   have uz:=H t2
   have HB:=H Q
   clear ha hT t1 t2 vr Q
   go_wp2_with fail
   have uw:Hid (wr.grownBy ((wr.setCell (D b 1) (I ((S.lc:Int) + 1))).setCell (D b ((zY c).off)) (I ((S.lc:Int) + 1))) (some b)):=zT (zT (yS _ _) _ _) _ _
   generalize hW4:((wr.setCell (D b 1) (I ((S.lc:Int) + 1))).setCell (D b ((zY c).off)) (I ((S.lc:Int) + 1))) = W4 at *
   rw [← e1] at d3
   obtain ⟨m,hm⟩:∃ m,m = S.lc + 1:=⟨_,rfl⟩
   rw [← hm] at d3 n0 n1 n2 n3
   have hm21:(m:Int) < 21:=by omega
   have HM:=H hm
   clear hW4 hm e1 d2 jZ hf g1 c0 o0 o1 o2 o3 o4 o5 hlc'
   go_region
   have t3:=U uz
   have t4:=bK t3 (S.lc + 1) 0 (by omega) (by omega) (I o.side) { (TS.nd _ (S.lc + 1)) with side:=o.side } rfl _ rfl
   have t5:=bK t4 (S.lc + 1) 1 (by omega) (by omega) (I o.ticks) { (TS.nd _ (S.lc + 1)) with ticks:=o.ticks } rfl _ rfl
   have t6:=bK t5 (S.lc + 1) 2 (by omega) (by omega) (I 0) { (TS.nd _ (S.lc + 1)) with qty:=0 } rfl _ rfl
   have t7:=bK t6 (S.lc + 1) 3 (by omega) (by omega) (I 0) { (TS.nd _ (S.lc + 1)) with count:=0 } rfl _ rfl
   have jK:=H (gr_drew (zT (zT (zT (zT (U uw) (2 + m * 8) (I o.side)) (2 + m * 8 + 1) (I o.ticks)) (2 + m * 8 + 2) (I 0)) (2 + m * 8 + 3) (I 0)))
   rw [← U HM] at t7
   simp only [dH,zt] at t7
   have hS:_ = S.grow (zY c) o.side o.ticks:=grow_eq S (zY c) o m (U HM)
   rw [hS] at t7
   have d7:_ = some (I (m:Int)):=t7.lc.trans (by rw [U HM]; rfl)
   have HT7:=H t7
   clear t3 t4 t5 t6 t7 n0 n1 n2 n3 d3 p1 p2
   generalize (((W4.setCell (D b (2 + m * 8)) (I o.side)).setCell (D b (2 + m * 8 + 1)) (I o.ticks)).setCell (D b (2 + m * 8 + 2)) (I 0)).setCell (D b (2 + m * 8 + 3)) (I 0) = W7 at *
   go_wp2_with fail
   go_ret
   exact ⟨m,rfl,_,cw (U HT7) rfl,(U ai).2.2.1.trans (((U HG).but _).trans (U jK)),.inr ⟨c,u,U km,U HA0,U HM,rfl⟩⟩
  ·have ham:=way_at (U km) rfl ha
   have har:=(U HI).range _ ham
   obtain ⟨a,oC⟩:∃ a,a = S.rd (zY c):=⟨_,rfl⟩
   rw [← oC] at c0 ha ham har
   have HAE:=H oC
   have ha':¬ ((a:Int) = 0):=by omega
   have ha21:(a:Int) < 21:=by omega
   obtain ⟨n0,n1,n2,n3,n4,n5,n6,n7⟩:=zS (hT.nd a (by omega))
   have HTM:=H hT
   have hpt:∀ w',wr.grownBy w' none→Sem.run Tryz.prog (partAt (D b 0) 0 0) w' = .ok (D b 0) w':=fun w' h=>part_s (eH (U HTM) h (by simp)).obj
   have HPT:=H hpt
   have HN1:=H (fun w' (h:wr.grownBy w' none)=>h.cell n1 (by simp))
   have qS:=H (fun w' (h:wr.grownBy w' none)=>h.cell o2 (by simp))
   clear oC hT hpt
   go_wp2_with fail
   go_quiet (fail)
   go_wp2_with fail
   refine ep (W:=wr) (by kernel_rfl) (by kernel_rfl) ⟨rfl,rfl,rfl,Nat.le_refl _,fun _ _ _=>rfl⟩ ?_
   iterate 12 (
    refine bV (v:=?_) ?_ ?_ ?_
    rotate_left
    ·rfl
    ·intro w' uq
     have f1:=U HN1 w' uq
     have f2:=U qS w' uq
     have f3:=U HPT w' uq
     go_simp
     try rfl
    intro hR hK
    go_simp
    refine hK _ ?_
    clear hK hR)
   refine bV (v:=.bool (decide (o.ticks < (S.nd a).ticks))) ?_ ?_ ?_
   ·rfl
   ·intro w' uq
    have hm:=method_s w'
    go_simp
    refine (better_s _ _ _).mono ?_
    rintro e w3 ⟨rfl,uG⟩
    exact ⟨rfl,uq.trans uG⟩
   intro hR hK
   go_simp
   refine hK _ ?_
   clear hK hR
   refine bV (v:=?_) ?_ ?_ ?_
   rotate_left
   ·rfl
   ·intro w' uq
    go_simp
    try rfl
   intro hR hK
   go_simp
   refine hK _ ?_
   clear hK hR
   refine wpQuiet_nil ?_
   intro w2 vh
   have uh:=H vh
   clear vh
   by_cases N:o.ticks < (S.nd a).ticks
   ·have pJ:decide (o.ticks < (S.nd a).ticks) = true:=by simpa using N
    go_wp2_with fail
    obtain ⟨l,r,rfl,hw2⟩:=way_be (U HI) (U km) (U HAE).symm ha N
    go_roundg (l.hs.length)
    case measure=>have:=U HK; simp [Tr.hs] at this; omega
    case rel=>exact ⟨_,l,rfl,Nat.le_refl _,hw2,(U HG).trans (U uh)⟩
   ·have pJ:decide (o.ticks < (S.nd a).ticks) = false:=by simpa using N
    go_wp2_with fail
    refine ep (W:=wr) (by kernel_rfl) (by kernel_rfl) (U uh) ?_
    iterate 12 (
     refine bV (v:=?_) ?_ ?_ ?_
     rotate_left
     ·rfl
     ·intro w' uq
      have f1:=U HN1 w' uq
      have f2:=U qS w' uq
      have f3:=U HPT w' uq
      go_simp
      try rfl
     intro hR hK
     go_simp
     refine hK _ ?_
     clear hK hR)
    refine bV (v:=.bool (decide ((S.nd a).ticks < o.ticks))) ?_ ?_ ?_
    ·rfl
    ·intro w' uq
     have hm:=method_s w'
     go_simp
     refine (better_s _ _ _).mono ?_
     rintro e w3 ⟨rfl,uG⟩
     exact ⟨rfl,uq.trans uG⟩
    intro hR hK
    go_simp
    refine hK _ ?_
    clear hK hR
    refine bV (v:=?_) ?_ ?_ ?_
    rotate_left
    ·rfl
    ·intro w' uq
     go_simp
     try rfl
    intro hR hK
    go_simp
    refine hK _ ?_
    clear hK hR
    refine wpQuiet_nil ?_
    intro w3 uG
    have vn:=H uG
    clear uG
    by_cases Y:(S.nd a).ticks < o.ticks
    ·have oU:decide ((S.nd a).ticks < o.ticks) = true:=by simpa using Y
     go_wp2_with fail
     obtain ⟨l,r,rfl,hw2⟩:=way_wo (U HI) (U km) (U HAE).symm ha Y
     go_roundg (r.hs.length)
     case measure=>have:=U HK; simp [Tr.hs] at this; omega
     case rel=>exact ⟨_,r,rfl,Nat.le_refl _,hw2,(U HG).trans (U vn)⟩
    ·have oU:decide ((S.nd a).ticks < o.ticks) = false:=by simpa using Y
     have c3:=(U vn).cell c0 (by simp)
     go_wp2_with fail
     go_ret
     have hG:=(U HG).trans (U vn)
     exact ⟨a,rfl,S,eH (U ai).2.1 hG (by simp),(U ai).2.2.1.trans (hG.but _),.inl ⟨ham,by omega,rfl⟩⟩
theorem add_s (b:Nat) (sd:Int) (seq:List Od) (o:Od) (w:World) (h:bF 204 false w b sd seq) (uV:o.side = sd) (hn:seq.length < 20) (hl:∀ o' ∈ seq,0 ≤ o'.left∧o'.left ≤ 1000000) (hlo:0 ≤ o.left∧o.left ≤ 1000000) :
  Calls Tryz.prog 173 #[J b 0,.agg (yx o.id o.side o.ticks o.left o.life o.tag).toArray] w fun e w' =>
   e = yn (.tuple #[])∧bF 204 false w' b sd (seq ++ [o])∧w.grownBy w' (some b):=by
 obtain ⟨S,t,hT,hi,hq,qh⟩:=h
 have HI:=H hi
 have HQ:=H hq
 have HT:=H hT
 have HLC:=H qh
 have HL:=H hl
 have HSD:=H uV
 have HOC:=H hq.oc
 have hoc':(S.oc:Int) < 20:=by have:=hq.oc; omega
 have e1:((S.oc + 1:Nat):Int) = (S.oc:Int) + 1:=by omega
 have Q:b ≠ w.heap.size:=by have:=tm_lt hT; omega
 have kz:World.rangeAt (w.alloc (A (yx o.id o.side o.ticks o.left o.life o.tag).toArray 78)) w.heap.size 0 o.vs:=zo w o.vs 78
 have oA:TM 204 (w.alloc (A (yx o.id o.side o.ticks o.left o.life o.tag).toArray 78)) b S:=cw hT (Below.heap_alloc w _ _ (tm_lt hT))
 have c1:=oA.oc
 have f1:=oA.fr
 have hT1:=tm_oc oA (S.oc + 1)
 have hR1:Hid (World.rangeAt (World.setCell (w.alloc (A (yx o.id o.side o.ticks o.left o.life o.tag).toArray 78)) (D b 170) (I ((S.oc + 1:Nat):Int))) w.heap.size 0 o.vs):=fun j u hu=>by
  rw [yM _ _ _ _ (fun e=>Q (congrArg Addr.block e))]; exact kz j u hu
 have hG1:Hid (w.grownBy (World.setCell (w.alloc (A (yx o.id o.side o.ticks o.left o.life o.tag).toArray 78)) (D b 170) (I ((S.oc + 1:Nat):Int))) (some b)):=zT (World.grownBy_alloc w (A (yx o.id o.side o.ticks o.left o.life o.tag).toArray 78) _) _ _
 have jn:=H hT1
 have xL:Hid (w.heap.size < (World.heap (World.setCell (w.alloc (A (yx o.id o.side o.ticks o.left o.life o.tag).toArray 78)) (D b 170) (I ((S.oc + 1:Nat):Int)))).size):=(by
  have:=yL _ _ (hR1 0 _ rfl)
  exact this)
 clear hi hq qh hl uV hT oA kz hT1
 go_enter Tryz.func173,Tryz.ntmps173
 go_wp2_with fail
 rw [← e1]
 have em:∃ m,m = S.oc + 1:=⟨_,rfl⟩
 obtain ⟨m,hm⟩:=em
 rw [← hm] at hR1 hG1 jn xL ⊢
 generalize hW1:World.setCell (w.alloc (A (yx o.id o.side o.ticks o.left o.life o.tag).toArray 78)) (D b 170) (I (m:Int)) = W1 at hR1 hG1 jn xL ⊢
 have HM:=H hm
 have hm21:(m:Int) < 21:=by omega
 obtain ⟨o0,o1,o2,o3,o4,o5⟩:=zB (U hR1)
 obtain ⟨q0,q1,q2,q3,q4,q5,q6⟩:=eG ((U jn).qo m (by omega))
 have f2:=(U jn).fr
 have pu:S.lc < 20:=by have:=U HLC; omega
 have HB:=H Q
 clear hW1 hm e1 c1 f1 hoc' Q
 go_region
 have uz:=H (tm_put (U jn) m (by omega) o)
 have uh:=H (gr_put (w:=W1) (b:=b) o m)
 generalize hW2:(((((((W1.setCell (D b (171 + m * 7)) (I o.id)).setCell (D b (171 + m * 7 + 1)) (I o.side)).setCell (D b (171 + m * 7 + 2)) (I o.ticks)).setCell (D b (171 + m * 7 + 3)) (I o.left)).setCell
   (D b (171 + m * 7 + 4)) (I o.life)).setCell (D b (171 + m * 7 + 5)) (yl o.tag)).setCell (D b (171 + m * 7 + 6)) (I 0)) = W2 at uz uh ⊢
 clear hW2 o0 o1 o2 o3 o4 o5 q0 q1 q2 q3 q4 q5 q6 f2
 rw [show ({ root:=S.root,lc:=S.lc,oc:=m,nd:=S.nd,qo:=upd S.qo m ⟨o,0⟩ }:TS) = S.lay o from by rw [U HM]; rfl] at uz
 have hR2:=H (zy (U hR1) (U uh) (U xL) (fun e=>U HB (Option.some.inj e).symm))
 obtain ⟨o0,o1,o2,o3,o4,o5⟩:=zB (U hR2)
 have HTI:=H (ti_lay o (U HI))
 have HT2d:Hid (TM 204 W2.drew.drew b (S.lay o)):=cw (U uz) rfl
 go_wp2_with fail
 go_region_with (go_at_call 198; refine (levelFor_s b (S.lay o) t o W2.drew.drew (U HT2d) (U HTI) pu).mono ?_; rintro e W3 ⟨h,rfl,vp⟩; have HE:=H vp; have qZ:(h:Int) < 21:=lf_lt vp (U HTI) pu; clear vp)
 obtain ⟨S3,hT3,uG,qx⟩:=U HE
 rw [← U HSD] at HQ
 obtain ⟨r1,r2,r3,r4,r5,t',r6,r7⟩:=add_ready (U HI) (U HQ) qx
 have R4:=H r4
 have R6:=H r6
 have R7:=H r7
 have R23:Hid ((0:Int) ≤ (S3.nd h).qty∧(S3.nd h).qty ≤ 20000000∧(0:Int) ≤ (S3.nd h).count∧(S3.nd h).count ≤ 20):=by
  have Q:=sumL_bound (atK seq o.ticks) (fun o' vO=>U HL o' (List.mem_filter.1 vO).1)
  have qi:(atK seq o.ticks).length ≤ seq.length:=List.length_filter_le _ _
  rw [r2,r3]
  refine ⟨Q.1,?_,by omega,by omega⟩
  have:=Q.2
  have h20:((atK seq o.ticks).length:Int) ≤ 20:=by omega
  omega
 have jD:=H hT3
 have vn:Hid (W2.grownBy W3 (some b)):=⟨uG.os,uG.tape,uG.output,uG.size,uG.block⟩
 have hR3:=H (zy (U hR2) (U vn) (yK (U xL) (U uh).size) (fun e=>U HB (Option.some.inj e).symm))
 have hy21:(S3.nd h).yo < 21:=by omega
 have aB:m = 1 + seq.length:=by have:=U HM; have:=U HOC; omega
 have aR:=H aB
 clear hT3 uG qx r1 r2 r3 r4 r5 r6 r7 o0 o1 o2 o3 o4 o5 aB HE
 have xQ:=(U jD).fr
 obtain ⟨n0,n1,n2,n3,n4,n5,n6,n7⟩:=zS ((U jD).nd h (by omega))
 have qr:h < 21:=by omega
 clear n0 n1 n2 n3 n4 n5
 by_cases hy:(S3.nd h).yo = 0
 ·have t5:=bK (U jD) h 6 qr (by omega) (I m) { S3.nd h with el:=m } rfl _ rfl
  have t6:=bK t5 h 7 qr (by omega) (I m) { (TS.nd _ h) with yo:=m } rfl _ rfl
  simp only [dH,zt] at t6
  obtain ⟨-,-,-,-,-,-,-,k7⟩:=zS (t5.nd h qr)
  have f5:=t5.fr
  rw [hy] at n7
  have qK:=H (zT (zT (yS W3 (some b)) (2 + h * 8 + 6) (I m)) (2 + h * 8 + 7) (I m))
  have kM:=H t6
  clear t5 t6
  go_wp2_with fail
  generalize hW6:(W3.setCell (D b (2 + h * 8 + 6)) (I m)).setCell (D b (2 + h * 8 + 7)) (I m) = W6 at qK kM ⊢
  clear jD hW6
  have f6:=(U kM).fr
  obtain ⟨-,-,m2,m3,-⟩:=zS ((U kM).nd h qr)
  simp only [zt] at m2 m3
  have hR6:=zy (U hR3) (U qK) (yK (U xL) (yO (U uh).size (U vn).size)) (fun e=>U HB (Option.some.inj e).symm)
  obtain ⟨-,-,-,x3,-⟩:=zB hR6
  obtain ⟨b1,b2,b3,b4⟩:=U R23
  have t7:=bK (U kM) h 2 qr (by omega) (I ((S3.nd h).qty + o.left)) { (TS.nd _ h) with qty:=(S3.nd h).qty + o.left } rfl _ rfl
  have t8:=bK t7 h 3 qr (by omega) (I ((S3.nd h).count + 1)) { (TS.nd _ h) with count:=(S3.nd h).count + 1 } rfl _ rfl
  obtain ⟨-,-,-,y3,-⟩:=zS (t7.nd h qr)
  have f7:=t7.fr
  simp only [dH,zt] at t8 y3
  have ag:=H t8
  have HG8:=H (zT (zT (yS W6 (some b)) (2 + h * 8 + 2) (I ((S3.nd h).qty + o.left))) (2 + h * 8 + 3) (I ((S3.nd h).count + 1)))
  have aI:wrap64 ((S3.nd h).qty + o.left) = (S3.nd h).qty + o.left:=by unfold wrap64; omega
  clear t7 t8 hR6
  go_region
  try simp only [IntKind.wrap_i64]
  try rw [show (IntKind.i64.wrap ((S3.nd h).qty + o.left)) = (S3.nd h).qty + o.left from by rw [IntKind.wrap_i64]; exact aI]
  generalize hW7:W6.setCell (D b (2 + h * 8 + 2)) (I ((S3.nd h).qty + o.left)) = W7 at *
  go_wp2_with fail
  go_end0
  have HS8:Hid (_ = S3.link h m o.left):=link_eq0 S3 h m o.left hy
  rw [U HS8] at ag
  rw [U aR] at ag
  refine ⟨rfl,?_,?_⟩
  ·rw [← U HSD]
   refine ⟨_,t',cw (U ag) rfl,U R6,U R7,?_⟩
   have N:=U R4
   have Y:=U HLC
   show S3.lc ≤ _
   simp; omega
  ·exact dw (((((U hG1).trans (U uh)).trans (U vn)).trans (U qK)).trans (U HG8)) rfl rfl rfl rfl
 ·have t5:=tm_qo (U jD) (S3.nd h).yo 6 hy21 (by omega) (I m) { S3.qo (S3.nd h).yo with yg:=m } rfl _ rfl
  have t6:=bK t5 h 7 qr (by omega) (I m) { (TS.nd _ h) with yo:=m } rfl _ rfl
  obtain ⟨-,-,-,-,-,-,-,k7⟩:=zS (t5.nd h qr)
  obtain ⟨-,-,-,-,-,-,q6⟩:=eG ((U jD).qo (S3.nd h).yo hy21)
  have f5:=t5.fr
  have hyi:((S3.nd h).yo:Int) < 21:=by omega
  have hy0:¬ (((S3.nd h).yo:Int) = 0):=by omega
  have qK:=H (zT (zT (yS W3 (some b)) (171 + (S3.nd h).yo * 7 + 6) (I m)) (2 + h * 8 + 7) (I m))
  have kM:=H t6
  clear t5 t6
  go_wp2_with fail
  go_region
  go_wp2_with fail
  generalize hW6:(W3.setCell (D b (171 + (S3.nd h).yo * 7 + 6)) (I m)).setCell (D b (2 + h * 8 + 7)) (I m) = W6 at qK kM ⊢
  clear jD hW6
  have f6:=(U kM).fr
  obtain ⟨-,-,m2,m3,-⟩:=zS ((U kM).nd h qr)
  simp only [zt] at m2 m3
  have hR6:=zy (U hR3) (U qK) (yK (U xL) (yO (U uh).size (U vn).size)) (fun e=>U HB (Option.some.inj e).symm)
  obtain ⟨-,-,-,x3,-⟩:=zB hR6
  obtain ⟨b1,b2,b3,b4⟩:=U R23
  have t7:=bK (U kM) h 2 qr (by omega) (I ((S3.nd h).qty + o.left)) { (TS.nd _ h) with qty:=(S3.nd h).qty + o.left } rfl _ rfl
  have t8:=bK t7 h 3 qr (by omega) (I ((S3.nd h).count + 1)) { (TS.nd _ h) with count:=(S3.nd h).count + 1 } rfl _ rfl
  obtain ⟨-,-,-,y3,-⟩:=zS (t7.nd h qr)
  have f7:=t7.fr
  simp only [dH,zt] at t8 y3
  have ag:=H t8
  have HG8:=H (zT (zT (yS W6 (some b)) (2 + h * 8 + 2) (I ((S3.nd h).qty + o.left))) (2 + h * 8 + 3) (I ((S3.nd h).count + 1)))
  have aI:wrap64 ((S3.nd h).qty + o.left) = (S3.nd h).qty + o.left:=by unfold wrap64; omega
  clear t7 t8 hR6
  go_region
  try simp only [IntKind.wrap_i64]
  try rw [show (IntKind.i64.wrap ((S3.nd h).qty + o.left)) = (S3.nd h).qty + o.left from by rw [IntKind.wrap_i64]; exact aI]
  generalize hW7:W6.setCell (D b (2 + h * 8 + 2)) (I ((S3.nd h).qty + o.left)) = W7 at *
  go_wp2_with fail
  go_end0
  have HS8:Hid (_ = S3.link h m o.left):=link_eq1 S3 h m o.left hy
  rw [U HS8] at ag
  rw [U aR] at ag
  refine ⟨rfl,?_,?_⟩
  ·rw [← U HSD]
   refine ⟨_,t',cw (U ag) rfl,U R6,U R7,?_⟩
   have N:=U R4
   have Y:=U HLC
   show S3.lc ≤ _
   simp; omega
  ·exact dw (((((U hG1).trans (U uh)).trans (U vn)).trans (U qK)).trans (U HG8)) rfl rfl rfl rfl
end Go.Proofs.YtnphbkgfjanmgaaGreatDoor
