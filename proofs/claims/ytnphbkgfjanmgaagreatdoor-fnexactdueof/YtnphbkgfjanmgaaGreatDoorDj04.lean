/-
  How an order's level is found in the tree, or grown, proved by walking the function.
-/
import Derived.Test.YtnphbkgfjanmgaaGreatDoorDj03
set_option linter.unusedVariables false
set_option maxHeartbeats 6400000
set_option maxRecDepth 100000
namespace Go.Proofs.YtnphbkgfjanmgaaGreatDoor
open Go.RowKit
theorem better_b (a c:Int) (w:World) :
  Calls Tryz.prog 236 #[.agg #[],I a,I c] w fun e w'=>e = yn (.bool (decide (c < a)))∧w.grownBy w' none:=by
 go_enter Tryz.func236,Tryz.ntmps236
 go_wp2_with fail
 go_ret
 exact ⟨rfl,World.grownBy_alloc _ _ _⟩
theorem method_b (w:World):Sem.run Tryz.prog (method 399 162 (.agg #[]) "loop.example/g00092/impl.better") w = .ok (236,.agg #[]) w:=by kernel_rfl
theorem part_b {w:World} {b:Nat} (h:∃ xF,w.heap[b]? = some (.cells xF 201 (0,0))):Sem.run Tryz.prog (partAt (Q b 0) 0 0) w = .ok (Q b 0) w:=by
 obtain ⟨xF,h⟩:=h
 have hc:Tryz.prog.cellsOf 201 = 318:=by kernel_rfl
 have hy:byteOfCell Tryz.prog Tryz.prog.depth 201 0 = some 0:=by kernel_rfl
 have hs:w.shape? b = some (201,xF.size):=by simp [World.shape?,h]
 simp [partAt,byteOf,noView,viewAt,hs,hc,hy]
theorem levelFor_b (b:Nat) (S:TS) (t:Tr) (o:Od) (w:World) (hT:TM 201 w b S) (hi:TI true S t) (qb:S.lc < 20) :
  Calls Tryz.prog 196 #[J b 0,.agg (yx o.id o.side o.ticks o.left o.life o.tag).toArray] w fun e w' =>
   ∃ (h:Nat),e = yn (I h)∧LFEnd true 201 b S t o w h w':=by
 have HT:=H hT
 have HI:=H hi
 clear hT hi
 go_enter Tryz.func196,Tryz.ntmps196
 go_wp2_with fail
 have HW:Hid (∃ W,W = (w.alloc (L (yx o.id o.side o.ticks o.left o.life o.tag).toArray 78))∧W.rangeAt w.heap.size 0 o.vs∧TM 201 W b S∧w.grownBy W (some b)∧w.heap.size < W.heap.size∧b ≠ w.heap.size) :=
  ⟨_,rfl,zn w o.vs _,bD (U HT) (Below.heap_alloc w _ _ (tm_lt (U HT))),World.grownBy_alloc _ _ _,by rw [zj]; omega,by have:=tm_lt (U HT); omega⟩
 obtain ⟨W,hW,hWW⟩:=U HW
 rw [← hW]
 have pM:=H hWW
 clear hW hWW HW HT
 go_loopg [5] (t.hs.length) (fun k p wr=>LFI true b S t o.ticks W k p wr)
 case atStart=>exact ⟨[],t,rfl,Nat.le_refl _,way_start (U HI) _,yS _ _⟩
 case round =>
  obtain ⟨c,u,rfl,hk,hw,hg⟩:=hrel
  have jX:=H hw
  have HG:=H hg
  have HK:=H hk
  have hT:=dT (U pM).2.1 hg (by simp)
  have c0:=cur_cell hT (zW c) (cur_ok (U HI) hw qb)
  obtain ⟨o0,o1,o2,o3,o4,o5⟩:=zB (zx (U pM).1 hg (U pM).2.2.2.1 (by simp))
  clear hk hw hg
  by_cases ha:S.rd (zW c) = 0
  ·have jO:=hT.lc
   have hf:=hT.fr
   have HA0:=H ha
   rw [ha] at c0
   have hlc':(S.lc:Int) < 20:=by omega
   have e1:((S.lc + 1:Nat):Int) = (S.lc:Int) + 1:=by omega
   have vu:=cur_ok (U HI) (U jX) qb
   have t1:=tm_lc hT (S.lc + 1)
   have t2:=tm_cur t1 (zW c) vu (S.lc + 1)
   rw [e1] at t1 t2
   have d2:_ = _:=(cur_cell t1 (zW c) vu).trans (congrArg (fun x:Nat=>some (I x)) (show TS.rd _ (zW c) = 0 from by rw [← ha]; cases (zW c) <;> rfl))
   have d3:_ = _:=t2.lc
   rw [(wr_same _ _ _).1] at d3
   simp only [e1] at d3
   have g1:=t1.fr
   have g2:=t2.fr
   obtain ⟨n0,n1,n2,n3,-⟩:=zQ (t2.nd (S.lc + 1) (by omega))
   have E:b ≠ w.heap.size:=(U pM).2.2.2.2
   have p1:((wr.setCell (Q b 1) (I ((S.lc:Int) + 1))).setCell (Q b ((zW c).off)) (I ((S.lc:Int) + 1))).cell? (yr w (0 + 1)) = some (I o.side):=by
    rw [yM _ _ _ _ (fun e=>E (congrArg Addr.block e)),yM _ _ _ _ (fun e=>E (congrArg Addr.block e))]; exact o1
   have p2:((wr.setCell (Q b 1) (I ((S.lc:Int) + 1))).setCell (Q b ((zW c).off)) (I ((S.lc:Int) + 1))).cell? (yr w (0 + 2)) = some (I o.ticks):=by
    rw [yM _ _ _ _ (fun e=>E (congrArg Addr.block e)),yM _ _ _ _ (fun e=>E (congrArg Addr.block e))]; exact o2
   have ux:=H t2
   have HB:=H E
   clear ha hT t1 t2 vu E
   go_wp2_with fail
   have ut:Hid (wr.grownBy ((wr.setCell (Q b 1) (I ((S.lc:Int) + 1))).setCell (Q b ((zW c).off)) (I ((S.lc:Int) + 1))) (some b)):=zR (zR (yS _ _) _ _) _ _
   generalize hW4:((wr.setCell (Q b 1) (I ((S.lc:Int) + 1))).setCell (Q b ((zW c).off)) (I ((S.lc:Int) + 1))) = W4 at *
   rw [← e1] at d3
   obtain ⟨m,hm⟩:∃ m,m = S.lc + 1:=⟨_,rfl⟩
   rw [← hm] at d3 n0 n1 n2 n3
   have hm21:(m:Int) < 21:=by omega
   have HM:=H hm
   clear hW4 hm e1 d2 jO hf g1 c0 o0 o1 o2 o3 o4 o5 hlc'
   go_region
   have t3:=U ux
   have t4:=aZ t3 (S.lc + 1) 0 (by omega) (by omega) (I o.side) { (TS.nd _ (S.lc + 1)) with side:=o.side } rfl _ rfl
   have t5:=aZ t4 (S.lc + 1) 1 (by omega) (by omega) (I o.ticks) { (TS.nd _ (S.lc + 1)) with ticks:=o.ticks } rfl _ rfl
   have t6:=aZ t5 (S.lc + 1) 2 (by omega) (by omega) (I 0) { (TS.nd _ (S.lc + 1)) with qty:=0 } rfl _ rfl
   have t7:=aZ t6 (S.lc + 1) 3 (by omega) (by omega) (I 0) { (TS.nd _ (S.lc + 1)) with count:=0 } rfl _ rfl
   have jz:=H (gr_drew (zR (zR (zR (zR (U ut) (2 + m * 8) (I o.side)) (2 + m * 8 + 1) (I o.ticks)) (2 + m * 8 + 2) (I 0)) (2 + m * 8 + 3) (I 0)))
   rw [← U HM] at t7
   simp only [cL,zr] at t7
   have hS:_ = S.grow (zW c) o.side o.ticks:=grow_eq S (zW c) o m (U HM)
   rw [hS] at t7
   have d7:_ = some (I (m:Int)):=t7.lc.trans (by rw [U HM]; rfl)
   have HT7:=H t7
   clear t3 t4 t5 t6 t7 n0 n1 n2 n3 d3 p1 p2
   generalize (((W4.setCell (Q b (2 + m * 8)) (I o.side)).setCell (Q b (2 + m * 8 + 1)) (I o.ticks)).setCell (Q b (2 + m * 8 + 2)) (I 0)).setCell (Q b (2 + m * 8 + 3)) (I 0) = W7 at *
   go_wp2_with fail
   go_ret
   exact ⟨m,rfl,_,bD (U HT7) rfl,(U pM).2.2.1.trans (((U HG).but _).trans (U jz)),.inr ⟨c,u,U jX,U HA0,U HM,rfl⟩⟩
  ·have ham:=way_at (U jX) rfl ha
   have har:=(U HI).range _ ham
   obtain ⟨a,oh⟩:∃ a,a = S.rd (zW c):=⟨_,rfl⟩
   rw [← oh] at c0 ha ham har
   have HAE:=H oh
   have ha':¬ ((a:Int) = 0):=by omega
   have ha21:(a:Int) < 21:=by omega
   obtain ⟨n0,n1,n2,n3,n4,n5,n6,n7⟩:=zQ (hT.nd a (by omega))
   have HTM:=H hT
   have hpt:∀ w',wr.grownBy w' none→Sem.run Tryz.prog (partAt (Q b 0) 0 0) w' = .ok (Q b 0) w':=fun w' h=>part_b (dT (U HTM) h (by simp)).obj
   have HPT:=H hpt
   have HN1:=H (fun w' (h:wr.grownBy w' none)=>h.cell n1 (by simp))
   have jA:=H (fun w' (h:wr.grownBy w' none)=>h.cell o2 (by simp))
   clear oh hT hpt
   go_wp2_with fail
   go_quiet (fail)
   go_wp2_with fail
   refine dG (W:=wr) (by kernel_rfl) (by kernel_rfl) ⟨rfl,rfl,rfl,Nat.le_refl _,fun _ _ _=>rfl⟩ ?_
   iterate 12 (
    refine bx (v:=?_) ?_ ?_ ?_
    rotate_left
    ·rfl
    ·intro w' un
     have f1:=U HN1 w' un
     have f2:=U jA w' un
     have f3:=U HPT w' un
     go_simp
     try rfl
    intro zb hK
    go_simp
    refine hK _ ?_
    clear hK zb)
   refine bx (v:=.bool (decide ((S.nd a).ticks < o.ticks))) ?_ ?_ ?_
   ·rfl
   ·intro w' un
    have hm:=method_b w'
    go_simp
    refine (better_b _ _ _).mono ?_
    rintro e w3 ⟨rfl,uD⟩
    exact ⟨rfl,un.trans uD⟩
   intro zb hK
   go_simp
   refine hK _ ?_
   clear hK zb
   refine bx (v:=?_) ?_ ?_ ?_
   rotate_left
   ·rfl
   ·intro w' un
    go_simp
    try rfl
   intro zb hK
   go_simp
   refine hK _ ?_
   clear hK zb
   refine wpQuiet_nil ?_
   intro w2 uZ
   have ug:=H uZ
   clear uZ
   by_cases N:(S.nd a).ticks < o.ticks
   ·have pp:decide ((S.nd a).ticks < o.ticks) = true:=by simpa using N
    go_wp2_with fail
    obtain ⟨l,r,rfl,hw2⟩:=way_be (U HI) (U jX) (U HAE).symm ha N
    go_roundg (l.hs.length)
    case measure=>have:=U HK; simp [Tr.hs] at this; omega
    case rel=>exact ⟨_,l,rfl,Nat.le_refl _,hw2,(U HG).trans (U ug)⟩
   ·have pp:decide ((S.nd a).ticks < o.ticks) = false:=by simpa using N
    go_wp2_with fail
    refine dG (W:=wr) (by kernel_rfl) (by kernel_rfl) (U ug) ?_
    iterate 12 (
     refine bx (v:=?_) ?_ ?_ ?_
     rotate_left
     ·rfl
     ·intro w' un
      have f1:=U HN1 w' un
      have f2:=U jA w' un
      have f3:=U HPT w' un
      go_simp
      try rfl
     intro zb hK
     go_simp
     refine hK _ ?_
     clear hK zb)
    refine bx (v:=.bool (decide (o.ticks < (S.nd a).ticks))) ?_ ?_ ?_
    ·rfl
    ·intro w' un
     have hm:=method_b w'
     go_simp
     refine (better_b _ _ _).mono ?_
     rintro e w3 ⟨rfl,uD⟩
     exact ⟨rfl,un.trans uD⟩
    intro zb hK
    go_simp
    refine hK _ ?_
    clear hK zb
    refine bx (v:=?_) ?_ ?_ ?_
    rotate_left
    ·rfl
    ·intro w' un
     go_simp
     try rfl
    intro zb hK
    go_simp
    refine hK _ ?_
    clear hK zb
    refine wpQuiet_nil ?_
    intro w3 uD
    have vi:=H uD
    clear uD
    by_cases Y:o.ticks < (S.nd a).ticks
    ·have oE:decide (o.ticks < (S.nd a).ticks) = true:=by simpa using Y
     go_wp2_with fail
     obtain ⟨l,r,rfl,hw2⟩:=way_wo (U HI) (U jX) (U HAE).symm ha Y
     go_roundg (r.hs.length)
     case measure=>have:=U HK; simp [Tr.hs] at this; omega
     case rel=>exact ⟨_,r,rfl,Nat.le_refl _,hw2,(U HG).trans (U vi)⟩
    ·have oE:decide (o.ticks < (S.nd a).ticks) = false:=by simpa using Y
     have c3:=(U vi).cell c0 (by simp)
     go_wp2_with fail
     go_ret
     have hG:=(U HG).trans (U vi)
     exact ⟨a,rfl,S,dT (U pM).2.1 hG (by simp),(U pM).2.2.1.trans (hG.but _),.inl ⟨ham,by omega,rfl⟩⟩
theorem add_b (b:Nat) (sd:Int) (seq:List Od) (o:Od) (w:World) (h:aV 201 true w b sd seq) (uS:o.side = sd) (hn:seq.length < 20) (hl:∀ o' ∈ seq,0 ≤ o'.left∧o'.left ≤ 1000000) (hlo:0 ≤ o.left∧o.left ≤ 1000000) :
  Calls Tryz.prog 169 #[J b 0,.agg (yx o.id o.side o.ticks o.left o.life o.tag).toArray] w fun e w' =>
   e = yn (.tuple #[])∧aV 201 true w' b sd (seq ++ [o])∧w.grownBy w' (some b):=by
 obtain ⟨S,t,hT,hi,hq,qb⟩:=h
 have HI:=H hi
 have HQ:=H hq
 have HT:=H hT
 have HLC:=H qb
 have HL:=H hl
 have HSD:=H uS
 have HOC:=H hq.oc
 have hoc':(S.oc:Int) < 20:=by have:=hq.oc; omega
 have e1:((S.oc + 1:Nat):Int) = (S.oc:Int) + 1:=by omega
 have E:b ≠ w.heap.size:=by have:=tm_lt hT; omega
 have kh:World.rangeAt (w.alloc (L (yx o.id o.side o.ticks o.left o.life o.tag).toArray 78)) w.heap.size 0 o.vs:=zn w o.vs 78
 have oe:TM 201 (w.alloc (L (yx o.id o.side o.ticks o.left o.life o.tag).toArray 78)) b S:=bD hT (Below.heap_alloc w _ _ (tm_lt hT))
 have c1:=oe.oc
 have f1:=oe.fr
 have hT1:=tm_oc oe (S.oc + 1)
 have hR1:Hid (World.rangeAt (World.setCell (w.alloc (L (yx o.id o.side o.ticks o.left o.life o.tag).toArray 78)) (Q b 170) (I ((S.oc + 1:Nat):Int))) w.heap.size 0 o.vs):=fun j u hu=>by
  rw [yM _ _ _ _ (fun e=>E (congrArg Addr.block e))]; exact kh j u hu
 have hG1:Hid (w.grownBy (World.setCell (w.alloc (L (yx o.id o.side o.ticks o.left o.life o.tag).toArray 78)) (Q b 170) (I ((S.oc + 1:Nat):Int))) (some b)):=zR (World.grownBy_alloc w (L (yx o.id o.side o.ticks o.left o.life o.tag).toArray 78) _) _ _
 have jd:=H hT1
 have xK:Hid (w.heap.size < (World.heap (World.setCell (w.alloc (L (yx o.id o.side o.ticks o.left o.life o.tag).toArray 78)) (Q b 170) (I ((S.oc + 1:Nat):Int)))).size):=(by
  have:=yL _ _ (hR1 0 _ rfl)
  exact this)
 clear hi hq qb hl uS hT oe kh hT1
 go_enter Tryz.func169,Tryz.ntmps169
 go_wp2_with fail
 rw [← e1]
 have em:∃ m,m = S.oc + 1:=⟨_,rfl⟩
 obtain ⟨m,hm⟩:=em
 rw [← hm] at hR1 hG1 jd xK ⊢
 generalize hW1:World.setCell (w.alloc (L (yx o.id o.side o.ticks o.left o.life o.tag).toArray 78)) (Q b 170) (I (m:Int)) = W1 at hR1 hG1 jd xK ⊢
 have HM:=H hm
 have hm21:(m:Int) < 21:=by omega
 obtain ⟨o0,o1,o2,o3,o4,o5⟩:=zB (U hR1)
 obtain ⟨q0,q1,q2,q3,q4,q5,q6⟩:=dR ((U jd).qo m (by omega))
 have f2:=(U jd).fr
 have oX:S.lc < 20:=by have:=U HLC; omega
 have HB:=H E
 clear hW1 hm e1 c1 f1 hoc' E
 go_region
 have ux:=H (tm_put (U jd) m (by omega) o)
 have ug:=H (gr_put (w:=W1) (b:=b) o m)
 generalize hW2:(((((((W1.setCell (Q b (171 + m * 7)) (I o.id)).setCell (Q b (171 + m * 7 + 1)) (I o.side)).setCell (Q b (171 + m * 7 + 2)) (I o.ticks)).setCell (Q b (171 + m * 7 + 3)) (I o.left)).setCell
   (Q b (171 + m * 7 + 4)) (I o.life)).setCell (Q b (171 + m * 7 + 5)) (yl o.tag)).setCell (Q b (171 + m * 7 + 6)) (I 0)) = W2 at ux ug ⊢
 clear hW2 o0 o1 o2 o3 o4 o5 q0 q1 q2 q3 q4 q5 q6 f2
 rw [show ({ root:=S.root,lc:=S.lc,oc:=m,nd:=S.nd,qo:=upd S.qo m ⟨o,0⟩ }:TS) = S.lay o from by rw [U HM]; rfl] at ux
 have hR2:=H (zx (U hR1) (U ug) (U xK) (fun e=>U HB (Option.some.inj e).symm))
 obtain ⟨o0,o1,o2,o3,o4,o5⟩:=zB (U hR2)
 have HTI:=H (ti_lay o (U HI))
 have HT2d:Hid (TM 201 W2.drew.drew b (S.lay o)):=bD (U ux) rfl
 go_wp2_with fail
 go_region_with (go_at_call 196; refine (levelFor_b b (S.lay o) t o W2.drew.drew (U HT2d) (U HTI) oX).mono ?_; rintro e W3 ⟨h,rfl,vk⟩; have HE:=H vk; have qP:(h:Int) < 21:=lf_lt vk (U HTI) oX; clear vk)
 obtain ⟨S3,hT3,uD,qm⟩:=U HE
 rw [← U HSD] at HQ
 obtain ⟨r1,r2,r3,r4,r5,t',r6,r7⟩:=add_ready (U HI) (U HQ) qm
 have R4:=H r4
 have R6:=H r6
 have R7:=H r7
 have R23:Hid ((0:Int) ≤ (S3.nd h).qty∧(S3.nd h).qty ≤ 20000000∧(0:Int) ≤ (S3.nd h).count∧(S3.nd h).count ≤ 20):=by
  have E:=sumL_bound (atK seq o.ticks) (fun o' vM=>U HL o' (List.mem_filter.1 vM).1)
  have qj:(atK seq o.ticks).length ≤ seq.length:=List.length_filter_le _ _
  rw [r2,r3]
  refine ⟨E.1,?_,by omega,by omega⟩
  have:=E.2
  have h20:((atK seq o.ticks).length:Int) ≤ 20:=by omega
  omega
 have js:=H hT3
 have vi:Hid (W2.grownBy W3 (some b)):=⟨uD.os,uD.tape,uD.output,uD.size,uD.block⟩
 have hR3:=H (zx (U hR2) (U vi) (yK (U xK) (U ug).size) (fun e=>U HB (Option.some.inj e).symm))
 have hy21:(S3.nd h).yo < 21:=by omega
 have pV:m = 1 + seq.length:=by have:=U HM; have:=U HOC; omega
 have au:=H pV
 clear hT3 uD qm r1 r2 r3 r4 r5 r6 r7 o0 o1 o2 o3 o4 o5 pV HE
 have xQ:=(U js).fr
 obtain ⟨n0,n1,n2,n3,n4,n5,n6,n7⟩:=zQ ((U js).nd h (by omega))
 have qh:h < 21:=by omega
 clear n0 n1 n2 n3 n4 n5
 by_cases hy:(S3.nd h).yo = 0
 ·have t5:=aZ (U js) h 6 qh (by omega) (I m) { S3.nd h with el:=m } rfl _ rfl
  have t6:=aZ t5 h 7 qh (by omega) (I m) { (TS.nd _ h) with yo:=m } rfl _ rfl
  simp only [cL,zr] at t6
  obtain ⟨-,-,-,-,-,-,-,k7⟩:=zQ (t5.nd h qh)
  have f5:=t5.fr
  rw [hy] at n7
  have qD:=H (zR (zR (yS W3 (some b)) (2 + h * 8 + 6) (I m)) (2 + h * 8 + 7) (I m))
  have kt:=H t6
  clear t5 t6
  go_wp2_with fail
  generalize hW6:(W3.setCell (Q b (2 + h * 8 + 6)) (I m)).setCell (Q b (2 + h * 8 + 7)) (I m) = W6 at qD kt ⊢
  clear js hW6
  have f6:=(U kt).fr
  obtain ⟨-,-,m2,m3,-⟩:=zQ ((U kt).nd h qh)
  simp only [zr] at m2 m3
  have hR6:=zx (U hR3) (U qD) (yK (U xK) (yO (U ug).size (U vi).size)) (fun e=>U HB (Option.some.inj e).symm)
  obtain ⟨-,-,-,x3,-⟩:=zB hR6
  obtain ⟨b1,b2,b3,b4⟩:=U R23
  have t7:=aZ (U kt) h 2 qh (by omega) (I ((S3.nd h).qty + o.left)) { (TS.nd _ h) with qty:=(S3.nd h).qty + o.left } rfl _ rfl
  have t8:=aZ t7 h 3 qh (by omega) (I ((S3.nd h).count + 1)) { (TS.nd _ h) with count:=(S3.nd h).count + 1 } rfl _ rfl
  obtain ⟨-,-,-,y3,-⟩:=zQ (t7.nd h qh)
  have f7:=t7.fr
  simp only [cL,zr] at t8 y3
  have pK:=H t8
  have HG8:=H (zR (zR (yS W6 (some b)) (2 + h * 8 + 2) (I ((S3.nd h).qty + o.left))) (2 + h * 8 + 3) (I ((S3.nd h).count + 1)))
  have ag:wrap64 ((S3.nd h).qty + o.left) = (S3.nd h).qty + o.left:=by unfold wrap64; omega
  clear t7 t8 hR6
  go_region
  try simp only [IntKind.wrap_i64]
  try rw [show (IntKind.i64.wrap ((S3.nd h).qty + o.left)) = (S3.nd h).qty + o.left from by rw [IntKind.wrap_i64]; exact ag]
  generalize hW7:W6.setCell (Q b (2 + h * 8 + 2)) (I ((S3.nd h).qty + o.left)) = W7 at *
  go_wp2_with fail
  go_end0
  have HS8:Hid (_ = S3.link h m o.left):=link_eq0 S3 h m o.left hy
  rw [U HS8] at pK
  rw [U au] at pK
  refine ⟨rfl,?_,?_⟩
  ·rw [← U HSD]
   refine ⟨_,t',bD (U pK) rfl,U R6,U R7,?_⟩
   have N:=U R4
   have Y:=U HLC
   show S3.lc ≤ _
   simp; omega
  ·exact cE (((((U hG1).trans (U ug)).trans (U vi)).trans (U qD)).trans (U HG8)) rfl rfl rfl rfl
 ·have t5:=tm_qo (U js) (S3.nd h).yo 6 hy21 (by omega) (I m) { S3.qo (S3.nd h).yo with yg:=m } rfl _ rfl
  have t6:=aZ t5 h 7 qh (by omega) (I m) { (TS.nd _ h) with yo:=m } rfl _ rfl
  obtain ⟨-,-,-,-,-,-,-,k7⟩:=zQ (t5.nd h qh)
  obtain ⟨-,-,-,-,-,-,q6⟩:=dR ((U js).qo (S3.nd h).yo hy21)
  have f5:=t5.fr
  have hyi:((S3.nd h).yo:Int) < 21:=by omega
  have hy0:¬ (((S3.nd h).yo:Int) = 0):=by omega
  have qD:=H (zR (zR (yS W3 (some b)) (171 + (S3.nd h).yo * 7 + 6) (I m)) (2 + h * 8 + 7) (I m))
  have kt:=H t6
  clear t5 t6
  go_wp2_with fail
  go_region
  go_wp2_with fail
  generalize hW6:(W3.setCell (Q b (171 + (S3.nd h).yo * 7 + 6)) (I m)).setCell (Q b (2 + h * 8 + 7)) (I m) = W6 at qD kt ⊢
  clear js hW6
  have f6:=(U kt).fr
  obtain ⟨-,-,m2,m3,-⟩:=zQ ((U kt).nd h qh)
  simp only [zr] at m2 m3
  have hR6:=zx (U hR3) (U qD) (yK (U xK) (yO (U ug).size (U vi).size)) (fun e=>U HB (Option.some.inj e).symm)
  obtain ⟨-,-,-,x3,-⟩:=zB hR6
  obtain ⟨b1,b2,b3,b4⟩:=U R23
  have t7:=aZ (U kt) h 2 qh (by omega) (I ((S3.nd h).qty + o.left)) { (TS.nd _ h) with qty:=(S3.nd h).qty + o.left } rfl _ rfl
  have t8:=aZ t7 h 3 qh (by omega) (I ((S3.nd h).count + 1)) { (TS.nd _ h) with count:=(S3.nd h).count + 1 } rfl _ rfl
  obtain ⟨-,-,-,y3,-⟩:=zQ (t7.nd h qh)
  have f7:=t7.fr
  simp only [cL,zr] at t8 y3
  have pK:=H t8
  have HG8:=H (zR (zR (yS W6 (some b)) (2 + h * 8 + 2) (I ((S3.nd h).qty + o.left))) (2 + h * 8 + 3) (I ((S3.nd h).count + 1)))
  have ag:wrap64 ((S3.nd h).qty + o.left) = (S3.nd h).qty + o.left:=by unfold wrap64; omega
  clear t7 t8 hR6
  go_region
  try simp only [IntKind.wrap_i64]
  try rw [show (IntKind.i64.wrap ((S3.nd h).qty + o.left)) = (S3.nd h).qty + o.left from by rw [IntKind.wrap_i64]; exact ag]
  generalize hW7:W6.setCell (Q b (2 + h * 8 + 2)) (I ((S3.nd h).qty + o.left)) = W7 at *
  go_wp2_with fail
  go_end0
  have HS8:Hid (_ = S3.link h m o.left):=link_eq1 S3 h m o.left hy
  rw [U HS8] at pK
  rw [U au] at pK
  refine ⟨rfl,?_,?_⟩
  ·rw [← U HSD]
   refine ⟨_,t',bD (U pK) rfl,U R6,U R7,?_⟩
   have N:=U R4
   have Y:=U HLC
   show S3.lc ≤ _
   simp; omega
  ·exact cE (((((U hG1).trans (U ug)).trans (U vi)).trans (U qD)).trans (U HG8)) rfl rfl rfl rfl
theorem zNd_b:∀ i,i < 21→(Tryz.zeroCells201.toList.drop (2 + i * 8)).take 8 = zNd.vs
 | 0,_=>by kernel_rfl
 | 1,_=>by kernel_rfl
 | 2,_=>by kernel_rfl
 | 3,_=>by kernel_rfl
 | 4,_=>by kernel_rfl
 | 5,_=>by kernel_rfl
 | 6,_=>by kernel_rfl
 | 7,_=>by kernel_rfl
 | 8,_=>by kernel_rfl
 | 9,_=>by kernel_rfl
 | 10,_=>by kernel_rfl
 | 11,_=>by kernel_rfl
 | 12,_=>by kernel_rfl
 | 13,_=>by kernel_rfl
 | 14,_=>by kernel_rfl
 | 15,_=>by kernel_rfl
 | 16,_=>by kernel_rfl
 | 17,_=>by kernel_rfl
 | 18,_=>by kernel_rfl
 | 19,_=>by kernel_rfl
 | 20,_=>by kernel_rfl
 | n + 21,h=>absurd h (by omega)
theorem zQo_b:∀ i,i < 21→(Tryz.zeroCells201.toList.drop (171 + i * 7)).take 7 = zQo.vs
 | 0,_=>by kernel_rfl
 | 1,_=>by kernel_rfl
 | 2,_=>by kernel_rfl
 | 3,_=>by kernel_rfl
 | 4,_=>by kernel_rfl
 | 5,_=>by kernel_rfl
 | 6,_=>by kernel_rfl
 | 7,_=>by kernel_rfl
 | 8,_=>by kernel_rfl
 | 9,_=>by kernel_rfl
 | 10,_=>by kernel_rfl
 | 11,_=>by kernel_rfl
 | 12,_=>by kernel_rfl
 | 13,_=>by kernel_rfl
 | 14,_=>by kernel_rfl
 | 15,_=>by kernel_rfl
 | 16,_=>by kernel_rfl
 | 17,_=>by kernel_rfl
 | 18,_=>by kernel_rfl
 | 19,_=>by kernel_rfl
 | 20,_=>by kernel_rfl
 | n + 21,h=>absurd h (by omega)
theorem zTree_b (w:World) (sd:Int):aV 201 true (w.alloc (Obj.cells Tryz.zeroCells201 201)) w.heap.size sd [] :=
 ⟨zTS,.nil,tm_zero w _ _ (by kernel_rfl) (by kernel_rfl) zNd_b (by kernel_rfl) zQo_b,ti_zero _,qi_zero _,Nat.le_refl _⟩
theorem plant_b (v:Value) (l:List Od) (sd:Int) (w:World) (hr:RdR Od.vs 6 w v l) (hn:l.length ≤ 20) (hl:∀ o' ∈ l,0 ≤ o'.left∧o'.left ≤ 1000000) :
  Calls Tryz.prog 129 #[v,I sd] w fun e w' =>
   e = yn (yq w 0)∧aV 201 true w' w.heap.size sd (zt l sd)∧yp w w':=by
 obtain ⟨a,cap,rfl,xA,hc⟩:=hr
 have xt:∀ (k:Nat) (c:Od),l[k]? = some c→∃ b off,a = some (Q b off)∧b < w.heap.size∧w.rangeAt b (off + k * 6) c.vs:=by
  intro k c hk
  obtain ⟨b,off,N,Y,h3⟩:=hc (by intro h; rw [h] at hk; simp at hk)
  exact ⟨b,off,N,Y,h3 k c hk⟩
 have HC:=H xt
 have HL:=H hl
 have HN:=H hn
 clear xt hc hl
 have HZ:=H (zTree_b w sd)
 have xW:Hid (yp w (w.alloc (Obj.cells Tryz.zeroCells201 201))):=fw _ _
 go_enter Tryz.func129,Tryz.ntmps129
 go_wp2_with fail
 generalize (w.alloc (Obj.cells Tryz.zeroCells201 201)) = W0 at HZ xW ⊢
 go_loopw [11] (fun i wr=>∃ k:Nat,k ≤ l.length∧i = I k∧aV 201 true wr w.heap.size sd (zt (l.take k) sd)∧yp w wr) (fun i _=>l.length - (intOf i).toNat)
 case atStart=>exact ⟨0,Nat.zero_le _,rfl,U HZ,U xW⟩
 case round =>
  obtain ⟨k,hk,rfl,htr,xl⟩:=hrel
  have oQ:=H htr
  have vp:=H xl
  clear htr xl HZ xW
  by_cases xJ:k < l.length
  ·obtain ⟨c,ur⟩:∃ c,l[k]? = some c:=⟨_,yI xJ⟩
   have jK:=H ur
   obtain ⟨b,off,rfl,E,X⟩:=U HC k c ur
   obtain ⟨g0,g1,g2,g3,g4,g5⟩:=zB (zc X (U vp) E)
   have uF:(k:Int) < l.length:=by omega
   clear ur X E
   by_cases uS:c.side = sd
   ·have HIT:Hid (zt (l.take (k + 1)) c.side = zt (l.take k) c.side ++ [c]):=ofSide_snoc l k c (U jK)
    subst uS
    have uX:(zt (l.take k) c.side).length < 20:=by
     have N:(zt (l.take k) c.side).length ≤ (l.take k).length:=List.length_filter_le _ _
     have Y:(l.take k).length ≤ k:=List.length_take_le _ _
     have h3:=U HN
     omega
    have oA:=H uX
    have X:=U HL c (yP (U jK))
    have jq:=H X
    clear uX X
    go_wp2_with fail
    refine (add_b w.heap.size c.side (zt (l.take k) c.side) c _ (zu (U oQ) (Below.heap_alloc wr _ _ (zH (U oQ)))) rfl (U oA) (fun o' vM=>U HL o' (List.mem_of_mem_take (List.mem_filter.1 vM).1)) (U jq)).mono ?_
    rintro e w2 ⟨rfl,ah,uZ⟩
    rw [← U HIT] at ah
    have pL:=H ah
    have xw:=H (((U vp).alloc (U vp).size _).grown uZ (by rw [zj]; have:=(U vp).size; omega) (fun g hg=>by obtain rfl:=Option.some.inj hg; exact Nat.le_refl _))
    clear ah uZ
    go_wp2_with fail
    go_roundw
    case rel=>exact ⟨k + 1,by omega,by go_num,U pL,U xw⟩
    case measure=>simp [intOf]; omega
   ·have HIT:Hid (zt (l.take (k + 1)) sd = zt (l.take k) sd):=ofSide_skip l k c (U jK) uS
    go_wp2_with fail
    go_roundw
    case rel =>
     refine ⟨k + 1,by omega,by go_num,?_,?_⟩
     ·rw [U HIT]; exact zu (U oQ) (Below.heap_alloc wr _ _ (zH (U oQ)))
     ·exact (U vp).alloc (U vp).size _
    case measure=>simp [intOf]; omega
  ·go_wp2_with fail
   go_ret
   have h:=U oQ
   rw [xa (by omega)] at h
   exact ⟨rfl,h,U vp⟩
theorem infoH_b:(Tryz.prog.info? 191).map (fun i=>(i.zero,i.size,i.bytes)) = some (some (I 0),1,8):=by kernel_rfl
theorem cellsH_b (w:World) (A:List Value) (t:TypeId) (j:Nat) (u:Value) (h:A[j]? = some u):(w.alloc (Obj.cells A.toArray t)).cell? (((yr w 0):Addr).add j) = some u:=by
 rw [Addr.add_mid,cell_of_row _ w.heap.size (0 + j) A.toArray t (0,0) (heap_alloc_new w _)]
 simpa using h
def hval_b (h:Nat):Value:=I h
theorem ranked_b (S:TS) (b B:Nat) (aB:b < B):∀ (t:Tr) (w:World) (v:Value) (done:List Nat) (part:Nat),TM 201 w b S→Rep S.nd t part→(∀ h ∈ t.hs,h < 21)→B ≤ w.heap.size →
  w.ownsRow B 191 1 v done.length (done.map hval_b)→done.length + t.hs.length ≤ 1000 →
  Calls Tryz.prog 195 #[J b 0,v,I part] w fun e w' =>
   ∃ v',e = yn v'∧w'.ownsRow B 191 1 v' (done ++ t.hs).length ((done ++ t.hs).map hval_b)∧Below B w w'
 | .nil,w,v,done,part,hT,hrep,hh,hB,xS,xA=>by
  obtain rfl:part = 0:=hrep
  have HO:=H xS
  clear xS hT hh
  go_enter Tryz.func195,Tryz.ntmps195
  go_wp2_with fail
  go_ret
  exact ⟨v,rfl,by simpa [Tr.hs] using U HO,Below.refl _ _⟩
 | .node h l r,w,v,done,part,hT,hrep,hh,hB,xS,xA=>by
  obtain ⟨rfl,h0,hl,hr⟩:=hrep
  have HO:=H xS
  have HT:=H hT
  have HL:=H hl
  have HR:=H hr
  have oY:done.length + (l.hs.length + 1 + r.hs.length) ≤ 1000:=by simp [Tr.hs] at xA; omega
  have qh:=hh part (by simp [Tr.hs])
  have HHL:=H (fun a (ha:a ∈ l.hs)=>hh a (by simp [Tr.hs,ha]))
  have HHR:=H (fun a (ha:a ∈ r.hs)=>hh a (by simp [Tr.hs,ha]))
  have h21':(part:Int) < 21:=by omega
  have h0':¬ ((part:Int) = 0):=by omega
  have jV:=H oY
  obtain ⟨-,-,-,-,n4,-⟩:=zQ (hT.nd part qh)
  obtain ⟨i0,hi,uH,uI,uW⟩:=info_parts infoH_b
  clear xS hT hh hl hr xA oY
  go_enter Tryz.func195,Tryz.ntmps195
  go_wp2_with fail
  refine (ranked_b S b B aB l w v done _ (U HT) (U HL) (U HHL) hB (U HO) (by have:=U jV; omega)).mono ?_
  rintro e w1 ⟨v1,rfl,kK,uk⟩
  have qW:=H kK
  have ue:=H uk
  have hsz1:=uk.size
  have hla:(done ++ l.hs).length ≤ 999:=by have:=U jV; rw [yQ]; omega
  obtain ⟨-,-,-,-,-,n5,-⟩:=zQ ((cS (U HT) uk aB).nd part qh)
  clear kK uk n4
  go_wp2_with (at_builtin; go_must (refine wpList_append_own _ rfl _ _ 227 rfl B 191 i0 _ 1 8 Tryz.underlying227 hi uH uI uW rfl (by decide) v1 (done ++ l.hs).length ((done ++ l.hs).map hval_b) rfl ((U qW).alloc _) (yr w1 0) 1 1 [hval_b part] rfl rfl (cellsH_b w1 _ _) (by simp [Value.oneCell',hval_b]) (by unfold maxLen; omega) (by omega) (by simp at hla ⊢; omega) ?_); intro v2 w2 pa uZ _; have jA:=H pa; have xw:=H (((U ue).alloc (yO hB hsz1) _).grown uZ (by rw [zj]; omega) (fun k hk=>((U qW).lt k hk).1)); have m5:=(zQ ((cS (U HT) (U xw) aB).nd part qh)).2.2.2.2.2.1; clear pa uZ n5)
  have hsz2:=(U xw).size
  refine (ranked_b S b B aB r w2 v2 (done ++ l.hs ++ [part]) _ (cS (U HT) (U xw) aB) (U HR) (U HHR) (by omega) (by simpa [Nat.add_assoc] using U jA) (by have:=U jV; simp; omega)).mono ?_
  rintro e w3 ⟨v3,rfl,aI,xQ⟩
  have pF:=H aI
  have xN:=H ((U xw).trans xQ)
  clear aI xQ m5
  go_wp2_with fail
  go_ret
  exact ⟨v3,rfl,by simpa [Tr.hs] using U pF,U xN⟩
end Go.Proofs.YtnphbkgfjanmgaaGreatDoor
