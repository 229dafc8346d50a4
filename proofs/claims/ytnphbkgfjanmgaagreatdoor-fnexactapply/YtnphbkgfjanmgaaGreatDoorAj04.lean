/-
  How an order's level is found in the tree, or grown, proved by walking the function.
-/
import Derived.Test.YtnphbkgfjanmgaaGreatDoorAj03
set_option linter.unusedVariables false
set_option maxHeartbeats 6400000
set_option maxRecDepth 100000
namespace Go.Proofs.YtnphbkgfjanmgaaGreatDoor
open Go.RowKit
theorem better_b (a c:Int) (w:World) :
  Calls Tryz.prog 236 #[.agg #[],I a,I c] w fun e w'=>e = yn (.bool (decide (c < a)))∧w.grownBy w' none:=by
 go_enter Tryz.func236,Tryz.ntmps236
 go_wp2_with fail
 go_ret
 exact ⟨rfl,World.grownBy_alloc _ _ _⟩
theorem method_b (w:World):Sem.run Tryz.prog (method 399 162 (.agg #[]) "loop.example/g00092/impl.better") w = .ok (236,.agg #[]) w:=by kernel_rfl
theorem part_b {w:World} {b:Nat} (h:∃ xF,w.heap[b]? = some (.cells xF 201 (0,0))):Sem.run Tryz.prog (partAt (D b 0) 0 0) w = .ok (D b 0) w:=by
 obtain ⟨xF,h⟩:=h
 have hc:Tryz.prog.cellsOf 201 = 318:=by kernel_rfl
 have hy:byteOfCell Tryz.prog Tryz.prog.depth 201 0 = some 0:=by kernel_rfl
 have hs:w.shape? b = some (201,xF.size):=by simp [World.shape?,h]
 simp [partAt,byteOf,noView,viewAt,hs,hc,hy]
theorem levelFor_b (b:Nat) (S:TS) (t:Tr) (o:Od) (w:World) (hT:TM 201 w b S) (hi:TI true S t) (qh:S.lc < 20) :
  Calls Tryz.prog 196 #[J b 0,.agg (yx o.id o.side o.ticks o.left o.life o.tag).toArray] w fun e w' =>
   ∃ (h:Nat),e = yn (I h)∧LFEnd true 201 b S t o w h w':=by
 have HT:=H hT
 have HI:=H hi
 clear hT hi
 go_enter Tryz.func196,Tryz.ntmps196
 go_wp2_with fail
 have HW:Hid (∃ W,W = (w.alloc (A (yx o.id o.side o.ticks o.left o.life o.tag).toArray 78))∧W.rangeAt w.heap.size 0 o.vs∧TM 201 W b S∧w.grownBy W (some b)∧w.heap.size < W.heap.size∧b ≠ w.heap.size) :=
  ⟨_,rfl,zo w o.vs _,cw (U HT) (Below.heap_alloc w _ _ (tm_lt (U HT))),World.grownBy_alloc _ _ _,by rw [zj]; omega,by have:=tm_lt (U HT); omega⟩
 obtain ⟨W,hW,hWW⟩:=U HW
 rw [← hW]
 have ai:=H hWW
 clear hW hWW HW HT
 go_loopg [5] (t.hs.length) (fun k p wr=>LFI true b S t o.ticks W k p wr)
 case atStart=>exact ⟨[],t,rfl,Nat.le_refl _,way_start (U HI) _,yS _ _⟩
 case round =>
  obtain ⟨c,u,rfl,hk,hw,hg⟩:=hrel
  have km:=H hw
  have HG:=H hg
  have HK:=H hk
  have hT:=eH (U ai).2.1 hg (by simp)
  have c0:=cur_cell hT (zY c) (cur_ok (U HI) hw qh)
  obtain ⟨o0,o1,o2,o3,o4,o5⟩:=zB (zy (U ai).1 hg (U ai).2.2.2.1 (by simp))
  clear hk hw hg
  by_cases ha:S.rd (zY c) = 0
  ·have jZ:=hT.lc
   have hf:=hT.fr
   have HA0:=H ha
   rw [ha] at c0
   have hlc':(S.lc:Int) < 20:=by omega
   have e1:((S.lc + 1:Nat):Int) = (S.lc:Int) + 1:=by omega
   have vr:=cur_ok (U HI) (U km) qh
   have t1:=tm_lc hT (S.lc + 1)
   have t2:=tm_cur t1 (zY c) vr (S.lc + 1)
   rw [e1] at t1 t2
   have d2:_ = _:=(cur_cell t1 (zY c) vr).trans (congrArg (fun x:Nat=>some (I x)) (show TS.rd _ (zY c) = 0 from by rw [← ha]; cases (zY c) <;> rfl))
   have d3:_ = _:=t2.lc
   rw [(wr_same _ _ _).1] at d3
   simp only [e1] at d3
   have g1:=t1.fr
   have g2:=t2.fr
   obtain ⟨n0,n1,n2,n3,-⟩:=zS (t2.nd (S.lc + 1) (by omega))
   have Q:b ≠ w.heap.size:=(U ai).2.2.2.2
   have p1:((wr.setCell (D b 1) (I ((S.lc:Int) + 1))).setCell (D b ((zY c).off)) (I ((S.lc:Int) + 1))).cell? (yr w (0 + 1)) = some (I o.side):=by
    rw [yM _ _ _ _ (fun e=>Q (congrArg Addr.block e)),yM _ _ _ _ (fun e=>Q (congrArg Addr.block e))]; exact o1
   have p2:((wr.setCell (D b 1) (I ((S.lc:Int) + 1))).setCell (D b ((zY c).off)) (I ((S.lc:Int) + 1))).cell? (yr w (0 + 2)) = some (I o.ticks):=by
    rw [yM _ _ _ _ (fun e=>Q (congrArg Addr.block e)),yM _ _ _ _ (fun e=>Q (congrArg Addr.block e))]; exact o2
   have uz:=H t2
   have HB:=H Q
   clear ha hT t1 t2 vr Q
   go_wp2_with fail
   have uw:Hid (wr.grownBy ((wr.setCell (D b 1) (I ((S.lc:Int) + 1))).setCell (D b ((zY c).off)) (I ((S.lc:Int) + 1))) (some b)):=zT (zT (yS _ _) _ _) _ _
   generalize hW4:((wr.setCell (D b 1) (I ((S.lc:Int) + 1))).setCell (D b ((zY c).off)) (I ((S.lc:Int) + 1))) = W4 at *
   rw [← e1] at d3
   obtain ⟨m,hm⟩:∃ m,m = S.lc + 1:=⟨_,rfl⟩
   rw [← hm] at d3 n0 n1 n2 n3
   have hm21:(m:Int) < 21:=by omega
   have HM:=H hm
   clear hW4 hm e1 d2 jZ hf g1 c0 o0 o1 o2 o3 o4 o5 hlc'
   go_region
   have t3:=U uz
   have t4:=bK t3 (S.lc + 1) 0 (by omega) (by omega) (I o.side) { (TS.nd _ (S.lc + 1)) with side:=o.side } rfl _ rfl
   have t5:=bK t4 (S.lc + 1) 1 (by omega) (by omega) (I o.ticks) { (TS.nd _ (S.lc + 1)) with ticks:=o.ticks } rfl _ rfl
   have t6:=bK t5 (S.lc + 1) 2 (by omega) (by omega) (I 0) { (TS.nd _ (S.lc + 1)) with qty:=0 } rfl _ rfl
   have t7:=bK t6 (S.lc + 1) 3 (by omega) (by omega) (I 0) { (TS.nd _ (S.lc + 1)) with count:=0 } rfl _ rfl
   have jK:=H (gr_drew (zT (zT (zT (zT (U uw) (2 + m * 8) (I o.side)) (2 + m * 8 + 1) (I o.ticks)) (2 + m * 8 + 2) (I 0)) (2 + m * 8 + 3) (I 0)))
   rw [← U HM] at t7
   simp only [dH,zt] at t7
   have hS:_ = S.grow (zY c) o.side o.ticks:=grow_eq S (zY c) o m (U HM)
   rw [hS] at t7
   have d7:_ = some (I (m:Int)):=t7.lc.trans (by rw [U HM]; rfl)
   have HT7:=H t7
   clear t3 t4 t5 t6 t7 n0 n1 n2 n3 d3 p1 p2
   generalize (((W4.setCell (D b (2 + m * 8)) (I o.side)).setCell (D b (2 + m * 8 + 1)) (I o.ticks)).setCell (D b (2 + m * 8 + 2)) (I 0)).setCell (D b (2 + m * 8 + 3)) (I 0) = W7 at *
   go_wp2_with fail
   go_ret
   exact ⟨m,rfl,_,cw (U HT7) rfl,(U ai).2.2.1.trans (((U HG).but _).trans (U jK)),.inr ⟨c,u,U km,U HA0,U HM,rfl⟩⟩
  ·have ham:=way_at (U km) rfl ha
   have har:=(U HI).range _ ham
   obtain ⟨a,oC⟩:∃ a,a = S.rd (zY c):=⟨_,rfl⟩
   rw [← oC] at c0 ha ham har
   have HAE:=H oC
   have ha':¬ ((a:Int) = 0):=by omega
   have ha21:(a:Int) < 21:=by omega
   obtain ⟨n0,n1,n2,n3,n4,n5,n6,n7⟩:=zS (hT.nd a (by omega))
   have HTM:=H hT
   have hpt:∀ w',wr.grownBy w' none→Sem.run Tryz.prog (partAt (D b 0) 0 0) w' = .ok (D b 0) w':=fun w' h=>part_b (eH (U HTM) h (by simp)).obj
   have HPT:=H hpt
   have HN1:=H (fun w' (h:wr.grownBy w' none)=>h.cell n1 (by simp))
   have qS:=H (fun w' (h:wr.grownBy w' none)=>h.cell o2 (by simp))
   clear oC hT hpt
   go_wp2_with fail
   go_quiet (fail)
   go_wp2_with fail
   refine ep (W:=wr) (by kernel_rfl) (by kernel_rfl) ⟨rfl,rfl,rfl,Nat.le_refl _,fun _ _ _=>rfl⟩ ?_
   iterate 12 (
    refine bV (v:=?_) ?_ ?_ ?_
    rotate_left
    ·rfl
    ·intro w' uq
     have f1:=U HN1 w' uq
     have f2:=U qS w' uq
     have f3:=U HPT w' uq
     go_simp
     try rfl
    intro hR hK
    go_simp
    refine hK _ ?_
    clear hK hR)
   refine bV (v:=.bool (decide ((S.nd a).ticks < o.ticks))) ?_ ?_ ?_
   ·rfl
   ·intro w' uq
    have hm:=method_b w'
    go_simp
    refine (better_b _ _ _).mono ?_
    rintro e w3 ⟨rfl,uG⟩
    exact ⟨rfl,uq.trans uG⟩
   intro hR hK
   go_simp
   refine hK _ ?_
   clear hK hR
   refine bV (v:=?_) ?_ ?_ ?_
   rotate_left
   ·rfl
   ·intro w' uq
    go_simp
    try rfl
   intro hR hK
   go_simp
   refine hK _ ?_
   clear hK hR
   refine wpQuiet_nil ?_
   intro w2 vh
   have uh:=H vh
   clear vh
   by_cases N:(S.nd a).ticks < o.ticks
   ·have pJ:decide ((S.nd a).ticks < o.ticks) = true:=by simpa using N
    go_wp2_with fail
    obtain ⟨l,r,rfl,hw2⟩:=way_be (U HI) (U km) (U HAE).symm ha N
    go_roundg (l.hs.length)
    case measure=>have:=U HK; simp [Tr.hs] at this; omega
    case rel=>exact ⟨_,l,rfl,Nat.le_refl _,hw2,(U HG).trans (U uh)⟩
   ·have pJ:decide ((S.nd a).ticks < o.ticks) = false:=by simpa using N
    go_wp2_with fail
    refine ep (W:=wr) (by kernel_rfl) (by kernel_rfl) (U uh) ?_
    iterate 12 (
     refine bV (v:=?_) ?_ ?_ ?_
     rotate_left
     ·rfl
     ·intro w' uq
      have f1:=U HN1 w' uq
      have f2:=U qS w' uq
      have f3:=U HPT w' uq
      go_simp
      try rfl
     intro hR hK
     go_simp
     refine hK _ ?_
     clear hK hR)
    refine bV (v:=.bool (decide (o.ticks < (S.nd a).ticks))) ?_ ?_ ?_
    ·rfl
    ·intro w' uq
     have hm:=method_b w'
     go_simp
     refine (better_b _ _ _).mono ?_
     rintro e w3 ⟨rfl,uG⟩
     exact ⟨rfl,uq.trans uG⟩
    intro hR hK
    go_simp
    refine hK _ ?_
    clear hK hR
    refine bV (v:=?_) ?_ ?_ ?_
    rotate_left
    ·rfl
    ·intro w' uq
     go_simp
     try rfl
    intro hR hK
    go_simp
    refine hK _ ?_
    clear hK hR
    refine wpQuiet_nil ?_
    intro w3 uG
    have vn:=H uG
    clear uG
    by_cases Y:o.ticks < (S.nd a).ticks
    ·have oU:decide (o.ticks < (S.nd a).ticks) = true:=by simpa using Y
     go_wp2_with fail
     obtain ⟨l,r,rfl,hw2⟩:=way_wo (U HI) (U km) (U HAE).symm ha Y
     go_roundg (r.hs.length)
     case measure=>have:=U HK; simp [Tr.hs] at this; omega
     case rel=>exact ⟨_,r,rfl,Nat.le_refl _,hw2,(U HG).trans (U vn)⟩
    ·have oU:decide (o.ticks < (S.nd a).ticks) = false:=by simpa using Y
     have c3:=(U vn).cell c0 (by simp)
     go_wp2_with fail
     go_ret
     have hG:=(U HG).trans (U vn)
     exact ⟨a,rfl,S,eH (U ai).2.1 hG (by simp),(U ai).2.2.1.trans (hG.but _),.inl ⟨ham,by omega,rfl⟩⟩
theorem add_b (b:Nat) (sd:Int) (seq:List Od) (o:Od) (w:World) (h:bF 201 true w b sd seq) (uV:o.side = sd) (hn:seq.length < 20) (hl:∀ o' ∈ seq,0 ≤ o'.left∧o'.left ≤ 1000000) (hlo:0 ≤ o.left∧o.left ≤ 1000000) :
  Calls Tryz.prog 169 #[J b 0,.agg (yx o.id o.side o.ticks o.left o.life o.tag).toArray] w fun e w' =>
   e = yn (.tuple #[])∧bF 201 true w' b sd (seq ++ [o])∧w.grownBy w' (some b):=by
 obtain ⟨S,t,hT,hi,hq,qh⟩:=h
 have HI:=H hi
 have HQ:=H hq
 have HT:=H hT
 have HLC:=H qh
 have HL:=H hl
 have HSD:=H uV
 have HOC:=H hq.oc
 have hoc':(S.oc:Int) < 20:=by have:=hq.oc; omega
 have e1:((S.oc + 1:Nat):Int) = (S.oc:Int) + 1:=by omega
 have Q:b ≠ w.heap.size:=by have:=tm_lt hT; omega
 have kz:World.rangeAt (w.alloc (A (yx o.id o.side o.ticks o.left o.life o.tag).toArray 78)) w.heap.size 0 o.vs:=zo w o.vs 78
 have oA:TM 201 (w.alloc (A (yx o.id o.side o.ticks o.left o.life o.tag).toArray 78)) b S:=cw hT (Below.heap_alloc w _ _ (tm_lt hT))
 have c1:=oA.oc
 have f1:=oA.fr
 have hT1:=tm_oc oA (S.oc + 1)
 have hR1:Hid (World.rangeAt (World.setCell (w.alloc (A (yx o.id o.side o.ticks o.left o.life o.tag).toArray 78)) (D b 170) (I ((S.oc + 1:Nat):Int))) w.heap.size 0 o.vs):=fun j u hu=>by
  rw [yM _ _ _ _ (fun e=>Q (congrArg Addr.block e))]; exact kz j u hu
 have hG1:Hid (w.grownBy (World.setCell (w.alloc (A (yx o.id o.side o.ticks o.left o.life o.tag).toArray 78)) (D b 170) (I ((S.oc + 1:Nat):Int))) (some b)):=zT (World.grownBy_alloc w (A (yx o.id o.side o.ticks o.left o.life o.tag).toArray 78) _) _ _
 have jn:=H hT1
 have xL:Hid (w.heap.size < (World.heap (World.setCell (w.alloc (A (yx o.id o.side o.ticks o.left o.life o.tag).toArray 78)) (D b 170) (I ((S.oc + 1:Nat):Int)))).size):=(by
  have:=yL _ _ (hR1 0 _ rfl)
  exact this)
 clear hi hq qh hl uV hT oA kz hT1
 go_enter Tryz.func169,Tryz.ntmps169
 go_wp2_with fail
 rw [← e1]
 have em:∃ m,m = S.oc + 1:=⟨_,rfl⟩
 obtain ⟨m,hm⟩:=em
 rw [← hm] at hR1 hG1 jn xL ⊢
 generalize hW1:World.setCell (w.alloc (A (yx o.id o.side o.ticks o.left o.life o.tag).toArray 78)) (D b 170) (I (m:Int)) = W1 at hR1 hG1 jn xL ⊢
 have HM:=H hm
 have hm21:(m:Int) < 21:=by omega
 obtain ⟨o0,o1,o2,o3,o4,o5⟩:=zB (U hR1)
 obtain ⟨q0,q1,q2,q3,q4,q5,q6⟩:=eG ((U jn).qo m (by omega))
 have f2:=(U jn).fr
 have pu:S.lc < 20:=by have:=U HLC; omega
 have HB:=H Q
 clear hW1 hm e1 c1 f1 hoc' Q
 go_region
 have uz:=H (tm_put (U jn) m (by omega) o)
 have uh:=H (gr_put (w:=W1) (b:=b) o m)
 generalize hW2:(((((((W1.setCell (D b (171 + m * 7)) (I o.id)).setCell (D b (171 + m * 7 + 1)) (I o.side)).setCell (D b (171 + m * 7 + 2)) (I o.ticks)).setCell (D b (171 + m * 7 + 3)) (I o.left)).setCell
   (D b (171 + m * 7 + 4)) (I o.life)).setCell (D b (171 + m * 7 + 5)) (yl o.tag)).setCell (D b (171 + m * 7 + 6)) (I 0)) = W2 at uz uh ⊢
 clear hW2 o0 o1 o2 o3 o4 o5 q0 q1 q2 q3 q4 q5 q6 f2
 rw [show ({ root:=S.root,lc:=S.lc,oc:=m,nd:=S.nd,qo:=upd S.qo m ⟨o,0⟩ }:TS) = S.lay o from by rw [U HM]; rfl] at uz
 have hR2:=H (zy (U hR1) (U uh) (U xL) (fun e=>U HB (Option.some.inj e).symm))
 obtain ⟨o0,o1,o2,o3,o4,o5⟩:=zB (U hR2)
 have HTI:=H (ti_lay o (U HI))
 have HT2d:Hid (TM 201 W2.drew.drew b (S.lay o)):=cw (U uz) rfl
 go_wp2_with fail
 go_region_with (go_at_call 196; refine (levelFor_b b (S.lay o) t o W2.drew.drew (U HT2d) (U HTI) pu).mono ?_; rintro e W3 ⟨h,rfl,vp⟩; have HE:=H vp; have qZ:(h:Int) < 21:=lf_lt vp (U HTI) pu; clear vp)
 obtain ⟨S3,hT3,uG,qx⟩:=U HE
 rw [← U HSD] at HQ
 obtain ⟨r1,r2,r3,r4,r5,t',r6,r7⟩:=add_ready (U HI) (U HQ) qx
 have R4:=H r4
 have R6:=H r6
 have R7:=H r7
 have R23:Hid ((0:Int) ≤ (S3.nd h).qty∧(S3.nd h).qty ≤ 20000000∧(0:Int) ≤ (S3.nd h).count∧(S3.nd h).count ≤ 20):=by
  have Q:=sumL_bound (atK seq o.ticks) (fun o' vO=>U HL o' (List.mem_filter.1 vO).1)
  have qi:(atK seq o.ticks).length ≤ seq.length:=List.length_filter_le _ _
  rw [r2,r3]
  refine ⟨Q.1,?_,by omega,by omega⟩
  have:=Q.2
  have h20:((atK seq o.ticks).length:Int) ≤ 20:=by omega
  omega
 have jD:=H hT3
 have vn:Hid (W2.grownBy W3 (some b)):=⟨uG.os,uG.tape,uG.output,uG.size,uG.block⟩
 have hR3:=H (zy (U hR2) (U vn) (yK (U xL) (U uh).size) (fun e=>U HB (Option.some.inj e).symm))
 have hy21:(S3.nd h).yo < 21:=by omega
 have aB:m = 1 + seq.length:=by have:=U HM; have:=U HOC; omega
 have aR:=H aB
 clear hT3 uG qx r1 r2 r3 r4 r5 r6 r7 o0 o1 o2 o3 o4 o5 aB HE
 have xQ:=(U jD).fr
 obtain ⟨n0,n1,n2,n3,n4,n5,n6,n7⟩:=zS ((U jD).nd h (by omega))
 have qr:h < 21:=by omega
 clear n0 n1 n2 n3 n4 n5
 by_cases hy:(S3.nd h).yo = 0
 ·have t5:=bK (U jD) h 6 qr (by omega) (I m) { S3.nd h with el:=m } rfl _ rfl
  have t6:=bK t5 h 7 qr (by omega) (I m) { (TS.nd _ h) with yo:=m } rfl _ rfl
  simp only [dH,zt] at t6
  obtain ⟨-,-,-,-,-,-,-,k7⟩:=zS (t5.nd h qr)
  have f5:=t5.fr
  rw [hy] at n7
  have qK:=H (zT (zT (yS W3 (some b)) (2 + h * 8 + 6) (I m)) (2 + h * 8 + 7) (I m))
  have kM:=H t6
  clear t5 t6
  go_wp2_with fail
  generalize hW6:(W3.setCell (D b (2 + h * 8 + 6)) (I m)).setCell (D b (2 + h * 8 + 7)) (I m) = W6 at qK kM ⊢
  clear jD hW6
  have f6:=(U kM).fr
  obtain ⟨-,-,m2,m3,-⟩:=zS ((U kM).nd h qr)
  simp only [zt] at m2 m3
  have hR6:=zy (U hR3) (U qK) (yK (U xL) (yO (U uh).size (U vn).size)) (fun e=>U HB (Option.some.inj e).symm)
  obtain ⟨-,-,-,x3,-⟩:=zB hR6
  obtain ⟨b1,b2,b3,b4⟩:=U R23
  have t7:=bK (U kM) h 2 qr (by omega) (I ((S3.nd h).qty + o.left)) { (TS.nd _ h) with qty:=(S3.nd h).qty + o.left } rfl _ rfl
  have t8:=bK t7 h 3 qr (by omega) (I ((S3.nd h).count + 1)) { (TS.nd _ h) with count:=(S3.nd h).count + 1 } rfl _ rfl
  obtain ⟨-,-,-,y3,-⟩:=zS (t7.nd h qr)
  have f7:=t7.fr
  simp only [dH,zt] at t8 y3
  have ag:=H t8
  have HG8:=H (zT (zT (yS W6 (some b)) (2 + h * 8 + 2) (I ((S3.nd h).qty + o.left))) (2 + h * 8 + 3) (I ((S3.nd h).count + 1)))
  have aI:wrap64 ((S3.nd h).qty + o.left) = (S3.nd h).qty + o.left:=by unfold wrap64; omega
  clear t7 t8 hR6
  go_region
  try simp only [IntKind.wrap_i64]
  try rw [show (IntKind.i64.wrap ((S3.nd h).qty + o.left)) = (S3.nd h).qty + o.left from by rw [IntKind.wrap_i64]; exact aI]
  generalize hW7:W6.setCell (D b (2 + h * 8 + 2)) (I ((S3.nd h).qty + o.left)) = W7 at *
  go_wp2_with fail
  go_end0
  have HS8:Hid (_ = S3.link h m o.left):=link_eq0 S3 h m o.left hy
  rw [U HS8] at ag
  rw [U aR] at ag
  refine ⟨rfl,?_,?_⟩
  ·rw [← U HSD]
   refine ⟨_,t',cw (U ag) rfl,U R6,U R7,?_⟩
   have N:=U R4
   have Y:=U HLC
   show S3.lc ≤ _
   simp; omega
  ·exact dw (((((U hG1).trans (U uh)).trans (U vn)).trans (U qK)).trans (U HG8)) rfl rfl rfl rfl
 ·have t5:=tm_qo (U jD) (S3.nd h).yo 6 hy21 (by omega) (I m) { S3.qo (S3.nd h).yo with yg:=m } rfl _ rfl
  have t6:=bK t5 h 7 qr (by omega) (I m) { (TS.nd _ h) with yo:=m } rfl _ rfl
  obtain ⟨-,-,-,-,-,-,-,k7⟩:=zS (t5.nd h qr)
  obtain ⟨-,-,-,-,-,-,q6⟩:=eG ((U jD).qo (S3.nd h).yo hy21)
  have f5:=t5.fr
  have hyi:((S3.nd h).yo:Int) < 21:=by omega
  have hy0:¬ (((S3.nd h).yo:Int) = 0):=by omega
  have qK:=H (zT (zT (yS W3 (some b)) (171 + (S3.nd h).yo * 7 + 6) (I m)) (2 + h * 8 + 7) (I m))
  have kM:=H t6
  clear t5 t6
  go_wp2_with fail
  go_region
  go_wp2_with fail
  generalize hW6:(W3.setCell (D b (171 + (S3.nd h).yo * 7 + 6)) (I m)).setCell (D b (2 + h * 8 + 7)) (I m) = W6 at qK kM ⊢
  clear jD hW6
  have f6:=(U kM).fr
  obtain ⟨-,-,m2,m3,-⟩:=zS ((U kM).nd h qr)
  simp only [zt] at m2 m3
  have hR6:=zy (U hR3) (U qK) (yK (U xL) (yO (U uh).size (U vn).size)) (fun e=>U HB (Option.some.inj e).symm)
  obtain ⟨-,-,-,x3,-⟩:=zB hR6
  obtain ⟨b1,b2,b3,b4⟩:=U R23
  have t7:=bK (U kM) h 2 qr (by omega) (I ((S3.nd h).qty + o.left)) { (TS.nd _ h) with qty:=(S3.nd h).qty + o.left } rfl _ rfl
  have t8:=bK t7 h 3 qr (by omega) (I ((S3.nd h).count + 1)) { (TS.nd _ h) with count:=(S3.nd h).count + 1 } rfl _ rfl
  obtain ⟨-,-,-,y3,-⟩:=zS (t7.nd h qr)
  have f7:=t7.fr
  simp only [dH,zt] at t8 y3
  have ag:=H t8
  have HG8:=H (zT (zT (yS W6 (some b)) (2 + h * 8 + 2) (I ((S3.nd h).qty + o.left))) (2 + h * 8 + 3) (I ((S3.nd h).count + 1)))
  have aI:wrap64 ((S3.nd h).qty + o.left) = (S3.nd h).qty + o.left:=by unfold wrap64; omega
  clear t7 t8 hR6
  go_region
  try simp only [IntKind.wrap_i64]
  try rw [show (IntKind.i64.wrap ((S3.nd h).qty + o.left)) = (S3.nd h).qty + o.left from by rw [IntKind.wrap_i64]; exact aI]
  generalize hW7:W6.setCell (D b (2 + h * 8 + 2)) (I ((S3.nd h).qty + o.left)) = W7 at *
  go_wp2_with fail
  go_end0
  have HS8:Hid (_ = S3.link h m o.left):=link_eq1 S3 h m o.left hy
  rw [U HS8] at ag
  rw [U aR] at ag
  refine ⟨rfl,?_,?_⟩
  ·rw [← U HSD]
   refine ⟨_,t',cw (U ag) rfl,U R6,U R7,?_⟩
   have N:=U R4
   have Y:=U HLC
   show S3.lc ≤ _
   simp; omega
  ·exact dw (((((U hG1).trans (U uh)).trans (U vn)).trans (U qK)).trans (U HG8)) rfl rfl rfl rfl
theorem zNd_b:∀ i,i < 21→(Tryz.zeroCells201.toList.drop (2 + i * 8)).take 8 = zNd.vs
 | 0,_=>by kernel_rfl
 | 1,_=>by kernel_rfl
 | 2,_=>by kernel_rfl
 | 3,_=>by kernel_rfl
 | 4,_=>by kernel_rfl
 | 5,_=>by kernel_rfl
 | 6,_=>by kernel_rfl
 | 7,_=>by kernel_rfl
 | 8,_=>by kernel_rfl
 | 9,_=>by kernel_rfl
 | 10,_=>by kernel_rfl
 | 11,_=>by kernel_rfl
 | 12,_=>by kernel_rfl
 | 13,_=>by kernel_rfl
 | 14,_=>by kernel_rfl
 | 15,_=>by kernel_rfl
 | 16,_=>by kernel_rfl
 | 17,_=>by kernel_rfl
 | 18,_=>by kernel_rfl
 | 19,_=>by kernel_rfl
 | 20,_=>by kernel_rfl
 | n + 21,h=>absurd h (by omega)
theorem zQo_b:∀ i,i < 21→(Tryz.zeroCells201.toList.drop (171 + i * 7)).take 7 = zQo.vs
 | 0,_=>by kernel_rfl
 | 1,_=>by kernel_rfl
 | 2,_=>by kernel_rfl
 | 3,_=>by kernel_rfl
 | 4,_=>by kernel_rfl
 | 5,_=>by kernel_rfl
 | 6,_=>by kernel_rfl
 | 7,_=>by kernel_rfl
 | 8,_=>by kernel_rfl
 | 9,_=>by kernel_rfl
 | 10,_=>by kernel_rfl
 | 11,_=>by kernel_rfl
 | 12,_=>by kernel_rfl
 | 13,_=>by kernel_rfl
 | 14,_=>by kernel_rfl
 | 15,_=>by kernel_rfl
 | 16,_=>by kernel_rfl
 | 17,_=>by kernel_rfl
 | 18,_=>by kernel_rfl
 | 19,_=>by kernel_rfl
 | 20,_=>by kernel_rfl
 | n + 21,h=>absurd h (by omega)
theorem zTree_b (w:World) (sd:Int):bF 201 true (w.alloc (Obj.cells Tryz.zeroCells201 201)) w.heap.size sd [] :=
 ⟨zTS,.nil,tm_zero w _ _ (by kernel_rfl) (by kernel_rfl) zNd_b (by kernel_rfl) zQo_b,ti_zero _,qi_zero _,Nat.le_refl _⟩
theorem plant_b (v:Value) (l:List Od) (sd:Int) (w:World) (hr:RdR Od.vs 6 w v l) (hn:l.length ≤ 20) (hl:∀ o' ∈ l,0 ≤ o'.left∧o'.left ≤ 1000000) :
  Calls Tryz.prog 129 #[v,I sd] w fun e w' =>
   e = yn (yq w 0)∧bF 201 true w' w.heap.size sd (zv l sd)∧yp w w':=by
 obtain ⟨a,cap,rfl,xz,hc⟩:=hr
 have xr:∀ (k:Nat) (c:Od),l[k]? = some c→∃ b off,a = some (D b off)∧b < w.heap.size∧w.rangeAt b (off + k * 6) c.vs:=by
  intro k c hk
  obtain ⟨b,off,N,Y,h3⟩:=hc (by intro h; rw [h] at hk; simp at hk)
  exact ⟨b,off,N,Y,h3 k c hk⟩
 have HC:=H xr
 have HL:=H hl
 have HN:=H hn
 clear xr hc hl
 have HZ:=H (zTree_b w sd)
 have xX:Hid (yp w (w.alloc (Obj.cells Tryz.zeroCells201 201))):=gp _ _
 go_enter Tryz.func129,Tryz.ntmps129
 go_wp2_with fail
 generalize (w.alloc (Obj.cells Tryz.zeroCells201 201)) = W0 at HZ xX ⊢
 go_loopw [11] (fun i wr=>∃ k:Nat,k ≤ l.length∧i = I k∧bF 201 true wr w.heap.size sd (zv (l.take k) sd)∧yp w wr) (fun i _=>l.length - (intOf i).toNat)
 case atStart=>exact ⟨0,Nat.zero_le _,rfl,U HZ,U xX⟩
 case round =>
  obtain ⟨k,hk,rfl,htr,xl⟩:=hrel
  have pl:=H htr
  have vy:=H xl
  clear htr xl HZ xX
  by_cases xI:k < l.length
  ·obtain ⟨c,uu⟩:∃ c,l[k]? = some c:=⟨_,yI xI⟩
   have jV:=H uu
   obtain ⟨b,off,rfl,Q,F⟩:=U HC k c uu
   obtain ⟨g0,g1,g2,g3,g4,g5⟩:=zB (zc F (U vy) Q)
   have uF:(k:Int) < l.length:=by omega
   clear uu F Q
   by_cases uV:c.side = sd
   ·have HIT:Hid (zv (l.take (k + 1)) c.side = zv (l.take k) c.side ++ [c]):=ofSide_snoc l k c (U jV)
    subst uV
    have vf:(zv (l.take k) c.side).length < 20:=by
     have N:(zv (l.take k) c.side).length ≤ (l.take k).length:=List.length_filter_le _ _
     have Y:(l.take k).length ≤ k:=List.length_take_le _ _
     have h3:=U HN
     omega
    have oQ:=H vf
    have F:=U HL c (yP (U jV))
    have jB:=H F
    clear vf F
    go_wp2_with fail
    refine (add_b w.heap.size c.side (zv (l.take k) c.side) c _ (zw (U pl) (Below.heap_alloc wr _ _ (zJ (U pl)))) rfl (U oQ) (fun o' vO=>U HL o' (List.mem_of_mem_take (List.mem_filter.1 vO).1)) (U jB)).mono ?_
    rintro e w2 ⟨rfl,aJ,vh⟩
    rw [← U HIT] at aJ
    have ah:=H aJ
    have xw:=H (((U vy).alloc (U vy).size _).grown vh (by rw [zj]; have:=(U vy).size; omega) (fun g hg=>by obtain rfl:=Option.some.inj hg; exact Nat.le_refl _))
    clear aJ vh
    go_wp2_with fail
    go_roundw
    case rel=>exact ⟨k + 1,by omega,by go_num,U ah,U xw⟩
    case measure=>simp [intOf]; omega
   ·have HIT:Hid (zv (l.take (k + 1)) sd = zv (l.take k) sd):=ofSide_skip l k c (U jV) uV
    go_wp2_with fail
    go_roundw
    case rel =>
     refine ⟨k + 1,by omega,by go_num,?_,?_⟩
     ·rw [U HIT]; exact zw (U pl) (Below.heap_alloc wr _ _ (zJ (U pl)))
     ·exact (U vy).alloc (U vy).size _
    case measure=>simp [intOf]; omega
  ·go_wp2_with fail
   go_ret
   have h:=U pl
   rw [xa (by omega)] at h
   exact ⟨rfl,h,U vy⟩
theorem infoH_b:(Tryz.prog.info? 191).map (fun i=>(i.zero,i.size,i.bytes)) = some (some (I 0),1,8):=by kernel_rfl
theorem cellsH_b (w:World) (L:List Value) (t:TypeId) (j:Nat) (u:Value) (h:L[j]? = some u):(w.alloc (Obj.cells L.toArray t)).cell? (((yr w 0):Addr).add j) = some u:=by
 rw [Addr.add_mid,cell_of_row _ w.heap.size (0 + j) L.toArray t (0,0) (heap_alloc_new w _)]
 simpa using h
def hval_b (h:Nat):Value:=I h
theorem ranked_b (S:TS) (b B:Nat) (aX:b < B):∀ (t:Tr) (w:World) (v:Value) (done:List Nat) (part:Nat),TM 201 w b S→Rep S.nd t part→(∀ h ∈ t.hs,h < 21)→B ≤ w.heap.size →
  w.ownsRow B 191 1 v done.length (done.map hval_b)→done.length + t.hs.length ≤ 1000 →
  Calls Tryz.prog 195 #[J b 0,v,I part] w fun e w' =>
   ∃ v',e = yn v'∧w'.ownsRow B 191 1 v' (done ++ t.hs).length ((done ++ t.hs).map hval_b)∧Below B w w'
 | .nil,w,v,done,part,hT,hrep,hh,hB,xS,xz=>by
  obtain rfl:part = 0:=hrep
  have HO:=H xS
  clear xS hT hh
  go_enter Tryz.func195,Tryz.ntmps195
  go_wp2_with fail
  go_ret
  exact ⟨v,rfl,by simpa [Tr.hs] using U HO,Below.refl _ _⟩
 | .node h l r,w,v,done,part,hT,hrep,hh,hB,xS,xz=>by
  obtain ⟨rfl,h0,hl,hr⟩:=hrep
  have HO:=H xS
  have HT:=H hT
  have HL:=H hl
  have HR:=H hr
  have pv:done.length + (l.hs.length + 1 + r.hs.length) ≤ 1000:=by simp [Tr.hs] at xz; omega
  have qr:=hh part (by simp [Tr.hs])
  have HHL:=H (fun a (ha:a ∈ l.hs)=>hh a (by simp [Tr.hs,ha]))
  have HHR:=H (fun a (ha:a ∈ r.hs)=>hh a (by simp [Tr.hs,ha]))
  have h21':(part:Int) < 21:=by omega
  have h0':¬ ((part:Int) = 0):=by omega
  have ki:=H pv
  obtain ⟨-,-,-,-,n4,-⟩:=zS (hT.nd part qr)
  obtain ⟨i0,hi,uK,uL,uZ⟩:=info_parts infoH_b
  clear xS hT hh hl hr xz pv
  go_enter Tryz.func195,Tryz.ntmps195
  go_wp2_with fail
  refine (ranked_b S b B aX l w v done _ (U HT) (U HL) (U HHL) hB (U HO) (by have:=U ki; omega)).mono ?_
  rintro e w1 ⟨v1,rfl,oa,ul⟩
  have qX:=H oa
  have uf:=H ul
  have hsz1:=ul.size
  have hla:(done ++ l.hs).length ≤ 999:=by have:=U ki; rw [yQ]; omega
  obtain ⟨-,-,-,-,-,n5,-⟩:=zS ((dS (U HT) ul aX).nd part qr)
  clear oa ul n4
  go_wp2_with (at_builtin; go_must (refine wpList_append_own _ rfl _ _ 227 rfl B 191 i0 _ 1 8 Tryz.underlying227 hi uK uL uZ rfl (by decide) v1 (done ++ l.hs).length ((done ++ l.hs).map hval_b) rfl ((U qX).alloc _) (yr w1 0) 1 1 [hval_b part] rfl rfl (cellsH_b w1 _ _) (by simp [Value.oneCell',hval_b]) (by unfold maxLen; omega) (by omega) (by simp at hla ⊢; omega) ?_); intro v2 w2 px vh _; have qS:=H px; have xw:=H (((U uf).alloc (yO hB hsz1) _).grown vh (by rw [zj]; omega) (fun k hk=>((U qX).lt k hk).1)); have m5:=(zS ((dS (U HT) (U xw) aX).nd part qr)).2.2.2.2.2.1; clear px vh n5)
  have hsz2:=(U xw).size
  refine (ranked_b S b B aX r w2 v2 (done ++ l.hs ++ [part]) _ (dS (U HT) (U xw) aX) (U HR) (U HHR) (by omega) (by simpa [Nat.add_assoc] using U qS) (by have:=U ki; simp; omega)).mono ?_
  rintro e w3 ⟨v3,rfl,bh,xQ⟩
  have pX:=H bh
  have xN:=H ((U xw).trans xQ)
  clear bh xQ m5
  go_wp2_with fail
  go_ret
  exact ⟨v3,rfl,by simpa [Tr.hs] using U pX,U xN⟩
end Go.Proofs.YtnphbkgfjanmgaaGreatDoor
