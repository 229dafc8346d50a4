/-
  How an order's level is found in the tree, or grown, proved by walking the function.
-/
import Derived.Test.YthhkapcbocgcoaaGreatDoorGj05
set_option linter.unusedVariables false
set_option maxHeartbeats 6400000
set_option maxRecDepth 100000
namespace Go.Proofs.YthhkapcbocgcoaaGreatDoor
open Go.RowKit
theorem better_b (a c:Int) (w:World) :
  Calls Tryz.prog 232 #[.agg #[],H a,H c] w fun e w'=>e = ym (.bool (decide (c < a)))∧w.grownBy w' none:=by
 go_enter Tryz.func232,Tryz.ntmps232
 go_wp2_with fail
 go_ret
 exact ⟨rfl,World.grownBy_alloc _ _ _⟩
theorem method_b (w:World):Sem.run Tryz.prog (method 390 154 (.agg #[]) "loop.example/g00092/impl.better") w = .ok (232,.agg #[]) w:=by kernel_rfl
theorem part_b {w:World} {b:Nat} (h:∃ xz,w.heap[b]? = some (.cells xz 197 (0,0))):Sem.run Tryz.prog (partAt (J b 0) 0 0) w = .ok (J b 0) w:=by
 obtain ⟨xz,h⟩:=h
 have hc:Tryz.prog.cellsOf 197 = 318:=by kernel_rfl
 have hy:byteOfCell Tryz.prog Tryz.prog.depth 197 0 = some 0:=by kernel_rfl
 have hs:w.shape? b = some (197,xz.size):=by simp [World.shape?,h]
 simp [partAt,byteOf,noView,viewAt,hs,hc,hy]
theorem levelFor_b (b:Nat) (S:TS) (t:Tr) (o:Od) (w:World) (hT:TM 197 w b S) (hi:TI true S t) (vB:S.lc < 20) :
  Calls Tryz.prog 193 #[I b 0,.agg (yw o.id o.side o.ticks o.left o.life o.tag).toArray] w fun e w' =>
   ∃ (h:Nat),e = ym (H h)∧LFEnd true 197 b S t o w h w':=by
 have HT:=M hT
 have HI:=M hi
 clear hT hi
 go_enter Tryz.func193,Tryz.ntmps193
 go_wp2_with fail
 have HW:Hid (∃ W,W = (w.alloc (O (yw o.id o.side o.ticks o.left o.life o.tag).toArray 65))∧W.rangeAt w.heap.size 0 o.vs∧TM 197 W b S∧w.grownBy W (some b)∧w.heap.size < W.heap.size∧b ≠ w.heap.size) :=
  ⟨_,rfl,zm w o.vs _,cO (U HT) (Below.heap_alloc w _ _ (tm_lt (U HT))),World.grownBy_alloc _ _ _,by rw [zi]; omega,by have:=tm_lt (U HT); omega⟩
 obtain ⟨W,hW,hWW⟩:=U HW
 rw [← hW]
 have aG:=M hWW
 clear hW hWW HW HT
 go_loopg [5] (t.hs.length) (fun k p wr=>LFI true b S t o.ticks W k p wr)
 case atStart=>exact ⟨[],t,rfl,Nat.le_refl _,way_start (U HI) _,yS _ _⟩
 case round =>
  obtain ⟨c,u,rfl,E,hw,hg⟩:=hrel
  have kh:=M hw
  have HG:=M hg
  have HK:=M E
  have hT:=fL (U aG).2.1 hg (by simp)
  have c0:=cur_cell hT (zQ c) (cur_ok (U HI) hw vB)
  obtain ⟨o0,o1,o2,o3,o4,o5⟩:=zC (zv (U aG).1 hg (U aG).2.2.2.1 (by simp))
  clear E hw hg
  by_cases ha:S.rd (zQ c) = 0
  ·have jY:=hT.lc
   have hf:=hT.fr
   have HA0:=M ha
   rw [ha] at c0
   have hlc':(S.lc:Int) < 20:=by omega
   have e1:((S.lc + 1:Nat):Int) = (S.lc:Int) + 1:=by omega
   have un:=cur_ok (U HI) (U kh) vB
   have t1:=tm_lc hT (S.lc + 1)
   have t2:=tm_cur t1 (zQ c) un (S.lc + 1)
   rw [e1] at t1 t2
   have d2:_ = _:=(cur_cell t1 (zQ c) un).trans (congrArg (fun x:Nat=>some (H x)) (show TS.rd _ (zQ c) = 0 from by rw [← ha]; cases (zQ c) <;> rfl))
   have d3:_ = _:=t2.lc
   rw [(wr_same _ _ _).1] at d3
   simp only [e1] at d3
   have g1:=t1.fr
   have g2:=t2.fr
   obtain ⟨n0,n1,n2,n3,-⟩:=zJ (t2.nd (S.lc + 1) (by omega))
   have A:b ≠ w.heap.size:=(U aG).2.2.2.2
   have p1:((wr.setCell (J b 1) (H ((S.lc:Int) + 1))).setCell (J b ((zQ c).off)) (H ((S.lc:Int) + 1))).cell? (yq w (0 + 1)) = some (H o.side):=by
    rw [yM _ _ _ _ (fun e=>A (congrArg Addr.block e)),yM _ _ _ _ (fun e=>A (congrArg Addr.block e))]; exact o1
   have p2:((wr.setCell (J b 1) (H ((S.lc:Int) + 1))).setCell (J b ((zQ c).off)) (H ((S.lc:Int) + 1))).cell? (yq w (0 + 2)) = some (H o.ticks):=by
    rw [yM _ _ _ _ (fun e=>A (congrArg Addr.block e)),yM _ _ _ _ (fun e=>A (congrArg Addr.block e))]; exact o2
   have vp:=M t2
   have HB:=M A
   clear ha hT t1 t2 un A
   go_wp2_with fail
   have uk:Hid (wr.grownBy ((wr.setCell (J b 1) (H ((S.lc:Int) + 1))).setCell (J b ((zQ c).off)) (H ((S.lc:Int) + 1))) (some b)):=zK (zK (yS _ _) _ _) _ _
   generalize hW4:((wr.setCell (J b 1) (H ((S.lc:Int) + 1))).setCell (J b ((zQ c).off)) (H ((S.lc:Int) + 1))) = W4 at *
   rw [← e1] at d3
   obtain ⟨m,hm⟩:∃ m,m = S.lc + 1:=⟨_,rfl⟩
   rw [← hm] at d3 n0 n1 n2 n3
   have hm21:(m:Int) < 21:=by omega
   have HM:=M hm
   clear hW4 hm e1 d2 jY hf g1 c0 o0 o1 o2 o3 o4 o5 hlc'
   go_region
   have t3:=U vp
   have t4:=cA t3 (S.lc + 1) 0 (by omega) (by omega) (H o.side) { (TS.nd _ (S.lc + 1)) with side:=o.side } rfl _ rfl
   have t5:=cA t4 (S.lc + 1) 1 (by omega) (by omega) (H o.ticks) { (TS.nd _ (S.lc + 1)) with ticks:=o.ticks } rfl _ rfl
   have t6:=cA t5 (S.lc + 1) 2 (by omega) (by omega) (H 0) { (TS.nd _ (S.lc + 1)) with qty:=0 } rfl _ rfl
   have t7:=cA t6 (S.lc + 1) 3 (by omega) (by omega) (H 0) { (TS.nd _ (S.lc + 1)) with count:=0 } rfl _ rfl
   have qP:=M (gr_drew (zK (zK (zK (zK (U uk) (2 + m * 8) (H o.side)) (2 + m * 8 + 1) (H o.ticks)) (2 + m * 8 + 2) (H 0)) (2 + m * 8 + 3) (H 0)))
   rw [← U HM] at t7
   simp only [ez,zt] at t7
   have hS:_ = S.grow (zQ c) o.side o.ticks:=grow_eq S (zQ c) o m (U HM)
   rw [hS] at t7
   have d7:_ = some (H (m:Int)):=t7.lc.trans (by rw [U HM]; rfl)
   have HT7:=M t7
   clear t3 t4 t5 t6 t7 n0 n1 n2 n3 d3 p1 p2
   generalize (((W4.setCell (J b (2 + m * 8)) (H o.side)).setCell (J b (2 + m * 8 + 1)) (H o.ticks)).setCell (J b (2 + m * 8 + 2)) (H 0)).setCell (J b (2 + m * 8 + 3)) (H 0) = W7 at *
   go_wp2_with fail
   go_ret
   exact ⟨m,rfl,_,cO (U HT7) rfl,(U aG).2.2.1.trans (((U HG).but _).trans (U qP)),.inr ⟨c,u,U kh,U HA0,U HM,rfl⟩⟩
  ·have ham:=way_at (U kh) rfl ha
   have har:=(U HI).range _ ham
   obtain ⟨a,oA⟩:∃ a,a = S.rd (zQ c):=⟨_,rfl⟩
   rw [← oA] at c0 ha ham har
   have HAE:=M oA
   have ha':¬ ((a:Int) = 0):=by omega
   have ha21:(a:Int) < 21:=by omega
   obtain ⟨n0,n1,n2,n3,n4,n5,n6,n7⟩:=zJ (hT.nd a (by omega))
   have HTM:=M hT
   have pR:∀ w',wr.grownBy w' none→Sem.run Tryz.prog (partAt (J b 0) 0 0) w' = .ok (J b 0) w':=fun w' h=>part_b (fL (U HTM) h (by simp)).obj
   have HPT:=M pR
   have HN1:=M (fun w' (h:wr.grownBy w' none)=>h.cell n1 (by simp))
   have qy:=M (fun w' (h:wr.grownBy w' none)=>h.cell o2 (by simp))
   clear oA hT pR
   go_wp2_with fail
   go_quiet (fail)
   go_wp2_with fail
   refine fq (W:=wr) (by kernel_rfl) (by kernel_rfl) ⟨rfl,rfl,rfl,Nat.le_refl _,fun _ _ _=>rfl⟩ ?_
   iterate 12 (
    refine cH (v:=?_) ?_ ?_ ?_
    rotate_left
    ·rfl
    ·intro w' uh
     have f1:=U HN1 w' uh
     have f2:=U qy w' uh
     have f3:=U HPT w' uh
     go_simp
     try rfl
    intro xh hK
    go_simp
    refine hK _ ?_
    clear hK xh)
   refine cH (v:=.bool (decide ((S.nd a).ticks < o.ticks))) ?_ ?_ ?_
   ·rfl
   ·intro w' uh
    have hm:=method_b w'
    go_simp
    refine (better_b _ _ _).mono ?_
    rintro e w3 ⟨rfl,uF⟩
    exact ⟨rfl,uh.trans uF⟩
   intro xh hK
   go_simp
   refine hK _ ?_
   clear hK xh
   refine cH (v:=?_) ?_ ?_ ?_
   rotate_left
   ·rfl
   ·intro w' uh
    go_simp
    try rfl
   intro xh hK
   go_simp
   refine hK _ ?_
   clear hK xh
   refine wpQuiet_nil ?_
   intro w2 vh
   have uo:=M vh
   clear vh
   by_cases Q:(S.nd a).ticks < o.ticks
   ·have aM:decide ((S.nd a).ticks < o.ticks) = true:=by simpa using Q
    go_wp2_with fail
    obtain ⟨l,r,rfl,hw2⟩:=way_be (U HI) (U kh) (U HAE).symm ha Q
    go_roundg (l.hs.length)
    case measure=>have:=U HK; simp [Tr.hs] at this; omega
    case rel=>exact ⟨_,l,rfl,Nat.le_refl _,hw2,(U HG).trans (U uo)⟩
   ·have aM:decide ((S.nd a).ticks < o.ticks) = false:=by simpa using Q
    go_wp2_with fail
    refine fq (W:=wr) (by kernel_rfl) (by kernel_rfl) (U uo) ?_
    iterate 12 (
     refine cH (v:=?_) ?_ ?_ ?_
     rotate_left
     ·rfl
     ·intro w' uh
      have f1:=U HN1 w' uh
      have f2:=U qy w' uh
      have f3:=U HPT w' uh
      go_simp
      try rfl
     intro xh hK
     go_simp
     refine hK _ ?_
     clear hK xh)
    refine cH (v:=.bool (decide (o.ticks < (S.nd a).ticks))) ?_ ?_ ?_
    ·rfl
    ·intro w' uh
     have hm:=method_b w'
     go_simp
     refine (better_b _ _ _).mono ?_
     rintro e w3 ⟨rfl,uF⟩
     exact ⟨rfl,uh.trans uF⟩
    intro xh hK
    go_simp
    refine hK _ ?_
    clear hK xh
    refine cH (v:=?_) ?_ ?_ ?_
    rotate_left
    ·rfl
    ·intro w' uh
     go_simp
     try rfl
    intro xh hK
    go_simp
    refine hK _ ?_
    clear hK xh
    refine wpQuiet_nil ?_
    intro w3 uF
    have uS:=M uF
    clear uF
    by_cases D:o.ticks < (S.nd a).ticks
    ·have og:decide (o.ticks < (S.nd a).ticks) = true:=by simpa using D
     go_wp2_with fail
     obtain ⟨l,r,rfl,hw2⟩:=way_wo (U HI) (U kh) (U HAE).symm ha D
     go_roundg (r.hs.length)
     case measure=>have:=U HK; simp [Tr.hs] at this; omega
     case rel=>exact ⟨_,r,rfl,Nat.le_refl _,hw2,(U HG).trans (U uS)⟩
    ·have og:decide (o.ticks < (S.nd a).ticks) = false:=by simpa using D
     have c3:=(U uS).cell c0 (by simp)
     go_wp2_with fail
     go_ret
     have hG:=(U HG).trans (U uS)
     exact ⟨a,rfl,S,fL (U aG).2.1 hG (by simp),(U aG).2.2.1.trans (hG.but _),.inl ⟨ham,by omega,rfl⟩⟩
theorem add_b (b:Nat) (sd:Int) (seq:List Od) (o:Od) (w:World) (h:bY 197 true w b sd seq) (ui:o.side = sd) (hn:seq.length < 20) (hl:∀ o' ∈ seq,0 ≤ o'.left∧o'.left ≤ 1000000) (aU:0 ≤ o.left∧o.left ≤ 1000000) :
  Calls Tryz.prog 167 #[I b 0,.agg (yw o.id o.side o.ticks o.left o.life o.tag).toArray] w fun e w' =>
   e = ym (.tuple #[])∧bY 197 true w' b sd (seq ++ [o])∧w.grownBy w' (some b):=by
 obtain ⟨S,t,hT,hi,hq,vB⟩:=h
 have HI:=M hi
 have HQ:=M hq
 have HT:=M hT
 have HLC:=M vB
 have HL:=M hl
 have HSD:=M ui
 have HOC:=M hq.oc
 have hoc':(S.oc:Int) < 20:=by have:=hq.oc; omega
 have e1:((S.oc + 1:Nat):Int) = (S.oc:Int) + 1:=by omega
 have A:b ≠ w.heap.size:=by have:=tm_lt hT; omega
 have kn:World.rangeAt (w.alloc (O (yw o.id o.side o.ticks o.left o.life o.tag).toArray 65)) w.heap.size 0 o.vs:=zm w o.vs 65
 have qz:TM 197 (w.alloc (O (yw o.id o.side o.ticks o.left o.life o.tag).toArray 65)) b S:=cO hT (Below.heap_alloc w _ _ (tm_lt hT))
 have c1:=qz.oc
 have f1:=qz.fr
 have hT1:=tm_oc qz (S.oc + 1)
 have hR1:Hid (World.rangeAt (World.setCell (w.alloc (O (yw o.id o.side o.ticks o.left o.life o.tag).toArray 65)) (J b 170) (H ((S.oc + 1:Nat):Int))) w.heap.size 0 o.vs):=fun j u hu=>by
  rw [yM _ _ _ _ (fun e=>A (congrArg Addr.block e))]; exact kn j u hu
 have hG1:Hid (w.grownBy (World.setCell (w.alloc (O (yw o.id o.side o.ticks o.left o.life o.tag).toArray 65)) (J b 170) (H ((S.oc + 1:Nat):Int))) (some b)):=zK (World.grownBy_alloc w (O (yw o.id o.side o.ticks o.left o.life o.tag).toArray 65) _) _ _
 have qZ:=M hT1
 have xF:Hid (w.heap.size < (World.heap (World.setCell (w.alloc (O (yw o.id o.side o.ticks o.left o.life o.tag).toArray 65)) (J b 170) (H ((S.oc + 1:Nat):Int)))).size):=(by
  have:=yL _ _ (hR1 0 _ rfl)
  exact this)
 clear hi hq vB hl ui hT qz kn hT1
 go_enter Tryz.func167,Tryz.ntmps167
 go_wp2_with fail
 rw [← e1]
 have em:∃ m,m = S.oc + 1:=⟨_,rfl⟩
 obtain ⟨m,hm⟩:=em
 rw [← hm] at hR1 hG1 qZ xF ⊢
 generalize hW1:World.setCell (w.alloc (O (yw o.id o.side o.ticks o.left o.life o.tag).toArray 65)) (J b 170) (H (m:Int)) = W1 at hR1 hG1 qZ xF ⊢
 have HM:=M hm
 have hm21:(m:Int) < 21:=by omega
 obtain ⟨o0,o1,o2,o3,o4,o5⟩:=zC (U hR1)
 obtain ⟨q0,q1,q2,q3,q4,q5,q6⟩:=fJ ((U qZ).qo m (by omega))
 have f2:=(U qZ).fr
 have ps:S.lc < 20:=by have:=U HLC; omega
 have HB:=M A
 clear hW1 hm e1 c1 f1 hoc' A
 go_region
 have vp:=M (tm_put (U qZ) m (by omega) o)
 have uo:=M (gr_put (w:=W1) (b:=b) o m)
 generalize hW2:(((((((W1.setCell (J b (171 + m * 7)) (H o.id)).setCell (J b (171 + m * 7 + 1)) (H o.side)).setCell (J b (171 + m * 7 + 2)) (H o.ticks)).setCell (J b (171 + m * 7 + 3)) (H o.left)).setCell
   (J b (171 + m * 7 + 4)) (H o.life)).setCell (J b (171 + m * 7 + 5)) (yk o.tag)).setCell (J b (171 + m * 7 + 6)) (H 0)) = W2 at vp uo ⊢
 clear hW2 o0 o1 o2 o3 o4 o5 q0 q1 q2 q3 q4 q5 q6 f2
 rw [show ({ root:=S.root,lc:=S.lc,oc:=m,nd:=S.nd,qo:=upd S.qo m ⟨o,0⟩ }:TS) = S.lay o from by rw [U HM]; rfl] at vp
 have hR2:=M (zv (U hR1) (U uo) (U xF) (fun e=>U HB (Option.some.inj e).symm))
 obtain ⟨o0,o1,o2,o3,o4,o5⟩:=zC (U hR2)
 have HTI:=M (ti_lay o (U HI))
 have HT2d:Hid (TM 197 W2.drew.drew b (S.lay o)):=cO (U vp) rfl
 go_wp2_with fail
 go_region_with (go_at_call 193; refine (levelFor_b b (S.lay o) t o W2.drew.drew (U HT2d) (U HTI) ps).mono ?_; rintro e W3 ⟨h,rfl,uU⟩; have HE:=M uU; have qR:(h:Int) < 21:=lf_lt uU (U HTI) ps; clear uU)
 obtain ⟨S3,hT3,uF,jB⟩:=U HE
 rw [← U HSD] at HQ
 obtain ⟨r1,r2,r3,r4,r5,t',r6,r7⟩:=add_ready (U HI) (U HQ) jB
 have R4:=M r4
 have R6:=M r6
 have R7:=M r7
 have R23:Hid ((0:Int) ≤ (S3.nd h).qty∧(S3.nd h).qty ≤ 20000000∧(0:Int) ≤ (S3.nd h).count∧(S3.nd h).count ≤ 20):=by
  have A:=sumL_bound (atK seq o.ticks) (fun o' vu=>U HL o' (List.mem_filter.1 vu).1)
  have qx:(atK seq o.ticks).length ≤ seq.length:=List.length_filter_le _ _
  rw [r2,r3]
  refine ⟨A.1,?_,by omega,by omega⟩
  have:=A.2
  have h20:((atK seq o.ticks).length:Int) ≤ 20:=by omega
  omega
 have jx:=M hT3
 have uS:Hid (W2.grownBy W3 (some b)):=⟨uF.os,uF.tape,uF.output,uF.size,uF.block⟩
 have hR3:=M (zv (U hR2) (U uS) (yK (U xF) (U uo).size) (fun e=>U HB (Option.some.inj e).symm))
 have hy21:(S3.nd h).yo < 21:=by omega
 have hm1:m = 1 + seq.length:=by have:=U HM; have:=U HOC; omega
 have bx:=M hm1
 clear hT3 uF jB r1 r2 r3 r4 r5 r6 r7 o0 o1 o2 o3 o4 o5 hm1 HE
 have xQ:=(U jx).fr
 obtain ⟨n0,n1,n2,n3,n4,n5,n6,n7⟩:=zJ ((U jx).nd h (by omega))
 have qe:h < 21:=by omega
 clear n0 n1 n2 n3 n4 n5
 by_cases hy:(S3.nd h).yo = 0
 ·have t5:=cA (U jx) h 6 qe (by omega) (H m) { S3.nd h with el:=m } rfl _ rfl
  have t6:=cA t5 h 7 qe (by omega) (H m) { (TS.nd _ h) with yo:=m } rfl _ rfl
  simp only [ez,zt] at t6
  obtain ⟨-,-,-,-,-,-,-,k7⟩:=zJ (t5.nd h qe)
  have f5:=t5.fr
  rw [hy] at n7
  have qE:=M (zK (zK (yS W3 (some b)) (2 + h * 8 + 6) (H m)) (2 + h * 8 + 7) (H m))
  have jy:=M t6
  clear t5 t6
  go_wp2_with fail
  generalize hW6:(W3.setCell (J b (2 + h * 8 + 6)) (H m)).setCell (J b (2 + h * 8 + 7)) (H m) = W6 at qE jy ⊢
  clear jx hW6
  have f6:=(U jy).fr
  obtain ⟨-,-,m2,m3,-⟩:=zJ ((U jy).nd h qe)
  simp only [zt] at m2 m3
  have hR6:=zv (U hR3) (U qE) (yK (U xF) (yO (U uo).size (U uS).size)) (fun e=>U HB (Option.some.inj e).symm)
  obtain ⟨-,-,-,x3,-⟩:=zC hR6
  obtain ⟨b1,b2,b3,b4⟩:=U R23
  have t7:=cA (U jy) h 2 qe (by omega) (H ((S3.nd h).qty + o.left)) { (TS.nd _ h) with qty:=(S3.nd h).qty + o.left } rfl _ rfl
  have t8:=cA t7 h 3 qe (by omega) (H ((S3.nd h).count + 1)) { (TS.nd _ h) with count:=(S3.nd h).count + 1 } rfl _ rfl
  obtain ⟨-,-,-,y3,-⟩:=zJ (t7.nd h qe)
  have f7:=t7.fr
  simp only [ez,zt] at t8 y3
  have aC:=M t8
  have HG8:=M (zK (zK (yS W6 (some b)) (2 + h * 8 + 2) (H ((S3.nd h).qty + o.left))) (2 + h * 8 + 3) (H ((S3.nd h).count + 1)))
  have aY:wrap64 ((S3.nd h).qty + o.left) = (S3.nd h).qty + o.left:=by unfold wrap64; omega
  clear t7 t8 hR6
  go_region
  try simp only [IntKind.wrap_i64]
  try rw [show (IntKind.i64.wrap ((S3.nd h).qty + o.left)) = (S3.nd h).qty + o.left from by rw [IntKind.wrap_i64]; exact aY]
  generalize hW7:W6.setCell (J b (2 + h * 8 + 2)) (H ((S3.nd h).qty + o.left)) = W7 at *
  go_wp2_with fail
  go_end0
  have HS8:Hid (_ = S3.link h m o.left):=link_eq0 S3 h m o.left hy
  rw [U HS8] at aC
  rw [U bx] at aC
  refine ⟨rfl,?_,?_⟩
  ·rw [← U HSD]
   refine ⟨_,t',cO (U aC) rfl,U R6,U R7,?_⟩
   have Q:=U R4
   have D:=U HLC
   show S3.lc ≤ _
   simp; omega
  ·exact ef (((((U hG1).trans (U uo)).trans (U uS)).trans (U qE)).trans (U HG8)) rfl rfl rfl rfl
 ·have t5:=tm_qo (U jx) (S3.nd h).yo 6 hy21 (by omega) (H m) { S3.qo (S3.nd h).yo with yg:=m } rfl _ rfl
  have t6:=cA t5 h 7 qe (by omega) (H m) { (TS.nd _ h) with yo:=m } rfl _ rfl
  obtain ⟨-,-,-,-,-,-,-,k7⟩:=zJ (t5.nd h qe)
  obtain ⟨-,-,-,-,-,-,q6⟩:=fJ ((U jx).qo (S3.nd h).yo hy21)
  have f5:=t5.fr
  have hyi:((S3.nd h).yo:Int) < 21:=by omega
  have bh:¬ (((S3.nd h).yo:Int) = 0):=by omega
  have qE:=M (zK (zK (yS W3 (some b)) (171 + (S3.nd h).yo * 7 + 6) (H m)) (2 + h * 8 + 7) (H m))
  have jy:=M t6
  clear t5 t6
  go_wp2_with fail
  go_region
  go_wp2_with fail
  generalize hW6:(W3.setCell (J b (171 + (S3.nd h).yo * 7 + 6)) (H m)).setCell (J b (2 + h * 8 + 7)) (H m) = W6 at qE jy ⊢
  clear jx hW6
  have f6:=(U jy).fr
  obtain ⟨-,-,m2,m3,-⟩:=zJ ((U jy).nd h qe)
  simp only [zt] at m2 m3
  have hR6:=zv (U hR3) (U qE) (yK (U xF) (yO (U uo).size (U uS).size)) (fun e=>U HB (Option.some.inj e).symm)
  obtain ⟨-,-,-,x3,-⟩:=zC hR6
  obtain ⟨b1,b2,b3,b4⟩:=U R23
  have t7:=cA (U jy) h 2 qe (by omega) (H ((S3.nd h).qty + o.left)) { (TS.nd _ h) with qty:=(S3.nd h).qty + o.left } rfl _ rfl
  have t8:=cA t7 h 3 qe (by omega) (H ((S3.nd h).count + 1)) { (TS.nd _ h) with count:=(S3.nd h).count + 1 } rfl _ rfl
  obtain ⟨-,-,-,y3,-⟩:=zJ (t7.nd h qe)
  have f7:=t7.fr
  simp only [ez,zt] at t8 y3
  have aC:=M t8
  have HG8:=M (zK (zK (yS W6 (some b)) (2 + h * 8 + 2) (H ((S3.nd h).qty + o.left))) (2 + h * 8 + 3) (H ((S3.nd h).count + 1)))
  have aY:wrap64 ((S3.nd h).qty + o.left) = (S3.nd h).qty + o.left:=by unfold wrap64; omega
  clear t7 t8 hR6
  go_region
  try simp only [IntKind.wrap_i64]
  try rw [show (IntKind.i64.wrap ((S3.nd h).qty + o.left)) = (S3.nd h).qty + o.left from by rw [IntKind.wrap_i64]; exact aY]
  generalize hW7:W6.setCell (J b (2 + h * 8 + 2)) (H ((S3.nd h).qty + o.left)) = W7 at *
  go_wp2_with fail
  go_end0
  have HS8:Hid (_ = S3.link h m o.left):=link_eq1 S3 h m o.left hy
  rw [U HS8] at aC
  rw [U bx] at aC
  refine ⟨rfl,?_,?_⟩
  ·rw [← U HSD]
   refine ⟨_,t',cO (U aC) rfl,U R6,U R7,?_⟩
   have Q:=U R4
   have D:=U HLC
   show S3.lc ≤ _
   simp; omega
  ·exact ef (((((U hG1).trans (U uo)).trans (U uS)).trans (U qE)).trans (U HG8)) rfl rfl rfl rfl
theorem zNd_b:∀ i,i < 21→(Tryz.zeroCells197.toList.drop (2 + i * 8)).take 8 = zNd.vs
 | 0,_=>by kernel_rfl
 | 1,_=>by kernel_rfl
 | 2,_=>by kernel_rfl
 | 3,_=>by kernel_rfl
 | 4,_=>by kernel_rfl
 | 5,_=>by kernel_rfl
 | 6,_=>by kernel_rfl
 | 7,_=>by kernel_rfl
 | 8,_=>by kernel_rfl
 | 9,_=>by kernel_rfl
 | 10,_=>by kernel_rfl
 | 11,_=>by kernel_rfl
 | 12,_=>by kernel_rfl
 | 13,_=>by kernel_rfl
 | 14,_=>by kernel_rfl
 | 15,_=>by kernel_rfl
 | 16,_=>by kernel_rfl
 | 17,_=>by kernel_rfl
 | 18,_=>by kernel_rfl
 | 19,_=>by kernel_rfl
 | 20,_=>by kernel_rfl
 | n + 21,h=>absurd h (by omega)
theorem zQo_b:∀ i,i < 21→(Tryz.zeroCells197.toList.drop (171 + i * 7)).take 7 = zQo.vs
 | 0,_=>by kernel_rfl
 | 1,_=>by kernel_rfl
 | 2,_=>by kernel_rfl
 | 3,_=>by kernel_rfl
 | 4,_=>by kernel_rfl
 | 5,_=>by kernel_rfl
 | 6,_=>by kernel_rfl
 | 7,_=>by kernel_rfl
 | 8,_=>by kernel_rfl
 | 9,_=>by kernel_rfl
 | 10,_=>by kernel_rfl
 | 11,_=>by kernel_rfl
 | 12,_=>by kernel_rfl
 | 13,_=>by kernel_rfl
 | 14,_=>by kernel_rfl
 | 15,_=>by kernel_rfl
 | 16,_=>by kernel_rfl
 | 17,_=>by kernel_rfl
 | 18,_=>by kernel_rfl
 | 19,_=>by kernel_rfl
 | 20,_=>by kernel_rfl
 | n + 21,h=>absurd h (by omega)
theorem zTree_b (w:World) (sd:Int):bY 197 true (w.alloc (Obj.cells Tryz.zeroCells197 197)) w.heap.size sd [] :=
 ⟨zTS,.nil,tm_zero w _ _ (by kernel_rfl) (by kernel_rfl) zNd_b (by kernel_rfl) zQo_b,ti_zero _,qi_zero _,Nat.le_refl _⟩
theorem plant_b (v:Value) (l:List Od) (sd:Int) (w:World) (hr:RdR Od.vs 6 w v l) (hn:l.length ≤ 20) (hl:∀ o' ∈ l,0 ≤ o'.left∧o'.left ≤ 1000000) :
  Calls Tryz.prog 123 #[v,H sd] w fun e w' =>
   e = ym (yp w 0)∧bY 197 true w' w.heap.size sd (zr l sd)∧yn w w':=by
 obtain ⟨a,cap,rfl,xD,hc⟩:=hr
 have xr:∀ (k:Nat) (c:Od),l[k]? = some c→∃ b off,a = some (J b off)∧b < w.heap.size∧w.rangeAt b (off + k * 6) c.vs:=by
  intro k c E
  obtain ⟨b,off,Q,D,X⟩:=hc (by intro h; rw [h] at E; simp at E)
  exact ⟨b,off,Q,D,X k c E⟩
 have HC:=M xr
 have HL:=M hl
 have HN:=M hn
 clear xr hc hl
 have HZ:=M (zTree_b w sd)
 have xZ:Hid (yn w (w.alloc (Obj.cells Tryz.zeroCells197 197))):=gZ _ _
 go_enter Tryz.func123,Tryz.ntmps123
 go_wp2_with fail
 generalize (w.alloc (Obj.cells Tryz.zeroCells197 197)) = W0 at HZ xZ ⊢
 go_loopw [11] (fun i wr=>∃ k:Nat,k ≤ l.length∧i = H k∧bY 197 true wr w.heap.size sd (zr (l.take k) sd)∧yn w wr) (fun i _=>l.length - (intOf i).toNat)
 case atStart=>exact ⟨0,Nat.zero_le _,rfl,U HZ,U xZ⟩
 case round =>
  obtain ⟨k,E,rfl,htr,xi⟩:=hrel
  have qd:=M htr
  have vk:=M xi
  clear htr xi HZ xZ
  by_cases xM:k < l.length
  ·obtain ⟨c,uV⟩:∃ c,l[k]? = some c:=⟨_,yI xM⟩
   have kY:=M uV
   obtain ⟨b,off,rfl,A,xo⟩:=U HC k c uV
   obtain ⟨g0,g1,g2,g3,g4,g5⟩:=zC (zc xo (U vk) A)
   have vj:(k:Int) < l.length:=by omega
   clear uV xo A
   by_cases ui:c.side = sd
   ·have HIT:Hid (zr (l.take (k + 1)) c.side = zr (l.take k) c.side ++ [c]):=ofSide_snoc l k c (U kY)
    subst ui
    have kD:(zr (l.take k) c.side).length < 20:=by
     have Q:(zr (l.take k) c.side).length ≤ (l.take k).length:=List.length_filter_le _ _
     have D:(l.take k).length ≤ k:=List.length_take_le _ _
     have X:=U HN
     omega
    have au:=M kD
    have xo:=U HL c (yP (U kY))
    have kH:=M xo
    clear kD xo
    go_wp2_with fail
    refine (add_b w.heap.size c.side (zr (l.take k) c.side) c _ (zu (U qd) (Below.heap_alloc wr _ _ (zG (U qd)))) rfl (U au) (fun o' vu=>U HL o' (List.mem_of_mem_take (List.mem_filter.1 vu).1)) (U kH)).mono ?_
    rintro e w2 ⟨rfl,ba,vh⟩
    rw [← U HIT] at ba
    have aE:=M ba
    have xt:=M (((U vk).alloc (U vk).size _).grown vh (by rw [zi]; have:=(U vk).size; omega) (fun g hg=>by obtain rfl:=Option.some.inj hg; exact Nat.le_refl _))
    clear ba vh
    go_wp2_with fail
    go_roundw
    case rel=>exact ⟨k + 1,by omega,by go_num,U aE,U xt⟩
    case measure=>simp [intOf]; omega
   ·have HIT:Hid (zr (l.take (k + 1)) sd = zr (l.take k) sd):=ofSide_skip l k c (U kY) ui
    go_wp2_with fail
    go_roundw
    case rel =>
     refine ⟨k + 1,by omega,by go_num,?_,?_⟩
     ·rw [U HIT]; exact zu (U qd) (Below.heap_alloc wr _ _ (zG (U qd)))
     ·exact (U vk).alloc (U vk).size _
    case measure=>simp [intOf]; omega
  ·go_wp2_with fail
   go_ret
   have h:=U qd
   rw [xa (by omega)] at h
   exact ⟨rfl,h,U vk⟩
theorem infoH_b:(Tryz.prog.info? 187).map (fun i=>(i.zero,i.size,i.bytes)) = some (some (H 0),1,8):=by kernel_rfl
theorem cellsH_b (w:World) (cs:List Value) (t:TypeId) (j:Nat) (u:Value) (h:cs[j]? = some u):(w.alloc (Obj.cells cs.toArray t)).cell? (((yq w 0):Addr).add j) = some u:=by
 rw [Addr.add_mid,cell_of_row _ w.heap.size (0 + j) cs.toArray t (0,0) (heap_alloc_new w _)]
 simpa using h
def hval_b (h:Nat):Value:=H h
theorem ranked_b (S:TS) (b B:Nat) (bG:b < B):∀ (t:Tr) (w:World) (v:Value) (done:List Nat) (part:Nat),TM 197 w b S→Rep S.nd t part→(∀ h ∈ t.hs,h < 21)→B ≤ w.heap.size →
  w.ownsRow B 187 1 v done.length (done.map hval_b)→done.length + t.hs.length ≤ 1000 →
  Calls Tryz.prog 192 #[I b 0,v,H part] w fun e w' =>
   ∃ v',e = ym v'∧w'.ownsRow B 187 1 v' (done ++ t.hs).length ((done ++ t.hs).map hval_b)∧Below B w w'
 | .nil,w,v,done,part,hT,hrep,hh,hB,xS,xD=>by
  obtain rfl:part = 0:=hrep
  have HO:=M xS
  clear xS hT hh
  go_enter Tryz.func192,Tryz.ntmps192
  go_wp2_with fail
  go_ret
  exact ⟨v,rfl,by simpa [Tr.hs] using U HO,Below.refl _ _⟩
 | .node h l r,w,v,done,part,hT,hrep,hh,hB,xS,xD=>by
  obtain ⟨rfl,h0,hl,hr⟩:=hrep
  have HO:=M xS
  have HT:=M hT
  have HL:=M hl
  have HR:=M hr
  have pu:done.length + (l.hs.length + 1 + r.hs.length) ≤ 1000:=by simp [Tr.hs] at xD; omega
  have qe:=hh part (by simp [Tr.hs])
  have HHL:=M (fun a (ha:a ∈ l.hs)=>hh a (by simp [Tr.hs,ha]))
  have HHR:=M (fun a (ha:a ∈ r.hs)=>hh a (by simp [Tr.hs,ha]))
  have h21':(part:Int) < 21:=by omega
  have h0':¬ ((part:Int) = 0):=by omega
  have kf:=M pu
  obtain ⟨-,-,-,-,n4,-⟩:=zJ (hT.nd part qe)
  obtain ⟨i0,hi,uD,uz,uM⟩:=info_parts infoH_b
  clear xS hT hh hl hr xD pu
  go_enter Tryz.func192,Tryz.ntmps192
  go_wp2_with fail
  refine (ranked_b S b B bG l w v done _ (U HT) (U HL) (U HHL) hB (U HO) (by have:=U kf; omega)).mono ?_
  rintro e w1 ⟨v1,rfl,qA,ub⟩
  have vv:=M qA
  have xU:=M ub
  have hsz1:=ub.size
  have hla:(done ++ l.hs).length ≤ 999:=by have:=U kf; rw [yQ]; omega
  obtain ⟨-,-,-,-,-,n5,-⟩:=zJ ((eK (U HT) ub bG).nd part qe)
  clear qA ub n4
  go_wp2_with (at_builtin; go_must (refine wpList_append_own _ rfl _ _ 220 rfl B 187 i0 _ 1 8 Tryz.underlying220 hi uD uz uM rfl (by decide) v1 (done ++ l.hs).length ((done ++ l.hs).map hval_b) rfl ((U vv).alloc _) (yq w1 0) 1 1 [hval_b part] rfl rfl (cellsH_b w1 _ _) (by simp [Value.oneCell',hval_b]) (by unfold maxLen; omega) (by omega) (by simp at hla ⊢; omega) ?_); intro v2 w2 pw vh _; have qy:=M pw; have xt:=M (((U xU).alloc (yO hB hsz1) _).grown vh (by rw [zi]; omega) (fun k E=>((U vv).lt k E).1)); have m5:=(zJ ((eK (U HT) (U xt) bG).nd part qe)).2.2.2.2.2.1; clear pw vh n5)
  have hsz2:=(U xt).size
  refine (ranked_b S b B bG r w2 v2 (done ++ l.hs ++ [part]) _ (eK (U HT) (U xt) bG) (U HR) (U HHR) (by omega) (by simpa [Nat.add_assoc] using U qy) (by have:=U kf; simp; omega)).mono ?_
  rintro e w3 ⟨v3,rfl,bM,xQ⟩
  have qW:=M bM
  have xG:=M ((U xt).trans xQ)
  clear bM xQ m5
  go_wp2_with fail
  go_ret
  exact ⟨v3,rfl,by simpa [Tr.hs] using U qW,U xG⟩
end Go.Proofs.YthhkapcbocgcoaaGreatDoor
