/-
  How an order's level is found in the tree, or grown, proved by walking the function.
-/
import Derived.Test.YtbakanofkghmiaaGreatTj05
set_option linter.unusedVariables false
set_option maxHeartbeats 6400000
set_option maxRecDepth 100000
namespace Go.Proofs.YtbakanofkghmiaaGreat
open Go.RowKit
theorem better_b (a c:Int) (w:World) :
  Calls Tryz.prog 188 #[.agg #[],H a,H c] w fun e w'=>e = yl (.bool (decide (c < a)))∧w.grownBy w' none:=by
 go_enter Tryz.func188,Tryz.ntmps188
 go_wp2_with fail
 go_ret
 exact ⟨rfl,World.grownBy_alloc _ _ _⟩
theorem method_b (w:World):Sem.run Tryz.prog (method 322 126 (.agg #[]) "loop.example/g00092/impl.better") w = .ok (188,.agg #[]) w:=by kernel_rfl
theorem part_b {w:World} {b:Nat} (h:∃ xp,w.heap[b]? = some (.cells xp 176 (0,0))):Sem.run Tryz.prog (partAt (J b 0) 0 0) w = .ok (J b 0) w:=by
 obtain ⟨xp,h⟩:=h
 have hc:Tryz.prog.cellsOf 176 = 318:=by kernel_rfl
 have hy:byteOfCell Tryz.prog Tryz.prog.depth 176 0 = some 0:=by kernel_rfl
 have hs:w.shape? b = some (176,xp.size):=by simp [World.shape?,h]
 simp [partAt,byteOf,noView,viewAt,hs,hc,hy]
theorem levelFor_b (b:Nat) (S:TS) (t:Tr) (o:Od) (w:World) (hT:TM 176 w b S) (hi:TI true S t) (qh:S.lc < 20) :
  Calls Tryz.prog 156 #[I b 0,.agg (yu o.id o.side o.ticks o.left o.life o.tag).toArray] w fun e w' =>
   ∃ (h:Nat),e = yl (H h)∧LFEnd true 176 b S t o w h w':=by
 have HT:=Y hT
 have HI:=Y hi
 clear hT hi
 go_enter Tryz.func156,Tryz.ntmps156
 go_wp2_with fail
 have HW:Hid (∃ W,W = (w.alloc (D (yu o.id o.side o.ticks o.left o.life o.tag).toArray 49))∧W.rangeAt w.heap.size 0 o.vs∧TM 176 W b S∧w.grownBy W (some b)∧w.heap.size < W.heap.size∧b ≠ w.heap.size) :=
  ⟨_,rfl,zg w o.vs _,ar (U HT) (Below.heap_alloc w _ _ (tm_lt (U HT))),World.grownBy_alloc _ _ _,by rw [zf]; omega,by have:=tm_lt (U HT); omega⟩
 obtain ⟨W,hW,hWW⟩:=U HW
 rw [← hW]
 have oW:=Y hWW
 clear hW hWW HW HT
 go_loopg [5] (t.hs.length) (fun k p wr=>LFI true b S t o.ticks W k p wr)
 case atStart=>exact ⟨[],t,rfl,Nat.le_refl _,way_start (U HI) _,yP _ _⟩
 case round =>
  obtain ⟨c,u,rfl,hk,hw,hg⟩:=hrel
  have jI:=Y hw
  have HG:=Y hg
  have HK:=Y hk
  have hT:=cB (U oW).2.1 hg (by simp)
  have c0:=cur_cell hT (zR c) (cur_ok (U HI) hw qh)
  obtain ⟨o0,o1,o2,o3,o4,o5⟩:=zC (zp (U oW).1 hg (U oW).2.2.2.1 (by simp))
  clear hk hw hg
  by_cases ha:S.rd (zR c) = 0
  ·have pq:=hT.lc
   have hf:=hT.fr
   have HA0:=Y ha
   rw [ha] at c0
   have hlc':(S.lc:Int) < 20:=by omega
   have e1:((S.lc + 1:Nat):Int) = (S.lc:Int) + 1:=by omega
   have vS:=cur_ok (U HI) (U jI) qh
   have t1:=tm_lc hT (S.lc + 1)
   have t2:=tm_cur t1 (zR c) vS (S.lc + 1)
   rw [e1] at t1 t2
   have d2:_ = _:=(cur_cell t1 (zR c) vS).trans (congrArg (fun x:Nat=>some (H x)) (show TS.rd _ (zR c) = 0 from by rw [← ha]; cases (zR c) <;> rfl))
   have d3:_ = _:=t2.lc
   rw [(wr_same _ _ _).1] at d3
   simp only [e1] at d3
   have g1:=t1.fr
   have g2:=t2.fr
   obtain ⟨n0,n1,n2,n3,-⟩:=zI (t2.nd (S.lc + 1) (by omega))
   have F:b ≠ w.heap.size:=(U oW).2.2.2.2
   have p1:((wr.setCell (J b 1) (H ((S.lc:Int) + 1))).setCell (J b ((zR c).off)) (H ((S.lc:Int) + 1))).cell? (yp w (0 + 1)) = some (H o.side):=by
    rw [yJ _ _ _ _ (fun e=>F (congrArg Addr.block e)),yJ _ _ _ _ (fun e=>F (congrArg Addr.block e))]; exact o1
   have p2:((wr.setCell (J b 1) (H ((S.lc:Int) + 1))).setCell (J b ((zR c).off)) (H ((S.lc:Int) + 1))).cell? (yp w (0 + 2)) = some (H o.ticks):=by
    rw [yJ _ _ _ _ (fun e=>F (congrArg Addr.block e)),yJ _ _ _ _ (fun e=>F (congrArg Addr.block e))]; exact o2
   have vx:=Y t2
   have HB:=Y F
   clear ha hT t1 t2 vS F
   go_wp2_with fail
   have HG4:Hid (wr.grownBy ((wr.setCell (J b 1) (H ((S.lc:Int) + 1))).setCell (J b ((zR c).off)) (H ((S.lc:Int) + 1))) (some b)):=zJ (zJ (yP _ _) _ _) _ _
   generalize hW4:((wr.setCell (J b 1) (H ((S.lc:Int) + 1))).setCell (J b ((zR c).off)) (H ((S.lc:Int) + 1))) = W4 at *
   rw [← e1] at d3
   obtain ⟨m,hm⟩:∃ m,m = S.lc + 1:=⟨_,rfl⟩
   rw [← hm] at d3 n0 n1 n2 n3
   have hm21:(m:Int) < 21:=by omega
   have HM:=Y hm
   clear hW4 hm e1 d2 pq hf g1 c0 o0 o1 o2 o3 o4 o5 hlc'
   go_region
   have t3:=U vx
   have t4:=pV t3 (S.lc + 1) 0 (by omega) (by omega) (H o.side) { (TS.nd _ (S.lc + 1)) with side:=o.side } rfl _ rfl
   have t5:=pV t4 (S.lc + 1) 1 (by omega) (by omega) (H o.ticks) { (TS.nd _ (S.lc + 1)) with ticks:=o.ticks } rfl _ rfl
   have t6:=pV t5 (S.lc + 1) 2 (by omega) (by omega) (H 0) { (TS.nd _ (S.lc + 1)) with qty:=0 } rfl _ rfl
   have t7:=pV t6 (S.lc + 1) 3 (by omega) (by omega) (H 0) { (TS.nd _ (S.lc + 1)) with count:=0 } rfl _ rfl
   have HG7:=Y (gr_drew (zJ (zJ (zJ (zJ (U HG4) (2 + m * 8) (H o.side)) (2 + m * 8 + 1) (H o.ticks)) (2 + m * 8 + 2) (H 0)) (2 + m * 8 + 3) (H 0)))
   rw [← U HM] at t7
   simp only [bm,zn] at t7
   have hS:_ = S.grow (zR c) o.side o.ticks:=grow_eq S (zR c) o m (U HM)
   rw [hS] at t7
   have d7:_ = some (H (m:Int)):=t7.lc.trans (by rw [U HM]; rfl)
   have HT7:=Y t7
   clear t3 t4 t5 t6 t7 n0 n1 n2 n3 d3 p1 p2
   generalize (((W4.setCell (J b (2 + m * 8)) (H o.side)).setCell (J b (2 + m * 8 + 1)) (H o.ticks)).setCell (J b (2 + m * 8 + 2)) (H 0)).setCell (J b (2 + m * 8 + 3)) (H 0) = W7 at *
   go_wp2_with fail
   go_ret
   exact ⟨m,rfl,_,ar (U HT7) rfl,(U oW).2.2.1.trans (((U HG).but _).trans (U HG7)),.inr ⟨c,u,U jI,U HA0,U HM,rfl⟩⟩
  ·have ham:=way_at (U jI) rfl ha
   have har:=(U HI).range _ ham
   obtain ⟨a,hae⟩:∃ a,a = S.rd (zR c):=⟨_,rfl⟩
   rw [← hae] at c0 ha ham har
   have HAE:=Y hae
   have ha':¬ ((a:Int) = 0):=by omega
   have ha21:(a:Int) < 21:=by omega
   obtain ⟨n0,n1,n2,n3,n4,n5,n6,n7⟩:=zI (hT.nd a (by omega))
   have HTM:=Y hT
   have qL:∀ w',wr.grownBy w' none→Sem.run Tryz.prog (partAt (J b 0) 0 0) w' = .ok (J b 0) w':=fun w' h=>part_b (cB (U HTM) h (by simp)).obj
   have HPT:=Y qL
   have HN1:=Y (fun w' (h:wr.grownBy w' none)=>h.cell n1 (by simp))
   have vL:=Y (fun w' (h:wr.grownBy w' none)=>h.cell o2 (by simp))
   clear hae hT qL
   go_wp2_with fail
   go_quiet (fail)
   go_wp2_with fail
   refine bS (W:=wr) (by kernel_rfl) (by kernel_rfl) ⟨rfl,rfl,rfl,Nat.le_refl _,fun _ _ _=>rfl⟩ ?_
   iterate 12 (
    refine af (v:=?_) ?_ ?_ ?_
    rotate_left
    ·rfl
    ·intro w' ui
     have f1:=U HN1 w' ui
     have f2:=U vL w' ui
     have f3:=U HPT w' ui
     go_simp
     try rfl
    intro tg hK
    go_simp
    refine hK _ ?_
    clear hK tg)
   refine af (v:=.bool (decide ((S.nd a).ticks < o.ticks))) ?_ ?_ ?_
   ·rfl
   ·intro w' ui
    have hm:=method_b w'
    go_simp
    refine (better_b _ _ _).mono ?_
    rintro e w3 ⟨rfl,uV⟩
    exact ⟨rfl,ui.trans uV⟩
   intro tg hK
   go_simp
   refine hK _ ?_
   clear hK tg
   refine af (v:=?_) ?_ ?_ ?_
   rotate_left
   ·rfl
   ·intro w' ui
    go_simp
    try rfl
   intro tg hK
   go_simp
   refine hK _ ?_
   clear hK tg
   refine wpQuiet_nil ?_
   intro w2 vW
   have uI:=Y vW
   clear vW
   by_cases Q:(S.nd a).ticks < o.ticks
   ·have kZ:decide ((S.nd a).ticks < o.ticks) = true:=by simpa using Q
    go_wp2_with fail
    obtain ⟨l,r,rfl,hw2⟩:=way_be (U HI) (U jI) (U HAE).symm ha Q
    go_roundg (l.hs.length)
    case measure=>have:=U HK; simp [Tr.hs] at this; omega
    case rel=>exact ⟨_,l,rfl,Nat.le_refl _,hw2,(U HG).trans (U uI)⟩
   ·have kZ:decide ((S.nd a).ticks < o.ticks) = false:=by simpa using Q
    go_wp2_with fail
    refine bS (W:=wr) (by kernel_rfl) (by kernel_rfl) (U uI) ?_
    iterate 12 (
     refine af (v:=?_) ?_ ?_ ?_
     rotate_left
     ·rfl
     ·intro w' ui
      have f1:=U HN1 w' ui
      have f2:=U vL w' ui
      have f3:=U HPT w' ui
      go_simp
      try rfl
     intro tg hK
     go_simp
     refine hK _ ?_
     clear hK tg)
    refine af (v:=.bool (decide (o.ticks < (S.nd a).ticks))) ?_ ?_ ?_
    ·rfl
    ·intro w' ui
     have hm:=method_b w'
     go_simp
     refine (better_b _ _ _).mono ?_
     rintro e w3 ⟨rfl,uV⟩
     exact ⟨rfl,ui.trans uV⟩
    intro tg hK
    go_simp
    refine hK _ ?_
    clear hK tg
    refine af (v:=?_) ?_ ?_ ?_
    rotate_left
    ·rfl
    ·intro w' ui
     go_simp
     try rfl
    intro tg hK
    go_simp
    refine hK _ ?_
    clear hK tg
    refine wpQuiet_nil ?_
    intro w3 uV
    have vZ:=Y uV
    clear uV
    by_cases N:o.ticks < (S.nd a).ticks
    ·have pH:decide (o.ticks < (S.nd a).ticks) = true:=by simpa using N
     go_wp2_with fail
     obtain ⟨l,r,rfl,hw2⟩:=way_wo (U HI) (U jI) (U HAE).symm ha N
     go_roundg (r.hs.length)
     case measure=>have:=U HK; simp [Tr.hs] at this; omega
     case rel=>exact ⟨_,r,rfl,Nat.le_refl _,hw2,(U HG).trans (U vZ)⟩
    ·have pH:decide (o.ticks < (S.nd a).ticks) = false:=by simpa using N
     have c3:=(U vZ).cell c0 (by simp)
     go_wp2_with fail
     go_ret
     have hG:=(U HG).trans (U vZ)
     exact ⟨a,rfl,S,cB (U oW).2.1 hG (by simp),(U oW).2.2.1.trans (hG.but _),.inl ⟨ham,by omega,rfl⟩⟩
theorem add_b (b:Nat) (sd:Int) (seq:List Od) (o:Od) (w:World) (h:pS 176 true w b sd seq) (uD:o.side = sd) (hn:seq.length < 20) (hl:∀ o' ∈ seq,0 ≤ o'.left∧o'.left ≤ 1000000) (jp:0 ≤ o.left∧o.left ≤ 1000000) :
  Calls Tryz.prog 125 #[I b 0,.agg (yu o.id o.side o.ticks o.left o.life o.tag).toArray] w fun e w' =>
   e = yl (.tuple #[])∧pS 176 true w' b sd (seq ++ [o])∧w.grownBy w' (some b):=by
 obtain ⟨S,t,hT,hi,hq,qh⟩:=h
 have HI:=Y hi
 have HQ:=Y hq
 have HT:=Y hT
 have jj:=Y qh
 have HL:=Y hl
 have HSD:=Y uD
 have HOC:=Y hq.oc
 have hoc':(S.oc:Int) < 20:=by have:=hq.oc; omega
 have e1:((S.oc + 1:Nat):Int) = (S.oc:Int) + 1:=by omega
 have F:b ≠ w.heap.size:=by have:=tm_lt hT; omega
 have jN:World.rangeAt (w.alloc (D (yu o.id o.side o.ticks o.left o.life o.tag).toArray 49)) w.heap.size 0 o.vs:=zg w o.vs 49
 have qa:TM 176 (w.alloc (D (yu o.id o.side o.ticks o.left o.life o.tag).toArray 49)) b S:=ar hT (Below.heap_alloc w _ _ (tm_lt hT))
 have c1:=qa.oc
 have f1:=qa.fr
 have hT1:=tm_oc qa (S.oc + 1)
 have hR1:Hid (World.rangeAt (World.setCell (w.alloc (D (yu o.id o.side o.ticks o.left o.life o.tag).toArray 49)) (J b 170) (H ((S.oc + 1:Nat):Int))) w.heap.size 0 o.vs):=fun j u hu=>by
  rw [yJ _ _ _ _ (fun e=>F (congrArg Addr.block e))]; exact jN j u hu
 have hG1:Hid (w.grownBy (World.setCell (w.alloc (D (yu o.id o.side o.ticks o.left o.life o.tag).toArray 49)) (J b 170) (H ((S.oc + 1:Nat):Int))) (some b)):=zJ (World.grownBy_alloc w (D (yu o.id o.side o.ticks o.left o.life o.tag).toArray 49) _) _ _
 have qY:=Y hT1
 have xy:Hid (w.heap.size < (World.heap (World.setCell (w.alloc (D (yu o.id o.side o.ticks o.left o.life o.tag).toArray 49)) (J b 170) (H ((S.oc + 1:Nat):Int)))).size):=(by
  have:=yI _ _ (hR1 0 _ rfl)
  exact this)
 clear hi hq qh hl uD hT qa jN hT1
 go_enter Tryz.func125,Tryz.ntmps125
 go_wp2_with fail
 rw [← e1]
 have em:∃ m,m = S.oc + 1:=⟨_,rfl⟩
 obtain ⟨m,hm⟩:=em
 rw [← hm] at hR1 hG1 qY xy ⊢
 generalize hW1:World.setCell (w.alloc (D (yu o.id o.side o.ticks o.left o.life o.tag).toArray 49)) (J b 170) (H (m:Int)) = W1 at hR1 hG1 qY xy ⊢
 have HM:=Y hm
 have hm21:(m:Int) < 21:=by omega
 obtain ⟨o0,o1,o2,o3,o4,o5⟩:=zC (U hR1)
 obtain ⟨q0,q1,q2,q3,q4,q5,q6⟩:=cy ((U qY).qo m (by omega))
 have f2:=(U qY).fr
 have ot:S.lc < 20:=by have:=U jj; omega
 have HB:=Y F
 clear hW1 hm e1 c1 f1 hoc' F
 go_region
 have vx:=Y (tm_put (U qY) m (by omega) o)
 have uI:=Y (gr_put (w:=W1) (b:=b) o m)
 generalize hW2:(((((((W1.setCell (J b (171 + m * 7)) (H o.id)).setCell (J b (171 + m * 7 + 1)) (H o.side)).setCell (J b (171 + m * 7 + 2)) (H o.ticks)).setCell (J b (171 + m * 7 + 3)) (H o.left)).setCell
   (J b (171 + m * 7 + 4)) (H o.life)).setCell (J b (171 + m * 7 + 5)) (yj o.tag)).setCell (J b (171 + m * 7 + 6)) (H 0)) = W2 at vx uI ⊢
 clear hW2 o0 o1 o2 o3 o4 o5 q0 q1 q2 q3 q4 q5 q6 f2
 rw [show ({ root:=S.root,lc:=S.lc,oc:=m,nd:=S.nd,qo:=upd S.qo m ⟨o,0⟩ }:TS) = S.lay o from by rw [U HM]; rfl] at vx
 have hR2:=Y (zp (U hR1) (U uI) (U xy) (fun e=>U HB (Option.some.inj e).symm))
 obtain ⟨o0,o1,o2,o3,o4,o5⟩:=zC (U hR2)
 have HTI:=Y (ti_lay o (U HI))
 have HT2d:Hid (TM 176 W2.drew.drew b (S.lay o)):=ar (U vx) rfl
 go_wp2_with fail
 go_region_with (go_at_call 156; refine (levelFor_b b (S.lay o) t o W2.drew.drew (U HT2d) (U HTI) ot).mono ?_; rintro e W3 ⟨h,rfl,vP⟩; have HE:=Y vP; have qw:(h:Int) < 21:=lf_lt vP (U HTI) ot; clear vP)
 obtain ⟨S3,hT3,uV,og⟩:=U HE
 rw [← U HSD] at HQ
 obtain ⟨r1,r2,r3,r4,r5,t',r6,r7⟩:=add_ready (U HI) (U HQ) og
 have R4:=Y r4
 have R6:=Y r6
 have R7:=Y r7
 have R23:Hid ((0:Int) ≤ (S3.nd h).qty∧(S3.nd h).qty ≤ 20000000∧(0:Int) ≤ (S3.nd h).count∧(S3.nd h).count ≤ 20):=by
  have F:=sumL_bound (atK seq o.ticks) (fun o' vu=>U HL o' (List.mem_filter.1 vu).1)
  have jo:(atK seq o.ticks).length ≤ seq.length:=List.length_filter_le _ _
  rw [r2,r3]
  refine ⟨F.1,?_,by omega,by omega⟩
  have:=F.2
  have h20:((atK seq o.ticks).length:Int) ≤ 20:=by omega
  omega
 have jH:=Y hT3
 have vZ:Hid (W2.grownBy W3 (some b)):=⟨uV.os,uV.tape,uV.output,uV.size,uV.block⟩
 have hR3:=Y (zp (U hR2) (U vZ) (yH (U xy) (U uI).size) (fun e=>U HB (Option.some.inj e).symm))
 have hy21:(S3.nd h).yo < 21:=by omega
 have hm1:m = 1 + seq.length:=by have:=U HM; have:=U HOC; omega
 have vV:=Y hm1
 clear hT3 uV og r1 r2 r3 r4 r5 r6 r7 o0 o1 o2 o3 o4 o5 hm1 HE
 have uC:=(U jH).fr
 obtain ⟨n0,n1,n2,n3,n4,n5,n6,n7⟩:=zI ((U jH).nd h (by omega))
 have vE:h < 21:=by omega
 clear n0 n1 n2 n3 n4 n5
 by_cases hy:(S3.nd h).yo = 0
 ·have t5:=pV (U jH) h 6 vE (by omega) (H m) { S3.nd h with el:=m } rfl _ rfl
  have t6:=pV t5 h 7 vE (by omega) (H m) { (TS.nd _ h) with yo:=m } rfl _ rfl
  simp only [bm,zn] at t6
  obtain ⟨-,-,-,-,-,-,-,k7⟩:=zI (t5.nd h vE)
  have f5:=t5.fr
  rw [hy] at n7
  have ki:=Y (zJ (zJ (yP W3 (some b)) (2 + h * 8 + 6) (H m)) (2 + h * 8 + 7) (H m))
  have qZ:=Y t6
  clear t5 t6
  go_wp2_with fail
  generalize hW6:(W3.setCell (J b (2 + h * 8 + 6)) (H m)).setCell (J b (2 + h * 8 + 7)) (H m) = W6 at ki qZ ⊢
  clear jH hW6
  have f6:=(U qZ).fr
  obtain ⟨-,-,m2,m3,-⟩:=zI ((U qZ).nd h vE)
  simp only [zn] at m2 m3
  have hR6:=zp (U hR3) (U ki) (yH (U xy) (yL (U uI).size (U vZ).size)) (fun e=>U HB (Option.some.inj e).symm)
  obtain ⟨-,-,-,x3,-⟩:=zC hR6
  obtain ⟨b1,b2,b3,b4⟩:=U R23
  have t7:=pV (U qZ) h 2 vE (by omega) (H ((S3.nd h).qty + o.left)) { (TS.nd _ h) with qty:=(S3.nd h).qty + o.left } rfl _ rfl
  have t8:=pV t7 h 3 vE (by omega) (H ((S3.nd h).count + 1)) { (TS.nd _ h) with count:=(S3.nd h).count + 1 } rfl _ rfl
  obtain ⟨-,-,-,y3,-⟩:=zI (t7.nd h vE)
  have f7:=t7.fr
  simp only [bm,zn] at t8 y3
  have oU:=Y t8
  have HG8:=Y (zJ (zJ (yP W6 (some b)) (2 + h * 8 + 2) (H ((S3.nd h).qty + o.left))) (2 + h * 8 + 3) (H ((S3.nd h).count + 1)))
  have ql:wrap64 ((S3.nd h).qty + o.left) = (S3.nd h).qty + o.left:=by unfold wrap64; omega
  clear t7 t8 hR6
  go_region
  try simp only [IntKind.wrap_i64]
  try rw [show (IntKind.i64.wrap ((S3.nd h).qty + o.left)) = (S3.nd h).qty + o.left from by rw [IntKind.wrap_i64]; exact ql]
  generalize hW7:W6.setCell (J b (2 + h * 8 + 2)) (H ((S3.nd h).qty + o.left)) = W7 at *
  go_wp2_with fail
  go_end0
  have HS8:Hid (_ = S3.link h m o.left):=link_eq0 S3 h m o.left hy
  rw [U HS8] at oU
  rw [U vV] at oU
  refine ⟨rfl,?_,?_⟩
  ·rw [← U HSD]
   refine ⟨_,t',ar (U oU) rfl,U R6,U R7,?_⟩
   have Q:=U R4
   have N:=U jj
   show S3.lc ≤ _
   simp; omega
  ·exact aX (((((U hG1).trans (U uI)).trans (U vZ)).trans (U ki)).trans (U HG8)) rfl rfl rfl rfl
 ·have t5:=tm_qo (U jH) (S3.nd h).yo 6 hy21 (by omega) (H m) { S3.qo (S3.nd h).yo with yg:=m } rfl _ rfl
  have t6:=pV t5 h 7 vE (by omega) (H m) { (TS.nd _ h) with yo:=m } rfl _ rfl
  obtain ⟨-,-,-,-,-,-,-,k7⟩:=zI (t5.nd h vE)
  obtain ⟨-,-,-,-,-,-,q6⟩:=cy ((U jH).qo (S3.nd h).yo hy21)
  have f5:=t5.fr
  have hyi:((S3.nd h).yo:Int) < 21:=by omega
  have jz:¬ (((S3.nd h).yo:Int) = 0):=by omega
  have ki:=Y (zJ (zJ (yP W3 (some b)) (171 + (S3.nd h).yo * 7 + 6) (H m)) (2 + h * 8 + 7) (H m))
  have qZ:=Y t6
  clear t5 t6
  go_wp2_with fail
  go_region
  go_wp2_with fail
  generalize hW6:(W3.setCell (J b (171 + (S3.nd h).yo * 7 + 6)) (H m)).setCell (J b (2 + h * 8 + 7)) (H m) = W6 at ki qZ ⊢
  clear jH hW6
  have f6:=(U qZ).fr
  obtain ⟨-,-,m2,m3,-⟩:=zI ((U qZ).nd h vE)
  simp only [zn] at m2 m3
  have hR6:=zp (U hR3) (U ki) (yH (U xy) (yL (U uI).size (U vZ).size)) (fun e=>U HB (Option.some.inj e).symm)
  obtain ⟨-,-,-,x3,-⟩:=zC hR6
  obtain ⟨b1,b2,b3,b4⟩:=U R23
  have t7:=pV (U qZ) h 2 vE (by omega) (H ((S3.nd h).qty + o.left)) { (TS.nd _ h) with qty:=(S3.nd h).qty + o.left } rfl _ rfl
  have t8:=pV t7 h 3 vE (by omega) (H ((S3.nd h).count + 1)) { (TS.nd _ h) with count:=(S3.nd h).count + 1 } rfl _ rfl
  obtain ⟨-,-,-,y3,-⟩:=zI (t7.nd h vE)
  have f7:=t7.fr
  simp only [bm,zn] at t8 y3
  have oU:=Y t8
  have HG8:=Y (zJ (zJ (yP W6 (some b)) (2 + h * 8 + 2) (H ((S3.nd h).qty + o.left))) (2 + h * 8 + 3) (H ((S3.nd h).count + 1)))
  have ql:wrap64 ((S3.nd h).qty + o.left) = (S3.nd h).qty + o.left:=by unfold wrap64; omega
  clear t7 t8 hR6
  go_region
  try simp only [IntKind.wrap_i64]
  try rw [show (IntKind.i64.wrap ((S3.nd h).qty + o.left)) = (S3.nd h).qty + o.left from by rw [IntKind.wrap_i64]; exact ql]
  generalize hW7:W6.setCell (J b (2 + h * 8 + 2)) (H ((S3.nd h).qty + o.left)) = W7 at *
  go_wp2_with fail
  go_end0
  have HS8:Hid (_ = S3.link h m o.left):=link_eq1 S3 h m o.left hy
  rw [U HS8] at oU
  rw [U vV] at oU
  refine ⟨rfl,?_,?_⟩
  ·rw [← U HSD]
   refine ⟨_,t',ar (U oU) rfl,U R6,U R7,?_⟩
   have Q:=U R4
   have N:=U jj
   show S3.lc ≤ _
   simp; omega
  ·exact aX (((((U hG1).trans (U uI)).trans (U vZ)).trans (U ki)).trans (U HG8)) rfl rfl rfl rfl
end Go.Proofs.YtbakanofkghmiaaGreat
