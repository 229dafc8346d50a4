/-
  How an order's level is found in the tree, or grown, proved by walking the function.
-/
import Derived.Test.YtdliebbfcmdmaaaGreatMj04
set_option linter.unusedVariables false
set_option maxHeartbeats 6400000
set_option maxRecDepth 100000
namespace Go.Proofs.YtdliebbfcmdmaaaGreat
open Go.RowKit
theorem better_s (a c:Int) (w:World) :
  Calls Tryz.prog 139 #[.agg #[],H a,H c] w fun e w'=>e = ym (.bool (decide (a < c)))∧w.grownBy w' none:=by
 go_enter Tryz.func139,Tryz.ntmps139
 go_wp2_with fail
 go_ret
 exact ⟨rfl,World.grownBy_alloc _ _ _⟩
theorem method_s (w:World):Sem.run Tryz.prog (method 289 149 (.agg #[]) "loop.example/g00092/impl.better") w = .ok (139,.agg #[]) w:=by kernel_rfl
theorem part_s {w:World} {b:Nat} (h:∃ xr,w.heap[b]? = some (.cells xr 166 (0,0))):Sem.run Tryz.prog (partAt (J b 0) 0 0) w = .ok (J b 0) w:=by
 obtain ⟨xr,h⟩:=h
 have hc:Tryz.prog.cellsOf 166 = 318:=by kernel_rfl
 have hy:byteOfCell Tryz.prog Tryz.prog.depth 166 0 = some 0:=by kernel_rfl
 have hs:w.shape? b = some (166,xr.size):=by simp [World.shape?,h]
 simp [partAt,byteOf,noView,viewAt,hs,hc,hy]
theorem levelFor_s (b:Nat) (S:TS) (t:Tr) (o:Od) (w:World) (hT:TM 166 w b S) (hi:TI false S t) (qn:S.lc < 20) :
  Calls Tryz.prog 119 #[I b 0,.agg (yv o.id o.side o.ticks o.left o.life o.tag).toArray] w fun e w' =>
   ∃ (h:Nat),e = ym (H h)∧LFEnd false 166 b S t o w h w':=by
 have HT:=Y hT
 have HI:=Y hi
 clear hT hi
 go_enter Tryz.func119,Tryz.ntmps119
 go_wp2_with fail
 have HW:Hid (∃ W,W = (w.alloc (E (yv o.id o.side o.ticks o.left o.life o.tag).toArray 66))∧W.rangeAt w.heap.size 0 o.vs∧TM 166 W b S∧w.grownBy W (some b)∧w.heap.size < W.heap.size∧b ≠ w.heap.size) :=
  ⟨_,rfl,zg w o.vs _,aW (U HT) (Below.heap_alloc w _ _ (tm_lt (U HT))),World.grownBy_alloc _ _ _,by rw [ze]; omega,by have:=tm_lt (U HT); omega⟩
 obtain ⟨W,hW,hWW⟩:=U HW
 rw [← hW]
 have pu:=Y hWW
 clear hW hWW HW HT
 go_loopg [5] (t.hs.length) (fun k p wr=>LFI false b S t o.ticks W k p wr)
 case atStart=>exact ⟨[],t,rfl,Nat.le_refl _,way_start (U HI) _,yR _ _⟩
 case round =>
  obtain ⟨c,u,rfl,hk,hw,hg⟩:=hrel
  have jV:=Y hw
  have HG:=Y hg
  have HK:=Y hk
  have hT:=dj (U pu).2.1 hg (by simp)
  have c0:=cur_cell hT (zS c) (cur_ok (U HI) hw qn)
  obtain ⟨o0,o1,o2,o3,o4,o5⟩:=zC (zq (U pu).1 hg (U pu).2.2.2.1 (by simp))
  clear hk hw hg
  by_cases ha:S.rd (zS c) = 0
  ·have pJ:=hT.lc
   have hf:=hT.fr
   have HA0:=Y ha
   rw [ha] at c0
   have hlc':(S.lc:Int) < 20:=by omega
   have e1:((S.lc + 1:Nat):Int) = (S.lc:Int) + 1:=by omega
   have vH:=cur_ok (U HI) (U jV) qn
   have t1:=tm_lc hT (S.lc + 1)
   have t2:=tm_cur t1 (zS c) vH (S.lc + 1)
   rw [e1] at t1 t2
   have d2:_ = _:=(cur_cell t1 (zS c) vH).trans (congrArg (fun x:Nat=>some (H x)) (show TS.rd _ (zS c) = 0 from by rw [← ha]; cases (zS c) <;> rfl))
   have d3:_ = _:=t2.lc
   rw [(wr_same _ _ _).1] at d3
   simp only [e1] at d3
   have g1:=t1.fr
   have g2:=t2.fr
   obtain ⟨n0,n1,n2,n3,-⟩:=zI (t2.nd (S.lc + 1) (by omega))
   have L:b ≠ w.heap.size:=(U pu).2.2.2.2
   have p1:((wr.setCell (J b 1) (H ((S.lc:Int) + 1))).setCell (J b ((zS c).off)) (H ((S.lc:Int) + 1))).cell? (yq w (0 + 1)) = some (H o.side):=by
    rw [yL _ _ _ _ (fun e=>L (congrArg Addr.block e)),yL _ _ _ _ (fun e=>L (congrArg Addr.block e))]; exact o1
   have p2:((wr.setCell (J b 1) (H ((S.lc:Int) + 1))).setCell (J b ((zS c).off)) (H ((S.lc:Int) + 1))).cell? (yq w (0 + 2)) = some (H o.ticks):=by
    rw [yL _ _ _ _ (fun e=>L (congrArg Addr.block e)),yL _ _ _ _ (fun e=>L (congrArg Addr.block e))]; exact o2
   have vE:=Y t2
   have HB:=Y L
   clear ha hT t1 t2 vH L
   go_wp2_with fail
   have HG4:Hid (wr.grownBy ((wr.setCell (J b 1) (H ((S.lc:Int) + 1))).setCell (J b ((zS c).off)) (H ((S.lc:Int) + 1))) (some b)):=zJ (zJ (yR _ _) _ _) _ _
   generalize hW4:((wr.setCell (J b 1) (H ((S.lc:Int) + 1))).setCell (J b ((zS c).off)) (H ((S.lc:Int) + 1))) = W4 at *
   rw [← e1] at d3
   obtain ⟨m,hm⟩:∃ m,m = S.lc + 1:=⟨_,rfl⟩
   rw [← hm] at d3 n0 n1 n2 n3
   have hm21:(m:Int) < 21:=by omega
   have HM:=Y hm
   clear hW4 hm e1 d2 pJ hf g1 c0 o0 o1 o2 o3 o4 o5 hlc'
   go_region
   have t3:=U vE
   have t4:=aN t3 (S.lc + 1) 0 (by omega) (by omega) (H o.side) { (TS.nd _ (S.lc + 1)) with side:=o.side } rfl _ rfl
   have t5:=aN t4 (S.lc + 1) 1 (by omega) (by omega) (H o.ticks) { (TS.nd _ (S.lc + 1)) with ticks:=o.ticks } rfl _ rfl
   have t6:=aN t5 (S.lc + 1) 2 (by omega) (by omega) (H 0) { (TS.nd _ (S.lc + 1)) with qty:=0 } rfl _ rfl
   have t7:=aN t6 (S.lc + 1) 3 (by omega) (by omega) (H 0) { (TS.nd _ (S.lc + 1)) with count:=0 } rfl _ rfl
   have ox:=Y (gr_drew (zJ (zJ (zJ (zJ (U HG4) (2 + m * 8) (H o.side)) (2 + m * 8 + 1) (H o.ticks)) (2 + m * 8 + 2) (H 0)) (2 + m * 8 + 3) (H 0)))
   rw [← U HM] at t7
   simp only [bZ,zn] at t7
   have hS:_ = S.grow (zS c) o.side o.ticks:=grow_eq S (zS c) o m (U HM)
   rw [hS] at t7
   have d7:_ = some (H (m:Int)):=t7.lc.trans (by rw [U HM]; rfl)
   have HT7:=Y t7
   clear t3 t4 t5 t6 t7 n0 n1 n2 n3 d3 p1 p2
   generalize (((W4.setCell (J b (2 + m * 8)) (H o.side)).setCell (J b (2 + m * 8 + 1)) (H o.ticks)).setCell (J b (2 + m * 8 + 2)) (H 0)).setCell (J b (2 + m * 8 + 3)) (H 0) = W7 at *
   go_wp2_with fail
   go_ret
   exact ⟨m,rfl,_,aW (U HT7) rfl,(U pu).2.2.1.trans (((U HG).but _).trans (U ox)),.inr ⟨c,u,U jV,U HA0,U HM,rfl⟩⟩
  ·have ham:=way_at (U jV) rfl ha
   have har:=(U HI).range _ ham
   obtain ⟨a,hae⟩:∃ a,a = S.rd (zS c):=⟨_,rfl⟩
   rw [← hae] at c0 ha ham har
   have HAE:=Y hae
   have ha':¬ ((a:Int) = 0):=by omega
   have ha21:(a:Int) < 21:=by omega
   obtain ⟨n0,n1,n2,n3,n4,n5,n6,n7⟩:=zI (hT.nd a (by omega))
   have HTM:=Y hT
   have qS:∀ w',wr.grownBy w' none→Sem.run Tryz.prog (partAt (J b 0) 0 0) w' = .ok (J b 0) w':=fun w' h=>part_s (dj (U HTM) h (by simp)).obj
   have HPT:=Y qS
   have HN1:=Y (fun w' (h:wr.grownBy w' none)=>h.cell n1 (by simp))
   have vW:=Y (fun w' (h:wr.grownBy w' none)=>h.cell o2 (by simp))
   clear hae hT qS
   go_wp2_with fail
   go_quiet (fail)
   go_wp2_with fail
   refine cT (W:=wr) (by kernel_rfl) (by kernel_rfl) ⟨rfl,rfl,rfl,Nat.le_refl _,fun _ _ _=>rfl⟩ ?_
   iterate 12 (
    refine aP (v:=?_) ?_ ?_ ?_
    rotate_left
    ·rfl
    ·intro w' ul
     have f1:=U HN1 w' ul
     have f2:=U vW w' ul
     have f3:=U HPT w' ul
     go_simp
     try rfl
    intro hR hK
    go_simp
    refine hK _ ?_
    clear hK hR)
   refine aP (v:=.bool (decide (o.ticks < (S.nd a).ticks))) ?_ ?_ ?_
   ·rfl
   ·intro w' ul
    have hm:=method_s w'
    go_simp
    refine (better_s _ _ _).mono ?_
    rintro e w3 ⟨rfl,uW⟩
    exact ⟨rfl,ul.trans uW⟩
   intro hR hK
   go_simp
   refine hK _ ?_
   clear hK hR
   refine aP (v:=?_) ?_ ?_ ?_
   rotate_left
   ·rfl
   ·intro w' ul
    go_simp
    try rfl
   intro hR hK
   go_simp
   refine hK _ ?_
   clear hK hR
   refine wpQuiet_nil ?_
   intro w2 vN
   have uL:=Y vN
   clear vN
   by_cases Q:o.ticks < (S.nd a).ticks
   ·have oE:decide (o.ticks < (S.nd a).ticks) = true:=by simpa using Q
    go_wp2_with fail
    obtain ⟨l,r,rfl,hw2⟩:=way_be (U HI) (U jV) (U HAE).symm ha Q
    go_roundg (l.hs.length)
    case measure=>have:=U HK; simp [Tr.hs] at this; omega
    case rel=>exact ⟨_,l,rfl,Nat.le_refl _,hw2,(U HG).trans (U uL)⟩
   ·have oE:decide (o.ticks < (S.nd a).ticks) = false:=by simpa using Q
    go_wp2_with fail
    refine cT (W:=wr) (by kernel_rfl) (by kernel_rfl) (U uL) ?_
    iterate 12 (
     refine aP (v:=?_) ?_ ?_ ?_
     rotate_left
     ·rfl
     ·intro w' ul
      have f1:=U HN1 w' ul
      have f2:=U vW w' ul
      have f3:=U HPT w' ul
      go_simp
      try rfl
     intro hR hK
     go_simp
     refine hK _ ?_
     clear hK hR)
    refine aP (v:=.bool (decide ((S.nd a).ticks < o.ticks))) ?_ ?_ ?_
    ·rfl
    ·intro w' ul
     have hm:=method_s w'
     go_simp
     refine (better_s _ _ _).mono ?_
     rintro e w3 ⟨rfl,uW⟩
     exact ⟨rfl,ul.trans uW⟩
    intro hR hK
    go_simp
    refine hK _ ?_
    clear hK hR
    refine aP (v:=?_) ?_ ?_ ?_
    rotate_left
    ·rfl
    ·intro w' ul
     go_simp
     try rfl
    intro hR hK
    go_simp
    refine hK _ ?_
    clear hK hR
    refine wpQuiet_nil ?_
    intro w3 uW
    have vK:=Y uW
    clear uW
    by_cases N:(S.nd a).ticks < o.ticks
    ·have js:decide ((S.nd a).ticks < o.ticks) = true:=by simpa using N
     go_wp2_with fail
     obtain ⟨l,r,rfl,hw2⟩:=way_wo (U HI) (U jV) (U HAE).symm ha N
     go_roundg (r.hs.length)
     case measure=>have:=U HK; simp [Tr.hs] at this; omega
     case rel=>exact ⟨_,r,rfl,Nat.le_refl _,hw2,(U HG).trans (U vK)⟩
    ·have js:decide ((S.nd a).ticks < o.ticks) = false:=by simpa using N
     have c3:=(U vK).cell c0 (by simp)
     go_wp2_with fail
     go_ret
     have hG:=(U HG).trans (U vK)
     exact ⟨a,rfl,S,dj (U pu).2.1 hG (by simp),(U pu).2.2.1.trans (hG.but _),.inl ⟨ham,by omega,rfl⟩⟩
theorem add_s (b:Nat) (sd:Int) (seq:List Od) (o:Od) (w:World) (h:aG 166 false w b sd seq) (uF:o.side = sd) (hn:seq.length < 20) (hl:∀ o' ∈ seq,0 ≤ o'.left∧o'.left ≤ 1000000) (jw:0 ≤ o.left∧o.left ≤ 1000000) :
  Calls Tryz.prog 115 #[I b 0,.agg (yv o.id o.side o.ticks o.left o.life o.tag).toArray] w fun e w' =>
   e = ym (.tuple #[])∧aG 166 false w' b sd (seq ++ [o])∧w.grownBy w' (some b):=by
 obtain ⟨S,t,hT,hi,hq,qn⟩:=h
 have HI:=Y hi
 have HQ:=Y hq
 have HT:=Y hT
 have jQ:=Y qn
 have HL:=Y hl
 have HSD:=Y uF
 have HOC:=Y hq.oc
 have hoc':(S.oc:Int) < 20:=by have:=hq.oc; omega
 have e1:((S.oc + 1:Nat):Int) = (S.oc:Int) + 1:=by omega
 have L:b ≠ w.heap.size:=by have:=tm_lt hT; omega
 have ka:World.rangeAt (w.alloc (E (yv o.id o.side o.ticks o.left o.life o.tag).toArray 66)) w.heap.size 0 o.vs:=zg w o.vs 66
 have qh:TM 166 (w.alloc (E (yv o.id o.side o.ticks o.left o.life o.tag).toArray 66)) b S:=aW hT (Below.heap_alloc w _ _ (tm_lt hT))
 have c1:=qh.oc
 have f1:=qh.fr
 have hT1:=tm_oc qh (S.oc + 1)
 have hR1:Hid (World.rangeAt (World.setCell (w.alloc (E (yv o.id o.side o.ticks o.left o.life o.tag).toArray 66)) (J b 170) (H ((S.oc + 1:Nat):Int))) w.heap.size 0 o.vs):=fun j u hu=>by
  rw [yL _ _ _ _ (fun e=>L (congrArg Addr.block e))]; exact ka j u hu
 have hG1:Hid (w.grownBy (World.setCell (w.alloc (E (yv o.id o.side o.ticks o.left o.life o.tag).toArray 66)) (J b 170) (H ((S.oc + 1:Nat):Int))) (some b)):=zJ (World.grownBy_alloc w (E (yv o.id o.side o.ticks o.left o.life o.tag).toArray 66) _) _ _
 have jg:=Y hT1
 have xA:Hid (w.heap.size < (World.heap (World.setCell (w.alloc (E (yv o.id o.side o.ticks o.left o.life o.tag).toArray 66)) (J b 170) (H ((S.oc + 1:Nat):Int)))).size):=(by
  have:=yK _ _ (hR1 0 _ rfl)
  exact this)
 clear hi hq qn hl uF hT qh ka hT1
 go_enter Tryz.func115,Tryz.ntmps115
 go_wp2_with fail
 rw [← e1]
 have em:∃ m,m = S.oc + 1:=⟨_,rfl⟩
 obtain ⟨m,hm⟩:=em
 rw [← hm] at hR1 hG1 jg xA ⊢
 generalize hW1:World.setCell (w.alloc (E (yv o.id o.side o.ticks o.left o.life o.tag).toArray 66)) (J b 170) (H (m:Int)) = W1 at hR1 hG1 jg xA ⊢
 have HM:=Y hm
 have hm21:(m:Int) < 21:=by omega
 obtain ⟨o0,o1,o2,o3,o4,o5⟩:=zC (U hR1)
 obtain ⟨q0,q1,q2,q3,q4,q5,q6⟩:=di ((U jg).qo m (by omega))
 have f2:=(U jg).fr
 have oN:S.lc < 20:=by have:=U jQ; omega
 have HB:=Y L
 clear hW1 hm e1 c1 f1 hoc' L
 go_region
 have vE:=Y (tm_put (U jg) m (by omega) o)
 have uL:=Y (gr_put (w:=W1) (b:=b) o m)
 generalize hW2:(((((((W1.setCell (J b (171 + m * 7)) (H o.id)).setCell (J b (171 + m * 7 + 1)) (H o.side)).setCell (J b (171 + m * 7 + 2)) (H o.ticks)).setCell (J b (171 + m * 7 + 3)) (H o.left)).setCell
   (J b (171 + m * 7 + 4)) (H o.life)).setCell (J b (171 + m * 7 + 5)) (yk o.tag)).setCell (J b (171 + m * 7 + 6)) (H 0)) = W2 at vE uL ⊢
 clear hW2 o0 o1 o2 o3 o4 o5 q0 q1 q2 q3 q4 q5 q6 f2
 rw [show ({ root:=S.root,lc:=S.lc,oc:=m,nd:=S.nd,qo:=upd S.qo m ⟨o,0⟩ }:TS) = S.lay o from by rw [U HM]; rfl] at vE
 have hR2:=Y (zq (U hR1) (U uL) (U xA) (fun e=>U HB (Option.some.inj e).symm))
 obtain ⟨o0,o1,o2,o3,o4,o5⟩:=zC (U hR2)
 have HTI:=Y (ti_lay o (U HI))
 have HT2d:Hid (TM 166 W2.drew.drew b (S.lay o)):=aW (U vE) rfl
 go_wp2_with fail
 go_region_with (go_at_call 119; refine (levelFor_s b (S.lay o) t o W2.drew.drew (U HT2d) (U HTI) oN).mono ?_; rintro e W3 ⟨h,rfl,vZ⟩; have HE:=Y vZ; have qD:(h:Int) < 21:=lf_lt vZ (U HTI) oN; clear vZ)
 obtain ⟨S3,hT3,uW,oI⟩:=U HE
 rw [← U HSD] at HQ
 obtain ⟨r1,r2,r3,r4,r5,t',r6,r7⟩:=add_ready (U HI) (U HQ) oI
 have R4:=Y r4
 have R6:=Y r6
 have R7:=Y r7
 have R23:Hid ((0:Int) ≤ (S3.nd h).qty∧(S3.nd h).qty ≤ 20000000∧(0:Int) ≤ (S3.nd h).count∧(S3.nd h).count ≤ 20):=by
  have L:=sumL_bound (atK seq o.ticks) (fun o' vC=>U HL o' (List.mem_filter.1 vC).1)
  have kl:(atK seq o.ticks).length ≤ seq.length:=List.length_filter_le _ _
  rw [r2,r3]
  refine ⟨L.1,?_,by omega,by omega⟩
  have:=L.2
  have h20:((atK seq o.ticks).length:Int) ≤ 20:=by omega
  omega
 have jU:=Y hT3
 have vK:Hid (W2.grownBy W3 (some b)):=⟨uW.os,uW.tape,uW.output,uW.size,uW.block⟩
 have hR3:=Y (zq (U hR2) (U vK) (yJ (U xA) (U uL).size) (fun e=>U HB (Option.some.inj e).symm))
 have hy21:(S3.nd h).yo < 21:=by omega
 have hm1:m = 1 + seq.length:=by have:=U HM; have:=U HOC; omega
 have qe:=Y hm1
 clear hT3 uW oI r1 r2 r3 r4 r5 r6 r7 o0 o1 o2 o3 o4 o5 hm1 HE
 have uH:=(U jU).fr
 obtain ⟨n0,n1,n2,n3,n4,n5,n6,n7⟩:=zI ((U jU).nd h (by omega))
 have vM:h < 21:=by omega
 clear n0 n1 n2 n3 n4 n5
 by_cases hy:(S3.nd h).yo = 0
 ·have t5:=aN (U jU) h 6 vM (by omega) (H m) { S3.nd h with el:=m } rfl _ rfl
  have t6:=aN t5 h 7 vM (by omega) (H m) { (TS.nd _ h) with yo:=m } rfl _ rfl
  simp only [bZ,zn] at t6
  obtain ⟨-,-,-,-,-,-,-,k7⟩:=zI (t5.nd h vM)
  have f5:=t5.fr
  rw [hy] at n7
  have jq:=Y (zJ (zJ (yR W3 (some b)) (2 + h * 8 + 6) (H m)) (2 + h * 8 + 7) (H m))
  have jh:=Y t6
  clear t5 t6
  go_wp2_with fail
  generalize hW6:(W3.setCell (J b (2 + h * 8 + 6)) (H m)).setCell (J b (2 + h * 8 + 7)) (H m) = W6 at jq jh ⊢
  clear jU hW6
  have f6:=(U jh).fr
  obtain ⟨-,-,m2,m3,-⟩:=zI ((U jh).nd h vM)
  simp only [zn] at m2 m3
  have hR6:=zq (U hR3) (U jq) (yJ (U xA) (yN (U uL).size (U vK).size)) (fun e=>U HB (Option.some.inj e).symm)
  obtain ⟨-,-,-,x3,-⟩:=zC hR6
  obtain ⟨b1,b2,b3,b4⟩:=U R23
  have t7:=aN (U jh) h 2 vM (by omega) (H ((S3.nd h).qty + o.left)) { (TS.nd _ h) with qty:=(S3.nd h).qty + o.left } rfl _ rfl
  have t8:=aN t7 h 3 vM (by omega) (H ((S3.nd h).count + 1)) { (TS.nd _ h) with count:=(S3.nd h).count + 1 } rfl _ rfl
  obtain ⟨-,-,-,y3,-⟩:=zI (t7.nd h vM)
  have f7:=t7.fr
  simp only [bZ,zn] at t8 y3
  have pq:=Y t8
  have HG8:=Y (zJ (zJ (yR W6 (some b)) (2 + h * 8 + 2) (H ((S3.nd h).qty + o.left))) (2 + h * 8 + 3) (H ((S3.nd h).count + 1)))
  have pL:wrap64 ((S3.nd h).qty + o.left) = (S3.nd h).qty + o.left:=by unfold wrap64; omega
  clear t7 t8 hR6
  go_region
  try simp only [IntKind.wrap_i64]
  try rw [show (IntKind.i64.wrap ((S3.nd h).qty + o.left)) = (S3.nd h).qty + o.left from by rw [IntKind.wrap_i64]; exact pL]
  generalize hW7:W6.setCell (J b (2 + h * 8 + 2)) (H ((S3.nd h).qty + o.left)) = W7 at *
  go_wp2_with fail
  go_end0
  have HS8:Hid (_ = S3.link h m o.left):=link_eq0 S3 h m o.left hy
  rw [U HS8] at pq
  rw [U qe] at pq
  refine ⟨rfl,?_,?_⟩
  ·rw [← U HSD]
   refine ⟨_,t',aW (U pq) rfl,U R6,U R7,?_⟩
   have Q:=U R4
   have N:=U jQ
   show S3.lc ≤ _
   simp; omega
  ·exact bR (((((U hG1).trans (U uL)).trans (U vK)).trans (U jq)).trans (U HG8)) rfl rfl rfl rfl
 ·have t5:=tm_qo (U jU) (S3.nd h).yo 6 hy21 (by omega) (H m) { S3.qo (S3.nd h).yo with yg:=m } rfl _ rfl
  have t6:=aN t5 h 7 vM (by omega) (H m) { (TS.nd _ h) with yo:=m } rfl _ rfl
  obtain ⟨-,-,-,-,-,-,-,k7⟩:=zI (t5.nd h vM)
  obtain ⟨-,-,-,-,-,-,q6⟩:=di ((U jU).qo (S3.nd h).yo hy21)
  have f5:=t5.fr
  have hyi:((S3.nd h).yo:Int) < 21:=by omega
  have pO:¬ (((S3.nd h).yo:Int) = 0):=by omega
  have jq:=Y (zJ (zJ (yR W3 (some b)) (171 + (S3.nd h).yo * 7 + 6) (H m)) (2 + h * 8 + 7) (H m))
  have jh:=Y t6
  clear t5 t6
  go_wp2_with fail
  go_region
  go_wp2_with fail
  generalize hW6:(W3.setCell (J b (171 + (S3.nd h).yo * 7 + 6)) (H m)).setCell (J b (2 + h * 8 + 7)) (H m) = W6 at jq jh ⊢
  clear jU hW6
  have f6:=(U jh).fr
  obtain ⟨-,-,m2,m3,-⟩:=zI ((U jh).nd h vM)
  simp only [zn] at m2 m3
  have hR6:=zq (U hR3) (U jq) (yJ (U xA) (yN (U uL).size (U vK).size)) (fun e=>U HB (Option.some.inj e).symm)
  obtain ⟨-,-,-,x3,-⟩:=zC hR6
  obtain ⟨b1,b2,b3,b4⟩:=U R23
  have t7:=aN (U jh) h 2 vM (by omega) (H ((S3.nd h).qty + o.left)) { (TS.nd _ h) with qty:=(S3.nd h).qty + o.left } rfl _ rfl
  have t8:=aN t7 h 3 vM (by omega) (H ((S3.nd h).count + 1)) { (TS.nd _ h) with count:=(S3.nd h).count + 1 } rfl _ rfl
  obtain ⟨-,-,-,y3,-⟩:=zI (t7.nd h vM)
  have f7:=t7.fr
  simp only [bZ,zn] at t8 y3
  have pq:=Y t8
  have HG8:=Y (zJ (zJ (yR W6 (some b)) (2 + h * 8 + 2) (H ((S3.nd h).qty + o.left))) (2 + h * 8 + 3) (H ((S3.nd h).count + 1)))
  have pL:wrap64 ((S3.nd h).qty + o.left) = (S3.nd h).qty + o.left:=by unfold wrap64; omega
  clear t7 t8 hR6
  go_region
  try simp only [IntKind.wrap_i64]
  try rw [show (IntKind.i64.wrap ((S3.nd h).qty + o.left)) = (S3.nd h).qty + o.left from by rw [IntKind.wrap_i64]; exact pL]
  generalize hW7:W6.setCell (J b (2 + h * 8 + 2)) (H ((S3.nd h).qty + o.left)) = W7 at *
  go_wp2_with fail
  go_end0
  have HS8:Hid (_ = S3.link h m o.left):=link_eq1 S3 h m o.left hy
  rw [U HS8] at pq
  rw [U qe] at pq
  refine ⟨rfl,?_,?_⟩
  ·rw [← U HSD]
   refine ⟨_,t',aW (U pq) rfl,U R6,U R7,?_⟩
   have Q:=U R4
   have N:=U jQ
   show S3.lc ≤ _
   simp; omega
  ·exact bR (((((U hG1).trans (U uL)).trans (U vK)).trans (U jq)).trans (U HG8)) rfl rfl rfl rfl
theorem zNd_s:∀ i,i < 21→(Tryz.zeroCells166.toList.drop (2 + i * 8)).take 8 = zNd.vs
 | 0,_=>by kernel_rfl
 | 1,_=>by kernel_rfl
 | 2,_=>by kernel_rfl
 | 3,_=>by kernel_rfl
 | 4,_=>by kernel_rfl
 | 5,_=>by kernel_rfl
 | 6,_=>by kernel_rfl
 | 7,_=>by kernel_rfl
 | 8,_=>by kernel_rfl
 | 9,_=>by kernel_rfl
 | 10,_=>by kernel_rfl
 | 11,_=>by kernel_rfl
 | 12,_=>by kernel_rfl
 | 13,_=>by kernel_rfl
 | 14,_=>by kernel_rfl
 | 15,_=>by kernel_rfl
 | 16,_=>by kernel_rfl
 | 17,_=>by kernel_rfl
 | 18,_=>by kernel_rfl
 | 19,_=>by kernel_rfl
 | 20,_=>by kernel_rfl
 | n + 21,h=>absurd h (by omega)
theorem zQo_s:∀ i,i < 21→(Tryz.zeroCells166.toList.drop (171 + i * 7)).take 7 = zQo.vs
 | 0,_=>by kernel_rfl
 | 1,_=>by kernel_rfl
 | 2,_=>by kernel_rfl
 | 3,_=>by kernel_rfl
 | 4,_=>by kernel_rfl
 | 5,_=>by kernel_rfl
 | 6,_=>by kernel_rfl
 | 7,_=>by kernel_rfl
 | 8,_=>by kernel_rfl
 | 9,_=>by kernel_rfl
 | 10,_=>by kernel_rfl
 | 11,_=>by kernel_rfl
 | 12,_=>by kernel_rfl
 | 13,_=>by kernel_rfl
 | 14,_=>by kernel_rfl
 | 15,_=>by kernel_rfl
 | 16,_=>by kernel_rfl
 | 17,_=>by kernel_rfl
 | 18,_=>by kernel_rfl
 | 19,_=>by kernel_rfl
 | 20,_=>by kernel_rfl
 | n + 21,h=>absurd h (by omega)
theorem zTree_s (w:World) (sd:Int):aG 166 false (w.alloc (Obj.cells Tryz.zeroCells166 166)) w.heap.size sd [] :=
 ⟨zTS,.nil,tm_zero w _ _ (by kernel_rfl) (by kernel_rfl) zNd_s (by kernel_rfl) zQo_s,ti_zero _,qi_zero _,Nat.le_refl _⟩
theorem plant_s (v:Value) (l:List Od) (sd:Int) (w:World) (hr:RdR Od.vs 6 w v l) (hn:l.length ≤ 20) (hl:∀ o' ∈ l,0 ≤ o'.left∧o'.left ≤ 1000000) :
  Calls Tryz.prog 104 #[v,H sd] w fun e w' =>
   e = ym (yp w 0)∧aG 166 false w' w.heap.size sd (zt l sd)∧yn w w':=by
 obtain ⟨a,A,rfl,xD,hc⟩:=hr
 have xq:∀ (k:Nat) (c:Od),l[k]? = some c→∃ b off,a = some (J b off)∧b < w.heap.size∧w.rangeAt b (off + k * 6) c.vs:=by
  intro k c hk
  obtain ⟨b,off,Q,N,h3⟩:=hc (by intro h; rw [h] at hk; simp at hk)
  exact ⟨b,off,Q,N,h3 k c hk⟩
 have HC:=Y xq
 have HL:=Y hl
 have HN:=Y hn
 clear xq hc hl
 have HZ:=Y (zTree_s w sd)
 have vj:Hid (yn w (w.alloc (Obj.cells Tryz.zeroCells166 166))):=ed _ _
 go_enter Tryz.func104,Tryz.ntmps104
 go_wp2_with fail
 generalize (w.alloc (Obj.cells Tryz.zeroCells166 166)) = W0 at HZ vj ⊢
 go_loopw [11] (fun i wr=>∃ k:Nat,k ≤ l.length∧i = H k∧aG 166 false wr w.heap.size sd (zt (l.take k) sd)∧yn w wr) (fun i _=>l.length - (intOf i).toNat)
 case atStart=>exact ⟨0,Nat.zero_le _,rfl,U HZ,U vj⟩
 case round =>
  obtain ⟨k,hk,rfl,ob,xk⟩:=hrel
  have vX:=Y ob
  have kB:=Y xk
  clear ob xk HZ vj
  by_cases xK:k < l.length
  ·obtain ⟨c,vd⟩:∃ c,l[k]? = some c:=⟨_,yH xK⟩
   have jP:=Y vd
   obtain ⟨b,off,rfl,L,xo⟩:=U HC k c vd
   obtain ⟨g0,g1,g2,g3,g4,g5⟩:=zC (zb xo (U kB) L)
   have uv:(k:Int) < l.length:=by omega
   clear vd xo L
   by_cases uF:c.side = sd
   ·have HIT:Hid (zt (l.take (k + 1)) c.side = zt (l.take k) c.side ++ [c]):=ofSide_snoc l k c (U jP)
    subst uF
    have hlk:(zt (l.take k) c.side).length < 20:=by
     have Q:(zt (l.take k) c.side).length ≤ (l.take k).length:=List.length_filter_le _ _
     have N:(l.take k).length ≤ k:=List.length_take_le _ _
     have h3:=U HN
     omega
    have HLK:=Y hlk
    have xo:=U HL c (yO (U jP))
    have qk:=Y xo
    clear hlk xo
    go_wp2_with fail
    refine (add_s w.heap.size c.side (zt (l.take k) c.side) c _ (zE (U vX) (Below.heap_alloc wr _ _ (aX (U vX)))) rfl (U HLK) (fun o' vC=>U HL o' (List.mem_of_mem_take (List.mem_filter.1 vC).1)) (U qk)).mono ?_
    rintro e w2 ⟨rfl,pN,vN⟩
    rw [← U HIT] at pN
    have ps:=Y pN
    have xF:=Y (((U kB).alloc (U kB).size _).grown vN (by rw [ze]; have:=(U kB).size; omega) (fun g hg=>by obtain rfl:=Option.some.inj hg; exact Nat.le_refl _))
    clear pN vN
    go_wp2_with fail
    go_roundw
    case rel=>exact ⟨k + 1,by omega,by go_num,U ps,U xF⟩
    case measure=>simp [intOf]; omega
   ·have HIT:Hid (zt (l.take (k + 1)) sd = zt (l.take k) sd):=ofSide_skip l k c (U jP) uF
    go_wp2_with fail
    go_roundw
    case rel =>
     refine ⟨k + 1,by omega,by go_num,?_,?_⟩
     ·rw [U HIT]; exact zE (U vX) (Below.heap_alloc wr _ _ (aX (U vX)))
     ·exact (U kB).alloc (U kB).size _
    case measure=>simp [intOf]; omega
  ·go_wp2_with fail
   go_ret
   have h:=U vX
   rw [yZ (by omega)] at h
   exact ⟨rfl,h,U kB⟩
end Go.Proofs.YtdliebbfcmdmaaaGreat
