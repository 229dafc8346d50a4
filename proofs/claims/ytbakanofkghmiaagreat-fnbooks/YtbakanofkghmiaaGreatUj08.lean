/-
  How an order's level is found in the tree, or grown, proved by walking the function.
-/
import Derived.Test.YtbakanofkghmiaaGreatUj05
set_option linter.unusedVariables false
set_option maxHeartbeats 6400000
set_option maxRecDepth 100000
namespace Go.Proofs.YtbakanofkghmiaaGreat
open Go.RowKit
theorem better_s (a c:Int) (w:World) :
  Calls Tryz.prog 189 #[.agg #[],H a,H c] w fun e w'=>e = yl (.bool (decide (a < c)))∧w.grownBy w' none:=by
 go_enter Tryz.func189,Tryz.ntmps189
 go_wp2_with fail
 go_ret
 exact ⟨rfl,World.grownBy_alloc _ _ _⟩
theorem method_s (w:World):Sem.run Tryz.prog (method 322 130 (.agg #[]) "loop.example/g00092/impl.better") w = .ok (189,.agg #[]) w:=by kernel_rfl
theorem part_s {w:World} {b:Nat} (h:∃ xp,w.heap[b]? = some (.cells xp 179 (0,0))):Sem.run Tryz.prog (partAt (J b 0) 0 0) w = .ok (J b 0) w:=by
 obtain ⟨xp,h⟩:=h
 have hc:Tryz.prog.cellsOf 179 = 318:=by kernel_rfl
 have hy:byteOfCell Tryz.prog Tryz.prog.depth 179 0 = some 0:=by kernel_rfl
 have hs:w.shape? b = some (179,xp.size):=by simp [World.shape?,h]
 simp [partAt,byteOf,noView,viewAt,hs,hc,hy]
theorem levelFor_s (b:Nat) (S:TS) (t:Tr) (o:Od) (w:World) (hT:TM 179 w b S) (hi:TI false S t) (qq:S.lc < 20) :
  Calls Tryz.prog 158 #[I b 0,.agg (yu o.id o.side o.ticks o.left o.life o.tag).toArray] w fun e w' =>
   ∃ (h:Nat),e = yl (H h)∧LFEnd false 179 b S t o w h w':=by
 have HT:=Y hT
 have HI:=Y hi
 clear hT hi
 go_enter Tryz.func158,Tryz.ntmps158
 go_wp2_with fail
 have HW:Hid (∃ W,W = (w.alloc (N (yu o.id o.side o.ticks o.left o.life o.tag).toArray 49))∧W.rangeAt w.heap.size 0 o.vs∧TM 179 W b S∧w.grownBy W (some b)∧w.heap.size < W.heap.size∧b ≠ w.heap.size) :=
  ⟨_,rfl,zg w o.vs _,aX (U HT) (Below.heap_alloc w _ _ (tm_lt (U HT))),World.grownBy_alloc _ _ _,by rw [zf]; omega,by have:=tm_lt (U HT); omega⟩
 obtain ⟨W,hW,hWW⟩:=U HW
 rw [← hW]
 have po:=Y hWW
 clear hW hWW HW HT
 go_loopg [5] (t.hs.length) (fun k p wr=>LFI false b S t o.ticks W k p wr)
 case atStart=>exact ⟨[],t,rfl,Nat.le_refl _,way_start (U HI) _,yP _ _⟩
 case round =>
  obtain ⟨c,u,rfl,hk,hw,hg⟩:=hrel
  have jQ:=Y hw
  have HG:=Y hg
  have HK:=Y hk
  have hT:=du (U po).2.1 hg (by simp)
  have c0:=cur_cell hT (zV c) (cur_ok (U HI) hw qq)
  obtain ⟨o0,o1,o2,o3,o4,o5⟩:=zz (zu (U po).1 hg (U po).2.2.2.1 (by simp))
  clear hk hw hg
  by_cases ha:S.rd (zV c) = 0
  ·have pK:=hT.lc
   have hf:=hT.fr
   have HA0:=Y ha
   rw [ha] at c0
   have hlc':(S.lc:Int) < 20:=by omega
   have e1:((S.lc + 1:Nat):Int) = (S.lc:Int) + 1:=by omega
   have uM:=cur_ok (U HI) (U jQ) qq
   have t1:=tm_lc hT (S.lc + 1)
   have t2:=tm_cur t1 (zV c) uM (S.lc + 1)
   rw [e1] at t1 t2
   have d2:_ = _:=(cur_cell t1 (zV c) uM).trans (congrArg (fun x:Nat=>some (H x)) (show TS.rd _ (zV c) = 0 from by rw [← ha]; cases (zV c) <;> rfl))
   have d3:_ = _:=t2.lc
   rw [(wr_same _ _ _).1] at d3
   simp only [e1] at d3
   have g1:=t1.fr
   have g2:=t2.fr
   obtain ⟨n0,n1,n2,n3,-⟩:=zN (t2.nd (S.lc + 1) (by omega))
   have O:b ≠ w.heap.size:=(U po).2.2.2.2
   have p1:((wr.setCell (J b 1) (H ((S.lc:Int) + 1))).setCell (J b ((zV c).off)) (H ((S.lc:Int) + 1))).cell? (yp w (0 + 1)) = some (H o.side):=by
    rw [yJ _ _ _ _ (fun e=>O (congrArg Addr.block e)),yJ _ _ _ _ (fun e=>O (congrArg Addr.block e))]; exact o1
   have p2:((wr.setCell (J b 1) (H ((S.lc:Int) + 1))).setCell (J b ((zV c).off)) (H ((S.lc:Int) + 1))).cell? (yp w (0 + 2)) = some (H o.ticks):=by
    rw [yJ _ _ _ _ (fun e=>O (congrArg Addr.block e)),yJ _ _ _ _ (fun e=>O (congrArg Addr.block e))]; exact o2
   have vu:=Y t2
   have HB:=Y O
   clear ha hT t1 t2 uM O
   go_wp2_with fail
   have HG4:Hid (wr.grownBy ((wr.setCell (J b 1) (H ((S.lc:Int) + 1))).setCell (J b ((zV c).off)) (H ((S.lc:Int) + 1))) (some b)):=zP (zP (yP _ _) _ _) _ _
   generalize hW4:((wr.setCell (J b 1) (H ((S.lc:Int) + 1))).setCell (J b ((zV c).off)) (H ((S.lc:Int) + 1))) = W4 at *
   rw [← e1] at d3
   obtain ⟨m,hm⟩:∃ m,m = S.lc + 1:=⟨_,rfl⟩
   rw [← hm] at d3 n0 n1 n2 n3
   have hm21:(m:Int) < 21:=by omega
   have HM:=Y hm
   clear hW4 hm e1 d2 pK hf g1 c0 o0 o1 o2 o3 o4 o5 hlc'
   go_region
   have t3:=U vu
   have t4:=aM t3 (S.lc + 1) 0 (by omega) (by omega) (H o.side) { (TS.nd _ (S.lc + 1)) with side:=o.side } rfl _ rfl
   have t5:=aM t4 (S.lc + 1) 1 (by omega) (by omega) (H o.ticks) { (TS.nd _ (S.lc + 1)) with ticks:=o.ticks } rfl _ rfl
   have t6:=aM t5 (S.lc + 1) 2 (by omega) (by omega) (H 0) { (TS.nd _ (S.lc + 1)) with qty:=0 } rfl _ rfl
   have t7:=aM t6 (S.lc + 1) 3 (by omega) (by omega) (H 0) { (TS.nd _ (S.lc + 1)) with count:=0 } rfl _ rfl
   have pg:=Y (gr_drew (zP (zP (zP (zP (U HG4) (2 + m * 8) (H o.side)) (2 + m * 8 + 1) (H o.ticks)) (2 + m * 8 + 2) (H 0)) (2 + m * 8 + 3) (H 0)))
   rw [← U HM] at t7
   simp only [cz,zn] at t7
   have hS:_ = S.grow (zV c) o.side o.ticks:=grow_eq S (zV c) o m (U HM)
   rw [hS] at t7
   have d7:_ = some (H (m:Int)):=t7.lc.trans (by rw [U HM]; rfl)
   have HT7:=Y t7
   clear t3 t4 t5 t6 t7 n0 n1 n2 n3 d3 p1 p2
   generalize (((W4.setCell (J b (2 + m * 8)) (H o.side)).setCell (J b (2 + m * 8 + 1)) (H o.ticks)).setCell (J b (2 + m * 8 + 2)) (H 0)).setCell (J b (2 + m * 8 + 3)) (H 0) = W7 at *
   go_wp2_with fail
   go_ret
   exact ⟨m,rfl,_,aX (U HT7) rfl,(U po).2.2.1.trans (((U HG).but _).trans (U pg)),.inr ⟨c,u,U jQ,U HA0,U HM,rfl⟩⟩
  ·have ham:=way_at (U jQ) rfl ha
   have har:=(U HI).range _ ham
   obtain ⟨a,hae⟩:∃ a,a = S.rd (zV c):=⟨_,rfl⟩
   rw [← hae] at c0 ha ham har
   have HAE:=Y hae
   have ha':¬ ((a:Int) = 0):=by omega
   have ha21:(a:Int) < 21:=by omega
   obtain ⟨n0,n1,n2,n3,n4,n5,n6,n7⟩:=zN (hT.nd a (by omega))
   have HTM:=Y hT
   have qT:∀ w',wr.grownBy w' none→Sem.run Tryz.prog (partAt (J b 0) 0 0) w' = .ok (J b 0) w':=fun w' h=>part_s (du (U HTM) h (by simp)).obj
   have HPT:=Y qT
   have HN1:=Y (fun w' (h:wr.grownBy w' none)=>h.cell n1 (by simp))
   have vV:=Y (fun w' (h:wr.grownBy w' none)=>h.cell o2 (by simp))
   clear hae hT qT
   go_wp2_with fail
   go_quiet (fail)
   go_wp2_with fail
   refine dd (W:=wr) (by kernel_rfl) (by kernel_rfl) ⟨rfl,rfl,rfl,Nat.le_refl _,fun _ _ _=>rfl⟩ ?_
   iterate 12 (
    refine aR (v:=?_) ?_ ?_ ?_
    rotate_left
    ·rfl
    ·intro w' ul
     have f1:=U HN1 w' ul
     have f2:=U vV w' ul
     have f3:=U HPT w' ul
     go_simp
     try rfl
    intro hj hK
    go_simp
    refine hK _ ?_
    clear hK hj)
   refine aR (v:=.bool (decide (o.ticks < (S.nd a).ticks))) ?_ ?_ ?_
   ·rfl
   ·intro w' ul
    have hm:=method_s w'
    go_simp
    refine (better_s _ _ _).mono ?_
    rintro e w3 ⟨rfl,vh⟩
    exact ⟨rfl,ul.trans vh⟩
   intro hj hK
   go_simp
   refine hK _ ?_
   clear hK hj
   refine aR (v:=?_) ?_ ?_ ?_
   rotate_left
   ·rfl
   ·intro w' ul
    go_simp
    try rfl
   intro hj hK
   go_simp
   refine hK _ ?_
   clear hK hj
   refine wpQuiet_nil ?_
   intro w2 qc
   have uN:=Y qc
   clear qc
   by_cases G:o.ticks < (S.nd a).ticks
   ·have kn:decide (o.ticks < (S.nd a).ticks) = true:=by simpa using G
    go_wp2_with fail
    obtain ⟨l,r,rfl,hw2⟩:=way_be (U HI) (U jQ) (U HAE).symm ha G
    go_roundg (l.hs.length)
    case measure=>have:=U HK; simp [Tr.hs] at this; omega
    case rel=>exact ⟨_,l,rfl,Nat.le_refl _,hw2,(U HG).trans (U uN)⟩
   ·have kn:decide (o.ticks < (S.nd a).ticks) = false:=by simpa using G
    go_wp2_with fail
    refine dd (W:=wr) (by kernel_rfl) (by kernel_rfl) (U uN) ?_
    iterate 12 (
     refine aR (v:=?_) ?_ ?_ ?_
     rotate_left
     ·rfl
     ·intro w' ul
      have f1:=U HN1 w' ul
      have f2:=U vV w' ul
      have f3:=U HPT w' ul
      go_simp
      try rfl
     intro hj hK
     go_simp
     refine hK _ ?_
     clear hK hj)
    refine aR (v:=.bool (decide ((S.nd a).ticks < o.ticks))) ?_ ?_ ?_
    ·rfl
    ·intro w' ul
     have hm:=method_s w'
     go_simp
     refine (better_s _ _ _).mono ?_
     rintro e w3 ⟨rfl,vh⟩
     exact ⟨rfl,ul.trans vh⟩
    intro hj hK
    go_simp
    refine hK _ ?_
    clear hK hj
    refine aR (v:=?_) ?_ ?_ ?_
    rotate_left
    ·rfl
    ·intro w' ul
     go_simp
     try rfl
    intro hj hK
    go_simp
    refine hK _ ?_
    clear hK hj
    refine wpQuiet_nil ?_
    intro w3 vh
    have qf:=Y vh
    clear vh
    by_cases D:(S.nd a).ticks < o.ticks
    ·have ke:decide ((S.nd a).ticks < o.ticks) = true:=by simpa using D
     go_wp2_with fail
     obtain ⟨l,r,rfl,hw2⟩:=way_wo (U HI) (U jQ) (U HAE).symm ha D
     go_roundg (r.hs.length)
     case measure=>have:=U HK; simp [Tr.hs] at this; omega
     case rel=>exact ⟨_,r,rfl,Nat.le_refl _,hw2,(U HG).trans (U qf)⟩
    ·have ke:decide ((S.nd a).ticks < o.ticks) = false:=by simpa using D
     have c3:=(U qf).cell c0 (by simp)
     go_wp2_with fail
     go_ret
     have hG:=(U HG).trans (U qf)
     exact ⟨a,rfl,S,du (U po).2.1 hG (by simp),(U po).2.2.1.trans (hG.but _),.inl ⟨ham,by omega,rfl⟩⟩
theorem add_s (b:Nat) (sd:Int) (seq:List Od) (o:Od) (w:World) (h:aG 179 false w b sd seq) (uC:o.side = sd) (hn:seq.length < 20) (hl:∀ o' ∈ seq,0 ≤ o'.left∧o'.left ≤ 1000000) (jn:0 ≤ o.left∧o.left ≤ 1000000) :
  Calls Tryz.prog 129 #[I b 0,.agg (yu o.id o.side o.ticks o.left o.life o.tag).toArray] w fun e w' =>
   e = yl (.tuple #[])∧aG 179 false w' b sd (seq ++ [o])∧w.grownBy w' (some b):=by
 obtain ⟨S,t,hT,hi,hq,qq⟩:=h
 have HI:=Y hi
 have HQ:=Y hq
 have HT:=Y hT
 have ju:=Y qq
 have HL:=Y hl
 have HSD:=Y uC
 have HOC:=Y hq.oc
 have hoc':(S.oc:Int) < 20:=by have:=hq.oc; omega
 have e1:((S.oc + 1:Nat):Int) = (S.oc:Int) + 1:=by omega
 have O:b ≠ w.heap.size:=by have:=tm_lt hT; omega
 have jX:World.rangeAt (w.alloc (N (yu o.id o.side o.ticks o.left o.life o.tag).toArray 49)) w.heap.size 0 o.vs:=zg w o.vs 49
 have qh:TM 179 (w.alloc (N (yu o.id o.side o.ticks o.left o.life o.tag).toArray 49)) b S:=aX hT (Below.heap_alloc w _ _ (tm_lt hT))
 have c1:=qh.oc
 have f1:=qh.fr
 have hT1:=tm_oc qh (S.oc + 1)
 have hR1:Hid (World.rangeAt (World.setCell (w.alloc (N (yu o.id o.side o.ticks o.left o.life o.tag).toArray 49)) (J b 170) (H ((S.oc + 1:Nat):Int))) w.heap.size 0 o.vs):=fun j u hu=>by
  rw [yJ _ _ _ _ (fun e=>O (congrArg Addr.block e))]; exact jX j u hu
 have hG1:Hid (w.grownBy (World.setCell (w.alloc (N (yu o.id o.side o.ticks o.left o.life o.tag).toArray 49)) (J b 170) (H ((S.oc + 1:Nat):Int))) (some b)):=zP (World.grownBy_alloc w (N (yu o.id o.side o.ticks o.left o.life o.tag).toArray 49) _) _ _
 have qN:=Y hT1
 have xz:Hid (w.heap.size < (World.heap (World.setCell (w.alloc (N (yu o.id o.side o.ticks o.left o.life o.tag).toArray 49)) (J b 170) (H ((S.oc + 1:Nat):Int)))).size):=(by
  have:=yI _ _ (hR1 0 _ rfl)
  exact this)
 clear hi hq qq hl uC hT qh jX hT1
 go_enter Tryz.func129,Tryz.ntmps129
 go_wp2_with fail
 rw [← e1]
 have em:∃ m,m = S.oc + 1:=⟨_,rfl⟩
 obtain ⟨m,hm⟩:=em
 rw [← hm] at hR1 hG1 qN xz ⊢
 generalize hW1:World.setCell (w.alloc (N (yu o.id o.side o.ticks o.left o.life o.tag).toArray 49)) (J b 170) (H (m:Int)) = W1 at hR1 hG1 qN xz ⊢
 have HM:=Y hm
 have hm21:(m:Int) < 21:=by omega
 obtain ⟨o0,o1,o2,o3,o4,o5⟩:=zz (U hR1)
 obtain ⟨q0,q1,q2,q3,q4,q5,q6⟩:=ds ((U qN).qo m (by omega))
 have f2:=(U qN).fr
 have oG:S.lc < 20:=by have:=U ju; omega
 have HB:=Y O
 clear hW1 hm e1 c1 f1 hoc' O
 go_region
 have vu:=Y (tm_put (U qN) m (by omega) o)
 have uN:=Y (gr_put (w:=W1) (b:=b) o m)
 generalize hW2:(((((((W1.setCell (J b (171 + m * 7)) (H o.id)).setCell (J b (171 + m * 7 + 1)) (H o.side)).setCell (J b (171 + m * 7 + 2)) (H o.ticks)).setCell (J b (171 + m * 7 + 3)) (H o.left)).setCell
   (J b (171 + m * 7 + 4)) (H o.life)).setCell (J b (171 + m * 7 + 5)) (yj o.tag)).setCell (J b (171 + m * 7 + 6)) (H 0)) = W2 at vu uN ⊢
 clear hW2 o0 o1 o2 o3 o4 o5 q0 q1 q2 q3 q4 q5 q6 f2
 rw [show ({ root:=S.root,lc:=S.lc,oc:=m,nd:=S.nd,qo:=upd S.qo m ⟨o,0⟩ }:TS) = S.lay o from by rw [U HM]; rfl] at vu
 have hR2:=Y (zu (U hR1) (U uN) (U xz) (fun e=>U HB (Option.some.inj e).symm))
 obtain ⟨o0,o1,o2,o3,o4,o5⟩:=zz (U hR2)
 have HTI:=Y (ti_lay o (U HI))
 have HT2d:Hid (TM 179 W2.drew.drew b (S.lay o)):=aX (U vu) rfl
 go_wp2_with fail
 go_region_with (go_at_call 158; refine (levelFor_s b (S.lay o) t o W2.drew.drew (U HT2d) (U HTI) oG).mono ?_; rintro e W3 ⟨h,rfl,vX⟩; have HE:=Y vX; have qF:(h:Int) < 21:=lf_lt vX (U HTI) oG; clear vX)
 obtain ⟨S3,hT3,vh,oA⟩:=U HE
 rw [← U HSD] at HQ
 obtain ⟨r1,r2,r3,r4,r5,t',r6,r7⟩:=add_ready (U HI) (U HQ) oA
 have R4:=Y r4
 have R6:=Y r6
 have R7:=Y r7
 have R23:Hid ((0:Int) ≤ (S3.nd h).qty∧(S3.nd h).qty ≤ 20000000∧(0:Int) ≤ (S3.nd h).count∧(S3.nd h).count ≤ 20):=by
  have O:=sumL_bound (atK seq o.ticks) (fun o' vv=>U HL o' (List.mem_filter.1 vv).1)
  have jb:(atK seq o.ticks).length ≤ seq.length:=List.length_filter_le _ _
  rw [r2,r3]
  refine ⟨O.1,?_,by omega,by omega⟩
  have:=O.2
  have h20:((atK seq o.ticks).length:Int) ≤ 20:=by omega
  omega
 have jg:=Y hT3
 have qf:Hid (W2.grownBy W3 (some b)):=⟨vh.os,vh.tape,vh.output,vh.size,vh.block⟩
 have hR3:=Y (zu (U hR2) (U qf) (yH (U xz) (U uN).size) (fun e=>U HB (Option.some.inj e).symm))
 have hy21:(S3.nd h).yo < 21:=by omega
 have hm1:m = 1 + seq.length:=by have:=U HM; have:=U HOC; omega
 have vS:=Y hm1
 clear hT3 vh oA r1 r2 r3 r4 r5 r6 r7 o0 o1 o2 o3 o4 o5 hm1 HE
 have uw:=(U jg).fr
 obtain ⟨n0,n1,n2,n3,n4,n5,n6,n7⟩:=zN ((U jg).nd h (by omega))
 have vO:h < 21:=by omega
 clear n0 n1 n2 n3 n4 n5
 by_cases hy:(S3.nd h).yo = 0
 ·have t5:=aM (U jg) h 6 vO (by omega) (H m) { S3.nd h with el:=m } rfl _ rfl
  have t6:=aM t5 h 7 vO (by omega) (H m) { (TS.nd _ h) with yo:=m } rfl _ rfl
  simp only [cz,zn] at t6
  obtain ⟨-,-,-,-,-,-,-,k7⟩:=zN (t5.nd h vO)
  have f5:=t5.fr
  rw [hy] at n7
  have ki:=Y (zP (zP (yP W3 (some b)) (2 + h * 8 + 6) (H m)) (2 + h * 8 + 7) (H m))
  have jh:=Y t6
  clear t5 t6
  go_wp2_with fail
  generalize hW6:(W3.setCell (J b (2 + h * 8 + 6)) (H m)).setCell (J b (2 + h * 8 + 7)) (H m) = W6 at ki jh ⊢
  clear jg hW6
  have f6:=(U jh).fr
  obtain ⟨-,-,m2,m3,-⟩:=zN ((U jh).nd h vO)
  simp only [zn] at m2 m3
  have hR6:=zu (U hR3) (U ki) (yH (U xz) (yL (U uN).size (U qf).size)) (fun e=>U HB (Option.some.inj e).symm)
  obtain ⟨-,-,-,x3,-⟩:=zz hR6
  obtain ⟨b1,b2,b3,b4⟩:=U R23
  have t7:=aM (U jh) h 2 vO (by omega) (H ((S3.nd h).qty + o.left)) { (TS.nd _ h) with qty:=(S3.nd h).qty + o.left } rfl _ rfl
  have t8:=aM t7 h 3 vO (by omega) (H ((S3.nd h).count + 1)) { (TS.nd _ h) with count:=(S3.nd h).count + 1 } rfl _ rfl
  obtain ⟨-,-,-,y3,-⟩:=zN (t7.nd h vO)
  have f7:=t7.fr
  simp only [cz,zn] at t8 y3
  have pl:=Y t8
  have HG8:=Y (zP (zP (yP W6 (some b)) (2 + h * 8 + 2) (H ((S3.nd h).qty + o.left))) (2 + h * 8 + 3) (H ((S3.nd h).count + 1)))
  have pL:wrap64 ((S3.nd h).qty + o.left) = (S3.nd h).qty + o.left:=by unfold wrap64; omega
  clear t7 t8 hR6
  go_region
  try simp only [IntKind.wrap_i64]
  try rw [show (IntKind.i64.wrap ((S3.nd h).qty + o.left)) = (S3.nd h).qty + o.left from by rw [IntKind.wrap_i64]; exact pL]
  generalize hW7:W6.setCell (J b (2 + h * 8 + 2)) (H ((S3.nd h).qty + o.left)) = W7 at *
  go_wp2_with fail
  go_end0
  have HS8:Hid (_ = S3.link h m o.left):=link_eq0 S3 h m o.left hy
  rw [U HS8] at pl
  rw [U vS] at pl
  refine ⟨rfl,?_,?_⟩
  ·rw [← U HSD]
   refine ⟨_,t',aX (U pl) rfl,U R6,U R7,?_⟩
   have G:=U R4
   have D:=U ju
   show S3.lc ≤ _
   simp; omega
  ·exact bU (((((U hG1).trans (U uN)).trans (U qf)).trans (U ki)).trans (U HG8)) rfl rfl rfl rfl
 ·have t5:=tm_qo (U jg) (S3.nd h).yo 6 hy21 (by omega) (H m) { S3.qo (S3.nd h).yo with yg:=m } rfl _ rfl
  have t6:=aM t5 h 7 vO (by omega) (H m) { (TS.nd _ h) with yo:=m } rfl _ rfl
  obtain ⟨-,-,-,-,-,-,-,k7⟩:=zN (t5.nd h vO)
  obtain ⟨-,-,-,-,-,-,q6⟩:=ds ((U jg).qo (S3.nd h).yo hy21)
  have f5:=t5.fr
  have hyi:((S3.nd h).yo:Int) < 21:=by omega
  have jI:¬ (((S3.nd h).yo:Int) = 0):=by omega
  have ki:=Y (zP (zP (yP W3 (some b)) (171 + (S3.nd h).yo * 7 + 6) (H m)) (2 + h * 8 + 7) (H m))
  have jh:=Y t6
  clear t5 t6
  go_wp2_with fail
  go_region
  go_wp2_with fail
  generalize hW6:(W3.setCell (J b (171 + (S3.nd h).yo * 7 + 6)) (H m)).setCell (J b (2 + h * 8 + 7)) (H m) = W6 at ki jh ⊢
  clear jg hW6
  have f6:=(U jh).fr
  obtain ⟨-,-,m2,m3,-⟩:=zN ((U jh).nd h vO)
  simp only [zn] at m2 m3
  have hR6:=zu (U hR3) (U ki) (yH (U xz) (yL (U uN).size (U qf).size)) (fun e=>U HB (Option.some.inj e).symm)
  obtain ⟨-,-,-,x3,-⟩:=zz hR6
  obtain ⟨b1,b2,b3,b4⟩:=U R23
  have t7:=aM (U jh) h 2 vO (by omega) (H ((S3.nd h).qty + o.left)) { (TS.nd _ h) with qty:=(S3.nd h).qty + o.left } rfl _ rfl
  have t8:=aM t7 h 3 vO (by omega) (H ((S3.nd h).count + 1)) { (TS.nd _ h) with count:=(S3.nd h).count + 1 } rfl _ rfl
  obtain ⟨-,-,-,y3,-⟩:=zN (t7.nd h vO)
  have f7:=t7.fr
  simp only [cz,zn] at t8 y3
  have pl:=Y t8
  have HG8:=Y (zP (zP (yP W6 (some b)) (2 + h * 8 + 2) (H ((S3.nd h).qty + o.left))) (2 + h * 8 + 3) (H ((S3.nd h).count + 1)))
  have pL:wrap64 ((S3.nd h).qty + o.left) = (S3.nd h).qty + o.left:=by unfold wrap64; omega
  clear t7 t8 hR6
  go_region
  try simp only [IntKind.wrap_i64]
  try rw [show (IntKind.i64.wrap ((S3.nd h).qty + o.left)) = (S3.nd h).qty + o.left from by rw [IntKind.wrap_i64]; exact pL]
  generalize hW7:W6.setCell (J b (2 + h * 8 + 2)) (H ((S3.nd h).qty + o.left)) = W7 at *
  go_wp2_with fail
  go_end0
  have HS8:Hid (_ = S3.link h m o.left):=link_eq1 S3 h m o.left hy
  rw [U HS8] at pl
  rw [U vS] at pl
  refine ⟨rfl,?_,?_⟩
  ·rw [← U HSD]
   refine ⟨_,t',aX (U pl) rfl,U R6,U R7,?_⟩
   have G:=U R4
   have D:=U ju
   show S3.lc ≤ _
   simp; omega
  ·exact bU (((((U hG1).trans (U uN)).trans (U qf)).trans (U ki)).trans (U HG8)) rfl rfl rfl rfl
theorem zNd_s:∀ i,i < 21→(Tryz.zeroCells179.toList.drop (2 + i * 8)).take 8 = zNd.vs
 | 0,_=>by kernel_rfl
 | 1,_=>by kernel_rfl
 | 2,_=>by kernel_rfl
 | 3,_=>by kernel_rfl
 | 4,_=>by kernel_rfl
 | 5,_=>by kernel_rfl
 | 6,_=>by kernel_rfl
 | 7,_=>by kernel_rfl
 | 8,_=>by kernel_rfl
 | 9,_=>by kernel_rfl
 | 10,_=>by kernel_rfl
 | 11,_=>by kernel_rfl
 | 12,_=>by kernel_rfl
 | 13,_=>by kernel_rfl
 | 14,_=>by kernel_rfl
 | 15,_=>by kernel_rfl
 | 16,_=>by kernel_rfl
 | 17,_=>by kernel_rfl
 | 18,_=>by kernel_rfl
 | 19,_=>by kernel_rfl
 | 20,_=>by kernel_rfl
 | n + 21,h=>absurd h (by omega)
theorem zQo_s:∀ i,i < 21→(Tryz.zeroCells179.toList.drop (171 + i * 7)).take 7 = zQo.vs
 | 0,_=>by kernel_rfl
 | 1,_=>by kernel_rfl
 | 2,_=>by kernel_rfl
 | 3,_=>by kernel_rfl
 | 4,_=>by kernel_rfl
 | 5,_=>by kernel_rfl
 | 6,_=>by kernel_rfl
 | 7,_=>by kernel_rfl
 | 8,_=>by kernel_rfl
 | 9,_=>by kernel_rfl
 | 10,_=>by kernel_rfl
 | 11,_=>by kernel_rfl
 | 12,_=>by kernel_rfl
 | 13,_=>by kernel_rfl
 | 14,_=>by kernel_rfl
 | 15,_=>by kernel_rfl
 | 16,_=>by kernel_rfl
 | 17,_=>by kernel_rfl
 | 18,_=>by kernel_rfl
 | 19,_=>by kernel_rfl
 | 20,_=>by kernel_rfl
 | n + 21,h=>absurd h (by omega)
theorem zTree_s (w:World) (sd:Int):aG 179 false (w.alloc (Obj.cells Tryz.zeroCells179 179)) w.heap.size sd [] :=
 ⟨zTS,.nil,tm_zero w _ _ (by kernel_rfl) (by kernel_rfl) zNd_s (by kernel_rfl) zQo_s,ti_zero _,qi_zero _,Nat.le_refl _⟩
theorem plant_s (v:Value) (l:List Od) (sd:Int) (w:World) (hr:RdR Od.vs 6 w v l) (hn:l.length ≤ 20) (hl:∀ o' ∈ l,0 ≤ o'.left∧o'.left ≤ 1000000) :
  Calls Tryz.prog 78 #[v,H sd] w fun e w' =>
   e = yl (yn w 0)∧aG 179 false w' w.heap.size sd (zo l sd)∧ym w w':=by
 obtain ⟨a,A,rfl,xC,hc⟩:=hr
 have xo:∀ (k:Nat) (c:Od),l[k]? = some c→∃ b off,a = some (J b off)∧b < w.heap.size∧w.rangeAt b (off + k * 6) c.vs:=by
  intro k c hk
  obtain ⟨b,off,G,D,h3⟩:=hc (by intro h; rw [h] at hk; simp at hk)
  exact ⟨b,off,G,D,h3 k c hk⟩
 have HC:=Y xo
 have HL:=Y hl
 have HN:=Y hn
 clear xo hc hl
 have HZ:=Y (zTree_s w sd)
 have uB:Hid (ym w (w.alloc (Obj.cells Tryz.zeroCells179 179))):=eB _ _
 go_enter Tryz.func78,Tryz.ntmps78
 go_wp2_with fail
 generalize (w.alloc (Obj.cells Tryz.zeroCells179 179)) = W0 at HZ uB ⊢
 go_loopw [11] (fun i wr=>∃ k:Nat,k ≤ l.length∧i = H k∧aG 179 false wr w.heap.size sd (zo (l.take k) sd)∧ym w wr) (fun i _=>l.length - (intOf i).toNat)
 case atStart=>exact ⟨0,Nat.zero_le _,rfl,U HZ,U uB⟩
 case round =>
  obtain ⟨k,hk,rfl,kW,xh⟩:=hrel
  have vN:=Y kW
  have om:=Y xh
  clear kW xh HZ uB
  by_cases xI:k < l.length
  ·obtain ⟨c,uJ⟩:∃ c,l[k]? = some c:=⟨_,yF xI⟩
   have jM:=Y uJ
   obtain ⟨b,off,rfl,O,X⟩:=U HC k c uJ
   obtain ⟨g0,g1,g2,g3,g4,g5⟩:=zz (zb X (U om) O)
   have uu:(k:Int) < l.length:=by omega
   clear uJ X O
   by_cases uC:c.side = sd
   ·have HIT:Hid (zo (l.take (k + 1)) c.side = zo (l.take k) c.side ++ [c]):=ofSide_snoc l k c (U jM)
    subst uC
    have hlk:(zo (l.take k) c.side).length < 20:=by
     have G:(zo (l.take k) c.side).length ≤ (l.take k).length:=List.length_filter_le _ _
     have D:(l.take k).length ≤ k:=List.length_take_le _ _
     have h3:=U HN
     omega
    have HLK:=Y hlk
    have X:=U HL c (yM (U jM))
    have HCL:=Y X
    clear hlk X
    go_wp2_with fail
    refine (add_s w.heap.size c.side (zo (l.take k) c.side) c _ (zr (U vN) (Below.heap_alloc wr _ _ (zJ (U vN)))) rfl (U HLK) (fun o' vv=>U HL o' (List.mem_of_mem_take (List.mem_filter.1 vv).1)) (U HCL)).mono ?_
    rintro e w2 ⟨rfl,pN,qc⟩
    rw [← U HIT] at pN
    have pm:=Y pN
    have xD:=Y (((U om).alloc (U om).size _).grown qc (by rw [zf]; have:=(U om).size; omega) (fun g hg=>by obtain rfl:=Option.some.inj hg; exact Nat.le_refl _))
    clear pN qc
    go_wp2_with fail
    go_roundw
    case rel=>exact ⟨k + 1,by omega,by go_num,U pm,U xD⟩
    case measure=>simp [intOf]; omega
   ·have HIT:Hid (zo (l.take (k + 1)) sd = zo (l.take k) sd):=ofSide_skip l k c (U jM) uC
    go_wp2_with fail
    go_roundw
    case rel =>
     refine ⟨k + 1,by omega,by go_num,?_,?_⟩
     ·rw [U HIT]; exact zr (U vN) (Below.heap_alloc wr _ _ (zJ (U vN)))
     ·exact (U om).alloc (U om).size _
    case measure=>simp [intOf]; omega
  ·go_wp2_with fail
   go_ret
   have h:=U vN
   rw [yX (by omega)] at h
   exact ⟨rfl,h,U om⟩
end Go.Proofs.YtbakanofkghmiaaGreat
