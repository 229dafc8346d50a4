/-
  How an order's level is found in the tree, or grown, proved by walking the function.
-/
import Derived.Test.YtbakanofkghmiaaGreatPj05
set_option linter.unusedVariables false
set_option maxHeartbeats 6400000
set_option maxRecDepth 100000
namespace Go.Proofs.YtbakanofkghmiaaGreat
open Go.RowKit
theorem better_b (a c:Int) (w:World) :
  Calls Tryz.prog 188 #[.agg #[],H a,H c] w fun e w'=>e = yk (.bool (decide (c < a)))∧w.grownBy w' none:=by
 go_enter Tryz.func188,Tryz.ntmps188
 go_wp2_with fail
 go_ret
 exact ⟨rfl,World.grownBy_alloc _ _ _⟩
theorem method_b (w:World):Sem.run Tryz.prog (method 322 126 (.agg #[]) "loop.example/g00092/impl.better") w = .ok (188,.agg #[]) w:=by kernel_rfl
theorem part_b {w:World} {b:Nat} (h:∃ xp,w.heap[b]? = some (.cells xp 176 (0,0))):Sem.run Tryz.prog (partAt (J b 0) 0 0) w = .ok (J b 0) w:=by
 obtain ⟨xp,h⟩:=h
 have hc:Tryz.prog.cellsOf 176 = 318:=by kernel_rfl
 have hy:byteOfCell Tryz.prog Tryz.prog.depth 176 0 = some 0:=by kernel_rfl
 have hs:w.shape? b = some (176,xp.size):=by simp [World.shape?,h]
 simp [partAt,byteOf,noView,viewAt,hs,hc,hy]
theorem levelFor_b (b:Nat) (S:TS) (t:Tr) (o:Od) (w:World) (hT:TM 176 w b S) (hi:TI true S t) (vp:S.lc < 20) :
  Calls Tryz.prog 156 #[I b 0,.agg (yt o.id o.side o.ticks o.left o.life o.tag).toArray] w fun e w' =>
   ∃ (h:Nat),e = yk (H h)∧LFEnd true 176 b S t o w h w':=by
 have HT:=Q hT
 have HI:=Q hi
 clear hT hi
 go_enter Tryz.func156,Tryz.ntmps156
 go_wp2_with fail
 have HW:Hid (∃ W,W = (w.alloc (E (yt o.id o.side o.ticks o.left o.life o.tag).toArray 49))∧W.rangeAt w.heap.size 0 o.vs∧TM 176 W b S∧w.grownBy W (some b)∧w.heap.size < W.heap.size∧b ≠ w.heap.size) :=
  ⟨_,rfl,zg w o.vs _,aS (M HT) (Below.heap_alloc w _ _ (tm_lt (M HT))),World.grownBy_alloc _ _ _,by rw [ze]; omega,by have:=tm_lt (M HT); omega⟩
 obtain ⟨W,hW,hWW⟩:=M HW
 rw [← hW]
 have pl:=Q hWW
 clear hW hWW HW HT
 go_loopg [5] (t.hs.length) (fun k p wr=>LFI true b S t o.ticks W k p wr)
 case atStart=>exact ⟨[],t,rfl,Nat.le_refl _,way_start (M HI) _,yO _ _⟩
 case round =>
  obtain ⟨c,u,rfl,hk,hw,hg⟩:=hrel
  have jy:=Q hw
  have HG:=Q hg
  have HK:=Q hk
  have hT:=dC (M pl).2.1 hg (by simp)
  have c0:=cur_cell hT (zW c) (cur_ok (M HI) hw vp)
  obtain ⟨o0,o1,o2,o3,o4,o5⟩:=zx (zm (M pl).1 hg (M pl).2.2.2.1 (by simp))
  clear hk hw hg
  by_cases ha:S.rd (zW c) = 0
  ·have pF:=hT.lc
   have hf:=hT.fr
   have HA0:=Q ha
   rw [ha] at c0
   have hlc':(S.lc:Int) < 20:=by omega
   have e1:((S.lc + 1:Nat):Int) = (S.lc:Int) + 1:=by omega
   have xV:=cur_ok (M HI) (M jy) vp
   have t1:=tm_lc hT (S.lc + 1)
   have t2:=tm_cur t1 (zW c) xV (S.lc + 1)
   rw [e1] at t1 t2
   have d2:_ = _:=(cur_cell t1 (zW c) xV).trans (congrArg (fun x:Nat=>some (H x)) (show TS.rd _ (zW c) = 0 from by rw [← ha]; cases (zW c) <;> rfl))
   have d3:_ = _:=t2.lc
   rw [(wr_same _ _ _).1] at d3
   simp only [e1] at d3
   have g1:=t1.fr
   have g2:=t2.fr
   obtain ⟨n0,n1,n2,n3,-⟩:=zN (t2.nd (S.lc + 1) (by omega))
   have hb:b ≠ w.heap.size:=(M pl).2.2.2.2
   have p1:((wr.setCell (J b 1) (H ((S.lc:Int) + 1))).setCell (J b ((zW c).off)) (H ((S.lc:Int) + 1))).cell? (yn w (0 + 1)) = some (H o.side):=by
    rw [yI _ _ _ _ (fun e=>hb (congrArg Addr.block e)),yI _ _ _ _ (fun e=>hb (congrArg Addr.block e))]; exact o1
   have p2:((wr.setCell (J b 1) (H ((S.lc:Int) + 1))).setCell (J b ((zW c).off)) (H ((S.lc:Int) + 1))).cell? (yn w (0 + 2)) = some (H o.ticks):=by
    rw [yI _ _ _ _ (fun e=>hb (congrArg Addr.block e)),yI _ _ _ _ (fun e=>hb (congrArg Addr.block e))]; exact o2
   have vh:=Q t2
   have HB:=Q hb
   clear ha hT t1 t2 xV hb
   go_wp2_with fail
   have oH:Hid (wr.grownBy ((wr.setCell (J b 1) (H ((S.lc:Int) + 1))).setCell (J b ((zW c).off)) (H ((S.lc:Int) + 1))) (some b)):=zP (zP (yO _ _) _ _) _ _
   generalize hW4:((wr.setCell (J b 1) (H ((S.lc:Int) + 1))).setCell (J b ((zW c).off)) (H ((S.lc:Int) + 1))) = W4 at *
   rw [← e1] at d3
   obtain ⟨m,hm⟩:∃ m,m = S.lc + 1:=⟨_,rfl⟩
   rw [← hm] at d3 n0 n1 n2 n3
   have hm21:(m:Int) < 21:=by omega
   have HM:=Q hm
   clear hW4 hm e1 d2 pF hf g1 c0 o0 o1 o2 o3 o4 o5 hlc'
   go_region
   have t3:=M vh
   have t4:=aJ t3 (S.lc + 1) 0 (by omega) (by omega) (H o.side) { (TS.nd _ (S.lc + 1)) with side:=o.side } rfl _ rfl
   have t5:=aJ t4 (S.lc + 1) 1 (by omega) (by omega) (H o.ticks) { (TS.nd _ (S.lc + 1)) with ticks:=o.ticks } rfl _ rfl
   have t6:=aJ t5 (S.lc + 1) 2 (by omega) (by omega) (H 0) { (TS.nd _ (S.lc + 1)) with qty:=0 } rfl _ rfl
   have t7:=aJ t6 (S.lc + 1) 3 (by omega) (by omega) (H 0) { (TS.nd _ (S.lc + 1)) with count:=0 } rfl _ rfl
   have HG7:=Q (gr_drew (zP (zP (zP (zP (M oH) (2 + m * 8) (H o.side)) (2 + m * 8 + 1) (H o.ticks)) (2 + m * 8 + 2) (H 0)) (2 + m * 8 + 3) (H 0)))
   rw [← M HM] at t7
   simp only [cG,zp] at t7
   have hS:_ = S.grow (zW c) o.side o.ticks:=grow_eq S (zW c) o m (M HM)
   rw [hS] at t7
   have d7:_ = some (H (m:Int)):=t7.lc.trans (by rw [M HM]; rfl)
   have HT7:=Q t7
   clear t3 t4 t5 t6 t7 n0 n1 n2 n3 d3 p1 p2
   generalize (((W4.setCell (J b (2 + m * 8)) (H o.side)).setCell (J b (2 + m * 8 + 1)) (H o.ticks)).setCell (J b (2 + m * 8 + 2)) (H 0)).setCell (J b (2 + m * 8 + 3)) (H 0) = W7 at *
   go_wp2_with fail
   go_ret
   exact ⟨m,rfl,_,aS (M HT7) rfl,(M pl).2.2.1.trans (((M HG).but _).trans (M HG7)),.inr ⟨c,u,M jy,M HA0,M HM,rfl⟩⟩
  ·have ham:=way_at (M jy) rfl ha
   have har:=(M HI).range _ ham
   obtain ⟨a,hae⟩:∃ a,a = S.rd (zW c):=⟨_,rfl⟩
   rw [← hae] at c0 ha ham har
   have HAE:=Q hae
   have ha':¬ ((a:Int) = 0):=by omega
   have ha21:(a:Int) < 21:=by omega
   obtain ⟨n0,n1,n2,n3,n4,n5,n6,n7⟩:=zN (hT.nd a (by omega))
   have HTM:=Q hT
   have jD:∀ w',wr.grownBy w' none→Sem.run Tryz.prog (partAt (J b 0) 0 0) w' = .ok (J b 0) w':=fun w' h=>part_b (dC (M HTM) h (by simp)).obj
   have HPT:=Q jD
   have HN1:=Q (fun w' (h:wr.grownBy w' none)=>h.cell n1 (by simp))
   have vO:=Q (fun w' (h:wr.grownBy w' none)=>h.cell o2 (by simp))
   clear hae hT jD
   go_wp2_with fail
   go_quiet (fail)
   go_wp2_with fail
   refine di (W:=wr) (by kernel_rfl) (by kernel_rfl) ⟨rfl,rfl,rfl,Nat.le_refl _,fun _ _ _=>rfl⟩ ?_
   iterate 12 (
    refine aN (v:=?_) ?_ ?_ ?_
    rotate_left
    ·rfl
    ·intro w' uc
     have f1:=M HN1 w' uc
     have f2:=M vO w' uc
     have f3:=M HPT w' uc
     go_simp
     try rfl
    intro h2 hK
    go_simp
    refine hK _ ?_
    clear hK h2)
   refine aN (v:=.bool (decide ((S.nd a).ticks < o.ticks))) ?_ ?_ ?_
   ·rfl
   ·intro w' uc
    have hm:=method_b w'
    go_simp
    refine (better_b _ _ _).mono ?_
    rintro e w3 ⟨rfl,uz⟩
    exact ⟨rfl,uc.trans uz⟩
   intro h2 hK
   go_simp
   refine hK _ ?_
   clear hK h2
   refine aN (v:=?_) ?_ ?_ ?_
   rotate_left
   ·rfl
   ·intro w' uc
    go_simp
    try rfl
   intro h2 hK
   go_simp
   refine hK _ ?_
   clear hK h2
   refine wpQuiet_nil ?_
   intro w2 qj
   have vz:=Q qj
   clear qj
   by_cases z:(S.nd a).ticks < o.ticks
   ·have pv:decide ((S.nd a).ticks < o.ticks) = true:=by simpa using z
    go_wp2_with fail
    obtain ⟨l,r,rfl,hw2⟩:=way_be (M HI) (M jy) (M HAE).symm ha z
    go_roundg (l.hs.length)
    case measure=>have:=M HK; simp [Tr.hs] at this; omega
    case rel=>exact ⟨_,l,rfl,Nat.le_refl _,hw2,(M HG).trans (M vz)⟩
   ·have pv:decide ((S.nd a).ticks < o.ticks) = false:=by simpa using z
    go_wp2_with fail
    refine di (W:=wr) (by kernel_rfl) (by kernel_rfl) (M vz) ?_
    iterate 12 (
     refine aN (v:=?_) ?_ ?_ ?_
     rotate_left
     ·rfl
     ·intro w' uc
      have f1:=M HN1 w' uc
      have f2:=M vO w' uc
      have f3:=M HPT w' uc
      go_simp
      try rfl
     intro h2 hK
     go_simp
     refine hK _ ?_
     clear hK h2)
    refine aN (v:=.bool (decide (o.ticks < (S.nd a).ticks))) ?_ ?_ ?_
    ·rfl
    ·intro w' uc
     have hm:=method_b w'
     go_simp
     refine (better_b _ _ _).mono ?_
     rintro e w3 ⟨rfl,uz⟩
     exact ⟨rfl,uc.trans uz⟩
    intro h2 hK
    go_simp
    refine hK _ ?_
    clear hK h2
    refine aN (v:=?_) ?_ ?_ ?_
    rotate_left
    ·rfl
    ·intro w' uc
     go_simp
     try rfl
    intro h2 hK
    go_simp
    refine hK _ ?_
    clear hK h2
    refine wpQuiet_nil ?_
    intro w3 uz
    have vJ:=Q uz
    clear uz
    by_cases K:o.ticks < (S.nd a).ticks
    ·have kj:decide (o.ticks < (S.nd a).ticks) = true:=by simpa using K
     go_wp2_with fail
     obtain ⟨l,r,rfl,hw2⟩:=way_wo (M HI) (M jy) (M HAE).symm ha K
     go_roundg (r.hs.length)
     case measure=>have:=M HK; simp [Tr.hs] at this; omega
     case rel=>exact ⟨_,r,rfl,Nat.le_refl _,hw2,(M HG).trans (M vJ)⟩
    ·have kj:decide (o.ticks < (S.nd a).ticks) = false:=by simpa using K
     have c3:=(M vJ).cell c0 (by simp)
     go_wp2_with fail
     go_ret
     have hG:=(M HG).trans (M vJ)
     exact ⟨a,rfl,S,dC (M pl).2.1 hG (by simp),(M pl).2.2.1.trans (hG.but _),.inl ⟨ham,by omega,rfl⟩⟩
theorem add_b (b:Nat) (sd:Int) (seq:List Od) (o:Od) (w:World) (h:aC 176 true w b sd seq) (uu:o.side = sd) (hn:seq.length < 20) (hl:∀ o' ∈ seq,0 ≤ o'.left∧o'.left ≤ 1000000) (jc:0 ≤ o.left∧o.left ≤ 1000000) :
  Calls Tryz.prog 125 #[I b 0,.agg (yt o.id o.side o.ticks o.left o.life o.tag).toArray] w fun e w' =>
   e = yk (.tuple #[])∧aC 176 true w' b sd (seq ++ [o])∧w.grownBy w' (some b):=by
 obtain ⟨S,t,hT,hi,hq,vp⟩:=h
 have HI:=Q hi
 have HQ:=Q hq
 have HT:=Q hT
 have kz:=Q vp
 have HL:=Q hl
 have HSD:=Q uu
 have HOC:=Q hq.oc
 have hoc':(S.oc:Int) < 20:=by have:=hq.oc; omega
 have e1:((S.oc + 1:Nat):Int) = (S.oc:Int) + 1:=by omega
 have hb:b ≠ w.heap.size:=by have:=tm_lt hT; omega
 have jE:World.rangeAt (w.alloc (E (yt o.id o.side o.ticks o.left o.life o.tag).toArray 49)) w.heap.size 0 o.vs:=zg w o.vs 49
 have qc:TM 176 (w.alloc (E (yt o.id o.side o.ticks o.left o.life o.tag).toArray 49)) b S:=aS hT (Below.heap_alloc w _ _ (tm_lt hT))
 have c1:=qc.oc
 have f1:=qc.fr
 have hT1:=tm_oc qc (S.oc + 1)
 have hR1:Hid (World.rangeAt (World.setCell (w.alloc (E (yt o.id o.side o.ticks o.left o.life o.tag).toArray 49)) (J b 170) (H ((S.oc + 1:Nat):Int))) w.heap.size 0 o.vs):=fun j u hu=>by
  rw [yI _ _ _ _ (fun e=>hb (congrArg Addr.block e))]; exact jE j u hu
 have hG1:Hid (w.grownBy (World.setCell (w.alloc (E (yt o.id o.side o.ticks o.left o.life o.tag).toArray 49)) (J b 170) (H ((S.oc + 1:Nat):Int))) (some b)):=zP (World.grownBy_alloc w (E (yt o.id o.side o.ticks o.left o.life o.tag).toArray 49) _) _ _
 have qD:=Q hT1
 have xz:Hid (w.heap.size < (World.heap (World.setCell (w.alloc (E (yt o.id o.side o.ticks o.left o.life o.tag).toArray 49)) (J b 170) (H ((S.oc + 1:Nat):Int)))).size):=(by
  have:=yH _ _ (hR1 0 _ rfl)
  exact this)
 clear hi hq vp hl uu hT qc jE hT1
 go_enter Tryz.func125,Tryz.ntmps125
 go_wp2_with fail
 rw [← e1]
 have em:∃ m,m = S.oc + 1:=⟨_,rfl⟩
 obtain ⟨m,hm⟩:=em
 rw [← hm] at hR1 hG1 qD xz ⊢
 generalize hW1:World.setCell (w.alloc (E (yt o.id o.side o.ticks o.left o.life o.tag).toArray 49)) (J b 170) (H (m:Int)) = W1 at hR1 hG1 qD xz ⊢
 have HM:=Q hm
 have hm21:(m:Int) < 21:=by omega
 obtain ⟨o0,o1,o2,o3,o4,o5⟩:=zx (M hR1)
 obtain ⟨q0,q1,q2,q3,q4,q5,q6⟩:=dw ((M qD).qo m (by omega))
 have f2:=(M qD).fr
 have oz:S.lc < 20:=by have:=M kz; omega
 have HB:=Q hb
 clear hW1 hm e1 c1 f1 hoc' hb
 go_region
 have vh:=Q (tm_put (M qD) m (by omega) o)
 have vz:=Q (gr_put (w:=W1) (b:=b) o m)
 generalize hW2:(((((((W1.setCell (J b (171 + m * 7)) (H o.id)).setCell (J b (171 + m * 7 + 1)) (H o.side)).setCell (J b (171 + m * 7 + 2)) (H o.ticks)).setCell (J b (171 + m * 7 + 3)) (H o.left)).setCell
   (J b (171 + m * 7 + 4)) (H o.life)).setCell (J b (171 + m * 7 + 5)) (yi o.tag)).setCell (J b (171 + m * 7 + 6)) (H 0)) = W2 at vh vz ⊢
 clear hW2 o0 o1 o2 o3 o4 o5 q0 q1 q2 q3 q4 q5 q6 f2
 rw [show ({ root:=S.root,lc:=S.lc,oc:=m,nd:=S.nd,qo:=upd S.qo m ⟨o,0⟩ }:TS) = S.lay o from by rw [M HM]; rfl] at vh
 have hR2:=Q (zm (M hR1) (M vz) (M xz) (fun e=>M HB (Option.some.inj e).symm))
 obtain ⟨o0,o1,o2,o3,o4,o5⟩:=zx (M hR2)
 have HTI:=Q (ti_lay o (M HI))
 have HT2d:Hid (TM 176 W2.drew.drew b (S.lay o)):=aS (M vh) rfl
 go_wp2_with fail
 go_region_with (go_at_call 156; refine (levelFor_b b (S.lay o) t o W2.drew.drew (M HT2d) (M HTI) oz).mono ?_; rintro e W3 ⟨h,rfl,vT⟩; have HE:=Q vT; have qw:(h:Int) < 21:=lf_lt vT (M HTI) oz; clear vT)
 obtain ⟨S3,hT3,uz,oj⟩:=M HE
 rw [← M HSD] at HQ
 obtain ⟨r1,r2,r3,r4,r5,t',r6,r7⟩:=add_ready (M HI) (M HQ) oj
 have R4:=Q r4
 have R6:=Q r6
 have R7:=Q r7
 have R23:Hid ((0:Int) ≤ (S3.nd h).qty∧(S3.nd h).qty ≤ 20000000∧(0:Int) ≤ (S3.nd h).count∧(S3.nd h).count ≤ 20):=by
  have hb:=sumL_bound (atK seq o.ticks) (fun o' vk=>M HL o' (List.mem_filter.1 vk).1)
  have qI:(atK seq o.ticks).length ≤ seq.length:=List.length_filter_le _ _
  rw [r2,r3]
  refine ⟨hb.1,?_,by omega,by omega⟩
  have:=hb.2
  have h20:((atK seq o.ticks).length:Int) ≤ 20:=by omega
  omega
 have qE:=Q hT3
 have vJ:Hid (W2.grownBy W3 (some b)):=⟨uz.os,uz.tape,uz.output,uz.size,uz.block⟩
 have hR3:=Q (zm (M hR2) (M vJ) (yG (M xz) (M vz).size) (fun e=>M HB (Option.some.inj e).symm))
 have hy21:(S3.nd h).yo < 21:=by omega
 have hm1:m = 1 + seq.length:=by have:=M HM; have:=M HOC; omega
 have qa:=Q hm1
 clear hT3 uz oj r1 r2 r3 r4 r5 r6 r7 o0 o1 o2 o3 o4 o5 hm1 HE
 have uf:=(M qE).fr
 obtain ⟨n0,n1,n2,n3,n4,n5,n6,n7⟩:=zN ((M qE).nd h (by omega))
 have vE:h < 21:=by omega
 clear n0 n1 n2 n3 n4 n5
 by_cases hy:(S3.nd h).yo = 0
 ·have t5:=aJ (M qE) h 6 vE (by omega) (H m) { S3.nd h with el:=m } rfl _ rfl
  have t6:=aJ t5 h 7 vE (by omega) (H m) { (TS.nd _ h) with yo:=m } rfl _ rfl
  simp only [cG,zp] at t6
  obtain ⟨-,-,-,-,-,-,-,k7⟩:=zN (t5.nd h vE)
  have f5:=t5.fr
  rw [hy] at n7
  have kO:=Q (zP (zP (yO W3 (some b)) (2 + h * 8 + 6) (H m)) (2 + h * 8 + 7) (H m))
  have qX:=Q t6
  clear t5 t6
  go_wp2_with fail
  generalize hW6:(W3.setCell (J b (2 + h * 8 + 6)) (H m)).setCell (J b (2 + h * 8 + 7)) (H m) = W6 at kO qX ⊢
  clear qE hW6
  have f6:=(M qX).fr
  obtain ⟨-,-,m2,m3,-⟩:=zN ((M qX).nd h vE)
  simp only [zp] at m2 m3
  have hR6:=zm (M hR3) (M kO) (yG (M xz) (yK (M vz).size (M vJ).size)) (fun e=>M HB (Option.some.inj e).symm)
  obtain ⟨-,-,-,x3,-⟩:=zx hR6
  obtain ⟨b1,b2,b3,b4⟩:=M R23
  have t7:=aJ (M qX) h 2 vE (by omega) (H ((S3.nd h).qty + o.left)) { (TS.nd _ h) with qty:=(S3.nd h).qty + o.left } rfl _ rfl
  have t8:=aJ t7 h 3 vE (by omega) (H ((S3.nd h).count + 1)) { (TS.nd _ h) with count:=(S3.nd h).count + 1 } rfl _ rfl
  obtain ⟨-,-,-,y3,-⟩:=zN (t7.nd h vE)
  have f7:=t7.fr
  simp only [cG,zp] at t8 y3
  have ph:=Q t8
  have HG8:=Q (zP (zP (yO W6 (some b)) (2 + h * 8 + 2) (H ((S3.nd h).qty + o.left))) (2 + h * 8 + 3) (H ((S3.nd h).count + 1)))
  have pH:wrap64 ((S3.nd h).qty + o.left) = (S3.nd h).qty + o.left:=by unfold wrap64; omega
  clear t7 t8 hR6
  go_region
  try simp only [IntKind.wrap_i64]
  try rw [show (IntKind.i64.wrap ((S3.nd h).qty + o.left)) = (S3.nd h).qty + o.left from by rw [IntKind.wrap_i64]; exact pH]
  generalize hW7:W6.setCell (J b (2 + h * 8 + 2)) (H ((S3.nd h).qty + o.left)) = W7 at *
  go_wp2_with fail
  go_end0
  have HS8:Hid (_ = S3.link h m o.left):=link_eq0 S3 h m o.left hy
  rw [M HS8] at ph
  rw [M qa] at ph
  refine ⟨rfl,?_,?_⟩
  ·rw [← M HSD]
   refine ⟨_,t',aS (M ph) rfl,M R6,M R7,?_⟩
   have z:=M R4
   have K:=M kz
   show S3.lc ≤ _
   simp; omega
  ·exact bY (((((M hG1).trans (M vz)).trans (M vJ)).trans (M kO)).trans (M HG8)) rfl rfl rfl rfl
 ·have t5:=tm_qo (M qE) (S3.nd h).yo 6 hy21 (by omega) (H m) { S3.qo (S3.nd h).yo with yg:=m } rfl _ rfl
  have t6:=aJ t5 h 7 vE (by omega) (H m) { (TS.nd _ h) with yo:=m } rfl _ rfl
  obtain ⟨-,-,-,-,-,-,-,k7⟩:=zN (t5.nd h vE)
  obtain ⟨-,-,-,-,-,-,q6⟩:=dw ((M qE).qo (S3.nd h).yo hy21)
  have f5:=t5.fr
  have hyi:((S3.nd h).yo:Int) < 21:=by omega
  have js:¬ (((S3.nd h).yo:Int) = 0):=by omega
  have kO:=Q (zP (zP (yO W3 (some b)) (171 + (S3.nd h).yo * 7 + 6) (H m)) (2 + h * 8 + 7) (H m))
  have qX:=Q t6
  clear t5 t6
  go_wp2_with fail
  go_region
  go_wp2_with fail
  generalize hW6:(W3.setCell (J b (171 + (S3.nd h).yo * 7 + 6)) (H m)).setCell (J b (2 + h * 8 + 7)) (H m) = W6 at kO qX ⊢
  clear qE hW6
  have f6:=(M qX).fr
  obtain ⟨-,-,m2,m3,-⟩:=zN ((M qX).nd h vE)
  simp only [zp] at m2 m3
  have hR6:=zm (M hR3) (M kO) (yG (M xz) (yK (M vz).size (M vJ).size)) (fun e=>M HB (Option.some.inj e).symm)
  obtain ⟨-,-,-,x3,-⟩:=zx hR6
  obtain ⟨b1,b2,b3,b4⟩:=M R23
  have t7:=aJ (M qX) h 2 vE (by omega) (H ((S3.nd h).qty + o.left)) { (TS.nd _ h) with qty:=(S3.nd h).qty + o.left } rfl _ rfl
  have t8:=aJ t7 h 3 vE (by omega) (H ((S3.nd h).count + 1)) { (TS.nd _ h) with count:=(S3.nd h).count + 1 } rfl _ rfl
  obtain ⟨-,-,-,y3,-⟩:=zN (t7.nd h vE)
  have f7:=t7.fr
  simp only [cG,zp] at t8 y3
  have ph:=Q t8
  have HG8:=Q (zP (zP (yO W6 (some b)) (2 + h * 8 + 2) (H ((S3.nd h).qty + o.left))) (2 + h * 8 + 3) (H ((S3.nd h).count + 1)))
  have pH:wrap64 ((S3.nd h).qty + o.left) = (S3.nd h).qty + o.left:=by unfold wrap64; omega
  clear t7 t8 hR6
  go_region
  try simp only [IntKind.wrap_i64]
  try rw [show (IntKind.i64.wrap ((S3.nd h).qty + o.left)) = (S3.nd h).qty + o.left from by rw [IntKind.wrap_i64]; exact pH]
  generalize hW7:W6.setCell (J b (2 + h * 8 + 2)) (H ((S3.nd h).qty + o.left)) = W7 at *
  go_wp2_with fail
  go_end0
  have HS8:Hid (_ = S3.link h m o.left):=link_eq1 S3 h m o.left hy
  rw [M HS8] at ph
  rw [M qa] at ph
  refine ⟨rfl,?_,?_⟩
  ·rw [← M HSD]
   refine ⟨_,t',aS (M ph) rfl,M R6,M R7,?_⟩
   have z:=M R4
   have K:=M kz
   show S3.lc ≤ _
   simp; omega
  ·exact bY (((((M hG1).trans (M vz)).trans (M vJ)).trans (M kO)).trans (M HG8)) rfl rfl rfl rfl
theorem zNd_b:∀ i,i < 21→(Tryz.zeroCells176.toList.drop (2 + i * 8)).take 8 = zNd.vs
 | 0,_=>by kernel_rfl
 | 1,_=>by kernel_rfl
 | 2,_=>by kernel_rfl
 | 3,_=>by kernel_rfl
 | 4,_=>by kernel_rfl
 | 5,_=>by kernel_rfl
 | 6,_=>by kernel_rfl
 | 7,_=>by kernel_rfl
 | 8,_=>by kernel_rfl
 | 9,_=>by kernel_rfl
 | 10,_=>by kernel_rfl
 | 11,_=>by kernel_rfl
 | 12,_=>by kernel_rfl
 | 13,_=>by kernel_rfl
 | 14,_=>by kernel_rfl
 | 15,_=>by kernel_rfl
 | 16,_=>by kernel_rfl
 | 17,_=>by kernel_rfl
 | 18,_=>by kernel_rfl
 | 19,_=>by kernel_rfl
 | 20,_=>by kernel_rfl
 | n + 21,h=>absurd h (by omega)
theorem zQo_b:∀ i,i < 21→(Tryz.zeroCells176.toList.drop (171 + i * 7)).take 7 = zQo.vs
 | 0,_=>by kernel_rfl
 | 1,_=>by kernel_rfl
 | 2,_=>by kernel_rfl
 | 3,_=>by kernel_rfl
 | 4,_=>by kernel_rfl
 | 5,_=>by kernel_rfl
 | 6,_=>by kernel_rfl
 | 7,_=>by kernel_rfl
 | 8,_=>by kernel_rfl
 | 9,_=>by kernel_rfl
 | 10,_=>by kernel_rfl
 | 11,_=>by kernel_rfl
 | 12,_=>by kernel_rfl
 | 13,_=>by kernel_rfl
 | 14,_=>by kernel_rfl
 | 15,_=>by kernel_rfl
 | 16,_=>by kernel_rfl
 | 17,_=>by kernel_rfl
 | 18,_=>by kernel_rfl
 | 19,_=>by kernel_rfl
 | 20,_=>by kernel_rfl
 | n + 21,h=>absurd h (by omega)
theorem zTree_b (w:World) (sd:Int):aC 176 true (w.alloc (Obj.cells Tryz.zeroCells176 176)) w.heap.size sd [] :=
 ⟨zTS,.nil,tm_zero w _ _ (by kernel_rfl) (by kernel_rfl) zNd_b (by kernel_rfl) zQo_b,ti_zero _,qi_zero _,Nat.le_refl _⟩
theorem plant_b (v:Value) (l:List Od) (sd:Int) (w:World) (hr:RdR Od.vs 6 w v l) (hn:l.length ≤ 20) (hl:∀ o' ∈ l,0 ≤ o'.left∧o'.left ≤ 1000000) :
  Calls Tryz.prog 76 #[v,H sd] w fun e w' =>
   e = yk (ym w 0)∧aC 176 true w' w.heap.size sd (zn l sd)∧yl w w':=by
 obtain ⟨a,F,rfl,xD,hc⟩:=hr
 have xn:∀ (k:Nat) (c:Od),l[k]? = some c→∃ b off,a = some (J b off)∧b < w.heap.size∧w.rangeAt b (off + k * 6) c.vs:=by
  intro k c hk
  obtain ⟨b,off,z,K,h3⟩:=hc (by intro h; rw [h] at hk; simp at hk)
  exact ⟨b,off,z,K,h3 k c hk⟩
 have HC:=Q xn
 have HL:=Q hl
 have HN:=Q hn
 clear xn hc hl
 have HZ:=Q (zTree_b w sd)
 have ua:Hid (yl w (w.alloc (Obj.cells Tryz.zeroCells176 176))):=eD _ _
 go_enter Tryz.func76,Tryz.ntmps76
 go_wp2_with fail
 generalize (w.alloc (Obj.cells Tryz.zeroCells176 176)) = W0 at HZ ua ⊢
 go_loopw [11] (fun i wr=>∃ k:Nat,k ≤ l.length∧i = H k∧aC 176 true wr w.heap.size sd (zn (l.take k) sd)∧yl w wr) (fun i _=>l.length - (intOf i).toNat)
 case atStart=>exact ⟨0,Nat.zero_le _,rfl,M HZ,M ua⟩
 case round =>
  obtain ⟨k,hk,rfl,kL,xe⟩:=hrel
  have vw:=Q kL
  have vY:=Q xe
  clear kL xe HZ ua
  by_cases xL:k < l.length
  ·obtain ⟨c,uC⟩:∃ c,l[k]? = some c:=⟨_,yE xL⟩
   have qW:=Q uC
   obtain ⟨b,off,rfl,hb,xk⟩:=M HC k c uC
   obtain ⟨g0,g1,g2,g3,g4,g5⟩:=zx (zb xk (M vY) hb)
   have uO:(k:Int) < l.length:=by omega
   clear uC xk hb
   by_cases uu:c.side = sd
   ·have HIT:Hid (zn (l.take (k + 1)) c.side = zn (l.take k) c.side ++ [c]):=ofSide_snoc l k c (M qW)
    subst uu
    have hlk:(zn (l.take k) c.side).length < 20:=by
     have z:(zn (l.take k) c.side).length ≤ (l.take k).length:=List.length_filter_le _ _
     have K:(l.take k).length ≤ k:=List.length_take_le _ _
     have h3:=M HN
     omega
    have HLK:=Q hlk
    have xk:=M HL c (yL (M qW))
    have HCL:=Q xk
    clear hlk xk
    go_wp2_with fail
    refine (add_b w.heap.size c.side (zn (l.take k) c.side) c _ (zt (M vw) (Below.heap_alloc wr _ _ (zJ (M vw)))) rfl (M HLK) (fun o' vk=>M HL o' (List.mem_of_mem_take (List.mem_filter.1 vk).1)) (M HCL)).mono ?_
    rintro e w2 ⟨rfl,pI,qj⟩
    rw [← M HIT] at pI
    have pj:=Q pI
    have xC:=Q (((M vY).alloc (M vY).size _).grown qj (by rw [ze]; have:=(M vY).size; omega) (fun g hg=>by obtain rfl:=Option.some.inj hg; exact Nat.le_refl _))
    clear pI qj
    go_wp2_with fail
    go_roundw
    case rel=>exact ⟨k + 1,by omega,by go_num,M pj,M xC⟩
    case measure=>simp [intOf]; omega
   ·have HIT:Hid (zn (l.take (k + 1)) sd = zn (l.take k) sd):=ofSide_skip l k c (M qW) uu
    go_wp2_with fail
    go_roundw
    case rel =>
     refine ⟨k + 1,by omega,by go_num,?_,?_⟩
     ·rw [M HIT]; exact zt (M vw) (Below.heap_alloc wr _ _ (zJ (M vw)))
     ·exact (M vY).alloc (M vY).size _
    case measure=>simp [intOf]; omega
  ·go_wp2_with fail
   go_ret
   have h:=M vw
   rw [yW (by omega)] at h
   exact ⟨rfl,h,M vY⟩
end Go.Proofs.YtbakanofkghmiaaGreat
