/-
  How an order's level is found in the tree, or grown, proved by walking the function.
-/
import Derived.Test.YtnphbkgfjanmgaaGreatDoorBj03
set_option linter.unusedVariables false
set_option maxHeartbeats 6400000
set_option maxRecDepth 100000
namespace Go.Proofs.YtnphbkgfjanmgaaGreatDoor
open Go.RowKit
theorem better_b (a c:Int) (w:World) :
  Calls Tryz.prog 236 #[.agg #[],I a,I c] w fun e w'=>e = ym (.bool (decide (c < a)))∧w.grownBy w' none:=by
 go_enter Tryz.func236,Tryz.ntmps236
 go_wp2_with fail
 go_ret
 exact ⟨rfl,World.grownBy_alloc _ _ _⟩
theorem method_b (w:World):Sem.run Tryz.prog (method 399 162 (.agg #[]) "loop.example/g00092/impl.better") w = .ok (236,.agg #[]) w:=by kernel_rfl
theorem part_b {w:World} {b:Nat} (h:∃ xF,w.heap[b]? = some (.cells xF 201 (0,0))):Sem.run Tryz.prog (partAt (U b 0) 0 0) w = .ok (U b 0) w:=by
 obtain ⟨xF,h⟩:=h
 have hc:Tryz.prog.cellsOf 201 = 318:=by kernel_rfl
 have hy:byteOfCell Tryz.prog Tryz.prog.depth 201 0 = some 0:=by kernel_rfl
 have hs:w.shape? b = some (201,xF.size):=by simp [World.shape?,h]
 simp [partAt,byteOf,noView,viewAt,hs,hc,hy]
theorem levelFor_b (b:Nat) (S:TS) (t:Tr) (o:Od) (w:World) (hT:TM 201 w b S) (hi:TI true S t) (qb:S.lc < 20) :
  Calls Tryz.prog 196 #[J b 0,.agg (yw o.id o.side o.ticks o.left o.life o.tag).toArray] w fun e w' =>
   ∃ (h:Nat),e = ym (I h)∧LFEnd true 201 b S t o w h w':=by
 have HT:=M hT
 have HI:=M hi
 clear hT hi
 go_enter Tryz.func196,Tryz.ntmps196
 go_wp2_with fail
 have HW:Hid (∃ W,W = (w.alloc (A (yw o.id o.side o.ticks o.left o.life o.tag).toArray 78))∧W.rangeAt w.heap.size 0 o.vs∧TM 201 W b S∧w.grownBy W (some b)∧w.heap.size < W.heap.size∧b ≠ w.heap.size) :=
  ⟨_,rfl,zn w o.vs _,bJ (H HT) (Below.heap_alloc w _ _ (tm_lt (H HT))),World.grownBy_alloc _ _ _,by rw [zi]; omega,by have:=tm_lt (H HT); omega⟩
 obtain ⟨W,hW,hWW⟩:=H HW
 rw [← hW]
 have pP:=M hWW
 clear hW hWW HW HT
 go_loopg [5] (t.hs.length) (fun k p wr=>LFI true b S t o.ticks W k p wr)
 case atStart=>exact ⟨[],t,rfl,Nat.le_refl _,way_start (H HI) _,yR _ _⟩
 case round =>
  obtain ⟨c,u,rfl,hk,hw,hg⟩:=hrel
  have jX:=M hw
  have HG:=M hg
  have HK:=M hk
  have hT:=dY (H pP).2.1 hg (by simp)
  have c0:=cur_cell hT (zW c) (cur_ok (H HI) hw qb)
  obtain ⟨o0,o1,o2,o3,o4,o5⟩:=zA (zw (H pP).1 hg (H pP).2.2.2.1 (by simp))
  clear hk hw hg
  by_cases ha:S.rd (zW c) = 0
  ·have jO:=hT.lc
   have hf:=hT.fr
   have HA0:=M ha
   rw [ha] at c0
   have hlc':(S.lc:Int) < 20:=by omega
   have e1:((S.lc + 1:Nat):Int) = (S.lc:Int) + 1:=by omega
   have vw:=cur_ok (H HI) (H jX) qb
   have t1:=tm_lc hT (S.lc + 1)
   have t2:=tm_cur t1 (zW c) vw (S.lc + 1)
   rw [e1] at t1 t2
   have d2:_ = _:=(cur_cell t1 (zW c) vw).trans (congrArg (fun x:Nat=>some (I x)) (show TS.rd _ (zW c) = 0 from by rw [← ha]; cases (zW c) <;> rfl))
   have d3:_ = _:=t2.lc
   rw [(wr_same _ _ _).1] at d3
   simp only [e1] at d3
   have g1:=t1.fr
   have g2:=t2.fr
   obtain ⟨n0,n1,n2,n3,-⟩:=zQ (t2.nd (S.lc + 1) (by omega))
   have Y:b ≠ w.heap.size:=(H pP).2.2.2.2
   have p1:((wr.setCell (U b 1) (I ((S.lc:Int) + 1))).setCell (U b ((zW c).off)) (I ((S.lc:Int) + 1))).cell? (yq w (0 + 1)) = some (I o.side):=by
    rw [yL _ _ _ _ (fun e=>Y (congrArg Addr.block e)),yL _ _ _ _ (fun e=>Y (congrArg Addr.block e))]; exact o1
   have p2:((wr.setCell (U b 1) (I ((S.lc:Int) + 1))).setCell (U b ((zW c).off)) (I ((S.lc:Int) + 1))).cell? (yq w (0 + 2)) = some (I o.ticks):=by
    rw [yL _ _ _ _ (fun e=>Y (congrArg Addr.block e)),yL _ _ _ _ (fun e=>Y (congrArg Addr.block e))]; exact o2
   have ux:=M t2
   have HB:=M Y
   clear ha hT t1 t2 vw Y
   go_wp2_with fail
   have ut:Hid (wr.grownBy ((wr.setCell (U b 1) (I ((S.lc:Int) + 1))).setCell (U b ((zW c).off)) (I ((S.lc:Int) + 1))) (some b)):=zR (zR (yR _ _) _ _) _ _
   generalize hW4:((wr.setCell (U b 1) (I ((S.lc:Int) + 1))).setCell (U b ((zW c).off)) (I ((S.lc:Int) + 1))) = W4 at *
   rw [← e1] at d3
   obtain ⟨m,hm⟩:∃ m,m = S.lc + 1:=⟨_,rfl⟩
   rw [← hm] at d3 n0 n1 n2 n3
   have hm21:(m:Int) < 21:=by omega
   have HM:=M hm
   clear hW4 hm e1 d2 jO hf g1 c0 o0 o1 o2 o3 o4 o5 hlc'
   go_region
   have t3:=H ux
   have t4:=bi t3 (S.lc + 1) 0 (by omega) (by omega) (I o.side) { (TS.nd _ (S.lc + 1)) with side:=o.side } rfl _ rfl
   have t5:=bi t4 (S.lc + 1) 1 (by omega) (by omega) (I o.ticks) { (TS.nd _ (S.lc + 1)) with ticks:=o.ticks } rfl _ rfl
   have t6:=bi t5 (S.lc + 1) 2 (by omega) (by omega) (I 0) { (TS.nd _ (S.lc + 1)) with qty:=0 } rfl _ rfl
   have t7:=bi t6 (S.lc + 1) 3 (by omega) (by omega) (I 0) { (TS.nd _ (S.lc + 1)) with count:=0 } rfl _ rfl
   have jz:=M (gr_drew (zR (zR (zR (zR (H ut) (2 + m * 8) (I o.side)) (2 + m * 8 + 1) (I o.ticks)) (2 + m * 8 + 2) (I 0)) (2 + m * 8 + 3) (I 0)))
   rw [← H HM] at t7
   simp only [cS,zr] at t7
   have hS:_ = S.grow (zW c) o.side o.ticks:=grow_eq S (zW c) o m (H HM)
   rw [hS] at t7
   have d7:_ = some (I (m:Int)):=t7.lc.trans (by rw [H HM]; rfl)
   have HT7:=M t7
   clear t3 t4 t5 t6 t7 n0 n1 n2 n3 d3 p1 p2
   generalize (((W4.setCell (U b (2 + m * 8)) (I o.side)).setCell (U b (2 + m * 8 + 1)) (I o.ticks)).setCell (U b (2 + m * 8 + 2)) (I 0)).setCell (U b (2 + m * 8 + 3)) (I 0) = W7 at *
   go_wp2_with fail
   go_ret
   exact ⟨m,rfl,_,bJ (H HT7) rfl,(H pP).2.2.1.trans (((H HG).but _).trans (H jz)),.inr ⟨c,u,H jX,H HA0,H HM,rfl⟩⟩
  ·have ham:=way_at (H jX) rfl ha
   have har:=(H HI).range _ ham
   obtain ⟨a,oo⟩:∃ a,a = S.rd (zW c):=⟨_,rfl⟩
   rw [← oo] at c0 ha ham har
   have HAE:=M oo
   have ha':¬ ((a:Int) = 0):=by omega
   have ha21:(a:Int) < 21:=by omega
   obtain ⟨n0,n1,n2,n3,n4,n5,n6,n7⟩:=zQ (hT.nd a (by omega))
   have HTM:=M hT
   have hpt:∀ w',wr.grownBy w' none→Sem.run Tryz.prog (partAt (U b 0) 0 0) w' = .ok (U b 0) w':=fun w' h=>part_b (dY (H HTM) h (by simp)).obj
   have HPT:=M hpt
   have HN1:=M (fun w' (h:wr.grownBy w' none)=>h.cell n1 (by simp))
   have kw:=M (fun w' (h:wr.grownBy w' none)=>h.cell o2 (by simp))
   clear oo hT hpt
   go_wp2_with fail
   go_quiet (fail)
   go_wp2_with fail
   refine dL (W:=wr) (by kernel_rfl) (by kernel_rfl) ⟨rfl,rfl,rfl,Nat.le_refl _,fun _ _ _=>rfl⟩ ?_
   iterate 12 (
    refine bE (v:=?_) ?_ ?_ ?_
    rotate_left
    ·rfl
    ·intro w' un
     have f1:=H HN1 w' un
     have f2:=H kw w' un
     have f3:=H HPT w' un
     go_simp
     try rfl
    intro hR hK
    go_simp
    refine hK _ ?_
    clear hK hR)
   refine bE (v:=.bool (decide ((S.nd a).ticks < o.ticks))) ?_ ?_ ?_
   ·rfl
   ·intro w' un
    have hm:=method_b w'
    go_simp
    refine (better_b _ _ _).mono ?_
    rintro e w3 ⟨rfl,uG⟩
    exact ⟨rfl,un.trans uG⟩
   intro hR hK
   go_simp
   refine hK _ ?_
   clear hK hR
   refine bE (v:=?_) ?_ ?_ ?_
   rotate_left
   ·rfl
   ·intro w' un
    go_simp
    try rfl
   intro hR hK
   go_simp
   refine hK _ ?_
   clear hK hR
   refine wpQuiet_nil ?_
   intro w2 uZ
   have uh:=M uZ
   clear uZ
   by_cases Q:(S.nd a).ticks < o.ticks
   ·have pu:decide ((S.nd a).ticks < o.ticks) = true:=by simpa using Q
    go_wp2_with fail
    obtain ⟨l,r,rfl,hw2⟩:=way_be (H HI) (H jX) (H HAE).symm ha Q
    go_roundg (l.hs.length)
    case measure=>have:=H HK; simp [Tr.hs] at this; omega
    case rel=>exact ⟨_,l,rfl,Nat.le_refl _,hw2,(H HG).trans (H uh)⟩
   ·have pu:decide ((S.nd a).ticks < o.ticks) = false:=by simpa using Q
    go_wp2_with fail
    refine dL (W:=wr) (by kernel_rfl) (by kernel_rfl) (H uh) ?_
    iterate 12 (
     refine bE (v:=?_) ?_ ?_ ?_
     rotate_left
     ·rfl
     ·intro w' un
      have f1:=H HN1 w' un
      have f2:=H kw w' un
      have f3:=H HPT w' un
      go_simp
      try rfl
     intro hR hK
     go_simp
     refine hK _ ?_
     clear hK hR)
    refine bE (v:=.bool (decide (o.ticks < (S.nd a).ticks))) ?_ ?_ ?_
    ·rfl
    ·intro w' un
     have hm:=method_b w'
     go_simp
     refine (better_b _ _ _).mono ?_
     rintro e w3 ⟨rfl,uG⟩
     exact ⟨rfl,un.trans uG⟩
    intro hR hK
    go_simp
    refine hK _ ?_
    clear hK hR
    refine bE (v:=?_) ?_ ?_ ?_
    rotate_left
    ·rfl
    ·intro w' un
     go_simp
     try rfl
    intro hR hK
    go_simp
    refine hK _ ?_
    clear hK hR
    refine wpQuiet_nil ?_
    intro w3 uG
    have vi:=M uG
    clear uG
    by_cases E:o.ticks < (S.nd a).ticks
    ·have oI:decide (o.ticks < (S.nd a).ticks) = true:=by simpa using E
     go_wp2_with fail
     obtain ⟨l,r,rfl,hw2⟩:=way_wo (H HI) (H jX) (H HAE).symm ha E
     go_roundg (r.hs.length)
     case measure=>have:=H HK; simp [Tr.hs] at this; omega
     case rel=>exact ⟨_,r,rfl,Nat.le_refl _,hw2,(H HG).trans (H vi)⟩
    ·have oI:decide (o.ticks < (S.nd a).ticks) = false:=by simpa using E
     have c3:=(H vi).cell c0 (by simp)
     go_wp2_with fail
     go_ret
     have hG:=(H HG).trans (H vi)
     exact ⟨a,rfl,S,dY (H pP).2.1 hG (by simp),(H pP).2.2.1.trans (hG.but _),.inl ⟨ham,by omega,rfl⟩⟩
theorem add_b (b:Nat) (sd:Int) (seq:List Od) (o:Od) (w:World) (h:aZ 201 true w b sd seq) (uT:o.side = sd) (hn:seq.length < 20) (hl:∀ o' ∈ seq,0 ≤ o'.left∧o'.left ≤ 1000000) (hlo:0 ≤ o.left∧o.left ≤ 1000000) :
  Calls Tryz.prog 169 #[J b 0,.agg (yw o.id o.side o.ticks o.left o.life o.tag).toArray] w fun e w' =>
   e = ym (.tuple #[])∧aZ 201 true w' b sd (seq ++ [o])∧w.grownBy w' (some b):=by
 obtain ⟨S,t,hT,hi,hq,qb⟩:=h
 have HI:=M hi
 have HQ:=M hq
 have HT:=M hT
 have HLC:=M qb
 have HL:=M hl
 have HSD:=M uT
 have HOC:=M hq.oc
 have hoc':(S.oc:Int) < 20:=by have:=hq.oc; omega
 have e1:((S.oc + 1:Nat):Int) = (S.oc:Int) + 1:=by omega
 have Y:b ≠ w.heap.size:=by have:=tm_lt hT; omega
 have kh:World.rangeAt (w.alloc (A (yw o.id o.side o.ticks o.left o.life o.tag).toArray 78)) w.heap.size 0 o.vs:=zn w o.vs 78
 have oj:TM 201 (w.alloc (A (yw o.id o.side o.ticks o.left o.life o.tag).toArray 78)) b S:=bJ hT (Below.heap_alloc w _ _ (tm_lt hT))
 have c1:=oj.oc
 have f1:=oj.fr
 have hT1:=tm_oc oj (S.oc + 1)
 have hR1:Hid (World.rangeAt (World.setCell (w.alloc (A (yw o.id o.side o.ticks o.left o.life o.tag).toArray 78)) (U b 170) (I ((S.oc + 1:Nat):Int))) w.heap.size 0 o.vs):=fun j u hu=>by
  rw [yL _ _ _ _ (fun e=>Y (congrArg Addr.block e))]; exact kh j u hu
 have hG1:Hid (w.grownBy (World.setCell (w.alloc (A (yw o.id o.side o.ticks o.left o.life o.tag).toArray 78)) (U b 170) (I ((S.oc + 1:Nat):Int))) (some b)):=zR (World.grownBy_alloc w (A (yw o.id o.side o.ticks o.left o.life o.tag).toArray 78) _) _ _
 have je:=M hT1
 have xK:Hid (w.heap.size < (World.heap (World.setCell (w.alloc (A (yw o.id o.side o.ticks o.left o.life o.tag).toArray 78)) (U b 170) (I ((S.oc + 1:Nat):Int)))).size):=(by
  have:=yK _ _ (hR1 0 _ rfl)
  exact this)
 clear hi hq qb hl uT hT oj kh hT1
 go_enter Tryz.func169,Tryz.ntmps169
 go_wp2_with fail
 rw [← e1]
 have em:∃ m,m = S.oc + 1:=⟨_,rfl⟩
 obtain ⟨m,hm⟩:=em
 rw [← hm] at hR1 hG1 je xK ⊢
 generalize hW1:World.setCell (w.alloc (A (yw o.id o.side o.ticks o.left o.life o.tag).toArray 78)) (U b 170) (I (m:Int)) = W1 at hR1 hG1 je xK ⊢
 have HM:=M hm
 have hm21:(m:Int) < 21:=by omega
 obtain ⟨o0,o1,o2,o3,o4,o5⟩:=zA (H hR1)
 obtain ⟨q0,q1,q2,q3,q4,q5,q6⟩:=dW ((H je).qo m (by omega))
 have f2:=(H je).fr
 have pd:S.lc < 20:=by have:=H HLC; omega
 have HB:=M Y
 clear hW1 hm e1 c1 f1 hoc' Y
 go_region
 have ux:=M (tm_put (H je) m (by omega) o)
 have uh:=M (gr_put (w:=W1) (b:=b) o m)
 generalize hW2:(((((((W1.setCell (U b (171 + m * 7)) (I o.id)).setCell (U b (171 + m * 7 + 1)) (I o.side)).setCell (U b (171 + m * 7 + 2)) (I o.ticks)).setCell (U b (171 + m * 7 + 3)) (I o.left)).setCell
   (U b (171 + m * 7 + 4)) (I o.life)).setCell (U b (171 + m * 7 + 5)) (yk o.tag)).setCell (U b (171 + m * 7 + 6)) (I 0)) = W2 at ux uh ⊢
 clear hW2 o0 o1 o2 o3 o4 o5 q0 q1 q2 q3 q4 q5 q6 f2
 rw [show ({ root:=S.root,lc:=S.lc,oc:=m,nd:=S.nd,qo:=upd S.qo m ⟨o,0⟩ }:TS) = S.lay o from by rw [H HM]; rfl] at ux
 have hR2:=M (zw (H hR1) (H uh) (H xK) (fun e=>H HB (Option.some.inj e).symm))
 obtain ⟨o0,o1,o2,o3,o4,o5⟩:=zA (H hR2)
 have HTI:=M (ti_lay o (H HI))
 have HT2d:Hid (TM 201 W2.drew.drew b (S.lay o)):=bJ (H ux) rfl
 go_wp2_with fail
 go_region_with (go_at_call 196; refine (levelFor_b b (S.lay o) t o W2.drew.drew (H HT2d) (H HTI) pd).mono ?_; rintro e W3 ⟨h,rfl,vo⟩; have HE:=M vo; have qS:(h:Int) < 21:=lf_lt vo (H HTI) pd; clear vo)
 obtain ⟨S3,hT3,uG,qn⟩:=H HE
 rw [← H HSD] at HQ
 obtain ⟨r1,r2,r3,r4,r5,t',r6,r7⟩:=add_ready (H HI) (H HQ) qn
 have R4:=M r4
 have R6:=M r6
 have R7:=M r7
 have R23:Hid ((0:Int) ≤ (S3.nd h).qty∧(S3.nd h).qty ≤ 20000000∧(0:Int) ≤ (S3.nd h).count∧(S3.nd h).count ≤ 20):=by
  have Y:=sumL_bound (atK seq o.ticks) (fun o' vM=>H HL o' (List.mem_filter.1 vM).1)
  have qi:(atK seq o.ticks).length ≤ seq.length:=List.length_filter_le _ _
  rw [r2,r3]
  refine ⟨Y.1,?_,by omega,by omega⟩
  have:=Y.2
  have h20:((atK seq o.ticks).length:Int) ≤ 20:=by omega
  omega
 have ju:=M hT3
 have vi:Hid (W2.grownBy W3 (some b)):=⟨uG.os,uG.tape,uG.output,uG.size,uG.block⟩
 have hR3:=M (zw (H hR2) (H vi) (yJ (H xK) (H uh).size) (fun e=>H HB (Option.some.inj e).symm))
 have hy21:(S3.nd h).yo < 21:=by omega
 have pY:m = 1 + seq.length:=by have:=H HM; have:=H HOC; omega
 have az:=M pY
 clear hT3 uG qn r1 r2 r3 r4 r5 r6 r7 o0 o1 o2 o3 o4 o5 pY HE
 have xM:=(H ju).fr
 obtain ⟨n0,n1,n2,n3,n4,n5,n6,n7⟩:=zQ ((H ju).nd h (by omega))
 have qh:h < 21:=by omega
 clear n0 n1 n2 n3 n4 n5
 by_cases hy:(S3.nd h).yo = 0
 ·have t5:=bi (H ju) h 6 qh (by omega) (I m) { S3.nd h with el:=m } rfl _ rfl
  have t6:=bi t5 h 7 qh (by omega) (I m) { (TS.nd _ h) with yo:=m } rfl _ rfl
  simp only [cS,zr] at t6
  obtain ⟨-,-,-,-,-,-,-,k7⟩:=zQ (t5.nd h qh)
  have f5:=t5.fr
  rw [hy] at n7
  have qF:=M (zR (zR (yR W3 (some b)) (2 + h * 8 + 6) (I m)) (2 + h * 8 + 7) (I m))
  have ky:=M t6
  clear t5 t6
  go_wp2_with fail
  generalize hW6:(W3.setCell (U b (2 + h * 8 + 6)) (I m)).setCell (U b (2 + h * 8 + 7)) (I m) = W6 at qF ky ⊢
  clear ju hW6
  have f6:=(H ky).fr
  obtain ⟨-,-,m2,m3,-⟩:=zQ ((H ky).nd h qh)
  simp only [zr] at m2 m3
  have hR6:=zw (H hR3) (H qF) (yJ (H xK) (yN (H uh).size (H vi).size)) (fun e=>H HB (Option.some.inj e).symm)
  obtain ⟨-,-,-,x3,-⟩:=zA hR6
  obtain ⟨b1,b2,b3,b4⟩:=H R23
  have t7:=bi (H ky) h 2 qh (by omega) (I ((S3.nd h).qty + o.left)) { (TS.nd _ h) with qty:=(S3.nd h).qty + o.left } rfl _ rfl
  have t8:=bi t7 h 3 qh (by omega) (I ((S3.nd h).count + 1)) { (TS.nd _ h) with count:=(S3.nd h).count + 1 } rfl _ rfl
  obtain ⟨-,-,-,y3,-⟩:=zQ (t7.nd h qh)
  have f7:=t7.fr
  simp only [cS,zr] at t8 y3
  have pN:=M t8
  have HG8:=M (zR (zR (yR W6 (some b)) (2 + h * 8 + 2) (I ((S3.nd h).qty + o.left))) (2 + h * 8 + 3) (I ((S3.nd h).count + 1)))
  have aj:wrap64 ((S3.nd h).qty + o.left) = (S3.nd h).qty + o.left:=by unfold wrap64; omega
  clear t7 t8 hR6
  go_region
  try simp only [IntKind.wrap_i64]
  try rw [show (IntKind.i64.wrap ((S3.nd h).qty + o.left)) = (S3.nd h).qty + o.left from by rw [IntKind.wrap_i64]; exact aj]
  generalize hW7:W6.setCell (U b (2 + h * 8 + 2)) (I ((S3.nd h).qty + o.left)) = W7 at *
  go_wp2_with fail
  go_end0
  have HS8:Hid (_ = S3.link h m o.left):=link_eq0 S3 h m o.left hy
  rw [H HS8] at pN
  rw [H az] at pN
  refine ⟨rfl,?_,?_⟩
  ·rw [← H HSD]
   refine ⟨_,t',bJ (H pN) rfl,H R6,H R7,?_⟩
   have Q:=H R4
   have E:=H HLC
   show S3.lc ≤ _
   simp; omega
  ·exact cL (((((H hG1).trans (H uh)).trans (H vi)).trans (H qF)).trans (H HG8)) rfl rfl rfl rfl
 ·have t5:=tm_qo (H ju) (S3.nd h).yo 6 hy21 (by omega) (I m) { S3.qo (S3.nd h).yo with yg:=m } rfl _ rfl
  have t6:=bi t5 h 7 qh (by omega) (I m) { (TS.nd _ h) with yo:=m } rfl _ rfl
  obtain ⟨-,-,-,-,-,-,-,k7⟩:=zQ (t5.nd h qh)
  obtain ⟨-,-,-,-,-,-,q6⟩:=dW ((H ju).qo (S3.nd h).yo hy21)
  have f5:=t5.fr
  have hyi:((S3.nd h).yo:Int) < 21:=by omega
  have hy0:¬ (((S3.nd h).yo:Int) = 0):=by omega
  have qF:=M (zR (zR (yR W3 (some b)) (171 + (S3.nd h).yo * 7 + 6) (I m)) (2 + h * 8 + 7) (I m))
  have ky:=M t6
  clear t5 t6
  go_wp2_with fail
  go_region
  go_wp2_with fail
  generalize hW6:(W3.setCell (U b (171 + (S3.nd h).yo * 7 + 6)) (I m)).setCell (U b (2 + h * 8 + 7)) (I m) = W6 at qF ky ⊢
  clear ju hW6
  have f6:=(H ky).fr
  obtain ⟨-,-,m2,m3,-⟩:=zQ ((H ky).nd h qh)
  simp only [zr] at m2 m3
  have hR6:=zw (H hR3) (H qF) (yJ (H xK) (yN (H uh).size (H vi).size)) (fun e=>H HB (Option.some.inj e).symm)
  obtain ⟨-,-,-,x3,-⟩:=zA hR6
  obtain ⟨b1,b2,b3,b4⟩:=H R23
  have t7:=bi (H ky) h 2 qh (by omega) (I ((S3.nd h).qty + o.left)) { (TS.nd _ h) with qty:=(S3.nd h).qty + o.left } rfl _ rfl
  have t8:=bi t7 h 3 qh (by omega) (I ((S3.nd h).count + 1)) { (TS.nd _ h) with count:=(S3.nd h).count + 1 } rfl _ rfl
  obtain ⟨-,-,-,y3,-⟩:=zQ (t7.nd h qh)
  have f7:=t7.fr
  simp only [cS,zr] at t8 y3
  have pN:=M t8
  have HG8:=M (zR (zR (yR W6 (some b)) (2 + h * 8 + 2) (I ((S3.nd h).qty + o.left))) (2 + h * 8 + 3) (I ((S3.nd h).count + 1)))
  have aj:wrap64 ((S3.nd h).qty + o.left) = (S3.nd h).qty + o.left:=by unfold wrap64; omega
  clear t7 t8 hR6
  go_region
  try simp only [IntKind.wrap_i64]
  try rw [show (IntKind.i64.wrap ((S3.nd h).qty + o.left)) = (S3.nd h).qty + o.left from by rw [IntKind.wrap_i64]; exact aj]
  generalize hW7:W6.setCell (U b (2 + h * 8 + 2)) (I ((S3.nd h).qty + o.left)) = W7 at *
  go_wp2_with fail
  go_end0
  have HS8:Hid (_ = S3.link h m o.left):=link_eq1 S3 h m o.left hy
  rw [H HS8] at pN
  rw [H az] at pN
  refine ⟨rfl,?_,?_⟩
  ·rw [← H HSD]
   refine ⟨_,t',bJ (H pN) rfl,H R6,H R7,?_⟩
   have Q:=H R4
   have E:=H HLC
   show S3.lc ≤ _
   simp; omega
  ·exact cL (((((H hG1).trans (H uh)).trans (H vi)).trans (H qF)).trans (H HG8)) rfl rfl rfl rfl
theorem zNd_b:∀ i,i < 21→(Tryz.zeroCells201.toList.drop (2 + i * 8)).take 8 = zNd.vs
 | 0,_=>by kernel_rfl
 | 1,_=>by kernel_rfl
 | 2,_=>by kernel_rfl
 | 3,_=>by kernel_rfl
 | 4,_=>by kernel_rfl
 | 5,_=>by kernel_rfl
 | 6,_=>by kernel_rfl
 | 7,_=>by kernel_rfl
 | 8,_=>by kernel_rfl
 | 9,_=>by kernel_rfl
 | 10,_=>by kernel_rfl
 | 11,_=>by kernel_rfl
 | 12,_=>by kernel_rfl
 | 13,_=>by kernel_rfl
 | 14,_=>by kernel_rfl
 | 15,_=>by kernel_rfl
 | 16,_=>by kernel_rfl
 | 17,_=>by kernel_rfl
 | 18,_=>by kernel_rfl
 | 19,_=>by kernel_rfl
 | 20,_=>by kernel_rfl
 | n + 21,h=>absurd h (by omega)
theorem zQo_b:∀ i,i < 21→(Tryz.zeroCells201.toList.drop (171 + i * 7)).take 7 = zQo.vs
 | 0,_=>by kernel_rfl
 | 1,_=>by kernel_rfl
 | 2,_=>by kernel_rfl
 | 3,_=>by kernel_rfl
 | 4,_=>by kernel_rfl
 | 5,_=>by kernel_rfl
 | 6,_=>by kernel_rfl
 | 7,_=>by kernel_rfl
 | 8,_=>by kernel_rfl
 | 9,_=>by kernel_rfl
 | 10,_=>by kernel_rfl
 | 11,_=>by kernel_rfl
 | 12,_=>by kernel_rfl
 | 13,_=>by kernel_rfl
 | 14,_=>by kernel_rfl
 | 15,_=>by kernel_rfl
 | 16,_=>by kernel_rfl
 | 17,_=>by kernel_rfl
 | 18,_=>by kernel_rfl
 | 19,_=>by kernel_rfl
 | 20,_=>by kernel_rfl
 | n + 21,h=>absurd h (by omega)
theorem zTree_b (w:World) (sd:Int):aZ 201 true (w.alloc (Obj.cells Tryz.zeroCells201 201)) w.heap.size sd [] :=
 ⟨zTS,.nil,tm_zero w _ _ (by kernel_rfl) (by kernel_rfl) zNd_b (by kernel_rfl) zQo_b,ti_zero _,qi_zero _,Nat.le_refl _⟩
theorem plant_b (v:Value) (l:List Od) (sd:Int) (w:World) (hr:RdR Od.vs 6 w v l) (hn:l.length ≤ 20) (hl:∀ o' ∈ l,0 ≤ o'.left∧o'.left ≤ 1000000) :
  Calls Tryz.prog 129 #[v,I sd] w fun e w' =>
   e = ym (yp w 0)∧aZ 201 true w' w.heap.size sd (zt l sd)∧yn w w':=by
 obtain ⟨a,cap,rfl,xA,hc⟩:=hr
 have xr:∀ (k:Nat) (c:Od),l[k]? = some c→∃ b off,a = some (U b off)∧b < w.heap.size∧w.rangeAt b (off + k * 6) c.vs:=by
  intro k c hk
  obtain ⟨b,off,Q,E,h3⟩:=hc (by intro h; rw [h] at hk; simp at hk)
  exact ⟨b,off,Q,E,h3 k c hk⟩
 have HC:=M xr
 have HL:=M hl
 have HN:=M hn
 clear xr hc hl
 have HZ:=M (zTree_b w sd)
 have xS:Hid (yn w (w.alloc (Obj.cells Tryz.zeroCells201 201))):=fE _ _
 go_enter Tryz.func129,Tryz.ntmps129
 go_wp2_with fail
 generalize (w.alloc (Obj.cells Tryz.zeroCells201 201)) = W0 at HZ xS ⊢
 go_loopw [11] (fun i wr=>∃ k:Nat,k ≤ l.length∧i = I k∧aZ 201 true wr w.heap.size sd (zt (l.take k) sd)∧yn w wr) (fun i _=>l.length - (intOf i).toNat)
 case atStart=>exact ⟨0,Nat.zero_le _,rfl,H HZ,H xS⟩
 case round =>
  obtain ⟨k,hk,rfl,htr,xk⟩:=hrel
  have oV:=M htr
  have vu:=M xk
  clear htr xk HZ xS
  by_cases xI:k < l.length
  ·obtain ⟨c,ur⟩:∃ c,l[k]? = some c:=⟨_,yH xI⟩
   have jK:=M ur
   obtain ⟨b,off,rfl,Y,V⟩:=H HC k c ur
   obtain ⟨g0,g1,g2,g3,g4,g5⟩:=zA (zc V (H vu) Y)
   have uJ:(k:Int) < l.length:=by omega
   clear ur V Y
   by_cases uT:c.side = sd
   ·have HIT:Hid (zt (l.take (k + 1)) c.side = zt (l.take k) c.side ++ [c]):=ofSide_snoc l k c (H jK)
    subst uT
    have uX:(zt (l.take k) c.side).length < 20:=by
     have Q:(zt (l.take k) c.side).length ≤ (l.take k).length:=List.length_filter_le _ _
     have E:(l.take k).length ≤ k:=List.length_take_le _ _
     have h3:=H HN
     omega
    have oE:=M uX
    have V:=H HL c (yO (H jK))
    have js:=M V
    clear uX V
    go_wp2_with fail
    refine (add_b w.heap.size c.side (zt (l.take k) c.side) c _ (zu (H oV) (Below.heap_alloc wr _ _ (zH (H oV)))) rfl (H oE) (fun o' vM=>H HL o' (List.mem_of_mem_take (List.mem_filter.1 vM).1)) (H js)).mono ?_
    rintro e w2 ⟨rfl,am,uZ⟩
    rw [← H HIT] at am
    have pO:=M am
    have xu:=M (((H vu).alloc (H vu).size _).grown uZ (by rw [zi]; have:=(H vu).size; omega) (fun g hg=>by obtain rfl:=Option.some.inj hg; exact Nat.le_refl _))
    clear am uZ
    go_wp2_with fail
    go_roundw
    case rel=>exact ⟨k + 1,by omega,by go_num,H pO,H xu⟩
    case measure=>simp [intOf]; omega
   ·have HIT:Hid (zt (l.take (k + 1)) sd = zt (l.take k) sd):=ofSide_skip l k c (H jK) uT
    go_wp2_with fail
    go_roundw
    case rel =>
     refine ⟨k + 1,by omega,by go_num,?_,?_⟩
     ·rw [H HIT]; exact zu (H oV) (Below.heap_alloc wr _ _ (zH (H oV)))
     ·exact (H vu).alloc (H vu).size _
    case measure=>simp [intOf]; omega
  ·go_wp2_with fail
   go_ret
   have h:=H oV
   rw [yZ (by omega)] at h
   exact ⟨rfl,h,H vu⟩
theorem infoH_b:(Tryz.prog.info? 191).map (fun i=>(i.zero,i.size,i.bytes)) = some (some (I 0),1,8):=by kernel_rfl
theorem cellsH_b (w:World) (L:List Value) (t:TypeId) (j:Nat) (u:Value) (h:L[j]? = some u):(w.alloc (Obj.cells L.toArray t)).cell? (((yq w 0):Addr).add j) = some u:=by
 rw [Addr.add_mid,cell_of_row _ w.heap.size (0 + j) L.toArray t (0,0) (heap_alloc_new w _)]
 simpa using h
def hval_b (h:Nat):Value:=I h
theorem ranked_b (S:TS) (b B:Nat) (aE:b < B):∀ (t:Tr) (w:World) (v:Value) (done:List Nat) (part:Nat),TM 201 w b S→Rep S.nd t part→(∀ h ∈ t.hs,h < 21)→B ≤ w.heap.size →
  w.ownsRow B 191 1 v done.length (done.map hval_b)→done.length + t.hs.length ≤ 1000 →
  Calls Tryz.prog 195 #[J b 0,v,I part] w fun e w' =>
   ∃ v',e = ym v'∧w'.ownsRow B 191 1 v' (done ++ t.hs).length ((done ++ t.hs).map hval_b)∧Below B w w'
 | .nil,w,v,done,part,hT,hrep,hh,hB,xR,xA=>by
  obtain rfl:part = 0:=hrep
  have HO:=M xR
  clear xR hT hh
  go_enter Tryz.func195,Tryz.ntmps195
  go_wp2_with fail
  go_ret
  exact ⟨v,rfl,by simpa [Tr.hs] using H HO,Below.refl _ _⟩
 | .node h l r,w,v,done,part,hT,hrep,hh,hB,xR,xA=>by
  obtain ⟨rfl,h0,hl,hr⟩:=hrep
  have HO:=M xR
  have HT:=M hT
  have HL:=M hl
  have HR:=M hr
  have pe:done.length + (l.hs.length + 1 + r.hs.length) ≤ 1000:=by simp [Tr.hs] at xA; omega
  have qh:=hh part (by simp [Tr.hs])
  have HHL:=M (fun a (ha:a ∈ l.hs)=>hh a (by simp [Tr.hs,ha]))
  have HHR:=M (fun a (ha:a ∈ r.hs)=>hh a (by simp [Tr.hs,ha]))
  have h21':(part:Int) < 21:=by omega
  have h0':¬ ((part:Int) = 0):=by omega
  have jU:=M pe
  obtain ⟨-,-,-,-,n4,-⟩:=zQ (hT.nd part qh)
  obtain ⟨i0,hi,uL,uM,uF⟩:=info_parts infoH_b
  clear xR hT hh hl hr xA pe
  go_enter Tryz.func195,Tryz.ntmps195
  go_wp2_with fail
  refine (ranked_b S b B aE l w v done _ (H HT) (H HL) (H HHL) hB (H HO) (by have:=H jU; omega)).mono ?_
  rintro e w1 ⟨v1,rfl,kN,ui⟩
  have jA:=M kN
  have ud:=M ui
  have hsz1:=ui.size
  have hla:(done ++ l.hs).length ≤ 999:=by have:=H jU; rw [yP]; omega
  obtain ⟨-,-,-,-,-,n5,-⟩:=zQ ((dc (H HT) ui aE).nd part qh)
  clear kN ui n4
  go_wp2_with (at_builtin; go_must (refine wpList_append_own _ rfl _ _ 227 rfl B 191 i0 _ 1 8 Tryz.underlying227 hi uL uM uF rfl (by decide) v1 (done ++ l.hs).length ((done ++ l.hs).map hval_b) rfl ((H jA).alloc _) (yq w1 0) 1 1 [hval_b part] rfl rfl (cellsH_b w1 _ _) (by simp [Value.oneCell',hval_b]) (by unfold maxLen; omega) (by omega) (by simp at hla ⊢; omega) ?_); intro v2 w2 pg uZ _; have kw:=M pg; have xu:=M (((H ud).alloc (yN hB hsz1) _).grown uZ (by rw [zi]; omega) (fun k hk=>((H jA).lt k hk).1)); have m5:=(zQ ((dc (H HT) (H xu) aE).nd part qh)).2.2.2.2.2.1; clear pg uZ n5)
  have hsz2:=(H xu).size
  refine (ranked_b S b B aE r w2 v2 (done ++ l.hs ++ [part]) _ (dc (H HT) (H xu) aE) (H HR) (H HHR) (by omega) (by simpa [Nat.add_assoc] using H kw) (by have:=H jU; simp; omega)).mono ?_
  rintro e w3 ⟨v3,rfl,aL,xM⟩
  have pJ:=M aL
  have xL:=M ((H xu).trans xM)
  clear aL xM m5
  go_wp2_with fail
  go_ret
  exact ⟨v3,rfl,by simpa [Tr.hs] using H pJ,H xL⟩
end Go.Proofs.YtnphbkgfjanmgaaGreatDoor
