/-
  What the small functions that ask whether an order is right return, of the program and of the model: proved by walking them.
-/
import Derived.Test.YtdliebbfcmdmaaaGreatMj04
set_option linter.unusedVariables false
set_option maxHeartbeats 6400000
set_option maxRecDepth 100000
namespace Go.Proofs.YtdliebbfcmdmaaaGreat
open Go.RowKit
def betB (n a b:Int):Bool:=decide (a ≤ n) && decide (n ≤ b)
theorem dx (n a b:Int) (w:World) :
  Calls Tryz.prog 98 #[H n,H a,H b] w fun e w'=>e = ym (.bool (betB n a b))∧w' = w:=by
 go_enter Tryz.func98,Tryz.ntmps98
 go_wp2
 all_goals go_ret
 all_goals exact ⟨zy (by rw [Bool.eq_iff_iff]; simp [betB]; omega),rfl⟩
theorem isSide_any (n:Int) (w:World) :
  Calls Tryz.prog 75 #[H n] w fun e w'=>e = ym (.bool (betB n 1 2))∧w' = w:=by
 go_enter Tryz.func75,Tryz.ntmps75
 go_wp2
 all_goals go_ret
 all_goals exact ⟨zy (by rw [Bool.eq_iff_iff]; simp [betB]; omega),rfl⟩
theorem isLife_any (n:Int) (w:World) :
  Calls Tryz.prog 77 #[H n] w fun e w'=>e = ym (.bool (betB n 0 1))∧w' = w:=by
 go_enter Tryz.func77,Tryz.ntmps77
 go_wp2
 all_goals go_ret
 all_goals exact ⟨zy (by rw [Bool.eq_iff_iff]; simp [betB]; omega),rfl⟩
def tagC (c:UInt8):Bool:=betB c.toNat 32 126
def tagB (s:ByteArray):Bool:=decide (s.size ≤ 12) && s.data.toList.all tagC
theorem drop_cons (s:ByteArray) (k:Nat) (h:k < s.size):s.data.toList.drop k = s[k] :: s.data.toList.drop (k + 1):=by
 rw [get_nat s k h]
 exact xc (by rw [data_len]; exact h)
theorem tag_yes (s:ByteArray) (h:s.size ≤ 12) (hk:s.data.toList.all tagC = true):tagB s = true:=by simp only [tagB,hk,decide_eq_true h,Bool.and_true]
theorem tag_long (s:ByteArray) (h:¬ s.size ≤ 12):tagB s = false:=by simp only [tagB,decide_eq_false h,Bool.false_and]
theorem tag_no (s:ByteArray) (hk:s.data.toList.all tagC = false):tagB s = false:=by simp only [tagB,hk,Bool.and_false]
theorem isTag_any (s:ByteArray) (w:World) (hs:s.size ≤ maxLen) :
  Calls Tryz.prog 80 #[yk s] w fun e w'=>e = ym (.bool (tagB s))∧w' = w:=by
 unfold maxLen at hs
 by_cases hl:s.size ≤ 12
 ·have hl':¬ ((12:Int) < s.size):=by omega
  go_enter Tryz.func80,Tryz.ntmps80
  go_wp2_with fail
  go_loop [9] (fun i=>∃ k:Nat,k ≤ s.size∧i = H k∧Hid (s.data.toList.all tagC = (s.data.toList.drop k).all tagC)) (fun i=>s.size - (intOf i).toNat)
  case atStart=>exact ⟨0,Nat.zero_le _,rfl,by simp [Hid]⟩
  case round =>
   obtain ⟨k,hk,rfl,D⟩:=hrel
   by_cases xK:k < s.size
   ·have uv:(k:Int) < s.size:=by omega
    have hdr:=drop_cons s k xK
    have hgen:∃ c,c = s[k]:=⟨_,rfl⟩
    obtain ⟨c,hc⟩:=hgen
    have hw:betB (wrap64 (s[k].toNat:Int)) 32 126 = tagC c:=by
     have hlt256:=UInt8.toNat_lt s[k]
     rw [hc,show wrap64 (s[k].toNat:Int) = (s[k].toNat:Int) by unfold wrap64; omega]; rfl
    cases ht:tagC c
    ·rw [ht] at hw
     have HT:Hid (s.data.toList.all tagC = false):=by
      have:=U D
      rw [hdr,List.all_cons,← hc,ht,Bool.false_and] at this
      exact this
     clear hdr hc ht
     go_wp2_with fail
     refine (dx (wrap64 (s[k].toNat:Int)) 32 126 w).mono ?_
     rintro e w1 ⟨rfl,rfl⟩
     go_wp2_with fail
     go_ret
     exact ⟨zy (tag_no s (U HT)).symm,rfl⟩
    ·rw [ht] at hw
     have HN:Hid (s.data.toList.all tagC = (s.data.toList.drop (k + 1)).all tagC):=by
      have:=U D
      rw [hdr,List.all_cons,← hc,ht,Bool.true_and] at this
      exact this
     clear hdr hc ht
     go_wp2_with fail
     refine (dx (wrap64 (s[k].toNat:Int)) 32 126 w).mono ?_
     rintro e w1 ⟨rfl,rfl⟩
     go_wp2_with fail
     go_round
     case rel=>exact ⟨k + 1,by omega,by go_num,U HN⟩
     case measure=>simp [intOf]; omega
   ·go_wp2_with fail
    go_ret
    have h:=U D
    rw [xa (by rw [data_len]; omega)] at h
    exact ⟨zy (tag_yes s hl (by rw [h]; rfl)).symm,rfl⟩
 ·have hl':(12:Int) < s.size:=by omega
  go_enter Tryz.func80,Tryz.ntmps80
  go_wp2_with fail
  go_ret
  exact ⟨zy (tag_long s hl).symm,rfl⟩
theorem better_b (a c:Int) (w:World) :
  Calls Tryz.prog 138 #[.agg #[],H a,H c] w fun e w'=>e = ym (.bool (decide (c < a)))∧w.grownBy w' none:=by
 go_enter Tryz.func138,Tryz.ntmps138
 go_wp2_with fail
 go_ret
 exact ⟨rfl,World.grownBy_alloc _ _ _⟩
theorem method_b (w:World):Sem.run Tryz.prog (method 289 145 (.agg #[]) "loop.example/g00092/impl.better") w = .ok (138,.agg #[]) w:=by kernel_rfl
theorem part_b {w:World} {b:Nat} (h:∃ xr,w.heap[b]? = some (.cells xr 164 (0,0))):Sem.run Tryz.prog (partAt (J b 0) 0 0) w = .ok (J b 0) w:=by
 obtain ⟨xr,h⟩:=h
 have hc:Tryz.prog.cellsOf 164 = 318:=by kernel_rfl
 have hy:byteOfCell Tryz.prog Tryz.prog.depth 164 0 = some 0:=by kernel_rfl
 have hs:w.shape? b = some (164,xr.size):=by simp [World.shape?,h]
 simp [partAt,byteOf,noView,viewAt,hs,hc,hy]
theorem levelFor_b (b:Nat) (S:TS) (t:Tr) (o:Od) (w:World) (hT:TM 164 w b S) (hi:TI true S t) (qn:S.lc < 20) :
  Calls Tryz.prog 117 #[I b 0,.agg (yv o.id o.side o.ticks o.left o.life o.tag).toArray] w fun e w' =>
   ∃ (h:Nat),e = ym (H h)∧LFEnd true 164 b S t o w h w':=by
 have HT:=Y hT
 have HI:=Y hi
 clear hT hi
 go_enter Tryz.func117,Tryz.ntmps117
 go_wp2_with fail
 have HW:Hid (∃ W,W = (w.alloc (E (yv o.id o.side o.ticks o.left o.life o.tag).toArray 66))∧W.rangeAt w.heap.size 0 o.vs∧TM 164 W b S∧w.grownBy W (some b)∧w.heap.size < W.heap.size∧b ≠ w.heap.size) :=
  ⟨_,rfl,zg w o.vs _,aW (U HT) (Below.heap_alloc w _ _ (tm_lt (U HT))),World.grownBy_alloc _ _ _,by rw [ze]; omega,by have:=tm_lt (U HT); omega⟩
 obtain ⟨W,hW,hWW⟩:=U HW
 rw [← hW]
 have pu:=Y hWW
 clear hW hWW HW HT
 go_loopg [5] (t.hs.length) (fun k p wr=>LFI true b S t o.ticks W k p wr)
 case atStart=>exact ⟨[],t,rfl,Nat.le_refl _,way_start (U HI) _,yR _ _⟩
 case round =>
  obtain ⟨c,u,rfl,hk,hw,hg⟩:=hrel
  have jV:=Y hw
  have HG:=Y hg
  have HK:=Y hk
  have hT:=dj (U pu).2.1 hg (by simp)
  have c0:=cur_cell hT (zS c) (cur_ok (U HI) hw qn)
  obtain ⟨o0,o1,o2,o3,o4,o5⟩:=zC (zq (U pu).1 hg (U pu).2.2.2.1 (by simp))
  clear hk hw hg
  by_cases ha:S.rd (zS c) = 0
  ·have pJ:=hT.lc
   have hf:=hT.fr
   have HA0:=Y ha
   rw [ha] at c0
   have hlc':(S.lc:Int) < 20:=by omega
   have e1:((S.lc + 1:Nat):Int) = (S.lc:Int) + 1:=by omega
   have vH:=cur_ok (U HI) (U jV) qn
   have t1:=tm_lc hT (S.lc + 1)
   have t2:=tm_cur t1 (zS c) vH (S.lc + 1)
   rw [e1] at t1 t2
   have d2:_ = _:=(cur_cell t1 (zS c) vH).trans (congrArg (fun x:Nat=>some (H x)) (show TS.rd _ (zS c) = 0 from by rw [← ha]; cases (zS c) <;> rfl))
   have d3:_ = _:=t2.lc
   rw [(wr_same _ _ _).1] at d3
   simp only [e1] at d3
   have g1:=t1.fr
   have g2:=t2.fr
   obtain ⟨n0,n1,n2,n3,-⟩:=zI (t2.nd (S.lc + 1) (by omega))
   have L:b ≠ w.heap.size:=(U pu).2.2.2.2
   have p1:((wr.setCell (J b 1) (H ((S.lc:Int) + 1))).setCell (J b ((zS c).off)) (H ((S.lc:Int) + 1))).cell? (yq w (0 + 1)) = some (H o.side):=by
    rw [yL _ _ _ _ (fun e=>L (congrArg Addr.block e)),yL _ _ _ _ (fun e=>L (congrArg Addr.block e))]; exact o1
   have p2:((wr.setCell (J b 1) (H ((S.lc:Int) + 1))).setCell (J b ((zS c).off)) (H ((S.lc:Int) + 1))).cell? (yq w (0 + 2)) = some (H o.ticks):=by
    rw [yL _ _ _ _ (fun e=>L (congrArg Addr.block e)),yL _ _ _ _ (fun e=>L (congrArg Addr.block e))]; exact o2
   have vE:=Y t2
   have HB:=Y L
   clear ha hT t1 t2 vH L
   go_wp2_with fail
   have HG4:Hid (wr.grownBy ((wr.setCell (J b 1) (H ((S.lc:Int) + 1))).setCell (J b ((zS c).off)) (H ((S.lc:Int) + 1))) (some b)):=zJ (zJ (yR _ _) _ _) _ _
   generalize hW4:((wr.setCell (J b 1) (H ((S.lc:Int) + 1))).setCell (J b ((zS c).off)) (H ((S.lc:Int) + 1))) = W4 at *
   rw [← e1] at d3
   obtain ⟨m,hm⟩:∃ m,m = S.lc + 1:=⟨_,rfl⟩
   rw [← hm] at d3 n0 n1 n2 n3
   have hm21:(m:Int) < 21:=by omega
   have HM:=Y hm
   clear hW4 hm e1 d2 pJ hf g1 c0 o0 o1 o2 o3 o4 o5 hlc'
   go_region
   have t3:=U vE
   have t4:=aN t3 (S.lc + 1) 0 (by omega) (by omega) (H o.side) { (TS.nd _ (S.lc + 1)) with side:=o.side } rfl _ rfl
   have t5:=aN t4 (S.lc + 1) 1 (by omega) (by omega) (H o.ticks) { (TS.nd _ (S.lc + 1)) with ticks:=o.ticks } rfl _ rfl
   have t6:=aN t5 (S.lc + 1) 2 (by omega) (by omega) (H 0) { (TS.nd _ (S.lc + 1)) with qty:=0 } rfl _ rfl
   have t7:=aN t6 (S.lc + 1) 3 (by omega) (by omega) (H 0) { (TS.nd _ (S.lc + 1)) with count:=0 } rfl _ rfl
   have ox:=Y (gr_drew (zJ (zJ (zJ (zJ (U HG4) (2 + m * 8) (H o.side)) (2 + m * 8 + 1) (H o.ticks)) (2 + m * 8 + 2) (H 0)) (2 + m * 8 + 3) (H 0)))
   rw [← U HM] at t7
   simp only [bZ,zn] at t7
   have hS:_ = S.grow (zS c) o.side o.ticks:=grow_eq S (zS c) o m (U HM)
   rw [hS] at t7
   have d7:_ = some (H (m:Int)):=t7.lc.trans (by rw [U HM]; rfl)
   have HT7:=Y t7
   clear t3 t4 t5 t6 t7 n0 n1 n2 n3 d3 p1 p2
   generalize (((W4.setCell (J b (2 + m * 8)) (H o.side)).setCell (J b (2 + m * 8 + 1)) (H o.ticks)).setCell (J b (2 + m * 8 + 2)) (H 0)).setCell (J b (2 + m * 8 + 3)) (H 0) = W7 at *
   go_wp2_with fail
   go_ret
   exact ⟨m,rfl,_,aW (U HT7) rfl,(U pu).2.2.1.trans (((U HG).but _).trans (U ox)),.inr ⟨c,u,U jV,U HA0,U HM,rfl⟩⟩
  ·have ham:=way_at (U jV) rfl ha
   have har:=(U HI).range _ ham
   obtain ⟨a,hae⟩:∃ a,a = S.rd (zS c):=⟨_,rfl⟩
   rw [← hae] at c0 ha ham har
   have HAE:=Y hae
   have ha':¬ ((a:Int) = 0):=by omega
   have ha21:(a:Int) < 21:=by omega
   obtain ⟨n0,n1,n2,n3,n4,n5,n6,n7⟩:=zI (hT.nd a (by omega))
   have HTM:=Y hT
   have qS:∀ w',wr.grownBy w' none→Sem.run Tryz.prog (partAt (J b 0) 0 0) w' = .ok (J b 0) w':=fun w' h=>part_b (dj (U HTM) h (by simp)).obj
   have HPT:=Y qS
   have HN1:=Y (fun w' (h:wr.grownBy w' none)=>h.cell n1 (by simp))
   have vW:=Y (fun w' (h:wr.grownBy w' none)=>h.cell o2 (by simp))
   clear hae hT qS
   go_wp2_with fail
   go_quiet (fail)
   go_wp2_with fail
   refine cT (W:=wr) (by kernel_rfl) (by kernel_rfl) ⟨rfl,rfl,rfl,Nat.le_refl _,fun _ _ _=>rfl⟩ ?_
   iterate 12 (
    refine aP (v:=?_) ?_ ?_ ?_
    rotate_left
    ·rfl
    ·intro w' ul
     have f1:=U HN1 w' ul
     have f2:=U vW w' ul
     have f3:=U HPT w' ul
     go_simp
     try rfl
    intro hR hK
    go_simp
    refine hK _ ?_
    clear hK hR)
   refine aP (v:=.bool (decide ((S.nd a).ticks < o.ticks))) ?_ ?_ ?_
   ·rfl
   ·intro w' ul
    have hm:=method_b w'
    go_simp
    refine (better_b _ _ _).mono ?_
    rintro e w3 ⟨rfl,uW⟩
    exact ⟨rfl,ul.trans uW⟩
   intro hR hK
   go_simp
   refine hK _ ?_
   clear hK hR
   refine aP (v:=?_) ?_ ?_ ?_
   rotate_left
   ·rfl
   ·intro w' ul
    go_simp
    try rfl
   intro hR hK
   go_simp
   refine hK _ ?_
   clear hK hR
   refine wpQuiet_nil ?_
   intro w2 vN
   have uL:=Y vN
   clear vN
   by_cases Q:(S.nd a).ticks < o.ticks
   ·have oE:decide ((S.nd a).ticks < o.ticks) = true:=by simpa using Q
    go_wp2_with fail
    obtain ⟨l,r,rfl,hw2⟩:=way_be (U HI) (U jV) (U HAE).symm ha Q
    go_roundg (l.hs.length)
    case measure=>have:=U HK; simp [Tr.hs] at this; omega
    case rel=>exact ⟨_,l,rfl,Nat.le_refl _,hw2,(U HG).trans (U uL)⟩
   ·have oE:decide ((S.nd a).ticks < o.ticks) = false:=by simpa using Q
    go_wp2_with fail
    refine cT (W:=wr) (by kernel_rfl) (by kernel_rfl) (U uL) ?_
    iterate 12 (
     refine aP (v:=?_) ?_ ?_ ?_
     rotate_left
     ·rfl
     ·intro w' ul
      have f1:=U HN1 w' ul
      have f2:=U vW w' ul
      have f3:=U HPT w' ul
      go_simp
      try rfl
     intro hR hK
     go_simp
     refine hK _ ?_
     clear hK hR)
    refine aP (v:=.bool (decide (o.ticks < (S.nd a).ticks))) ?_ ?_ ?_
    ·rfl
    ·intro w' ul
     have hm:=method_b w'
     go_simp
     refine (better_b _ _ _).mono ?_
     rintro e w3 ⟨rfl,uW⟩
     exact ⟨rfl,ul.trans uW⟩
    intro hR hK
    go_simp
    refine hK _ ?_
    clear hK hR
    refine aP (v:=?_) ?_ ?_ ?_
    rotate_left
    ·rfl
    ·intro w' ul
     go_simp
     try rfl
    intro hR hK
    go_simp
    refine hK _ ?_
    clear hK hR
    refine wpQuiet_nil ?_
    intro w3 uW
    have vK:=Y uW
    clear uW
    by_cases N:o.ticks < (S.nd a).ticks
    ·have js:decide (o.ticks < (S.nd a).ticks) = true:=by simpa using N
     go_wp2_with fail
     obtain ⟨l,r,rfl,hw2⟩:=way_wo (U HI) (U jV) (U HAE).symm ha N
     go_roundg (r.hs.length)
     case measure=>have:=U HK; simp [Tr.hs] at this; omega
     case rel=>exact ⟨_,r,rfl,Nat.le_refl _,hw2,(U HG).trans (U vK)⟩
    ·have js:decide (o.ticks < (S.nd a).ticks) = false:=by simpa using N
     have c3:=(U vK).cell c0 (by simp)
     go_wp2_with fail
     go_ret
     have hG:=(U HG).trans (U vK)
     exact ⟨a,rfl,S,dj (U pu).2.1 hG (by simp),(U pu).2.2.1.trans (hG.but _),.inl ⟨ham,by omega,rfl⟩⟩
theorem add_b (b:Nat) (sd:Int) (seq:List Od) (o:Od) (w:World) (h:aG 164 true w b sd seq) (uF:o.side = sd) (hn:seq.length < 20) (hl:∀ o' ∈ seq,0 ≤ o'.left∧o'.left ≤ 1000000) (jw:0 ≤ o.left∧o.left ≤ 1000000) :
  Calls Tryz.prog 111 #[I b 0,.agg (yv o.id o.side o.ticks o.left o.life o.tag).toArray] w fun e w' =>
   e = ym (.tuple #[])∧aG 164 true w' b sd (seq ++ [o])∧w.grownBy w' (some b):=by
 obtain ⟨S,t,hT,hi,hq,qn⟩:=h
 have HI:=Y hi
 have HQ:=Y hq
 have HT:=Y hT
 have jQ:=Y qn
 have HL:=Y hl
 have HSD:=Y uF
 have HOC:=Y hq.oc
 have hoc':(S.oc:Int) < 20:=by have:=hq.oc; omega
 have e1:((S.oc + 1:Nat):Int) = (S.oc:Int) + 1:=by omega
 have L:b ≠ w.heap.size:=by have:=tm_lt hT; omega
 have ka:World.rangeAt (w.alloc (E (yv o.id o.side o.ticks o.left o.life o.tag).toArray 66)) w.heap.size 0 o.vs:=zg w o.vs 66
 have qh:TM 164 (w.alloc (E (yv o.id o.side o.ticks o.left o.life o.tag).toArray 66)) b S:=aW hT (Below.heap_alloc w _ _ (tm_lt hT))
 have c1:=qh.oc
 have f1:=qh.fr
 have hT1:=tm_oc qh (S.oc + 1)
 have hR1:Hid (World.rangeAt (World.setCell (w.alloc (E (yv o.id o.side o.ticks o.left o.life o.tag).toArray 66)) (J b 170) (H ((S.oc + 1:Nat):Int))) w.heap.size 0 o.vs):=fun j u hu=>by
  rw [yL _ _ _ _ (fun e=>L (congrArg Addr.block e))]; exact ka j u hu
 have hG1:Hid (w.grownBy (World.setCell (w.alloc (E (yv o.id o.side o.ticks o.left o.life o.tag).toArray 66)) (J b 170) (H ((S.oc + 1:Nat):Int))) (some b)):=zJ (World.grownBy_alloc w (E (yv o.id o.side o.ticks o.left o.life o.tag).toArray 66) _) _ _
 have jg:=Y hT1
 have xA:Hid (w.heap.size < (World.heap (World.setCell (w.alloc (E (yv o.id o.side o.ticks o.left o.life o.tag).toArray 66)) (J b 170) (H ((S.oc + 1:Nat):Int)))).size):=(by
  have:=yK _ _ (hR1 0 _ rfl)
  exact this)
 clear hi hq qn hl uF hT qh ka hT1
 go_enter Tryz.func111,Tryz.ntmps111
 go_wp2_with fail
 rw [← e1]
 have em:∃ m,m = S.oc + 1:=⟨_,rfl⟩
 obtain ⟨m,hm⟩:=em
 rw [← hm] at hR1 hG1 jg xA ⊢
 generalize hW1:World.setCell (w.alloc (E (yv o.id o.side o.ticks o.left o.life o.tag).toArray 66)) (J b 170) (H (m:Int)) = W1 at hR1 hG1 jg xA ⊢
 have HM:=Y hm
 have hm21:(m:Int) < 21:=by omega
 obtain ⟨o0,o1,o2,o3,o4,o5⟩:=zC (U hR1)
 obtain ⟨q0,q1,q2,q3,q4,q5,q6⟩:=di ((U jg).qo m (by omega))
 have f2:=(U jg).fr
 have oN:S.lc < 20:=by have:=U jQ; omega
 have HB:=Y L
 clear hW1 hm e1 c1 f1 hoc' L
 go_region
 have vE:=Y (tm_put (U jg) m (by omega) o)
 have uL:=Y (gr_put (w:=W1) (b:=b) o m)
 generalize hW2:(((((((W1.setCell (J b (171 + m * 7)) (H o.id)).setCell (J b (171 + m * 7 + 1)) (H o.side)).setCell (J b (171 + m * 7 + 2)) (H o.ticks)).setCell (J b (171 + m * 7 + 3)) (H o.left)).setCell
   (J b (171 + m * 7 + 4)) (H o.life)).setCell (J b (171 + m * 7 + 5)) (yk o.tag)).setCell (J b (171 + m * 7 + 6)) (H 0)) = W2 at vE uL ⊢
 clear hW2 o0 o1 o2 o3 o4 o5 q0 q1 q2 q3 q4 q5 q6 f2
 rw [show ({ root:=S.root,lc:=S.lc,oc:=m,nd:=S.nd,qo:=upd S.qo m ⟨o,0⟩ }:TS) = S.lay o from by rw [U HM]; rfl] at vE
 have hR2:=Y (zq (U hR1) (U uL) (U xA) (fun e=>U HB (Option.some.inj e).symm))
 obtain ⟨o0,o1,o2,o3,o4,o5⟩:=zC (U hR2)
 have HTI:=Y (ti_lay o (U HI))
 have HT2d:Hid (TM 164 W2.drew.drew b (S.lay o)):=aW (U vE) rfl
 go_wp2_with fail
 go_region_with (go_at_call 117; refine (levelFor_b b (S.lay o) t o W2.drew.drew (U HT2d) (U HTI) oN).mono ?_; rintro e W3 ⟨h,rfl,vZ⟩; have HE:=Y vZ; have qD:(h:Int) < 21:=lf_lt vZ (U HTI) oN; clear vZ)
 obtain ⟨S3,hT3,uW,oI⟩:=U HE
 rw [← U HSD] at HQ
 obtain ⟨r1,r2,r3,r4,r5,t',r6,r7⟩:=add_ready (U HI) (U HQ) oI
 have R4:=Y r4
 have R6:=Y r6
 have R7:=Y r7
 have R23:Hid ((0:Int) ≤ (S3.nd h).qty∧(S3.nd h).qty ≤ 20000000∧(0:Int) ≤ (S3.nd h).count∧(S3.nd h).count ≤ 20):=by
  have L:=sumL_bound (atK seq o.ticks) (fun o' vC=>U HL o' (List.mem_filter.1 vC).1)
  have kl:(atK seq o.ticks).length ≤ seq.length:=List.length_filter_le _ _
  rw [r2,r3]
  refine ⟨L.1,?_,by omega,by omega⟩
  have:=L.2
  have h20:((atK seq o.ticks).length:Int) ≤ 20:=by omega
  omega
 have jU:=Y hT3
 have vK:Hid (W2.grownBy W3 (some b)):=⟨uW.os,uW.tape,uW.output,uW.size,uW.block⟩
 have hR3:=Y (zq (U hR2) (U vK) (yJ (U xA) (U uL).size) (fun e=>U HB (Option.some.inj e).symm))
 have hy21:(S3.nd h).yo < 21:=by omega
 have hm1:m = 1 + seq.length:=by have:=U HM; have:=U HOC; omega
 have qe:=Y hm1
 clear hT3 uW oI r1 r2 r3 r4 r5 r6 r7 o0 o1 o2 o3 o4 o5 hm1 HE
 have uH:=(U jU).fr
 obtain ⟨n0,n1,n2,n3,n4,n5,n6,n7⟩:=zI ((U jU).nd h (by omega))
 have vM:h < 21:=by omega
 clear n0 n1 n2 n3 n4 n5
 by_cases hy:(S3.nd h).yo = 0
 ·have t5:=aN (U jU) h 6 vM (by omega) (H m) { S3.nd h with el:=m } rfl _ rfl
  have t6:=aN t5 h 7 vM (by omega) (H m) { (TS.nd _ h) with yo:=m } rfl _ rfl
  simp only [bZ,zn] at t6
  obtain ⟨-,-,-,-,-,-,-,k7⟩:=zI (t5.nd h vM)
  have f5:=t5.fr
  rw [hy] at n7
  have jq:=Y (zJ (zJ (yR W3 (some b)) (2 + h * 8 + 6) (H m)) (2 + h * 8 + 7) (H m))
  have jh:=Y t6
  clear t5 t6
  go_wp2_with fail
  generalize hW6:(W3.setCell (J b (2 + h * 8 + 6)) (H m)).setCell (J b (2 + h * 8 + 7)) (H m) = W6 at jq jh ⊢
  clear jU hW6
  have f6:=(U jh).fr
  obtain ⟨-,-,m2,m3,-⟩:=zI ((U jh).nd h vM)
  simp only [zn] at m2 m3
  have hR6:=zq (U hR3) (U jq) (yJ (U xA) (yN (U uL).size (U vK).size)) (fun e=>U HB (Option.some.inj e).symm)
  obtain ⟨-,-,-,x3,-⟩:=zC hR6
  obtain ⟨b1,b2,b3,b4⟩:=U R23
  have t7:=aN (U jh) h 2 vM (by omega) (H ((S3.nd h).qty + o.left)) { (TS.nd _ h) with qty:=(S3.nd h).qty + o.left } rfl _ rfl
  have t8:=aN t7 h 3 vM (by omega) (H ((S3.nd h).count + 1)) { (TS.nd _ h) with count:=(S3.nd h).count + 1 } rfl _ rfl
  obtain ⟨-,-,-,y3,-⟩:=zI (t7.nd h vM)
  have f7:=t7.fr
  simp only [bZ,zn] at t8 y3
  have pq:=Y t8
  have HG8:=Y (zJ (zJ (yR W6 (some b)) (2 + h * 8 + 2) (H ((S3.nd h).qty + o.left))) (2 + h * 8 + 3) (H ((S3.nd h).count + 1)))
  have pL:wrap64 ((S3.nd h).qty + o.left) = (S3.nd h).qty + o.left:=by unfold wrap64; omega
  clear t7 t8 hR6
  go_region
  try simp only [IntKind.wrap_i64]
  try rw [show (IntKind.i64.wrap ((S3.nd h).qty + o.left)) = (S3.nd h).qty + o.left from by rw [IntKind.wrap_i64]; exact pL]
  generalize hW7:W6.setCell (J b (2 + h * 8 + 2)) (H ((S3.nd h).qty + o.left)) = W7 at *
  go_wp2_with fail
  go_end0
  have HS8:Hid (_ = S3.link h m o.left):=link_eq0 S3 h m o.left hy
  rw [U HS8] at pq
  rw [U qe] at pq
  refine ⟨rfl,?_,?_⟩
  ·rw [← U HSD]
   refine ⟨_,t',aW (U pq) rfl,U R6,U R7,?_⟩
   have Q:=U R4
   have N:=U jQ
   show S3.lc ≤ _
   simp; omega
  ·exact bR (((((U hG1).trans (U uL)).trans (U vK)).trans (U jq)).trans (U HG8)) rfl rfl rfl rfl
 ·have t5:=tm_qo (U jU) (S3.nd h).yo 6 hy21 (by omega) (H m) { S3.qo (S3.nd h).yo with yg:=m } rfl _ rfl
  have t6:=aN t5 h 7 vM (by omega) (H m) { (TS.nd _ h) with yo:=m } rfl _ rfl
  obtain ⟨-,-,-,-,-,-,-,k7⟩:=zI (t5.nd h vM)
  obtain ⟨-,-,-,-,-,-,q6⟩:=di ((U jU).qo (S3.nd h).yo hy21)
  have f5:=t5.fr
  have hyi:((S3.nd h).yo:Int) < 21:=by omega
  have pO:¬ (((S3.nd h).yo:Int) = 0):=by omega
  have jq:=Y (zJ (zJ (yR W3 (some b)) (171 + (S3.nd h).yo * 7 + 6) (H m)) (2 + h * 8 + 7) (H m))
  have jh:=Y t6
  clear t5 t6
  go_wp2_with fail
  go_region
  go_wp2_with fail
  generalize hW6:(W3.setCell (J b (171 + (S3.nd h).yo * 7 + 6)) (H m)).setCell (J b (2 + h * 8 + 7)) (H m) = W6 at jq jh ⊢
  clear jU hW6
  have f6:=(U jh).fr
  obtain ⟨-,-,m2,m3,-⟩:=zI ((U jh).nd h vM)
  simp only [zn] at m2 m3
  have hR6:=zq (U hR3) (U jq) (yJ (U xA) (yN (U uL).size (U vK).size)) (fun e=>U HB (Option.some.inj e).symm)
  obtain ⟨-,-,-,x3,-⟩:=zC hR6
  obtain ⟨b1,b2,b3,b4⟩:=U R23
  have t7:=aN (U jh) h 2 vM (by omega) (H ((S3.nd h).qty + o.left)) { (TS.nd _ h) with qty:=(S3.nd h).qty + o.left } rfl _ rfl
  have t8:=aN t7 h 3 vM (by omega) (H ((S3.nd h).count + 1)) { (TS.nd _ h) with count:=(S3.nd h).count + 1 } rfl _ rfl
  obtain ⟨-,-,-,y3,-⟩:=zI (t7.nd h vM)
  have f7:=t7.fr
  simp only [bZ,zn] at t8 y3
  have pq:=Y t8
  have HG8:=Y (zJ (zJ (yR W6 (some b)) (2 + h * 8 + 2) (H ((S3.nd h).qty + o.left))) (2 + h * 8 + 3) (H ((S3.nd h).count + 1)))
  have pL:wrap64 ((S3.nd h).qty + o.left) = (S3.nd h).qty + o.left:=by unfold wrap64; omega
  clear t7 t8 hR6
  go_region
  try simp only [IntKind.wrap_i64]
  try rw [show (IntKind.i64.wrap ((S3.nd h).qty + o.left)) = (S3.nd h).qty + o.left from by rw [IntKind.wrap_i64]; exact pL]
  generalize hW7:W6.setCell (J b (2 + h * 8 + 2)) (H ((S3.nd h).qty + o.left)) = W7 at *
  go_wp2_with fail
  go_end0
  have HS8:Hid (_ = S3.link h m o.left):=link_eq1 S3 h m o.left hy
  rw [U HS8] at pq
  rw [U qe] at pq
  refine ⟨rfl,?_,?_⟩
  ·rw [← U HSD]
   refine ⟨_,t',aW (U pq) rfl,U R6,U R7,?_⟩
   have Q:=U R4
   have N:=U jQ
   show S3.lc ≤ _
   simp; omega
  ·exact bR (((((U hG1).trans (U uL)).trans (U vK)).trans (U jq)).trans (U HG8)) rfl rfl rfl rfl
end Go.Proofs.YtdliebbfcmdmaaaGreat
