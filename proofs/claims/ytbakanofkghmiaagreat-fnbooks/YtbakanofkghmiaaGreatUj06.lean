/-
  What the small functions that ask whether an order is right return, of the program and of the model: proved by walking them.
-/
import Derived.Test.YtbakanofkghmiaaGreatUj05
set_option linter.unusedVariables false
set_option maxHeartbeats 6400000
set_option maxRecDepth 100000
namespace Go.Proofs.YtbakanofkghmiaaGreat
open Go.RowKit
def betB (n a b:Int):Bool:=decide (a ≤ n) && decide (n ≤ b)
theorem zG (n a b:Int) (w:World) :
  Calls Tryz.prog 35 #[H n,H a,H b] w fun e w'=>e = yl (.bool (betB n a b))∧w' = w:=by
 go_enter Tryz.func35,Tryz.ntmps35
 go_wp2
 all_goals go_ret
 all_goals exact ⟨zq (by rw [Bool.eq_iff_iff]; simp [betB]; omega),rfl⟩
theorem cS (n:Int) (w:World) :
  Calls Tryz.prog 72 #[H n] w fun e w'=>e = yl (.bool (betB n 1 2))∧w' = w:=by
 go_enter Tryz.func72,Tryz.ntmps72
 go_wp2
 all_goals go_ret
 all_goals exact ⟨zq (by rw [Bool.eq_iff_iff]; simp [betB]; omega),rfl⟩
theorem cR (n:Int) (w:World) :
  Calls Tryz.prog 73 #[H n] w fun e w'=>e = yl (.bool (betB n 0 1))∧w' = w:=by
 go_enter Tryz.func73,Tryz.ntmps73
 go_wp2
 all_goals go_ret
 all_goals exact ⟨zq (by rw [Bool.eq_iff_iff]; simp [betB]; omega),rfl⟩
def tagC (c:UInt8):Bool:=betB c.toNat 32 126
def tagB (s:ByteArray):Bool:=decide (s.size ≤ 12) && s.data.toList.all tagC
theorem drop_cons (s:ByteArray) (k:Nat) (h:k < s.size):s.data.toList.drop k = s[k] :: s.data.toList.drop (k + 1):=by
 rw [get_nat s k h]
 exact xa (by rw [data_len]; exact h)
theorem tag_yes (s:ByteArray) (h:s.size ≤ 12) (hk:s.data.toList.all tagC = true):tagB s = true:=by simp only [tagB,hk,decide_eq_true h,Bool.and_true]
theorem tag_long (s:ByteArray) (h:¬ s.size ≤ 12):tagB s = false:=by simp only [tagB,decide_eq_false h,Bool.false_and]
theorem tag_no (s:ByteArray) (hk:s.data.toList.all tagC = false):tagB s = false:=by simp only [tagB,hk,Bool.and_false]
theorem isTag_any (s:ByteArray) (w:World) (hs:s.size ≤ maxLen) :
  Calls Tryz.prog 74 #[yj s] w fun e w'=>e = yl (.bool (tagB s))∧w' = w:=by
 unfold maxLen at hs
 by_cases hl:s.size ≤ 12
 ·have hl':¬ ((12:Int) < s.size):=by omega
  go_enter Tryz.func74,Tryz.ntmps74
  go_wp2_with fail
  go_loop [9] (fun i=>∃ k:Nat,k ≤ s.size∧i = H k∧Hid (s.data.toList.all tagC = (s.data.toList.drop k).all tagC)) (fun i=>s.size - (intOf i).toNat)
  case atStart=>exact ⟨0,Nat.zero_le _,rfl,by simp [Hid]⟩
  case round =>
   obtain ⟨k,hk,rfl,Q⟩:=hrel
   by_cases xI:k < s.size
   ·have uu:(k:Int) < s.size:=by omega
    have pA:=drop_cons s k xI
    have hgen:∃ c,c = s[k]:=⟨_,rfl⟩
    obtain ⟨c,hc⟩:=hgen
    have hw:betB (wrap64 (s[k].toNat:Int)) 32 126 = tagC c:=by
     have hlt256:=UInt8.toNat_lt s[k]
     rw [hc,show wrap64 (s[k].toNat:Int) = (s[k].toNat:Int) by unfold wrap64; omega]; rfl
    cases ht:tagC c
    ·rw [ht] at hw
     have HT:Hid (s.data.toList.all tagC = false):=by
      have:=U Q
      rw [pA,List.all_cons,← hc,ht,Bool.false_and] at this
      exact this
     clear pA hc ht
     go_wp2_with fail
     refine (zG (wrap64 (s[k].toNat:Int)) 32 126 w).mono ?_
     rintro e w1 ⟨rfl,rfl⟩
     go_wp2_with fail
     go_ret
     exact ⟨zq (tag_no s (U HT)).symm,rfl⟩
    ·rw [ht] at hw
     have HN:Hid (s.data.toList.all tagC = (s.data.toList.drop (k + 1)).all tagC):=by
      have:=U Q
      rw [pA,List.all_cons,← hc,ht,Bool.true_and] at this
      exact this
     clear pA hc ht
     go_wp2_with fail
     refine (zG (wrap64 (s[k].toNat:Int)) 32 126 w).mono ?_
     rintro e w1 ⟨rfl,rfl⟩
     go_wp2_with fail
     go_round
     case rel=>exact ⟨k + 1,by omega,by go_num,U HN⟩
     case measure=>simp [intOf]; omega
   ·go_wp2_with fail
    go_ret
    have h:=U Q
    rw [yY (by rw [data_len]; omega)] at h
    exact ⟨zq (tag_yes s hl (by rw [h]; rfl)).symm,rfl⟩
 ·have hl':(12:Int) < s.size:=by omega
  go_enter Tryz.func74,Tryz.ntmps74
  go_wp2_with fail
  go_ret
  exact ⟨zq (tag_long s hl).symm,rfl⟩
def ordB (o:Od):Bool:=betB o.side 1 2 && betB o.life 0 1 && tagB o.tag && betB o.ticks 1 1000000 && betB o.left 1 1000000
theorem orderOK_any (o:Od) (w:World) (hs:o.tag.size ≤ maxLen) :
  Calls Tryz.prog 37 #[.agg (yu o.id o.side o.ticks o.left o.life o.tag).toArray] w fun e w'=>e = yl (.bool (ordB o))∧ym w w':=by
 have HT:=Y (fun W=>isTag_any o.tag W hs)
 clear hs
 cases G:betB o.side 1 2
 ·go_enter Tryz.func37,Tryz.ntmps37
  go_wp2_with (first | (go_at_call 72; refine (cS _ _).mono ?_; rintro e w' ⟨rfl,rfl⟩) | (go_at_call 73; refine (cR _ _).mono ?_; rintro e w' ⟨rfl,rfl⟩) | (go_at_call 74; refine (U HT _).mono ?_; rintro e w' ⟨rfl,rfl⟩) | (go_at_call 35; refine (zG _ _ _ _).mono ?_; rintro e w' ⟨rfl,rfl⟩))
  go_ret
  exact ⟨zq (by simp [ordB,G]),by go_grown⟩
 ·
  cases D:betB o.life 0 1
  ·go_enter Tryz.func37,Tryz.ntmps37
   go_wp2_with (first | (go_at_call 72; refine (cS _ _).mono ?_; rintro e w' ⟨rfl,rfl⟩) | (go_at_call 73; refine (cR _ _).mono ?_; rintro e w' ⟨rfl,rfl⟩) | (go_at_call 74; refine (U HT _).mono ?_; rintro e w' ⟨rfl,rfl⟩) | (go_at_call 35; refine (zG _ _ _ _).mono ?_; rintro e w' ⟨rfl,rfl⟩))
   go_ret
   exact ⟨zq (by simp [ordB,G,D]),by go_grown⟩
  ·
   cases h3:tagB o.tag
   ·go_enter Tryz.func37,Tryz.ntmps37
    go_wp2_with (first | (go_at_call 72; refine (cS _ _).mono ?_; rintro e w' ⟨rfl,rfl⟩) | (go_at_call 73; refine (cR _ _).mono ?_; rintro e w' ⟨rfl,rfl⟩) | (go_at_call 74; refine (U HT _).mono ?_; rintro e w' ⟨rfl,rfl⟩) | (go_at_call 35; refine (zG _ _ _ _).mono ?_; rintro e w' ⟨rfl,rfl⟩))
    go_ret
    exact ⟨zq (by simp [ordB,G,D,h3]),by go_grown⟩
   ·
    cases h4:betB o.ticks 1 1000000
    ·go_enter Tryz.func37,Tryz.ntmps37
     go_wp2_with (first | (go_at_call 72; refine (cS _ _).mono ?_; rintro e w' ⟨rfl,rfl⟩) | (go_at_call 73; refine (cR _ _).mono ?_; rintro e w' ⟨rfl,rfl⟩) | (go_at_call 74; refine (U HT _).mono ?_; rintro e w' ⟨rfl,rfl⟩) | (go_at_call 35; refine (zG _ _ _ _).mono ?_; rintro e w' ⟨rfl,rfl⟩))
     go_ret
     exact ⟨zq (by simp [ordB,G,D,h3,h4]),by go_grown⟩
    ·
     cases h5:betB o.left 1 1000000
     ·go_enter Tryz.func37,Tryz.ntmps37
      go_wp2_with (first | (go_at_call 72; refine (cS _ _).mono ?_; rintro e w' ⟨rfl,rfl⟩) | (go_at_call 73; refine (cR _ _).mono ?_; rintro e w' ⟨rfl,rfl⟩) | (go_at_call 74; refine (U HT _).mono ?_; rintro e w' ⟨rfl,rfl⟩) | (go_at_call 35; refine (zG _ _ _ _).mono ?_; rintro e w' ⟨rfl,rfl⟩))
      go_ret
      exact ⟨zq (by simp [ordB,G,D,h3,h4,h5]),by go_grown⟩
     ·go_enter Tryz.func37,Tryz.ntmps37
      go_wp2_with (first | (go_at_call 72; refine (cS _ _).mono ?_; rintro e w' ⟨rfl,rfl⟩) | (go_at_call 73; refine (cR _ _).mono ?_; rintro e w' ⟨rfl,rfl⟩) | (go_at_call 74; refine (U HT _).mono ?_; rintro e w' ⟨rfl,rfl⟩) | (go_at_call 35; refine (zG _ _ _ _).mono ?_; rintro e w' ⟨rfl,rfl⟩))
      go_ret
      exact ⟨zq (by simp [ordB,G,D,h3,h4,h5]),by go_grown⟩
theorem better_b (a c:Int) (w:World) :
  Calls Tryz.prog 188 #[.agg #[],H a,H c] w fun e w'=>e = yl (.bool (decide (c < a)))∧w.grownBy w' none:=by
 go_enter Tryz.func188,Tryz.ntmps188
 go_wp2_with fail
 go_ret
 exact ⟨rfl,World.grownBy_alloc _ _ _⟩
theorem method_b (w:World):Sem.run Tryz.prog (method 322 126 (.agg #[]) "loop.example/g00092/impl.better") w = .ok (188,.agg #[]) w:=by kernel_rfl
theorem part_b {w:World} {b:Nat} (h:∃ xp,w.heap[b]? = some (.cells xp 176 (0,0))):Sem.run Tryz.prog (partAt (J b 0) 0 0) w = .ok (J b 0) w:=by
 obtain ⟨xp,h⟩:=h
 have hc:Tryz.prog.cellsOf 176 = 318:=by kernel_rfl
 have hy:byteOfCell Tryz.prog Tryz.prog.depth 176 0 = some 0:=by kernel_rfl
 have hs:w.shape? b = some (176,xp.size):=by simp [World.shape?,h]
 simp [partAt,byteOf,noView,viewAt,hs,hc,hy]
theorem levelFor_b (b:Nat) (S:TS) (t:Tr) (o:Od) (w:World) (hT:TM 176 w b S) (hi:TI true S t) (qq:S.lc < 20) :
  Calls Tryz.prog 156 #[I b 0,.agg (yu o.id o.side o.ticks o.left o.life o.tag).toArray] w fun e w' =>
   ∃ (h:Nat),e = yl (H h)∧LFEnd true 176 b S t o w h w':=by
 have HT:=Y hT
 have HI:=Y hi
 clear hT hi
 go_enter Tryz.func156,Tryz.ntmps156
 go_wp2_with fail
 have HW:Hid (∃ W,W = (w.alloc (N (yu o.id o.side o.ticks o.left o.life o.tag).toArray 49))∧W.rangeAt w.heap.size 0 o.vs∧TM 176 W b S∧w.grownBy W (some b)∧w.heap.size < W.heap.size∧b ≠ w.heap.size) :=
  ⟨_,rfl,zg w o.vs _,aX (U HT) (Below.heap_alloc w _ _ (tm_lt (U HT))),World.grownBy_alloc _ _ _,by rw [zf]; omega,by have:=tm_lt (U HT); omega⟩
 obtain ⟨W,hW,hWW⟩:=U HW
 rw [← hW]
 have po:=Y hWW
 clear hW hWW HW HT
 go_loopg [5] (t.hs.length) (fun k p wr=>LFI true b S t o.ticks W k p wr)
 case atStart=>exact ⟨[],t,rfl,Nat.le_refl _,way_start (U HI) _,yP _ _⟩
 case round =>
  obtain ⟨c,u,rfl,hk,hw,hg⟩:=hrel
  have jQ:=Y hw
  have HG:=Y hg
  have HK:=Y hk
  have hT:=du (U po).2.1 hg (by simp)
  have c0:=cur_cell hT (zV c) (cur_ok (U HI) hw qq)
  obtain ⟨o0,o1,o2,o3,o4,o5⟩:=zz (zu (U po).1 hg (U po).2.2.2.1 (by simp))
  clear hk hw hg
  by_cases ha:S.rd (zV c) = 0
  ·have pK:=hT.lc
   have hf:=hT.fr
   have HA0:=Y ha
   rw [ha] at c0
   have hlc':(S.lc:Int) < 20:=by omega
   have e1:((S.lc + 1:Nat):Int) = (S.lc:Int) + 1:=by omega
   have uM:=cur_ok (U HI) (U jQ) qq
   have t1:=tm_lc hT (S.lc + 1)
   have t2:=tm_cur t1 (zV c) uM (S.lc + 1)
   rw [e1] at t1 t2
   have d2:_ = _:=(cur_cell t1 (zV c) uM).trans (congrArg (fun x:Nat=>some (H x)) (show TS.rd _ (zV c) = 0 from by rw [← ha]; cases (zV c) <;> rfl))
   have d3:_ = _:=t2.lc
   rw [(wr_same _ _ _).1] at d3
   simp only [e1] at d3
   have g1:=t1.fr
   have g2:=t2.fr
   obtain ⟨n0,n1,n2,n3,-⟩:=zN (t2.nd (S.lc + 1) (by omega))
   have O:b ≠ w.heap.size:=(U po).2.2.2.2
   have p1:((wr.setCell (J b 1) (H ((S.lc:Int) + 1))).setCell (J b ((zV c).off)) (H ((S.lc:Int) + 1))).cell? (yp w (0 + 1)) = some (H o.side):=by
    rw [yJ _ _ _ _ (fun e=>O (congrArg Addr.block e)),yJ _ _ _ _ (fun e=>O (congrArg Addr.block e))]; exact o1
   have p2:((wr.setCell (J b 1) (H ((S.lc:Int) + 1))).setCell (J b ((zV c).off)) (H ((S.lc:Int) + 1))).cell? (yp w (0 + 2)) = some (H o.ticks):=by
    rw [yJ _ _ _ _ (fun e=>O (congrArg Addr.block e)),yJ _ _ _ _ (fun e=>O (congrArg Addr.block e))]; exact o2
   have vu:=Y t2
   have HB:=Y O
   clear ha hT t1 t2 uM O
   go_wp2_with fail
   have HG4:Hid (wr.grownBy ((wr.setCell (J b 1) (H ((S.lc:Int) + 1))).setCell (J b ((zV c).off)) (H ((S.lc:Int) + 1))) (some b)):=zP (zP (yP _ _) _ _) _ _
   generalize hW4:((wr.setCell (J b 1) (H ((S.lc:Int) + 1))).setCell (J b ((zV c).off)) (H ((S.lc:Int) + 1))) = W4 at *
   rw [← e1] at d3
   obtain ⟨m,hm⟩:∃ m,m = S.lc + 1:=⟨_,rfl⟩
   rw [← hm] at d3 n0 n1 n2 n3
   have hm21:(m:Int) < 21:=by omega
   have HM:=Y hm
   clear hW4 hm e1 d2 pK hf g1 c0 o0 o1 o2 o3 o4 o5 hlc'
   go_region
   have t3:=U vu
   have t4:=aM t3 (S.lc + 1) 0 (by omega) (by omega) (H o.side) { (TS.nd _ (S.lc + 1)) with side:=o.side } rfl _ rfl
   have t5:=aM t4 (S.lc + 1) 1 (by omega) (by omega) (H o.ticks) { (TS.nd _ (S.lc + 1)) with ticks:=o.ticks } rfl _ rfl
   have t6:=aM t5 (S.lc + 1) 2 (by omega) (by omega) (H 0) { (TS.nd _ (S.lc + 1)) with qty:=0 } rfl _ rfl
   have t7:=aM t6 (S.lc + 1) 3 (by omega) (by omega) (H 0) { (TS.nd _ (S.lc + 1)) with count:=0 } rfl _ rfl
   have pg:=Y (gr_drew (zP (zP (zP (zP (U HG4) (2 + m * 8) (H o.side)) (2 + m * 8 + 1) (H o.ticks)) (2 + m * 8 + 2) (H 0)) (2 + m * 8 + 3) (H 0)))
   rw [← U HM] at t7
   simp only [cz,zn] at t7
   have hS:_ = S.grow (zV c) o.side o.ticks:=grow_eq S (zV c) o m (U HM)
   rw [hS] at t7
   have d7:_ = some (H (m:Int)):=t7.lc.trans (by rw [U HM]; rfl)
   have HT7:=Y t7
   clear t3 t4 t5 t6 t7 n0 n1 n2 n3 d3 p1 p2
   generalize (((W4.setCell (J b (2 + m * 8)) (H o.side)).setCell (J b (2 + m * 8 + 1)) (H o.ticks)).setCell (J b (2 + m * 8 + 2)) (H 0)).setCell (J b (2 + m * 8 + 3)) (H 0) = W7 at *
   go_wp2_with fail
   go_ret
   exact ⟨m,rfl,_,aX (U HT7) rfl,(U po).2.2.1.trans (((U HG).but _).trans (U pg)),.inr ⟨c,u,U jQ,U HA0,U HM,rfl⟩⟩
  ·have ham:=way_at (U jQ) rfl ha
   have har:=(U HI).range _ ham
   obtain ⟨a,hae⟩:∃ a,a = S.rd (zV c):=⟨_,rfl⟩
   rw [← hae] at c0 ha ham har
   have HAE:=Y hae
   have ha':¬ ((a:Int) = 0):=by omega
   have ha21:(a:Int) < 21:=by omega
   obtain ⟨n0,n1,n2,n3,n4,n5,n6,n7⟩:=zN (hT.nd a (by omega))
   have HTM:=Y hT
   have qT:∀ w',wr.grownBy w' none→Sem.run Tryz.prog (partAt (J b 0) 0 0) w' = .ok (J b 0) w':=fun w' h=>part_b (du (U HTM) h (by simp)).obj
   have HPT:=Y qT
   have HN1:=Y (fun w' (h:wr.grownBy w' none)=>h.cell n1 (by simp))
   have vV:=Y (fun w' (h:wr.grownBy w' none)=>h.cell o2 (by simp))
   clear hae hT qT
   go_wp2_with fail
   go_quiet (fail)
   go_wp2_with fail
   refine dd (W:=wr) (by kernel_rfl) (by kernel_rfl) ⟨rfl,rfl,rfl,Nat.le_refl _,fun _ _ _=>rfl⟩ ?_
   iterate 12 (
    refine aR (v:=?_) ?_ ?_ ?_
    rotate_left
    ·rfl
    ·intro w' ul
     have f1:=U HN1 w' ul
     have f2:=U vV w' ul
     have f3:=U HPT w' ul
     go_simp
     try rfl
    intro hj hK
    go_simp
    refine hK _ ?_
    clear hK hj)
   refine aR (v:=.bool (decide ((S.nd a).ticks < o.ticks))) ?_ ?_ ?_
   ·rfl
   ·intro w' ul
    have hm:=method_b w'
    go_simp
    refine (better_b _ _ _).mono ?_
    rintro e w3 ⟨rfl,vh⟩
    exact ⟨rfl,ul.trans vh⟩
   intro hj hK
   go_simp
   refine hK _ ?_
   clear hK hj
   refine aR (v:=?_) ?_ ?_ ?_
   rotate_left
   ·rfl
   ·intro w' ul
    go_simp
    try rfl
   intro hj hK
   go_simp
   refine hK _ ?_
   clear hK hj
   refine wpQuiet_nil ?_
   intro w2 qc
   have uN:=Y qc
   clear qc
   by_cases G:(S.nd a).ticks < o.ticks
   ·have kn:decide ((S.nd a).ticks < o.ticks) = true:=by simpa using G
    go_wp2_with fail
    obtain ⟨l,r,rfl,hw2⟩:=way_be (U HI) (U jQ) (U HAE).symm ha G
    go_roundg (l.hs.length)
    case measure=>have:=U HK; simp [Tr.hs] at this; omega
    case rel=>exact ⟨_,l,rfl,Nat.le_refl _,hw2,(U HG).trans (U uN)⟩
   ·have kn:decide ((S.nd a).ticks < o.ticks) = false:=by simpa using G
    go_wp2_with fail
    refine dd (W:=wr) (by kernel_rfl) (by kernel_rfl) (U uN) ?_
    iterate 12 (
     refine aR (v:=?_) ?_ ?_ ?_
     rotate_left
     ·rfl
     ·intro w' ul
      have f1:=U HN1 w' ul
      have f2:=U vV w' ul
      have f3:=U HPT w' ul
      go_simp
      try rfl
     intro hj hK
     go_simp
     refine hK _ ?_
     clear hK hj)
    refine aR (v:=.bool (decide (o.ticks < (S.nd a).ticks))) ?_ ?_ ?_
    ·rfl
    ·intro w' ul
     have hm:=method_b w'
     go_simp
     refine (better_b _ _ _).mono ?_
     rintro e w3 ⟨rfl,vh⟩
     exact ⟨rfl,ul.trans vh⟩
    intro hj hK
    go_simp
    refine hK _ ?_
    clear hK hj
    refine aR (v:=?_) ?_ ?_ ?_
    rotate_left
    ·rfl
    ·intro w' ul
     go_simp
     try rfl
    intro hj hK
    go_simp
    refine hK _ ?_
    clear hK hj
    refine wpQuiet_nil ?_
    intro w3 vh
    have qf:=Y vh
    clear vh
    by_cases D:o.ticks < (S.nd a).ticks
    ·have ke:decide (o.ticks < (S.nd a).ticks) = true:=by simpa using D
     go_wp2_with fail
     obtain ⟨l,r,rfl,hw2⟩:=way_wo (U HI) (U jQ) (U HAE).symm ha D
     go_roundg (r.hs.length)
     case measure=>have:=U HK; simp [Tr.hs] at this; omega
     case rel=>exact ⟨_,r,rfl,Nat.le_refl _,hw2,(U HG).trans (U qf)⟩
    ·have ke:decide (o.ticks < (S.nd a).ticks) = false:=by simpa using D
     have c3:=(U qf).cell c0 (by simp)
     go_wp2_with fail
     go_ret
     have hG:=(U HG).trans (U qf)
     exact ⟨a,rfl,S,du (U po).2.1 hG (by simp),(U po).2.2.1.trans (hG.but _),.inl ⟨ham,by omega,rfl⟩⟩
theorem add_b (b:Nat) (sd:Int) (seq:List Od) (o:Od) (w:World) (h:aG 176 true w b sd seq) (uC:o.side = sd) (hn:seq.length < 20) (hl:∀ o' ∈ seq,0 ≤ o'.left∧o'.left ≤ 1000000) (jn:0 ≤ o.left∧o.left ≤ 1000000) :
  Calls Tryz.prog 125 #[I b 0,.agg (yu o.id o.side o.ticks o.left o.life o.tag).toArray] w fun e w' =>
   e = yl (.tuple #[])∧aG 176 true w' b sd (seq ++ [o])∧w.grownBy w' (some b):=by
 obtain ⟨S,t,hT,hi,hq,qq⟩:=h
 have HI:=Y hi
 have HQ:=Y hq
 have HT:=Y hT
 have ju:=Y qq
 have HL:=Y hl
 have HSD:=Y uC
 have HOC:=Y hq.oc
 have hoc':(S.oc:Int) < 20:=by have:=hq.oc; omega
 have e1:((S.oc + 1:Nat):Int) = (S.oc:Int) + 1:=by omega
 have O:b ≠ w.heap.size:=by have:=tm_lt hT; omega
 have jX:World.rangeAt (w.alloc (N (yu o.id o.side o.ticks o.left o.life o.tag).toArray 49)) w.heap.size 0 o.vs:=zg w o.vs 49
 have qh:TM 176 (w.alloc (N (yu o.id o.side o.ticks o.left o.life o.tag).toArray 49)) b S:=aX hT (Below.heap_alloc w _ _ (tm_lt hT))
 have c1:=qh.oc
 have f1:=qh.fr
 have hT1:=tm_oc qh (S.oc + 1)
 have hR1:Hid (World.rangeAt (World.setCell (w.alloc (N (yu o.id o.side o.ticks o.left o.life o.tag).toArray 49)) (J b 170) (H ((S.oc + 1:Nat):Int))) w.heap.size 0 o.vs):=fun j u hu=>by
  rw [yJ _ _ _ _ (fun e=>O (congrArg Addr.block e))]; exact jX j u hu
 have hG1:Hid (w.grownBy (World.setCell (w.alloc (N (yu o.id o.side o.ticks o.left o.life o.tag).toArray 49)) (J b 170) (H ((S.oc + 1:Nat):Int))) (some b)):=zP (World.grownBy_alloc w (N (yu o.id o.side o.ticks o.left o.life o.tag).toArray 49) _) _ _
 have qN:=Y hT1
 have xz:Hid (w.heap.size < (World.heap (World.setCell (w.alloc (N (yu o.id o.side o.ticks o.left o.life o.tag).toArray 49)) (J b 170) (H ((S.oc + 1:Nat):Int)))).size):=(by
  have:=yI _ _ (hR1 0 _ rfl)
  exact this)
 clear hi hq qq hl uC hT qh jX hT1
 go_enter Tryz.func125,Tryz.ntmps125
 go_wp2_with fail
 rw [← e1]
 have em:∃ m,m = S.oc + 1:=⟨_,rfl⟩
 obtain ⟨m,hm⟩:=em
 rw [← hm] at hR1 hG1 qN xz ⊢
 generalize hW1:World.setCell (w.alloc (N (yu o.id o.side o.ticks o.left o.life o.tag).toArray 49)) (J b 170) (H (m:Int)) = W1 at hR1 hG1 qN xz ⊢
 have HM:=Y hm
 have hm21:(m:Int) < 21:=by omega
 obtain ⟨o0,o1,o2,o3,o4,o5⟩:=zz (U hR1)
 obtain ⟨q0,q1,q2,q3,q4,q5,q6⟩:=ds ((U qN).qo m (by omega))
 have f2:=(U qN).fr
 have oG:S.lc < 20:=by have:=U ju; omega
 have HB:=Y O
 clear hW1 hm e1 c1 f1 hoc' O
 go_region
 have vu:=Y (tm_put (U qN) m (by omega) o)
 have uN:=Y (gr_put (w:=W1) (b:=b) o m)
 generalize hW2:(((((((W1.setCell (J b (171 + m * 7)) (H o.id)).setCell (J b (171 + m * 7 + 1)) (H o.side)).setCell (J b (171 + m * 7 + 2)) (H o.ticks)).setCell (J b (171 + m * 7 + 3)) (H o.left)).setCell
   (J b (171 + m * 7 + 4)) (H o.life)).setCell (J b (171 + m * 7 + 5)) (yj o.tag)).setCell (J b (171 + m * 7 + 6)) (H 0)) = W2 at vu uN ⊢
 clear hW2 o0 o1 o2 o3 o4 o5 q0 q1 q2 q3 q4 q5 q6 f2
 rw [show ({ root:=S.root,lc:=S.lc,oc:=m,nd:=S.nd,qo:=upd S.qo m ⟨o,0⟩ }:TS) = S.lay o from by rw [U HM]; rfl] at vu
 have hR2:=Y (zu (U hR1) (U uN) (U xz) (fun e=>U HB (Option.some.inj e).symm))
 obtain ⟨o0,o1,o2,o3,o4,o5⟩:=zz (U hR2)
 have HTI:=Y (ti_lay o (U HI))
 have HT2d:Hid (TM 176 W2.drew.drew b (S.lay o)):=aX (U vu) rfl
 go_wp2_with fail
 go_region_with (go_at_call 156; refine (levelFor_b b (S.lay o) t o W2.drew.drew (U HT2d) (U HTI) oG).mono ?_; rintro e W3 ⟨h,rfl,vX⟩; have HE:=Y vX; have qF:(h:Int) < 21:=lf_lt vX (U HTI) oG; clear vX)
 obtain ⟨S3,hT3,vh,oA⟩:=U HE
 rw [← U HSD] at HQ
 obtain ⟨r1,r2,r3,r4,r5,t',r6,r7⟩:=add_ready (U HI) (U HQ) oA
 have R4:=Y r4
 have R6:=Y r6
 have R7:=Y r7
 have R23:Hid ((0:Int) ≤ (S3.nd h).qty∧(S3.nd h).qty ≤ 20000000∧(0:Int) ≤ (S3.nd h).count∧(S3.nd h).count ≤ 20):=by
  have O:=sumL_bound (atK seq o.ticks) (fun o' vv=>U HL o' (List.mem_filter.1 vv).1)
  have jb:(atK seq o.ticks).length ≤ seq.length:=List.length_filter_le _ _
  rw [r2,r3]
  refine ⟨O.1,?_,by omega,by omega⟩
  have:=O.2
  have h20:((atK seq o.ticks).length:Int) ≤ 20:=by omega
  omega
 have jg:=Y hT3
 have qf:Hid (W2.grownBy W3 (some b)):=⟨vh.os,vh.tape,vh.output,vh.size,vh.block⟩
 have hR3:=Y (zu (U hR2) (U qf) (yH (U xz) (U uN).size) (fun e=>U HB (Option.some.inj e).symm))
 have hy21:(S3.nd h).yo < 21:=by omega
 have hm1:m = 1 + seq.length:=by have:=U HM; have:=U HOC; omega
 have vS:=Y hm1
 clear hT3 vh oA r1 r2 r3 r4 r5 r6 r7 o0 o1 o2 o3 o4 o5 hm1 HE
 have uw:=(U jg).fr
 obtain ⟨n0,n1,n2,n3,n4,n5,n6,n7⟩:=zN ((U jg).nd h (by omega))
 have vO:h < 21:=by omega
 clear n0 n1 n2 n3 n4 n5
 by_cases hy:(S3.nd h).yo = 0
 ·have t5:=aM (U jg) h 6 vO (by omega) (H m) { S3.nd h with el:=m } rfl _ rfl
  have t6:=aM t5 h 7 vO (by omega) (H m) { (TS.nd _ h) with yo:=m } rfl _ rfl
  simp only [cz,zn] at t6
  obtain ⟨-,-,-,-,-,-,-,k7⟩:=zN (t5.nd h vO)
  have f5:=t5.fr
  rw [hy] at n7
  have ki:=Y (zP (zP (yP W3 (some b)) (2 + h * 8 + 6) (H m)) (2 + h * 8 + 7) (H m))
  have jh:=Y t6
  clear t5 t6
  go_wp2_with fail
  generalize hW6:(W3.setCell (J b (2 + h * 8 + 6)) (H m)).setCell (J b (2 + h * 8 + 7)) (H m) = W6 at ki jh ⊢
  clear jg hW6
  have f6:=(U jh).fr
  obtain ⟨-,-,m2,m3,-⟩:=zN ((U jh).nd h vO)
  simp only [zn] at m2 m3
  have hR6:=zu (U hR3) (U ki) (yH (U xz) (yL (U uN).size (U qf).size)) (fun e=>U HB (Option.some.inj e).symm)
  obtain ⟨-,-,-,x3,-⟩:=zz hR6
  obtain ⟨b1,b2,b3,b4⟩:=U R23
  have t7:=aM (U jh) h 2 vO (by omega) (H ((S3.nd h).qty + o.left)) { (TS.nd _ h) with qty:=(S3.nd h).qty + o.left } rfl _ rfl
  have t8:=aM t7 h 3 vO (by omega) (H ((S3.nd h).count + 1)) { (TS.nd _ h) with count:=(S3.nd h).count + 1 } rfl _ rfl
  obtain ⟨-,-,-,y3,-⟩:=zN (t7.nd h vO)
  have f7:=t7.fr
  simp only [cz,zn] at t8 y3
  have pl:=Y t8
  have HG8:=Y (zP (zP (yP W6 (some b)) (2 + h * 8 + 2) (H ((S3.nd h).qty + o.left))) (2 + h * 8 + 3) (H ((S3.nd h).count + 1)))
  have pL:wrap64 ((S3.nd h).qty + o.left) = (S3.nd h).qty + o.left:=by unfold wrap64; omega
  clear t7 t8 hR6
  go_region
  try simp only [IntKind.wrap_i64]
  try rw [show (IntKind.i64.wrap ((S3.nd h).qty + o.left)) = (S3.nd h).qty + o.left from by rw [IntKind.wrap_i64]; exact pL]
  generalize hW7:W6.setCell (J b (2 + h * 8 + 2)) (H ((S3.nd h).qty + o.left)) = W7 at *
  go_wp2_with fail
  go_end0
  have HS8:Hid (_ = S3.link h m o.left):=link_eq0 S3 h m o.left hy
  rw [U HS8] at pl
  rw [U vS] at pl
  refine ⟨rfl,?_,?_⟩
  ·rw [← U HSD]
   refine ⟨_,t',aX (U pl) rfl,U R6,U R7,?_⟩
   have G:=U R4
   have D:=U ju
   show S3.lc ≤ _
   simp; omega
  ·exact bU (((((U hG1).trans (U uN)).trans (U qf)).trans (U ki)).trans (U HG8)) rfl rfl rfl rfl
 ·have t5:=tm_qo (U jg) (S3.nd h).yo 6 hy21 (by omega) (H m) { S3.qo (S3.nd h).yo with yg:=m } rfl _ rfl
  have t6:=aM t5 h 7 vO (by omega) (H m) { (TS.nd _ h) with yo:=m } rfl _ rfl
  obtain ⟨-,-,-,-,-,-,-,k7⟩:=zN (t5.nd h vO)
  obtain ⟨-,-,-,-,-,-,q6⟩:=ds ((U jg).qo (S3.nd h).yo hy21)
  have f5:=t5.fr
  have hyi:((S3.nd h).yo:Int) < 21:=by omega
  have jI:¬ (((S3.nd h).yo:Int) = 0):=by omega
  have ki:=Y (zP (zP (yP W3 (some b)) (171 + (S3.nd h).yo * 7 + 6) (H m)) (2 + h * 8 + 7) (H m))
  have jh:=Y t6
  clear t5 t6
  go_wp2_with fail
  go_region
  go_wp2_with fail
  generalize hW6:(W3.setCell (J b (171 + (S3.nd h).yo * 7 + 6)) (H m)).setCell (J b (2 + h * 8 + 7)) (H m) = W6 at ki jh ⊢
  clear jg hW6
  have f6:=(U jh).fr
  obtain ⟨-,-,m2,m3,-⟩:=zN ((U jh).nd h vO)
  simp only [zn] at m2 m3
  have hR6:=zu (U hR3) (U ki) (yH (U xz) (yL (U uN).size (U qf).size)) (fun e=>U HB (Option.some.inj e).symm)
  obtain ⟨-,-,-,x3,-⟩:=zz hR6
  obtain ⟨b1,b2,b3,b4⟩:=U R23
  have t7:=aM (U jh) h 2 vO (by omega) (H ((S3.nd h).qty + o.left)) { (TS.nd _ h) with qty:=(S3.nd h).qty + o.left } rfl _ rfl
  have t8:=aM t7 h 3 vO (by omega) (H ((S3.nd h).count + 1)) { (TS.nd _ h) with count:=(S3.nd h).count + 1 } rfl _ rfl
  obtain ⟨-,-,-,y3,-⟩:=zN (t7.nd h vO)
  have f7:=t7.fr
  simp only [cz,zn] at t8 y3
  have pl:=Y t8
  have HG8:=Y (zP (zP (yP W6 (some b)) (2 + h * 8 + 2) (H ((S3.nd h).qty + o.left))) (2 + h * 8 + 3) (H ((S3.nd h).count + 1)))
  have pL:wrap64 ((S3.nd h).qty + o.left) = (S3.nd h).qty + o.left:=by unfold wrap64; omega
  clear t7 t8 hR6
  go_region
  try simp only [IntKind.wrap_i64]
  try rw [show (IntKind.i64.wrap ((S3.nd h).qty + o.left)) = (S3.nd h).qty + o.left from by rw [IntKind.wrap_i64]; exact pL]
  generalize hW7:W6.setCell (J b (2 + h * 8 + 2)) (H ((S3.nd h).qty + o.left)) = W7 at *
  go_wp2_with fail
  go_end0
  have HS8:Hid (_ = S3.link h m o.left):=link_eq1 S3 h m o.left hy
  rw [U HS8] at pl
  rw [U vS] at pl
  refine ⟨rfl,?_,?_⟩
  ·rw [← U HSD]
   refine ⟨_,t',aX (U pl) rfl,U R6,U R7,?_⟩
   have G:=U R4
   have D:=U ju
   show S3.lc ≤ _
   simp; omega
  ·exact bU (((((U hG1).trans (U uN)).trans (U qf)).trans (U ki)).trans (U HG8)) rfl rfl rfl rfl
end Go.Proofs.YtbakanofkghmiaaGreat
