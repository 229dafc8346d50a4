/-
  How an order's level is found in the tree, or grown, proved by walking the function.
-/
import Derived.Test.YtopjoogdpjaocaaGreatTj04
set_option linter.unusedVariables false
set_option maxHeartbeats 6400000
set_option maxRecDepth 100000
namespace Go.Proofs.YtopjoogdpjaocaaGreat
open Go.RowKit
theorem better_b (a c:Int) (w:World) :
  Calls Tryz.prog 141 #[.agg #[],.int .i64 a,.int .i64 c] w fun e w'=>e = .returned (.bool (decide (c < a)))∧w.grownBy w' none:=by
 go_enter Tryz.func141,Tryz.ntmps141
 go_wp2_with fail
 go_ret
 exact ⟨rfl,World.grownBy_alloc _ _ _⟩
theorem method_b (w:World):Sem.run Tryz.prog (method 298 153 (.agg #[]) "loop.example/g00092/impl.better") w = .ok (141,.agg #[]) w:=by kernel_rfl
theorem part_b {w:World} {b:Nat} (h:∃ cur,w.heap[b]? = some (.cells cur 171 (0,0))):Sem.run Tryz.prog (partAt ⟨b,0,none⟩ 0 0) w = .ok ⟨b,0,none⟩ w:=by
 obtain ⟨cur,h⟩:=h
 have hc:Tryz.prog.cellsOf 171 = 318:=by kernel_rfl
 have hy:byteOfCell Tryz.prog Tryz.prog.depth 171 0 = some 0:=by kernel_rfl
 have hs:w.shape? b = some (171,cur.size):=by simp [World.shape?,h]
 simp [partAt,byteOf,noView,viewAt,hs,hc,hy]
set_option maxRecDepth 100000 in
set_option maxHeartbeats 400000 in
theorem levelFor_b (b:Nat) (S:TS) (t:Tr) (o:Od) (w:World) (hT:TM 171 w b S) (hi:TI true S t) (hlc:S.lc < 20) :
  Calls Tryz.prog 120 #[.pointer (some ⟨b,0,none⟩),.agg #[.int .i64 o.id,.int .i64 o.side,.int .i64 o.ticks,.int .i64 o.left,.int .i64 o.life,.string o.tag]] w fun e w' =>
   ∃ (h:Nat),e = .returned (.int .i64 h)∧LFEnd true 171 b S t o w h w':=by
 have HT:=hide hT
 have HI:=hide hi
 clear hT hi
 go_enter Tryz.func120,Tryz.ntmps120
 go_wp2_with fail
 have HW:Hid (∃ W,W = (w.alloc (Obj.cells #[.int .i64 o.id,.int .i64 o.side,.int .i64 o.ticks,.int .i64 o.left,.int .i64 o.life,.string o.tag] 78))∧W.rangeAt w.heap.size 0 o.vs∧TM 171 W b S∧w.grownBy W (some b)∧w.heap.size < W.heap.size∧b ≠ w.heap.size) :=
  ⟨_,rfl,zh w o.vs _,zan (za HT) (Below.heap_alloc w _ _ (tm_lt (za HT))),World.grownBy_alloc _ _ _,by rw [ze]; omega,by have:=tm_lt (za HT); omega⟩
 obtain ⟨W,hW,hWW⟩:=za HW
 rw [← hW]
 have HW2:=hide hWW
 clear hW hWW HW HT
 go_loopg [5] (t.hs.length) (fun k p wr=>LFI true b S t o.ticks W k p wr)
 case atStart=>exact ⟨[],t,rfl,Nat.le_refl _,way_start (za HI) _,World.grownBy.refl _ _⟩
 case round =>
  obtain ⟨c,u,rfl,hk,hw,hg⟩:=hrel
  have HWay:=hide hw
  have HG:=hide hg
  have HK:=hide hk
  have hT:=zcg (za HW2).2.1 hg (by simp)
  have c0:=cur_cell hT (zR c) (cur_ok (za HI) hw hlc)
  obtain ⟨o0,o1,o2,o3,o4,o5⟩:=zD (zu (za HW2).1 hg (za HW2).2.2.2.1 (by simp))
  clear hk hw hg
  by_cases ha:S.rd (zR c) = 0
  ·have hr0:=hT.lc
   have hf:=hT.fr
   have HA0:=hide ha
   rw [ha] at c0
   have hlc':(S.lc:Int) < 20:=by omega
   have e1:((S.lc + 1:Nat):Int) = (S.lc:Int) + 1:=by omega
   have hok:=cur_ok (za HI) (za HWay) hlc
   have t1:=tm_lc hT (S.lc + 1)
   have t2:=tm_cur t1 (zR c) hok (S.lc + 1)
   rw [e1] at t1 t2
   have d2:_ = _:=(cur_cell t1 (zR c) hok).trans (congrArg (fun x:Nat=>some (Value.int .i64 x)) (show TS.rd _ (zR c) = 0 from by rw [← ha]; cases (zR c) <;> rfl))
   have d3:_ = _:=t2.lc
   rw [(wr_same _ _ _).1] at d3
   simp only [e1] at d3
   have g1:=t1.fr
   have g2:=t2.fr
   obtain ⟨n0,n1,n2,n3,-⟩:=zK (t2.nd (S.lc + 1) (by omega))
   have hb:b ≠ w.heap.size:=(za HW2).2.2.2.2
   have p1:((wr.setCell ⟨b,1,none⟩ (.int .i64 ((S.lc:Int) + 1))).setCell ⟨b,(zR c).off,none⟩ (.int .i64 ((S.lc:Int) + 1))).cell? ⟨w.heap.size,0 + 1,none⟩ = some (.int .i64 o.side):=by
    rw [World.cell?_setCell_other _ _ _ _ (fun e=>hb (congrArg Addr.block e)),World.cell?_setCell_other _ _ _ _ (fun e=>hb (congrArg Addr.block e))]; exact o1
   have p2:((wr.setCell ⟨b,1,none⟩ (.int .i64 ((S.lc:Int) + 1))).setCell ⟨b,(zR c).off,none⟩ (.int .i64 ((S.lc:Int) + 1))).cell? ⟨w.heap.size,0 + 2,none⟩ = some (.int .i64 o.ticks):=by
    rw [World.cell?_setCell_other _ _ _ _ (fun e=>hb (congrArg Addr.block e)),World.cell?_setCell_other _ _ _ _ (fun e=>hb (congrArg Addr.block e))]; exact o2
   have HT2:=hide t2
   have HB:=hide hb
   clear ha hT t1 t2 hok hb
   go_wp2_with fail
   have HG4:Hid (wr.grownBy ((wr.setCell ⟨b,1,none⟩ (.int .i64 ((S.lc:Int) + 1))).setCell ⟨b,(zR c).off,none⟩ (.int .i64 ((S.lc:Int) + 1))) (some b)):=zL (zL (World.grownBy.refl _ _) _ _) _ _
   generalize hW4:((wr.setCell ⟨b,1,none⟩ (.int .i64 ((S.lc:Int) + 1))).setCell ⟨b,(zR c).off,none⟩ (.int .i64 ((S.lc:Int) + 1))) = W4 at *
   rw [← e1] at d3
   obtain ⟨m,hm⟩:∃ m,m = S.lc + 1:=⟨_,rfl⟩
   rw [← hm] at d3 n0 n1 n2 n3
   have hm21:(m:Int) < 21:=by omega
   have HM:=hide hm
   clear hW4 hm e1 d2 hr0 hf g1 c0 o0 o1 o2 o3 o4 o5 hlc'
   go_region
   have t3:=za HT2
   have t4:=zbi t3 (S.lc + 1) 0 (by omega) (by omega) (.int .i64 o.side) { (TS.nd _ (S.lc + 1)) with side:=o.side } rfl _ rfl
   have t5:=zbi t4 (S.lc + 1) 1 (by omega) (by omega) (.int .i64 o.ticks) { (TS.nd _ (S.lc + 1)) with ticks:=o.ticks } rfl _ rfl
   have t6:=zbi t5 (S.lc + 1) 2 (by omega) (by omega) (.int .i64 0) { (TS.nd _ (S.lc + 1)) with qty:=0 } rfl _ rfl
   have t7:=zbi t6 (S.lc + 1) 3 (by omega) (by omega) (.int .i64 0) { (TS.nd _ (S.lc + 1)) with count:=0 } rfl _ rfl
   have HG7:=hide (gr_drew (zL (zL (zL (zL (za HG4) (2 + m * 8) (.int .i64 o.side)) (2 + m * 8 + 1) (.int .i64 o.ticks)) (2 + m * 8 + 2) (.int .i64 0)) (2 + m * 8 + 3) (.int .i64 0)))
   rw [← za HM] at t7
   simp only [zbM,zp] at t7
   have hS:_ = S.grow (zR c) o.side o.ticks:=grow_eq S (zR c) o m (za HM)
   rw [hS] at t7
   have d7:_ = some (Value.int .i64 (m:Int)):=t7.lc.trans (by rw [za HM]; rfl)
   have HT7:=hide t7
   clear t3 t4 t5 t6 t7 n0 n1 n2 n3 d3 p1 p2
   generalize (((W4.setCell ⟨b,2 + m * 8,none⟩ (.int .i64 o.side)).setCell ⟨b,2 + m * 8 + 1,none⟩ (.int .i64 o.ticks)).setCell ⟨b,2 + m * 8 + 2,none⟩ (.int .i64 0)).setCell ⟨b,2 + m * 8 + 3,none⟩ (.int .i64 0) = W7 at *
   go_wp2_with fail
   go_ret
   exact ⟨m,rfl,_,zan (za HT7) rfl,(za HW2).2.2.1.trans (((za HG).but _).trans (za HG7)),.inr ⟨c,u,za HWay,za HA0,za HM,rfl⟩⟩
  ·have ham:=way_at (za HWay) rfl ha
   have har:=(za HI).range _ ham
   obtain ⟨a,hae⟩:∃ a,a = S.rd (zR c):=⟨_,rfl⟩
   rw [← hae] at c0 ha ham har
   have HAE:=hide hae
   have ha':¬ ((a:Int) = 0):=by omega
   have ha21:(a:Int) < 21:=by omega
   obtain ⟨n0,n1,n2,n3,n4,n5,n6,n7⟩:=zK (hT.nd a (by omega))
   have HTM:=hide hT
   have hpt:∀ w',wr.grownBy w' none→Sem.run Tryz.prog (partAt ⟨b,0,none⟩ 0 0) w' = .ok ⟨b,0,none⟩ w':=fun w' h=>part_b (zcg (za HTM) h (by simp)).obj
   have HPT:=hide hpt
   have HN1:=hide (fun w' (h:wr.grownBy w' none)=>h.cell n1 (by simp))
   have HO2:=hide (fun w' (h:wr.grownBy w' none)=>h.cell o2 (by simp))
   clear hae hT hpt
   go_wp2_with fail
   go_quiet (fail)
   go_wp2_with fail
   refine zat (W:=wr) (by kernel_rfl) (by kernel_rfl) ⟨rfl,rfl,rfl,Nat.le_refl _,fun _ _ _=>rfl⟩ ?_
   iterate 12 (
    refine zah (v:=?_) ?_ ?_ ?_
    rotate_left
    ·rfl
    ·intro w' hw'
     have f1:=za HN1 w' hw'
     have f2:=za HO2 w' hw'
     have f3:=za HPT w' hw'
     go_simp
     try rfl
    intro K hK
    go_simp
    refine hK _ ?_
    clear hK K)
   refine zah (v:=.bool (decide ((S.nd a).ticks < o.ticks))) ?_ ?_ ?_
   ·rfl
   ·intro w' hw'
    have hm:=method_b w'
    go_simp
    refine (better_b _ _ _).mono ?_
    rintro e w3 ⟨rfl,hg3⟩
    exact ⟨rfl,hw'.trans hg3⟩
   intro K hK
   go_simp
   refine hK _ ?_
   clear hK K
   refine zah (v:=?_) ?_ ?_ ?_
   rotate_left
   ·rfl
   ·intro w' hw'
    go_simp
    try rfl
   intro K hK
   go_simp
   refine hK _ ?_
   clear hK K
   refine wpQuiet_nil ?_
   intro w2 hg2
   have HG2:=hide hg2
   clear hg2
   by_cases h1:(S.nd a).ticks < o.ticks
   ·have h1':decide ((S.nd a).ticks < o.ticks) = true:=by simpa using h1
    go_wp2_with fail
    obtain ⟨l,r,rfl,hw2⟩:=way_be (za HI) (za HWay) (za HAE).symm ha h1
    go_roundg (l.hs.length)
    case measure=>have:=za HK; simp [Tr.hs] at this; omega
    case rel=>exact ⟨_,l,rfl,Nat.le_refl _,hw2,(za HG).trans (za HG2)⟩
   ·have h1':decide ((S.nd a).ticks < o.ticks) = false:=by simpa using h1
    go_wp2_with fail
    refine zat (W:=wr) (by kernel_rfl) (by kernel_rfl) (za HG2) ?_
    iterate 12 (
     refine zah (v:=?_) ?_ ?_ ?_
     rotate_left
     ·rfl
     ·intro w' hw'
      have f1:=za HN1 w' hw'
      have f2:=za HO2 w' hw'
      have f3:=za HPT w' hw'
      go_simp
      try rfl
     intro K hK
     go_simp
     refine hK _ ?_
     clear hK K)
    refine zah (v:=.bool (decide (o.ticks < (S.nd a).ticks))) ?_ ?_ ?_
    ·rfl
    ·intro w' hw'
     have hm:=method_b w'
     go_simp
     refine (better_b _ _ _).mono ?_
     rintro e w3 ⟨rfl,hg3⟩
     exact ⟨rfl,hw'.trans hg3⟩
    intro K hK
    go_simp
    refine hK _ ?_
    clear hK K
    refine zah (v:=?_) ?_ ?_ ?_
    rotate_left
    ·rfl
    ·intro w' hw'
     go_simp
     try rfl
    intro K hK
    go_simp
    refine hK _ ?_
    clear hK K
    refine wpQuiet_nil ?_
    intro w3 hg3
    have HG3:=hide hg3
    clear hg3
    by_cases h2:o.ticks < (S.nd a).ticks
    ·have h2':decide (o.ticks < (S.nd a).ticks) = true:=by simpa using h2
     go_wp2_with fail
     obtain ⟨l,r,rfl,hw2⟩:=way_wo (za HI) (za HWay) (za HAE).symm ha h2
     go_roundg (r.hs.length)
     case measure=>have:=za HK; simp [Tr.hs] at this; omega
     case rel=>exact ⟨_,r,rfl,Nat.le_refl _,hw2,(za HG).trans (za HG3)⟩
    ·have h2':decide (o.ticks < (S.nd a).ticks) = false:=by simpa using h2
     have c3:=(za HG3).cell c0 (by simp)
     go_wp2_with fail
     go_ret
     have hG:=(za HG).trans (za HG3)
     exact ⟨a,rfl,S,zcg (za HW2).2.1 hG (by simp),(za HW2).2.2.1.trans (hG.but _),.inl ⟨ham,by omega,rfl⟩⟩
set_option maxRecDepth 100000 in
set_option maxHeartbeats 400000 in
theorem add_b (b:Nat) (sd:Int) (seq:List Od) (o:Od) (w:World) (h:zak 171 true w b sd seq) (hsd:o.side = sd) (hn:seq.length < 20) (hl:∀ o' ∈ seq,0 ≤ o'.left∧o'.left ≤ 1000000) (hlo:0 ≤ o.left∧o.left ≤ 1000000) :
  Calls Tryz.prog 114 #[.pointer (some ⟨b,0,none⟩),.agg #[.int .i64 o.id,.int .i64 o.side,.int .i64 o.ticks,.int .i64 o.left,.int .i64 o.life,.string o.tag]] w fun e w' =>
   e = .returned (.tuple #[])∧zak 171 true w' b sd (seq ++ [o])∧w.grownBy w' (some b):=by
 obtain ⟨S,t,hT,hi,hq,hlc⟩:=h
 have HI:=hide hi
 have HQ:=hide hq
 have HT:=hide hT
 have HLC:=hide hlc
 have HL:=hide hl
 have HSD:=hide hsd
 have HOC:=hide hq.oc
 have hoc':(S.oc:Int) < 20:=by have:=hq.oc; omega
 have e1:((S.oc + 1:Nat):Int) = (S.oc:Int) + 1:=by omega
 have hb:b ≠ w.heap.size:=by have:=tm_lt hT; omega
 have hrange:World.rangeAt (w.alloc (Obj.cells #[.int .i64 o.id,.int .i64 o.side,.int .i64 o.ticks,.int .i64 o.left,.int .i64 o.life,.string o.tag] 78)) w.heap.size 0 o.vs:=zh w o.vs 78
 have hTW:TM 171 (w.alloc (Obj.cells #[.int .i64 o.id,.int .i64 o.side,.int .i64 o.ticks,.int .i64 o.left,.int .i64 o.life,.string o.tag] 78)) b S:=zan hT (Below.heap_alloc w _ _ (tm_lt hT))
 have c1:=hTW.oc
 have f1:=hTW.fr
 have hT1:=tm_oc hTW (S.oc + 1)
 have hR1:Hid (World.rangeAt (World.setCell (w.alloc (Obj.cells #[.int .i64 o.id,.int .i64 o.side,.int .i64 o.ticks,.int .i64 o.left,.int .i64 o.life,.string o.tag] 78)) ⟨b,170,none⟩ (.int .i64 ((S.oc + 1:Nat):Int))) w.heap.size 0 o.vs):=fun j u hu=>by
  rw [World.cell?_setCell_other _ _ _ _ (fun e=>hb (congrArg Addr.block e))]; exact hrange j u hu
 have hG1:Hid (w.grownBy (World.setCell (w.alloc (Obj.cells #[.int .i64 o.id,.int .i64 o.side,.int .i64 o.ticks,.int .i64 o.left,.int .i64 o.life,.string o.tag] 78)) ⟨b,170,none⟩ (.int .i64 ((S.oc + 1:Nat):Int))) (some b)):=zL (World.grownBy_alloc w (Obj.cells #[.int .i64 o.id,.int .i64 o.side,.int .i64 o.ticks,.int .i64 o.left,.int .i64 o.life,.string o.tag] 78) _) _ _
 have HT1:=hide hT1
 have hs1:Hid (w.heap.size < (World.heap (World.setCell (w.alloc (Obj.cells #[.int .i64 o.id,.int .i64 o.side,.int .i64 o.ticks,.int .i64 o.left,.int .i64 o.life,.string o.tag] 78)) ⟨b,170,none⟩ (.int .i64 ((S.oc + 1:Nat):Int)))).size):=(by
  have:=World.block_lt_of_cell? _ _ (hR1 0 _ rfl)
  exact this)
 clear hi hq hlc hl hsd hT hTW hrange hT1
 go_enter Tryz.func114,Tryz.ntmps114
 go_wp2_with fail
 rw [← e1]
 have em:∃ m,m = S.oc + 1:=⟨_,rfl⟩
 obtain ⟨m,hm⟩:=em
 rw [← hm] at hR1 hG1 HT1 hs1 ⊢
 generalize hW1:World.setCell (w.alloc (Obj.cells #[.int .i64 o.id,.int .i64 o.side,.int .i64 o.ticks,.int .i64 o.left,.int .i64 o.life,.string o.tag] 78)) ⟨b,170,none⟩ (.int .i64 (m:Int)) = W1 at hR1 hG1 HT1 hs1 ⊢
 have HM:=hide hm
 have hm21:(m:Int) < 21:=by omega
 obtain ⟨o0,o1,o2,o3,o4,o5⟩:=zD (za hR1)
 obtain ⟨q0,q1,q2,q3,q4,q5,q6⟩:=zcc ((za HT1).qo m (by omega))
 have f2:=(za HT1).fr
 have hlc20:S.lc < 20:=by have:=za HLC; omega
 have HB:=hide hb
 clear hW1 hm e1 c1 f1 hoc' hb
 go_region
 have HT2:=hide (tm_put (za HT1) m (by omega) o)
 have HG2:=hide (gr_put (w:=W1) (b:=b) o m)
 generalize hW2:(((((((W1.setCell ⟨b,171 + m * 7,none⟩ (.int .i64 o.id)).setCell ⟨b,171 + m * 7 + 1,none⟩ (.int .i64 o.side)).setCell ⟨b,171 + m * 7 + 2,none⟩ (.int .i64 o.ticks)).setCell ⟨b,171 + m * 7 + 3,none⟩ (.int .i64 o.left)).setCell
   ⟨b,171 + m * 7 + 4,none⟩ (.int .i64 o.life)).setCell ⟨b,171 + m * 7 + 5,none⟩ (.string o.tag)).setCell ⟨b,171 + m * 7 + 6,none⟩ (.int .i64 0)) = W2 at HT2 HG2 ⊢
 clear hW2 o0 o1 o2 o3 o4 o5 q0 q1 q2 q3 q4 q5 q6 f2
 rw [show ({ root:=S.root,lc:=S.lc,oc:=m,nd:=S.nd,qo:=upd S.qo m ⟨o,0⟩ }:TS) = S.lay o from by rw [za HM]; rfl] at HT2
 have hR2:=hide (zu (za hR1) (za HG2) (za hs1) (fun e=>za HB (Option.some.inj e).symm))
 obtain ⟨o0,o1,o2,o3,o4,o5⟩:=zD (za hR2)
 have HTI:=hide (ti_lay o (za HI))
 have HT2d:Hid (TM 171 W2.drew.drew b (S.lay o)):=zan (za HT2) rfl
 go_wp2_with fail
 go_region_with (go_at_call 120; refine (levelFor_b b (S.lay o) t o W2.drew.drew (za HT2d) (za HTI) hlc20).mono ?_; rintro e W3 ⟨h,rfl,hend⟩; have HE:=hide hend; have hh21:(h:Int) < 21:=lf_lt hend (za HTI) hlc20; clear hend)
 obtain ⟨S3,hT3,hg3,hcase⟩:=za HE
 rw [← za HSD] at HQ
 obtain ⟨r1,r2,r3,r4,r5,t',r6,r7⟩:=add_ready (za HI) (za HQ) hcase
 have R4:=hide r4
 have R6:=hide r6
 have R7:=hide r7
 have R23:Hid ((0:Int) ≤ (S3.nd h).qty∧(S3.nd h).qty ≤ 20000000∧(0:Int) ≤ (S3.nd h).count∧(S3.nd h).count ≤ 20):=by
  have hb:=sumL_bound (atK seq o.ticks) (fun o' ho'=>za HL o' (List.mem_filter.1 ho').1)
  have hle:(atK seq o.ticks).length ≤ seq.length:=List.length_filter_le _ _
  rw [r2,r3]
  refine ⟨hb.1,?_,by omega,by omega⟩
  have:=hb.2
  have h20:((atK seq o.ticks).length:Int) ≤ 20:=by omega
  omega
 have HT3:=hide hT3
 have HG3:Hid (W2.grownBy W3 (some b)):=⟨hg3.os,hg3.tape,hg3.output,hg3.size,hg3.block⟩
 have hR3:=hide (zu (za hR2) (za HG3) (Nat.lt_of_lt_of_le (za hs1) (za HG2).size) (fun e=>za HB (Option.some.inj e).symm))
 have hy21:(S3.nd h).yo < 21:=by omega
 have hm1:m = 1 + seq.length:=by have:=za HM; have:=za HOC; omega
 have HM1:=hide hm1
 clear hT3 hg3 hcase r1 r2 r3 r4 r5 r6 r7 o0 o1 o2 o3 o4 o5 hm1 HE
 have hb3:=(za HT3).fr
 obtain ⟨n0,n1,n2,n3,n4,n5,n6,n7⟩:=zK ((za HT3).nd h (by omega))
 have h21:h < 21:=by omega
 clear n0 n1 n2 n3 n4 n5
 by_cases hy:(S3.nd h).yo = 0
 ·have t5:=zbi (za HT3) h 6 h21 (by omega) (.int .i64 m) { S3.nd h with el:=m } rfl _ rfl
  have t6:=zbi t5 h 7 h21 (by omega) (.int .i64 m) { (TS.nd _ h) with yo:=m } rfl _ rfl
  simp only [zbM,zp] at t6
  obtain ⟨-,-,-,-,-,-,-,k7⟩:=zK (t5.nd h h21)
  have f5:=t5.fr
  rw [hy] at n7
  have HG6:=hide (zL (zL (World.grownBy.refl W3 (some b)) (2 + h * 8 + 6) (.int .i64 m)) (2 + h * 8 + 7) (.int .i64 m))
  have HT6:=hide t6
  clear t5 t6
  go_wp2_with fail
  generalize hW6:(W3.setCell ⟨b,2 + h * 8 + 6,none⟩ (.int .i64 m)).setCell ⟨b,2 + h * 8 + 7,none⟩ (.int .i64 m) = W6 at HG6 HT6 ⊢
  clear HT3 hW6
  have f6:=(za HT6).fr
  obtain ⟨-,-,m2,m3,-⟩:=zK ((za HT6).nd h h21)
  simp only [zp] at m2 m3
  have hR6:=zu (za hR3) (za HG6) (Nat.lt_of_lt_of_le (za hs1) (Nat.le_trans (za HG2).size (za HG3).size)) (fun e=>za HB (Option.some.inj e).symm)
  obtain ⟨-,-,-,x3,-⟩:=zD hR6
  obtain ⟨b1,b2,b3,b4⟩:=za R23
  have t7:=zbi (za HT6) h 2 h21 (by omega) (.int .i64 ((S3.nd h).qty + o.left)) { (TS.nd _ h) with qty:=(S3.nd h).qty + o.left } rfl _ rfl
  have t8:=zbi t7 h 3 h21 (by omega) (.int .i64 ((S3.nd h).count + 1)) { (TS.nd _ h) with count:=(S3.nd h).count + 1 } rfl _ rfl
  obtain ⟨-,-,-,y3,-⟩:=zK (t7.nd h h21)
  have f7:=t7.fr
  simp only [zbM,zp] at t8 y3
  have HT8:=hide t8
  have HG8:=hide (zL (zL (World.grownBy.refl W6 (some b)) (2 + h * 8 + 2) (.int .i64 ((S3.nd h).qty + o.left))) (2 + h * 8 + 3) (.int .i64 ((S3.nd h).count + 1)))
  have hsum:wrap64 ((S3.nd h).qty + o.left) = (S3.nd h).qty + o.left:=by unfold wrap64; omega
  clear t7 t8 hR6
  go_region
  try simp only [IntKind.wrap_i64]
  try rw [show (IntKind.i64.wrap ((S3.nd h).qty + o.left)) = (S3.nd h).qty + o.left from by rw [IntKind.wrap_i64]; exact hsum]
  generalize hW7:W6.setCell ⟨b,2 + h * 8 + 2,none⟩ (.int .i64 ((S3.nd h).qty + o.left)) = W7 at *
  go_wp2_with fail
  go_end0
  have HS8:Hid (_ = S3.link h m o.left):=link_eq0 S3 h m o.left hy
  rw [za HS8] at HT8
  rw [za HM1] at HT8
  refine ⟨rfl,?_,?_⟩
  ·rw [← za HSD]
   refine ⟨_,t',zan (za HT8) rfl,za R6,za R7,?_⟩
   have h1:=za R4
   have h2:=za HLC
   show S3.lc ≤ _
   simp; omega
  ·exact zaW (((((za hG1).trans (za HG2)).trans (za HG3)).trans (za HG6)).trans (za HG8)) rfl rfl rfl rfl
 ·have t5:=tm_qo (za HT3) (S3.nd h).yo 6 hy21 (by omega) (.int .i64 m) { S3.qo (S3.nd h).yo with yg:=m } rfl _ rfl
  have t6:=zbi t5 h 7 h21 (by omega) (.int .i64 m) { (TS.nd _ h) with yo:=m } rfl _ rfl
  obtain ⟨-,-,-,-,-,-,-,k7⟩:=zK (t5.nd h h21)
  obtain ⟨-,-,-,-,-,-,q6⟩:=zcc ((za HT3).qo (S3.nd h).yo hy21)
  have f5:=t5.fr
  have hyi:((S3.nd h).yo:Int) < 21:=by omega
  have hy0:¬ (((S3.nd h).yo:Int) = 0):=by omega
  have HG6:=hide (zL (zL (World.grownBy.refl W3 (some b)) (171 + (S3.nd h).yo * 7 + 6) (.int .i64 m)) (2 + h * 8 + 7) (.int .i64 m))
  have HT6:=hide t6
  clear t5 t6
  go_wp2_with fail
  go_region
  go_wp2_with fail
  generalize hW6:(W3.setCell ⟨b,171 + (S3.nd h).yo * 7 + 6,none⟩ (.int .i64 m)).setCell ⟨b,2 + h * 8 + 7,none⟩ (.int .i64 m) = W6 at HG6 HT6 ⊢
  clear HT3 hW6
  have f6:=(za HT6).fr
  obtain ⟨-,-,m2,m3,-⟩:=zK ((za HT6).nd h h21)
  simp only [zp] at m2 m3
  have hR6:=zu (za hR3) (za HG6) (Nat.lt_of_lt_of_le (za hs1) (Nat.le_trans (za HG2).size (za HG3).size)) (fun e=>za HB (Option.some.inj e).symm)
  obtain ⟨-,-,-,x3,-⟩:=zD hR6
  obtain ⟨b1,b2,b3,b4⟩:=za R23
  have t7:=zbi (za HT6) h 2 h21 (by omega) (.int .i64 ((S3.nd h).qty + o.left)) { (TS.nd _ h) with qty:=(S3.nd h).qty + o.left } rfl _ rfl
  have t8:=zbi t7 h 3 h21 (by omega) (.int .i64 ((S3.nd h).count + 1)) { (TS.nd _ h) with count:=(S3.nd h).count + 1 } rfl _ rfl
  obtain ⟨-,-,-,y3,-⟩:=zK (t7.nd h h21)
  have f7:=t7.fr
  simp only [zbM,zp] at t8 y3
  have HT8:=hide t8
  have HG8:=hide (zL (zL (World.grownBy.refl W6 (some b)) (2 + h * 8 + 2) (.int .i64 ((S3.nd h).qty + o.left))) (2 + h * 8 + 3) (.int .i64 ((S3.nd h).count + 1)))
  have hsum:wrap64 ((S3.nd h).qty + o.left) = (S3.nd h).qty + o.left:=by unfold wrap64; omega
  clear t7 t8 hR6
  go_region
  try simp only [IntKind.wrap_i64]
  try rw [show (IntKind.i64.wrap ((S3.nd h).qty + o.left)) = (S3.nd h).qty + o.left from by rw [IntKind.wrap_i64]; exact hsum]
  generalize hW7:W6.setCell ⟨b,2 + h * 8 + 2,none⟩ (.int .i64 ((S3.nd h).qty + o.left)) = W7 at *
  go_wp2_with fail
  go_end0
  have HS8:Hid (_ = S3.link h m o.left):=link_eq1 S3 h m o.left hy
  rw [za HS8] at HT8
  rw [za HM1] at HT8
  refine ⟨rfl,?_,?_⟩
  ·rw [← za HSD]
   refine ⟨_,t',zan (za HT8) rfl,za R6,za R7,?_⟩
   have h1:=za R4
   have h2:=za HLC
   show S3.lc ≤ _
   simp; omega
  ·exact zaW (((((za hG1).trans (za HG2)).trans (za HG3)).trans (za HG6)).trans (za HG8)) rfl rfl rfl rfl
theorem zNd_b:∀ i,i < 21→(Tryz.zeroCells171.toList.drop (2 + i * 8)).take 8 = zNd.vs
 | 0,_=>by kernel_rfl
 | 1,_=>by kernel_rfl
 | 2,_=>by kernel_rfl
 | 3,_=>by kernel_rfl
 | 4,_=>by kernel_rfl
 | 5,_=>by kernel_rfl
 | 6,_=>by kernel_rfl
 | 7,_=>by kernel_rfl
 | 8,_=>by kernel_rfl
 | 9,_=>by kernel_rfl
 | 10,_=>by kernel_rfl
 | 11,_=>by kernel_rfl
 | 12,_=>by kernel_rfl
 | 13,_=>by kernel_rfl
 | 14,_=>by kernel_rfl
 | 15,_=>by kernel_rfl
 | 16,_=>by kernel_rfl
 | 17,_=>by kernel_rfl
 | 18,_=>by kernel_rfl
 | 19,_=>by kernel_rfl
 | 20,_=>by kernel_rfl
 | n + 21,h=>absurd h (by omega)
theorem zQo_b:∀ i,i < 21→(Tryz.zeroCells171.toList.drop (171 + i * 7)).take 7 = zQo.vs
 | 0,_=>by kernel_rfl
 | 1,_=>by kernel_rfl
 | 2,_=>by kernel_rfl
 | 3,_=>by kernel_rfl
 | 4,_=>by kernel_rfl
 | 5,_=>by kernel_rfl
 | 6,_=>by kernel_rfl
 | 7,_=>by kernel_rfl
 | 8,_=>by kernel_rfl
 | 9,_=>by kernel_rfl
 | 10,_=>by kernel_rfl
 | 11,_=>by kernel_rfl
 | 12,_=>by kernel_rfl
 | 13,_=>by kernel_rfl
 | 14,_=>by kernel_rfl
 | 15,_=>by kernel_rfl
 | 16,_=>by kernel_rfl
 | 17,_=>by kernel_rfl
 | 18,_=>by kernel_rfl
 | 19,_=>by kernel_rfl
 | 20,_=>by kernel_rfl
 | n + 21,h=>absurd h (by omega)
theorem zTree_b (w:World) (sd:Int):zak 171 true (w.alloc (Obj.cells Tryz.zeroCells171 171)) w.heap.size sd [] :=
 ⟨zTS,.nil,tm_zero w _ _ (by kernel_rfl) (by kernel_rfl) zNd_b (by kernel_rfl) zQo_b,ti_zero _,qi_zero _,Nat.le_refl _⟩
set_option maxRecDepth 100000 in
set_option maxHeartbeats 400000 in
theorem plant_b (v:Value) (l:List Od) (sd:Int) (w:World) (hr:RdR Od.vs 6 w v l) (hn:l.length ≤ 20) (hl:∀ o' ∈ l,0 ≤ o'.left∧o'.left ≤ 1000000) :
  Calls Tryz.prog 107 #[v,.int .i64 sd] w fun e w' =>
   e = .returned (.pointer (some ⟨w.heap.size,0,none⟩))∧zak 171 true w' w.heap.size sd (zz l sd)∧Below w.heap.size w w':=by
 obtain ⟨a,cap,rfl,hlen,hc⟩:=hr
 have hcell:∀ (k:Nat) (c:Od),l[k]? = some c→∃ b off,a = some ⟨b,off,none⟩∧b < w.heap.size∧w.rangeAt b (off + k * 6) c.vs:=by
  intro k c hk
  obtain ⟨b,off,h1,h2,h3⟩:=hc (by intro h; rw [h] at hk; simp at hk)
  exact ⟨b,off,h1,h2,h3 k c hk⟩
 have HC:=hide hcell
 have HL:=hide hl
 have HN:=hide hn
 clear hcell hc hl
 have HZ:=hide (zTree_b w sd)
 have HB0:Hid (Below w.heap.size w (w.alloc (Obj.cells Tryz.zeroCells171 171))):=(Below.refl _ _).alloc (Nat.le_refl _) _
 go_enter Tryz.func107,Tryz.ntmps107
 go_wp2_with fail
 generalize (w.alloc (Obj.cells Tryz.zeroCells171 171)) = W0 at HZ HB0 ⊢
 go_loopw [11] (fun i wr=>∃ k:Nat,k ≤ l.length∧i = .int .i64 k∧zak 171 true wr w.heap.size sd (zz (l.take k) sd)∧Below w.heap.size w wr) (fun i _=>l.length - (intOf i).toNat)
 case atStart=>exact ⟨0,Nat.zero_le _,rfl,za HZ,za HB0⟩
 case round =>
  obtain ⟨k,hk,rfl,htr,hbel⟩:=hrel
  have HTR:=hide htr
  have HBE:=hide hbel
  clear htr hbel HZ HB0
  by_cases hlt:k < l.length
  ·obtain ⟨c,hkc⟩:∃ c,l[k]? = some c:=⟨_,List.getElem?_eq_getElem hlt⟩
   have HKC:=hide hkc
   obtain ⟨b,off,rfl,hb,hcl⟩:=za HC k c hkc
   obtain ⟨g0,g1,g2,g3,g4,g5⟩:=zD (zb hcl (za HBE) hb)
   have hlt':(k:Int) < l.length:=by omega
   clear hkc hcl hb
   by_cases hsd:c.side = sd
   ·have HIT:Hid (zz (l.take (k + 1)) c.side = zz (l.take k) c.side ++ [c]):=ofSide_snoc l k c (za HKC)
    subst hsd
    have hlk:(zz (l.take k) c.side).length < 20:=by
     have h1:(zz (l.take k) c.side).length ≤ (l.take k).length:=List.length_filter_le _ _
     have h2:(l.take k).length ≤ k:=List.length_take_le _ _
     have h3:=za HN
     omega
    have HLK:=hide hlk
    have hcl:=za HL c (List.mem_of_getElem? (za HKC))
    have HCL:=hide hcl
    clear hlk hcl
    go_wp2_with fail
    refine (add_b w.heap.size c.side (zz (l.take k) c.side) c _ (zG (za HTR) (Below.heap_alloc wr _ _ (zaf (za HTR)))) rfl (za HLK) (fun o' ho'=>za HL o' (List.mem_of_mem_take (List.mem_filter.1 ho').1)) (za HCL)).mono ?_
    rintro e w2 ⟨rfl,htr2,hg2⟩
    rw [← za HIT] at htr2
    have HTR2:=hide htr2
    have HB2:=hide (((za HBE).alloc (za HBE).size _).grown hg2 (by rw [ze]; have:=(za HBE).size; omega) (fun g hg=>by obtain rfl:=Option.some.inj hg; exact Nat.le_refl _))
    clear htr2 hg2
    go_wp2_with fail
    go_roundw
    case rel=>exact ⟨k + 1,by omega,by go_num,za HTR2,za HB2⟩
    case measure=>simp [intOf]; omega
   ·have HIT:Hid (zz (l.take (k + 1)) sd = zz (l.take k) sd):=ofSide_skip l k c (za HKC) hsd
    go_wp2_with fail
    go_roundw
    case rel =>
     refine ⟨k + 1,by omega,by go_num,?_,?_⟩
     ·rw [za HIT]; exact zG (za HTR) (Below.heap_alloc wr _ _ (zaf (za HTR)))
     ·exact (za HBE).alloc (za HBE).size _
    case measure=>simp [intOf]; omega
  ·go_wp2_with fail
   go_ret
   have h:=za HTR
   rw [List.take_of_length_le (by omega)] at h
   exact ⟨rfl,h,za HBE⟩
end Go.Proofs.YtopjoogdpjaocaaGreat
