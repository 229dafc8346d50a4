/-
  The laws' own helpers on events: the size of one, and its copying.
-/
import Derived.Test.YtnphbkgfjanmgaaGreatDoorBj47
set_option linter.unusedVariables false
set_option maxHeartbeats 6400000
set_option maxRecDepth 100000
namespace Go.Proofs.YtnphbkgfjanmgaaGreatDoor
open Go.RowKit
theorem szEvent_any (e:Ev) (x:Int) (w:World) (h0:0 ≤ x) (Q:x ≤ 1073741824) (hg:e.cmd.g.size ≤ maxLen) :
  Calls Tryz.prog 15 #[evV e,I x] w fun r w'=>∃ y:Int,r = .returned (I y)∧y ≤ x∧yn w w':=by
 obtain ⟨xz,HX⟩:=fJ w e.vs 46
 have HB:=M xz
 have HS:=M (fun W=>szCmd_any e.cmd x W h0 Q hg)
 clear xz hg
 obtain ⟨xm,⟨ck,L,ct,F,cq,ci,X,cg⟩,id,xi,qty,xj,xh⟩:=e
 unfold evV
 unfold Ev.vs at HX HB
 simp only at HX HB HS ⊢
 go_enter Tryz.func15,Tryz.ntmps15
 refine fI fun hR xU=>?_
 go_wp2_with fail
 refine H xU _ _ ?_
 clear xU
 generalize (w.alloc (A (yv xm ck L ct F cq ci X cg id xi qty xj xh).toArray 46)) = W1 at HX HB ⊢
 obtain ⟨x0,x1,x2,x3,x4,x5,x6,x7,x8,x9,jP,jQ,jR,jS⟩:=yy (H HX)
 go_wp2_with fail
 refine (H HS W1).mono ?_
 rintro r W2 ⟨y,rfl,hy0,hy1,xJ⟩
 have xu:=M (fH (H HB) xJ)
 clear xJ HX
 by_cases hy:y < 0
 ·go_wp2_with fail
  go_ret
  exact ⟨-1,rfl,by omega,H xu⟩
 ·have hy':0 ≤ y:=by omega
  go_wp2_with fail
  go_ret
  exact ⟨y,rfl,hy1,H xu⟩
theorem toE_boxes (w:World) (us vs ws:List Value) (t u v:TypeId):Bx (((w.alloc (Obj.cells us.toArray t)).alloc (Obj.cells vs.toArray u)).alloc (Obj.cells ws.toArray v)) w.heap.size us∧Bx (((w.alloc (Obj.cells us.toArray t)).alloc (Obj.cells vs.toArray u)).alloc (Obj.cells ws.toArray v)) (w.heap.size + 1) vs∧Bx (((w.alloc (Obj.cells us.toArray t)).alloc (Obj.cells vs.toArray u)).alloc (Obj.cells ws.toArray v)) (w.heap.size + 2) ws∧yn w (((w.alloc (Obj.cells us.toArray t)).alloc (Obj.cells vs.toArray u)).alloc (Obj.cells ws.toArray v))∧(((w.alloc (Obj.cells us.toArray t)).alloc (Obj.cells vs.toArray u)).alloc (Obj.cells ws.toArray v)).heap.size = w.heap.size + 3:=by
 have s1:(w.alloc (Obj.cells us.toArray t)).heap.size = w.heap.size + 1:=by simp
 have s2:((w.alloc (Obj.cells us.toArray t)).alloc (Obj.cells vs.toArray u)).heap.size = w.heap.size + 2:=by simp
 have Q:=zq w us t
 have E:=zq (w.alloc (Obj.cells us.toArray t)) vs u
 have h3:=zq ((w.alloc (Obj.cells us.toArray t)).alloc (Obj.cells vs.toArray u)) ws v
 rw [s1] at E
 rw [s2] at h3
 have b1:Below (w.heap.size + 1) (w.alloc (Obj.cells us.toArray t)) ((w.alloc (Obj.cells us.toArray t)).alloc (Obj.cells vs.toArray u)):=(Below.refl _ _).alloc (by omega) _
 have b2:Below (w.heap.size + 2) ((w.alloc (Obj.cells us.toArray t)).alloc (Obj.cells vs.toArray u)) (((w.alloc (Obj.cells us.toArray t)).alloc (Obj.cells vs.toArray u)).alloc (Obj.cells ws.toArray v)):=(Below.refl _ _).alloc (by omega) _
 exact ⟨zg (zg Q b1 (by omega)) b2 (by omega),zg E b2 (by omega),h3,(((Below.refl _ w).alloc ya _).alloc (by omega) _).alloc (by omega) _,by simp⟩
theorem toEvent_any (e:Ev) (w:World):Calls Tryz.prog 17 #[evV e] w fun r w'=>r = .returned (evV e)∧yn w w':=by
 have hsf:=sfl
 have HT:=M (fun W=>toCmd_any e.cmd W)
 have qH:=M (toE_boxes w e.vs (yv 0 0 0 0 0 0 0 0 ⟨#[]⟩ 0 0 0 0 0) (yv 0 0 0 0 0 0 0 0 ⟨#[]⟩ 0 0 0 0 0) 46 52 52)
 obtain ⟨xm,⟨ck,L,ct,F,cq,ci,X,cg⟩,id,xi,qty,xj,xh⟩:=e
 unfold evV
 unfold Ev.vs at qH
 simp only at qH HT ⊢
 go_enter Tryz.func17,Tryz.ntmps17
 refine fI fun hR xU=>?_
 go_wp2_with fail
 refine H xU _ _ ?_
 clear xU
 refine fI fun hR xU=>?_
 go_wp2_with fail
 refine H xU _ _ ?_
 clear xU
 generalize (((w.alloc (A (yv xm ck L ct F cq ci X cg id xi qty xj xh).toArray 46)).alloc (A (yv 0 0 0 0 0 0 0 0 ⟨#[]⟩ 0 0 0 0 0).toArray 52)).alloc (A (yv 0 0 0 0 0 0 0 0 ⟨#[]⟩ 0 0 0 0 0).toArray 52)) = W1 at qH ⊢
 obtain ⟨hX,K,hO,hB,hZ⟩:=H qH
 obtain ⟨x0,x1,x2,x3,x4,x5,x6,x7,x8,x9,jP,jQ,jR,jS⟩:=yy (hX)
 have o0:=R hO 0 rfl
 have fo0:=zd hO 0 (by decide)
 have jA:=M (bd (j:=0) (u:=I xm) hO (by decide))
 have uB:=M (zP (j:=0) (u:=I xm) hX (show w.heap.size ≠ w.heap.size + 2 by omega))
 have vj:=M (zP (j:=0) (u:=I xm) K (show w.heap.size + 1 ≠ w.heap.size + 2 by omega))
 have ud:=M (hB.setCell (p:=(U (w.heap.size + 2) 0)) (show w.heap.size ≤ w.heap.size + 2 by omega) (I xm))
 have qM:Hid ((W1.setCell (U (w.heap.size + 2) 0) (I xm)).heap.size = w.heap.size + 3):=by show _ = _; rw [← hZ]; simp [World.setCell]
 clear hX K hO hB hZ qH
 refine fI fun hR xU=>?_
 go_wp2_with fail
 refine H xU _ _ ?_
 clear xU x0 o0 fo0 x1 x2 x3 x4 x5 x6 x7 x8 x9 jP jQ jR jS
 generalize (W1.setCell (U (w.heap.size + 2) 0) (I xm)) = W2 at jA uB vj ud qM ⊢
 obtain ⟨x0,x1,x2,x3,x4,x5,x6,x7,x8,x9,jP,jQ,jR,jS⟩:=yy (H uB)
 refine fI fun hR xU=>?_
 go_wp2_with fail
 refine (H HT W2).mono ?_
 rintro r W3 ⟨rfl,xM⟩
 have hz:=H qM
 have hX:=zg (H uB) xM (by omega)
 have K:=zg (H vj) xM (by omega)
 have hO:=zg (H jA) xM (by omega)
 have xL:=M (fH (H ud) xM)
 clear xM hz x0 x1 x2 x3 x4 x5 x6 x7 x8 x9 jP jQ jR jS
 have o0:=R (hO) 0 rfl
 have fo0:=zd (hO) 0 (by simp)
 have o1:=R (hO) 1 rfl
 have fo1:=zd (hO) 1 (by simp)
 have o2:=R (hO) 2 rfl
 have fo2:=zd (hO) 2 (by simp)
 have o3:=R (hO) 3 rfl
 have fo3:=zd (hO) 3 (by simp)
 have o4:=R (hO) 4 rfl
 have fo4:=zd (hO) 4 (by simp)
 have o5:=R (hO) 5 rfl
 have fo5:=zd (hO) 5 (by simp)
 have o6:=R (hO) 6 rfl
 have fo6:=zd (hO) 6 (by simp)
 have o7:=R (hO) 7 rfl
 have fo7:=zd (hO) 7 (by simp)
 have o8:=R (hO) 8 rfl
 have fo8:=zd (hO) 8 (by simp)
 have o9:=R (hO) 9 rfl
 have fo9:=zd (hO) 9 (by simp)
 have o10:=R (hO) 10 rfl
 have fo10:=zd (hO) 10 (by simp)
 have o11:=R (hO) 11 rfl
 have fo11:=zd (hO) 11 (by simp)
 have o12:=R (hO) 12 rfl
 have fo12:=zd (hO) 12 (by simp)
 have o13:=R (hO) 13 rfl
 have fo13:=zd (hO) 13 (by simp)
 have vv:Hid (Bx ((((((((W3.setCell (U (w.heap.size + 2) 1) (I ck)).setCell (U (w.heap.size + 2) 2) (I L)).setCell (U (w.heap.size + 2) 3) (I ct)).setCell (U (w.heap.size + 2) 4) (I F)).setCell (U (w.heap.size + 2) 5) (I cq)).setCell (U (w.heap.size + 2) 6) (I ci)).setCell (U (w.heap.size + 2) 7) (yj X)).setCell (U (w.heap.size + 2) 8) (yk cg)) (w.heap.size + 2) (yv xm ck L ct F cq ci X cg 0 0 0 0 0)):=(bd (j:=8) (u:=yk cg) (bd (j:=7) (u:=yj X) (bd (j:=6) (u:=I ci) (bd (j:=5) (u:=I cq) (bd (j:=4) (u:=I F) (bd (j:=3) (u:=I ct) (bd (j:=2) (u:=I L) (bd (j:=1) (u:=I ck) hO (by simp)) (by simp)) (by simp)) (by simp)) (by simp)) (by simp)) (by simp)) (by simp))
 have xE:=M (zP (j:=8) (u:=yk cg) (zP (j:=7) (u:=yj X) (zP (j:=6) (u:=I ci) (zP (j:=5) (u:=I cq) (zP (j:=4) (u:=I F) (zP (j:=3) (u:=I ct) (zP (j:=2) (u:=I L) (zP (j:=1) (u:=I ck) hX (show w.heap.size ≠ w.heap.size + 2 by omega)) (show w.heap.size ≠ w.heap.size + 2 by omega)) (show w.heap.size ≠ w.heap.size + 2 by omega)) (show w.heap.size ≠ w.heap.size + 2 by omega)) (show w.heap.size ≠ w.heap.size + 2 by omega)) (show w.heap.size ≠ w.heap.size + 2 by omega)) (show w.heap.size ≠ w.heap.size + 2 by omega)) (show w.heap.size ≠ w.heap.size + 2 by omega))
 have pp:=M (zP (j:=8) (u:=yk cg) (zP (j:=7) (u:=yj X) (zP (j:=6) (u:=I ci) (zP (j:=5) (u:=I cq) (zP (j:=4) (u:=I F) (zP (j:=3) (u:=I ct) (zP (j:=2) (u:=I L) (zP (j:=1) (u:=I ck) K (show w.heap.size + 1 ≠ w.heap.size + 2 by omega)) (show w.heap.size + 1 ≠ w.heap.size + 2 by omega)) (show w.heap.size + 1 ≠ w.heap.size + 2 by omega)) (show w.heap.size + 1 ≠ w.heap.size + 2 by omega)) (show w.heap.size + 1 ≠ w.heap.size + 2 by omega)) (show w.heap.size + 1 ≠ w.heap.size + 2 by omega)) (show w.heap.size + 1 ≠ w.heap.size + 2 by omega)) (show w.heap.size + 1 ≠ w.heap.size + 2 by omega))
 have xG:=M (((((((((H xL).setCell (p:=(U (w.heap.size + 2) 1)) (show w.heap.size ≤ w.heap.size + 2 by omega) (I ck)).setCell (p:=(U (w.heap.size + 2) 2)) (show w.heap.size ≤ w.heap.size + 2 by omega) (I L)).setCell (p:=(U (w.heap.size + 2) 3)) (show w.heap.size ≤ w.heap.size + 2 by omega) (I ct)).setCell (p:=(U (w.heap.size + 2) 4)) (show w.heap.size ≤ w.heap.size + 2 by omega) (I F)).setCell (p:=(U (w.heap.size + 2) 5)) (show w.heap.size ≤ w.heap.size + 2 by omega) (I cq)).setCell (p:=(U (w.heap.size + 2) 6)) (show w.heap.size ≤ w.heap.size + 2 by omega) (I ci)).setCell (p:=(U (w.heap.size + 2) 7)) (show w.heap.size ≤ w.heap.size + 2 by omega) (yj X)).setCell (p:=(U (w.heap.size + 2) 8)) (show w.heap.size ≤ w.heap.size + 2 by omega) (yk cg))
 clear hX K hO uB vj jA ud qM xL
 go_wp2_with fail
 refine H xU _ _ ?_
 clear xU o0 fo0 o1 fo1 o2 fo2 o3 fo3 o4 fo4 o5 fo5 o6 fo6 o7 fo7 o8 fo8 o9 fo9 o10 fo10 o11 fo11 o12 fo12 o13 fo13
 generalize ((((((((W3.setCell (U (w.heap.size + 2) 1) (I ck)).setCell (U (w.heap.size + 2) 2) (I L)).setCell (U (w.heap.size + 2) 3) (I ct)).setCell (U (w.heap.size + 2) 4) (I F)).setCell (U (w.heap.size + 2) 5) (I cq)).setCell (U (w.heap.size + 2) 6) (I ci)).setCell (U (w.heap.size + 2) 7) (yj X)).setCell (U (w.heap.size + 2) 8) (yk cg)) = W4 at vv xE pp xG ⊢
 have x9:=R (H xE) 9 rfl
 have jP:=R (H xE) 10 rfl
 have jQ:=R (H xE) 11 rfl
 have jR:=R (H xE) 12 rfl
 have jS:=R (H xE) 13 rfl
 have o0:=R (H vv) 0 rfl
 have fo0:=zd (H vv) 0 (by simp)
 have o1:=R (H vv) 1 rfl
 have fo1:=zd (H vv) 1 (by simp)
 have o2:=R (H vv) 2 rfl
 have fo2:=zd (H vv) 2 (by simp)
 have o3:=R (H vv) 3 rfl
 have fo3:=zd (H vv) 3 (by simp)
 have o4:=R (H vv) 4 rfl
 have fo4:=zd (H vv) 4 (by simp)
 have o5:=R (H vv) 5 rfl
 have fo5:=zd (H vv) 5 (by simp)
 have o6:=R (H vv) 6 rfl
 have fo6:=zd (H vv) 6 (by simp)
 have o7:=R (H vv) 7 rfl
 have fo7:=zd (H vv) 7 (by simp)
 have o8:=R (H vv) 8 rfl
 have fo8:=zd (H vv) 8 (by simp)
 have o9:=R (H vv) 9 rfl
 have fo9:=zd (H vv) 9 (by simp)
 have o10:=R (H vv) 10 rfl
 have fo10:=zd (H vv) 10 (by simp)
 have o11:=R (H vv) 11 rfl
 have fo11:=zd (H vv) 11 (by simp)
 have o12:=R (H vv) 12 rfl
 have fo12:=zd (H vv) 12 (by simp)
 have o13:=R (H vv) 13 rfl
 have fo13:=zd (H vv) 13 (by simp)
 have jo:Hid (Bx (((((W4.setCell (U (w.heap.size + 2) 9) (I id)).setCell (U (w.heap.size + 2) 10) (I xi)).setCell (U (w.heap.size + 2) 11) (I qty)).setCell (U (w.heap.size + 2) 12) (I xj)).setCell (U (w.heap.size + 2) 13) (I xh)) (w.heap.size + 2) (yv xm ck L ct F cq ci X cg id xi qty xj xh)):=(bd (j:=13) (u:=I xh) (bd (j:=12) (u:=I xj) (bd (j:=11) (u:=I qty) (bd (j:=10) (u:=I xi) (bd (j:=9) (u:=I id) (H vv) (by simp)) (by simp)) (by simp)) (by simp)) (by simp))
 have vD:=M (zP (j:=13) (u:=I xh) (zP (j:=12) (u:=I xj) (zP (j:=11) (u:=I qty) (zP (j:=10) (u:=I xi) (zP (j:=9) (u:=I id) (H pp) (show w.heap.size + 1 ≠ w.heap.size + 2 by omega)) (show w.heap.size + 1 ≠ w.heap.size + 2 by omega)) (show w.heap.size + 1 ≠ w.heap.size + 2 by omega)) (show w.heap.size + 1 ≠ w.heap.size + 2 by omega)) (show w.heap.size + 1 ≠ w.heap.size + 2 by omega))
 have ug:=M ((((((H xG).setCell (p:=(U (w.heap.size + 2) 9)) (show w.heap.size ≤ w.heap.size + 2 by omega) (I id)).setCell (p:=(U (w.heap.size + 2) 10)) (show w.heap.size ≤ w.heap.size + 2 by omega) (I xi)).setCell (p:=(U (w.heap.size + 2) 11)) (show w.heap.size ≤ w.heap.size + 2 by omega) (I qty)).setCell (p:=(U (w.heap.size + 2) 12)) (show w.heap.size ≤ w.heap.size + 2 by omega) (I xj)).setCell (p:=(U (w.heap.size + 2) 13)) (show w.heap.size ≤ w.heap.size + 2 by omega) (I xh))
 clear vv xE pp xG
 refine fI fun hR xU=>?_
 go_wp2_with fail
 refine H xU _ _ ?_
 clear xU
 refine fI fun hR xU=>?_
 go_wp2_with fail
 refine H xU _ _ ?_
 clear xU
 refine fI fun hR xU=>?_
 go_wp2_with fail
 refine H xU _ _ ?_
 clear xU
 refine fI fun hR xU=>?_
 go_wp2_with fail
 refine H xU _ _ ?_
 clear xU
 refine fI fun hR xU=>?_
 go_wp2_with fail
 refine H xU _ _ ?_
 clear xU
 clear o0 fo0 o1 fo1 o2 fo2 o3 fo3 o4 fo4 o5 fo5 o6 fo6 o7 fo7 o8 fo8 o9 fo9 o10 fo10 o11 fo11 o12 fo12 o13 fo13 x9 jP jQ jR jS
 generalize (((((W4.setCell (U (w.heap.size + 2) 9) (I id)).setCell (U (w.heap.size + 2) 10) (I xi)).setCell (U (w.heap.size + 2) 11) (I qty)).setCell (U (w.heap.size + 2) 12) (I xj)).setCell (U (w.heap.size + 2) 13) (I xh)) = W5 at jo vD ug ⊢
 obtain ⟨o0,o1,o2,o3,o4,o5,o6,o7,o8,o9,o10,o11,o12,o13⟩:=yy (H jo)
 have r0:=R (H vD) 0 rfl
 have fr0:=zd (H vD) 0 (by simp)
 have r1:=R (H vD) 1 rfl
 have fr1:=zd (H vD) 1 (by simp)
 have r2:=R (H vD) 2 rfl
 have fr2:=zd (H vD) 2 (by simp)
 have r3:=R (H vD) 3 rfl
 have fr3:=zd (H vD) 3 (by simp)
 have r4:=R (H vD) 4 rfl
 have fr4:=zd (H vD) 4 (by simp)
 have r5:=R (H vD) 5 rfl
 have fr5:=zd (H vD) 5 (by simp)
 have r6:=R (H vD) 6 rfl
 have fr6:=zd (H vD) 6 (by simp)
 have r7:=R (H vD) 7 rfl
 have fr7:=zd (H vD) 7 (by simp)
 have r8:=R (H vD) 8 rfl
 have fr8:=zd (H vD) 8 (by simp)
 have r9:=R (H vD) 9 rfl
 have fr9:=zd (H vD) 9 (by simp)
 have r10:=R (H vD) 10 rfl
 have fr10:=zd (H vD) 10 (by simp)
 have r11:=R (H vD) 11 rfl
 have fr11:=zd (H vD) 11 (by simp)
 have r12:=R (H vD) 12 rfl
 have fr12:=zd (H vD) 12 (by simp)
 have r13:=R (H vD) 13 rfl
 have fr13:=zd (H vD) 13 (by simp)
 have xT:=M (zF (us:=(yv xm ck L ct F cq ci X cg id xi qty xj xh)) (H vD) rfl)
 have HBF:=M (zj (w.heap.size + 1) (by omega) (yv xm ck L ct F cq ci X cg id xi qty xj xh) 0 W5 (H ug))
 clear jo vD ug
 go_wp2_with fail
 rw [set14]
 generalize (W5.setCells (w.heap.size + 1) 0 (yv xm ck L ct F cq ci X cg id xi qty xj xh)) = WF at xT HBF ⊢
 obtain ⟨d0,d1,d2,d3,d4,d5,d6,d7,d8,d9,kz,og,oh,oi⟩:=yy (H xT)
 refine bodyPost_ret (v:=.agg (yv xm ck L ct F cq ci X cg id xi qty xj xh).toArray) ?_ rfl ⟨rfl,H HBF⟩
 simp [results,Tryz.f17,go_sem,d0,d1,d2,d3,d4,d5,d6,d7,d8,d9,kz,og,oh,oi]
theorem Tryz.infoEvent:(Tryz.prog.info? 52).map (fun i=>(i.zero,i.size,i.bytes)) = some (some (.agg (yv 0 0 0 0 0 0 0 0 ⟨#[]⟩ 0 0 0 0 0).toArray),14,120):=by kernel_rfl
theorem take_snocE {α:Type} (l:List α) (k:Nat) (c:α) (h:l[k]? = some c):l.take (k + 1) = l.take k ++ [c]:=by
 obtain ⟨hk,rfl⟩:=yG.1 h
 rw [List.take_succ_eq_append_getElem hk]
theorem ev_cells {W:World} {b o:Nat} {e:Ev} (h:W.rangeAt b o e.vs):W.cell? (U b o) = some (I e.kind)∧W.cell? (U b (o + 1)) = some (I e.cmd.k)∧W.cell? (U b (o + 2)) = some (I e.cmd.s)∧W.cell? (U b (o + 3)) = some (I e.cmd.t)∧W.cell? (U b (o + 4)) = some (I e.cmd.l)∧W.cell? (U b (o + 5)) = some (I e.cmd.q)∧W.cell? (U b (o + 6)) = some (I e.cmd.i)∧W.cell? (U b (o + 7)) = some (yj e.cmd.p)∧W.cell? (U b (o + 8)) = some (yk e.cmd.g)∧W.cell? (U b (o + 9)) = some (I e.id)∧W.cell? (U b (o + 10)) = some (I e.other)∧W.cell? (U b (o + 11)) = some (I e.qty)∧W.cell? (U b (o + 12)) = some (I e.price)∧W.cell? (U b (o + 13)) = some (I e.reason):=⟨h 0 _ rfl,h 1 _ rfl,h 2 _ rfl,h 3 _ rfl,h 4 _ rfl,h 5 _ rfl,h 6 _ rfl,h 7 _ rfl,h 8 _ rfl,h 9 _ rfl,h 10 _ rfl,h 11 _ rfl,h 12 _ rfl,h 13 _ rfl⟩
theorem bW {w:World} {b o n:Nat} (h:w.there b o n) (j:Nat) (O:j < n):∃ v,w.cell? (U b (o + j)) = some v∧w.frozen? (U b (o + j)) = false:=by
 obtain ⟨Q,E⟩:=h j O
 obtain ⟨v,hv⟩:=Option.isSome_iff_exists.1 Q
 exact ⟨v,hv,E⟩
theorem ff (v:Value) (l:List Ev) (w:World) (hr:RdR Ev.vs 14 w v l) :
  Calls Tryz.prog 10 #[v] w fun e w'=>∃ v',e = .returned v'∧OwnR Ev.vs 14 w.heap.size w' v' l∧yn w w':=by
 obtain ⟨a,cap,rfl,hl,hc⟩:=hr
 obtain ⟨i0,hi,uL,uM,uF⟩:=info_parts Tryz.infoEvent
 have xr:∀ (k:Nat) (c:Ev),l[k]? = some c→∃ b off,a = some (U b off)∧b < w.heap.size∧w.rangeAt b (off + k * 14) c.vs:=by
  intro k c hk
  obtain ⟨b,off,Q,E,h3⟩:=hc (by intro h; rw [h] at hk; simp at hk)
  exact ⟨b,off,Q,E,h3 k c hk⟩
 have HC:=M xr
 clear xr hc
 go_enter Tryz.func10,Tryz.ntmps10
 go_wp2_with (at_make; go_must (refine wpList_make_full _ rfl _ _ 36 rfl w.heap.size 52 i0 _ 14 Tryz.underlying36 hi uL uM _ _ _ _ l.length rfl rfl rfl rfl (by rw [uF]; omega) (by unfold maxLen; omega) ya ?_); intro w1 xR jw)
 have HA:=M (fill_made (f:=Ev.vs) xR jw)
 clear xR jw hi uL uM uF
 go_loopw [4] (fun i wr=>∃ k:Nat,k ≤ l.length∧i = I k∧FillR Ev.vs 14 l.length w.heap.size w wr (l.take k)) (fun i _=>l.length - (intOf i).toNat)
 case atStart=>exact ⟨0,Nat.zero_le _,rfl,by simpa using H HA⟩
 case round =>
  obtain ⟨k,hk,rfl,jE⟩:=hrel
  have HF:=M jE
  clear jE HA
  by_cases xI:k < l.length
  ·obtain ⟨c,ur⟩:∃ c,l[k]? = some c:=⟨_,yH xI⟩
   have jK:=M ur
   obtain ⟨b,off,rfl,Y,V⟩:=H HC k c ur
   have kG:=zc V (H HF).2.2.2.2 Y
   obtain ⟨g0,g1,g2,g3,g4,g5,g6,g7,g8,g9,qp,vE,xZ,qJ⟩:=ev_cells kG
   have uJ:(k:Int) < l.length:=by omega
   clear ur V Y kG
   go_wp2_with fail
   refine (toEvent_any c _).mono ?_
   rintro e w2 ⟨rfl,xJ⟩
   unfold evV
   have vC:=M (fill_below (H HF) xJ ya)
   clear xJ
   have qU:=fill_there (H vC) xI
   obtain ⟨x0,y0,z0⟩:=bW qU 0 (by omega)
   obtain ⟨x1,y1,z1⟩:=bW qU 1 (by omega)
   obtain ⟨x2,y2,z2⟩:=bW qU 2 (by omega)
   obtain ⟨x3,y3,z3⟩:=bW qU 3 (by omega)
   obtain ⟨x4,y4,z4⟩:=bW qU 4 (by omega)
   obtain ⟨x5,y5,z5⟩:=bW qU 5 (by omega)
   obtain ⟨x6,y6,z6⟩:=bW qU 6 (by omega)
   obtain ⟨x7,y7,z7⟩:=bW qU 7 (by omega)
   obtain ⟨x8,y8,z8⟩:=bW qU 8 (by omega)
   obtain ⟨x9,y9,z9⟩:=bW qU 9 (by omega)
   obtain ⟨jP,y10,kX⟩:=bW qU 10 (by omega)
   obtain ⟨jQ,y11,oz⟩:=bW qU 11 (by omega)
   obtain ⟨jR,y12,oA⟩:=bW qU 12 (by omega)
   obtain ⟨jS,y13,oB⟩:=bW qU 13 (by omega)
   rw [Nat.add_zero] at y0 z0
   clear qU
   have hsf:=sfl
   go_wp2_with fail
   go_roundw
   case rel =>
    refine ⟨k + 1,by omega,by go_num,?_⟩
    have h:=fill_step c (H vC) (by rw [List.length_take]; omega) Ev.len
    rw [← take_snocE l k c (H jK),show (l.take k).length = k by rw [List.length_take]; omega] at h
    exact h
   case measure=>simp [intOf]; omega
  ·go_wp2_with fail
   go_ret
   have h:=H HF
   rw [yZ (by omega)] at h
   exact ⟨_,rfl,fill_own h rfl hl,h.2.2.2.2⟩
theorem szEventS_at (v:Value) (l:List Ev) (w:World) (hr:RdR Ev.vs 14 w v l) (x0:Int) (hx0:0 ≤ x0) (hx1:x0 ≤ 1048576) (hl:l.length ≤ x0) (hg:∀ c ∈ l,c.cmd.g.size ≤ maxLen) :
  Calls Tryz.prog 7 #[v,I x0] w fun e w'=>∃ y:Int,e = .returned (I y)∧y ≤ 1048576∧yn w w':=by
 obtain ⟨a,cap,rfl,_,hc⟩:=hr
 have xr:∀ (k:Nat) (c:Ev),l[k]? = some c→∃ b off,a = some (U b off)∧b < w.heap.size∧w.rangeAt b (off + k * 14) c.vs:=by
  intro k c hk
  obtain ⟨b,off,Q,E,h3⟩:=hc (by intro h; rw [h] at hk; simp at hk)
  exact ⟨b,off,Q,E,h3 k c hk⟩
 have HC:=M xr
 have HG:=M hg
 clear xr hc hg
 have pB:¬ (x0 - (l.length:Int) < 0):=by omega
 go_enter Tryz.func7,Tryz.ntmps7
 go_wp2_with fail
 go_loopw [1,5] (fun xv i wr=>∃ (x:Int) (k:Nat),xv = I x∧0 ≤ x∧x ≤ 1048576∧k ≤ l.length∧i = I k∧yn w wr) (fun _ i _=>l.length - (intOf i).toNat)
 case atStart=>exact ⟨_,0,rfl,by omega,by omega,Nat.zero_le _,rfl,Below.refl _ _⟩
 case round =>
  obtain ⟨x,k,rfl,hy2,hy3,hk,rfl,xk⟩:=hrel
  have HB:=M xk
  clear xk
  by_cases xI:k < l.length
  ·obtain ⟨c,ur⟩:∃ c,l[k]? = some c:=⟨_,yH xI⟩
   obtain ⟨b,off,rfl,Y,V⟩:=H HC k c ur
   have HS:=M (H HG c (yO ur))
   obtain ⟨g0,g1,g2,g3,g4,g5,g6,g7,g8,g9,qp,vE,xZ,qJ⟩:=ev_cells (zc V (H HB) Y)
   have uJ:(k:Int) < l.length:=by omega
   clear ur V Y
   go_wp2_with fail
   refine (szEvent_any c x _ hy2 (by omega) (H HS)).mono ?_
   rintro e w2 ⟨y,rfl,hy1,xJ⟩
   have xu:=M (fH (H HB) xJ)
   clear xJ
   by_cases hy:y < 0
   ·go_wp2_with fail
    go_ret
    exact ⟨_,rfl,by omega,H xu⟩
   ·go_wp2_with fail
    go_roundw
    case rel=>exact ⟨y,k + 1,rfl,by omega,by omega,by omega,by go_num,H xu⟩
    case measure=>simp [intOf]; omega
  ·go_wp2_with fail
   go_ret
   exact ⟨_,rfl,by omega,H HB⟩
theorem szEventS_far (a:Option Addr) (len cap:Nat) (w:World) (x0:Int) (hx0:0 ≤ x0) (hx1:x0 ≤ 1048576) (hl:x0 < len) (hm:len ≤ maxLen) :
  Calls Tryz.prog 7 #[.slice a len cap,I x0] w fun e w'=>e = .returned (I (-1))∧w' = w:=by
 unfold maxLen at hm
 have pB:x0 - (len:Int) < 0:=by omega
 go_enter Tryz.func7,Tryz.ntmps7
 go_wp2_with fail
 go_ret
 exact ⟨rfl,rfl⟩
theorem eqEventS_same (va vb:Value) (l:List Ev) (w:World) (ha:RdR Ev.vs 14 w va l) (Y:RdR Ev.vs 14 w vb l) :
  Calls Tryz.prog 14 #[va,vb] w fun e w'=>e = .returned (.bool true)∧yn w w':=by
 obtain ⟨aa,ca,rfl,hl,hca⟩:=ha
 obtain ⟨ab,cb,rfl,_,hcb⟩:=Y
 have xr:∀ (k:Nat) (c:Ev),l[k]? = some c→∃ b off b' qu,aa = some (U b off)∧ab = some (U b' qu)∧b < w.heap.size∧b' < w.heap.size∧w.rangeAt b (off + k * 14) c.vs∧w.rangeAt b' (qu + k * 14) c.vs:=by
  intro k c hk
  have xD:l ≠ []:=by intro h; rw [h] at hk; simp at hk
  obtain ⟨b,off,Q,E,h3⟩:=hca xD
  obtain ⟨b',qu,pu,oI,h3'⟩:=hcb xD
  exact ⟨b,off,b',qu,Q,pu,E,oI,h3 k c hk,h3' k c hk⟩
 have HC:=M xr
 clear xr hca hcb
 go_enter Tryz.func14,Tryz.ntmps14
 go_wp2_with fail
 go_loopw [5] (fun i wr=>∃ k:Nat,k ≤ l.length∧i = I k∧yn w wr) (fun i _=>l.length - (intOf i).toNat)
 case atStart=>exact ⟨0,Nat.zero_le _,rfl,Below.refl _ _⟩
 case round =>
  obtain ⟨k,hk,rfl,xk⟩:=hrel
  have HB:=M xk
  clear xk
  by_cases xI:k < l.length
  ·obtain ⟨c,ur⟩:∃ c,l[k]? = some c:=⟨_,yH xI⟩
   obtain ⟨b,off,b',qu,rfl,rfl,Y,hb',V,qr⟩:=H HC k c ur
   obtain ⟨g0,g1,g2,g3,g4,g5,g6,g7,g8,g9,qp,vE,xZ,qJ⟩:=ev_cells (zc V (H HB) Y)
   obtain ⟨e0,e1,e2,e3,e4,e5,e6,e7,e8,e9,uy,uk,uW,uA⟩:=ev_cells (zc qr (H HB) hb')
   have uJ:(k:Int) < l.length:=by omega
   clear ur V qr Y hb'
   go_wp2_with fail
   go_region_with (go_at_call 34; refine (eqEvent_same c _).mono ?_; rintro e w2 ⟨rfl,xJ⟩; have xu:=M ((H HB).drew.trans (xJ.mono (H HB).drew.size)); clear xJ)
   go_wp2_with fail
   go_roundw
   case rel=>exact ⟨k + 1,by omega,by go_num,H xu⟩
   case measure=>simp [intOf]; omega
   all_goals exact ⟨⟨k + 1,by omega,by go_num,H xu⟩,by simp [intOf]; omega⟩
  ·go_wp2_with fail
   go_ret
   exact ⟨rfl,H HB⟩
end Go.Proofs.YtnphbkgfjanmgaaGreatDoor
namespace Go.Proofs.YtnphbkgfjanmgaaGreatDoor
open Go.RowKit Go.ChangeShapes Go.WideShapes Go.Deep
set_option linter.unusedVariables false

structure Ev.ok (e:Ev):Prop where
 k:(Lit.int .i64 e.kind).wf = true
 c:e.cmd.ok
 a:(Lit.int .i64 e.id).wf = true
 o:(Lit.int .i64 e.other).wf = true
 q:(Lit.int .i64 e.qty).wf = true
 p:(Lit.int .i64 e.price).wf = true
 r:(Lit.int .i64 e.reason).wf = true
theorem flt_lt {p:Nat} (h:(Lit.float .f64 p).wf = true):p < 18446744073709551616:=by
 simpa [Lit.wf] using h
theorem Ev.ok.fit {e:Ev} (h:e.ok):e.fit:=by
 refine ⟨fun o=>?_,bounds_i64 h.k,flt_lt h.c.p,h.c.g⟩
 unfold Ev.num
 split
 ·exact bounds_i64 h.c.k
 ·exact bounds_i64 h.c.s
 ·exact bounds_i64 h.c.t
 ·exact bounds_i64 h.c.l
 ·exact bounds_i64 h.c.q
 ·exact bounds_i64 h.c.i
 ·exact bounds_i64 h.a
 ·exact bounds_i64 h.o
 ·exact bounds_i64 h.q
 ·exact bounds_i64 h.p
 ·exact bounds_i64 h.r
 ·omega
section
variable {za:Type} {enc:TypeId × Value→za} {w:World} {base:Nat} {spare:Nat→Bool} {held:Bool}
theorem list14 {L:List Value} (h:L.length = 14):∃ v0 v1 v2 v3 v4 v5 v6 v7 v8 v9 v10 v11 v12 v13,L = [v0,v1,v2,v3,v4,v5,v6,v7,v8,v9,v10,v11,v12,v13] :=
 match L,h with
 | [v0,v1,v2,v3,v4,v5,v6,v7,v8,v9,v10,v11,v12,v13],_=>⟨v0,v1,v2,v3,v4,v5,v6,v7,v8,v9,v10,v11,v12,v13,rfl⟩
theorem ev_opened {fuel:Nat} {L:List Value} {x:DataW za × List MemPlace} (h:DataW.trod enc Tryz.prog w base spare held fuel 46 L = some x):∃ e:Ev,L = e.vs∧e.ok:=by
 obtain ⟨xs,n,_,_,xA,hxl,hf⟩:=DataW.trod_struct Tryz.underlying46 h
 have hl14:L.length = 14:=xA.trans (by kernel_rfl)
 have k3:Tryz.prog.cellsOf 3 = 1:=by kernel_rfl
 have k8:Tryz.prog.cellsOf 44 = 8:=by kernel_rfl
 have hx:∀ i,i < 7→∃ y,xs[i]? = some y:=fun i hi=>⟨_,yH (by rw [hxl]; exact hi)⟩
 obtain ⟨y0,e0⟩:=hx 0 (by omega)
 obtain ⟨y1,e1⟩:=hx 1 (by omega)
 obtain ⟨y2,e2⟩:=hx 2 (by omega)
 obtain ⟨y3,e3⟩:=hx 3 (by omega)
 obtain ⟨y4,e4⟩:=hx 4 (by omega)
 obtain ⟨y5,e5⟩:=hx 5 (by omega)
 obtain ⟨y6,e6⟩:=hx 6 (by omega)
 have f0:DataW.trod enc Tryz.prog w base spare held n 3 ((L.drop 0).take (Tryz.prog.cellsOf 3)) = some y0:=(hf 0 _ rfl).trans e0
 have f1:DataW.trod enc Tryz.prog w base spare held n 44 ((L.drop 1).take (Tryz.prog.cellsOf 44)) = some y1:=(hf 1 _ rfl).trans e1
 have f2:DataW.trod enc Tryz.prog w base spare held n 3 ((L.drop 9).take (Tryz.prog.cellsOf 3)) = some y2:=(hf 2 _ rfl).trans e2
 have f3:DataW.trod enc Tryz.prog w base spare held n 3 ((L.drop 10).take (Tryz.prog.cellsOf 3)) = some y3:=(hf 3 _ rfl).trans e3
 have f4:DataW.trod enc Tryz.prog w base spare held n 3 ((L.drop 11).take (Tryz.prog.cellsOf 3)) = some y4:=(hf 4 _ rfl).trans e4
 have f5:DataW.trod enc Tryz.prog w base spare held n 3 ((L.drop 12).take (Tryz.prog.cellsOf 3)) = some y5:=(hf 5 _ rfl).trans e5
 have f6:DataW.trod enc Tryz.prog w base spare held n 3 ((L.drop 13).take (Tryz.prog.cellsOf 3)) = some y6:=(hf 6 _ rfl).trans e6
 clear hf hx e0 e1 e2 e3 e4 e5 e6 h xA
 obtain ⟨v0,v1,v2,v3,v4,v5,v6,v7,v8,v9,v10,v11,v12,v13,rfl⟩:=list14 hl14
 clear hl14
 simp only [k3,k8,List.drop_zero,yU,yT,List.take_zero] at f0 f1 f2 f3 f4 f5 f6
 obtain ⟨n0,c0,_,b0⟩:=DataW.trod_int Tryz.underlying3 f0
 obtain ⟨c,c1,b1⟩:=cm_opened f1
 obtain ⟨n2,c2,_,b2⟩:=DataW.trod_int Tryz.underlying3 f2
 obtain ⟨n3,c3,_,b3⟩:=DataW.trod_int Tryz.underlying3 f3
 obtain ⟨n4,c4,_,b4⟩:=DataW.trod_int Tryz.underlying3 f4
 obtain ⟨n5,c5,_,b5⟩:=DataW.trod_int Tryz.underlying3 f5
 obtain ⟨n6,c6,_,b6⟩:=DataW.trod_int Tryz.underlying3 f6
 simp only [Cm.vs,List.cons.injEq,and_true] at c0 c1 c2 c3 c4 c5 c6
 obtain ⟨rfl,rfl,rfl,rfl,rfl,rfl,rfl,rfl⟩:=c1
 subst c0 c2 c3 c4 c5 c6
 exact ⟨⟨n0,c,n2,n3,n4,n5,n6⟩,rfl,⟨b0,b1,b2,b3,b4,b5,b6⟩⟩
end
end Go.Proofs.YtnphbkgfjanmgaaGreatDoor
namespace Go.Proofs.YtnphbkgfjanmgaaGreatDoor
open Go.RowKit Go.ChangeShapes Go.WideShapes Go.Deep
set_option linter.unusedVariables false

section
variable {za:Type} {enc:TypeId × Value→za} {w:World} {base:Nat} {spare:Nat→Bool} {held:Bool}
def IsEvents (w:World) (a:Option Addr) (len cap:Nat):Prop :=
 len ≤ maxLen∧(len ≤ 1073741824→∃ l:List Ev,l.length = len∧RdR Ev.vs 14 w (.slice a len cap) l∧∀ c ∈ l,c.ok)
theorem events_opened {fuel:Nat} {a:Option Addr} {len cap:Nat} {x:DataW za × List MemPlace} (h:DataW.trod enc Tryz.prog w base spare held fuel 25 [.slice a len cap] = some x):IsEvents w a len cap:=by
 rcases open_slice Tryz.underlying25 h with ⟨kq,_⟩ | ⟨ad,ln,X,m,n,xg,Pl,kq,_,hl,hm,hmm,_,hel⟩
 ·simp only [List.cons.injEq,Value.slice.injEq,and_true] at kq
  obtain ⟨rfl,rfl,rfl⟩:=kq
  exact ⟨Nat.zero_le _,fun _=>⟨[],rfl,⟨none,0,rfl,by simp,fun h=>absurd rfl h⟩,by simp⟩⟩
 ·simp only [List.cons.injEq,Value.slice.injEq,and_true] at kq
  obtain ⟨rfl,rfl,rfl⟩:=kq
  have k37:Tryz.prog.cellsOf 46 = 14:=by kernel_rfl
  rw [k37] at hel
  have hlm:len ≤ m:=by rw [hmm]; split <;> omega
  refine ⟨by omega,fun Y=>?_⟩
  have hc:∀ i,i < len→∃ c:Ev,c.ok∧∀ j v,c.vs[j]? = some v→w.cell? (ad.add (i * 14 + j)) = some v:=by
   intro i hi
   obtain ⟨cs',Q,E⟩:=hel i (by omega)
   obtain ⟨c,rfl,vw⟩:=ev_opened E
   obtain ⟨_,_,xr⟩:=World.cells?_some Q
   refine ⟨c,vw,fun j v hv=>?_⟩
   have:=xr j (yG.1 hv).1
   rw [add_add] at this
   rw [this,hv]
  have xz:0 < len→∃ b off,ad = (U b off)∧b < w.heap.size:=by
   intro hp
   obtain ⟨c,_,h0⟩:=hc 0 hp
   have h0:=h0 0 _ rfl
   obtain ⟨b,off,spot⟩:=ad
   have hspot:spot = none:=by simpa [Addr.add] using World.cell?_spot h0
   subst hspot
   exact ⟨b,off,rfl,by have:=yK w _ h0; simpa [Addr.add] using this⟩
  haveI:Inhabited Ev:=⟨⟨0,⟨0,0,0,0,0,0,0,⟨#[]⟩⟩,0,0,0,0,0⟩⟩
  obtain ⟨cl,hF⟩:=choose_lt hc
  have hget:∀ i c,((List.range len).map cl)[i]? = some c→i < len∧c = cl i:=by
   intro i c hi
   have xI:i < len:=by simpa using (yG.1 hi).1
   refine ⟨xI,?_⟩
   rw [List.getElem?_map,List.getElem?_range xI] at hi
   simpa using hi.symm
  refine ⟨(List.range len).map cl,by simp,⟨some ad,cap,by simp,by simpa using Y,fun xD=>?_⟩,fun c hcm=>?_⟩
  ·have hp:0 < len:=by
    rcases Nat.eq_zero_or_pos len with h0 | h0
    ·subst h0; simp at xD
    ·exact h0
   obtain ⟨b,off,rfl,xI⟩:=xz hp
   refine ⟨b,off,rfl,xI,fun i c hi j v hv=>?_⟩
   obtain ⟨qa,rfl⟩:=hget i c hi
   have:=(hF i qa).2 j v hv
   rw [Addr.add_mid] at this
   rw [Nat.add_assoc]; exact this
  ·obtain ⟨i,hi⟩:=List.mem_iff_getElem?.1 hcm
   obtain ⟨qa,rfl⟩:=hget i c hi
   exact (hF i qa).1
end
end Go.Proofs.YtnphbkgfjanmgaaGreatDoor
