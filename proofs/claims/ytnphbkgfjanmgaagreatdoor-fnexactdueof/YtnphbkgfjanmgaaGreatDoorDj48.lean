/-
  The laws' own helpers on events: the size of one, and its copying.
-/
import Derived.Test.YtnphbkgfjanmgaaGreatDoorDj47
set_option linter.unusedVariables false
set_option maxHeartbeats 6400000
set_option maxRecDepth 100000
namespace Go.Proofs.YtnphbkgfjanmgaaGreatDoor
open Go.RowKit
theorem szEvent_any (e:Ev) (x:Int) (w:World) (h0:0 ≤ x) (N:x ≤ 1073741824) (hg:e.cmd.g.size ≤ maxLen) :
  Calls Tryz.prog 15 #[evV e,I x] w fun r w'=>∃ y:Int,r = .returned (I y)∧y ≤ x∧yp w w':=by
 obtain ⟨xz,HX⟩:=fE w e.vs 46
 have HB:=H xz
 have HS:=H (fun W=>szCmd_any e.cmd x W h0 N hg)
 clear xz hg
 obtain ⟨xn,⟨ck,A,ct,F,cq,ci,O,cg⟩,id,xj,qty,xk,xi⟩:=e
 unfold evV
 unfold Ev.vs at HX HB
 simp only at HX HB HS ⊢
 go_enter Tryz.func15,Tryz.ntmps15
 refine fD fun zb xU=>?_
 go_wp2_with fail
 refine U xU _ _ ?_
 clear xU
 generalize (w.alloc (L (yw xn ck A ct F cq ci O cg id xj qty xk xi).toArray 46)) = W1 at HX HB ⊢
 obtain ⟨x0,x1,x2,x3,x4,x5,x6,x7,x8,x9,jP,jQ,jR,jS⟩:=yz (U HX)
 go_wp2_with fail
 refine (U HS W1).mono ?_
 rintro r W2 ⟨y,rfl,hy0,hy1,xL⟩
 have xw:=H (fC (U HB) xL)
 clear xL HX
 by_cases hy:y < 0
 ·go_wp2_with fail
  go_ret
  exact ⟨-1,rfl,by omega,U xw⟩
 ·have hy':0 ≤ y:=by omega
  go_wp2_with fail
  go_ret
  exact ⟨y,rfl,hy1,U xw⟩
theorem toE_boxes (w:World) (us vs ws:List Value) (t u v:TypeId):Bx (((w.alloc (Obj.cells us.toArray t)).alloc (Obj.cells vs.toArray u)).alloc (Obj.cells ws.toArray v)) w.heap.size us∧Bx (((w.alloc (Obj.cells us.toArray t)).alloc (Obj.cells vs.toArray u)).alloc (Obj.cells ws.toArray v)) (w.heap.size + 1) vs∧Bx (((w.alloc (Obj.cells us.toArray t)).alloc (Obj.cells vs.toArray u)).alloc (Obj.cells ws.toArray v)) (w.heap.size + 2) ws∧yp w (((w.alloc (Obj.cells us.toArray t)).alloc (Obj.cells vs.toArray u)).alloc (Obj.cells ws.toArray v))∧(((w.alloc (Obj.cells us.toArray t)).alloc (Obj.cells vs.toArray u)).alloc (Obj.cells ws.toArray v)).heap.size = w.heap.size + 3:=by
 have s1:(w.alloc (Obj.cells us.toArray t)).heap.size = w.heap.size + 1:=by simp
 have s2:((w.alloc (Obj.cells us.toArray t)).alloc (Obj.cells vs.toArray u)).heap.size = w.heap.size + 2:=by simp
 have N:=zq w us t
 have Y:=zq (w.alloc (Obj.cells us.toArray t)) vs u
 have h3:=zq ((w.alloc (Obj.cells us.toArray t)).alloc (Obj.cells vs.toArray u)) ws v
 rw [s1] at Y
 rw [s2] at h3
 have b1:Below (w.heap.size + 1) (w.alloc (Obj.cells us.toArray t)) ((w.alloc (Obj.cells us.toArray t)).alloc (Obj.cells vs.toArray u)):=(Below.refl _ _).alloc (by omega) _
 have b2:Below (w.heap.size + 2) ((w.alloc (Obj.cells us.toArray t)).alloc (Obj.cells vs.toArray u)) (((w.alloc (Obj.cells us.toArray t)).alloc (Obj.cells vs.toArray u)).alloc (Obj.cells ws.toArray v)):=(Below.refl _ _).alloc (by omega) _
 exact ⟨zf (zf N b1 (by omega)) b2 (by omega),zf Y b2 (by omega),h3,(((Below.refl _ w).alloc yb _).alloc (by omega) _).alloc (by omega) _,by simp⟩
theorem toEvent_any (e:Ev) (w:World):Calls Tryz.prog 17 #[evV e] w fun r w'=>r = .returned (evV e)∧yp w w':=by
 have hsf:=sfl
 have HT:=H (fun W=>toCmd_any e.cmd W)
 have qG:=H (toE_boxes w e.vs (yw 0 0 0 0 0 0 0 0 ⟨#[]⟩ 0 0 0 0 0) (yw 0 0 0 0 0 0 0 0 ⟨#[]⟩ 0 0 0 0 0) 46 52 52)
 obtain ⟨xn,⟨ck,A,ct,F,cq,ci,O,cg⟩,id,xj,qty,xk,xi⟩:=e
 unfold evV
 unfold Ev.vs at qG
 simp only at qG HT ⊢
 go_enter Tryz.func17,Tryz.ntmps17
 refine fD fun zb xU=>?_
 go_wp2_with fail
 refine U xU _ _ ?_
 clear xU
 refine fD fun zb xU=>?_
 go_wp2_with fail
 refine U xU _ _ ?_
 clear xU
 generalize (((w.alloc (L (yw xn ck A ct F cq ci O cg id xj qty xk xi).toArray 46)).alloc (L (yw 0 0 0 0 0 0 0 0 ⟨#[]⟩ 0 0 0 0 0).toArray 52)).alloc (L (yw 0 0 0 0 0 0 0 0 ⟨#[]⟩ 0 0 0 0 0).toArray 52)) = W1 at qG ⊢
 obtain ⟨hX,R,hO,hB,hZ⟩:=U qG
 obtain ⟨x0,x1,x2,x3,x4,x5,x6,x7,x8,x9,jP,jQ,jR,jS⟩:=yz (hX)
 have o0:=K hO 0 rfl
 have fo0:=zd hO 0 (by decide)
 have qW:=H (aX (j:=0) (u:=I xn) hO (by decide))
 have uA:=H (zP (j:=0) (u:=I xn) hX (show w.heap.size ≠ w.heap.size + 2 by omega))
 have vz:=H (zP (j:=0) (u:=I xn) R (show w.heap.size + 1 ≠ w.heap.size + 2 by omega))
 have ue:=H (hB.setCell (p:=(Q (w.heap.size + 2) 0)) (show w.heap.size ≤ w.heap.size + 2 by omega) (I xn))
 have qL:Hid ((W1.setCell (Q (w.heap.size + 2) 0) (I xn)).heap.size = w.heap.size + 3):=by show _ = _; rw [← hZ]; simp [World.setCell]
 clear hX R hO hB hZ qG
 refine fD fun zb xU=>?_
 go_wp2_with fail
 refine U xU _ _ ?_
 clear xU x0 o0 fo0 x1 x2 x3 x4 x5 x6 x7 x8 x9 jP jQ jR jS
 generalize (W1.setCell (Q (w.heap.size + 2) 0) (I xn)) = W2 at qW uA vz ue qL ⊢
 obtain ⟨x0,x1,x2,x3,x4,x5,x6,x7,x8,x9,jP,jQ,jR,jS⟩:=yz (U uA)
 refine fD fun zb xU=>?_
 go_wp2_with fail
 refine (U HT W2).mono ?_
 rintro r W3 ⟨rfl,xQ⟩
 have hz:=U qL
 have hX:=zf (U uA) xQ (by omega)
 have R:=zf (U vz) xQ (by omega)
 have hO:=zf (U qW) xQ (by omega)
 have xN:=H (fC (U ue) xQ)
 clear xQ hz x0 x1 x2 x3 x4 x5 x6 x7 x8 x9 jP jQ jR jS
 have o0:=K (hO) 0 rfl
 have fo0:=zd (hO) 0 (by simp)
 have o1:=K (hO) 1 rfl
 have fo1:=zd (hO) 1 (by simp)
 have o2:=K (hO) 2 rfl
 have fo2:=zd (hO) 2 (by simp)
 have o3:=K (hO) 3 rfl
 have fo3:=zd (hO) 3 (by simp)
 have o4:=K (hO) 4 rfl
 have fo4:=zd (hO) 4 (by simp)
 have o5:=K (hO) 5 rfl
 have fo5:=zd (hO) 5 (by simp)
 have o6:=K (hO) 6 rfl
 have fo6:=zd (hO) 6 (by simp)
 have o7:=K (hO) 7 rfl
 have fo7:=zd (hO) 7 (by simp)
 have o8:=K (hO) 8 rfl
 have fo8:=zd (hO) 8 (by simp)
 have o9:=K (hO) 9 rfl
 have fo9:=zd (hO) 9 (by simp)
 have o10:=K (hO) 10 rfl
 have fo10:=zd (hO) 10 (by simp)
 have o11:=K (hO) 11 rfl
 have fo11:=zd (hO) 11 (by simp)
 have o12:=K (hO) 12 rfl
 have fo12:=zd (hO) 12 (by simp)
 have o13:=K (hO) 13 rfl
 have fo13:=zd (hO) 13 (by simp)
 have vr:Hid (Bx ((((((((W3.setCell (Q (w.heap.size + 2) 1) (I ck)).setCell (Q (w.heap.size + 2) 2) (I A)).setCell (Q (w.heap.size + 2) 3) (I ct)).setCell (Q (w.heap.size + 2) 4) (I F)).setCell (Q (w.heap.size + 2) 5) (I cq)).setCell (Q (w.heap.size + 2) 6) (I ci)).setCell (Q (w.heap.size + 2) 7) (yk O)).setCell (Q (w.heap.size + 2) 8) (yl cg)) (w.heap.size + 2) (yw xn ck A ct F cq ci O cg 0 0 0 0 0)):=(aX (j:=8) (u:=yl cg) (aX (j:=7) (u:=yk O) (aX (j:=6) (u:=I ci) (aX (j:=5) (u:=I cq) (aX (j:=4) (u:=I F) (aX (j:=3) (u:=I ct) (aX (j:=2) (u:=I A) (aX (j:=1) (u:=I ck) hO (by simp)) (by simp)) (by simp)) (by simp)) (by simp)) (by simp)) (by simp)) (by simp))
 have xG:=H (zP (j:=8) (u:=yl cg) (zP (j:=7) (u:=yk O) (zP (j:=6) (u:=I ci) (zP (j:=5) (u:=I cq) (zP (j:=4) (u:=I F) (zP (j:=3) (u:=I ct) (zP (j:=2) (u:=I A) (zP (j:=1) (u:=I ck) hX (show w.heap.size ≠ w.heap.size + 2 by omega)) (show w.heap.size ≠ w.heap.size + 2 by omega)) (show w.heap.size ≠ w.heap.size + 2 by omega)) (show w.heap.size ≠ w.heap.size + 2 by omega)) (show w.heap.size ≠ w.heap.size + 2 by omega)) (show w.heap.size ≠ w.heap.size + 2 by omega)) (show w.heap.size ≠ w.heap.size + 2 by omega)) (show w.heap.size ≠ w.heap.size + 2 by omega))
 have HR4:=H (zP (j:=8) (u:=yl cg) (zP (j:=7) (u:=yk O) (zP (j:=6) (u:=I ci) (zP (j:=5) (u:=I cq) (zP (j:=4) (u:=I F) (zP (j:=3) (u:=I ct) (zP (j:=2) (u:=I A) (zP (j:=1) (u:=I ck) R (show w.heap.size + 1 ≠ w.heap.size + 2 by omega)) (show w.heap.size + 1 ≠ w.heap.size + 2 by omega)) (show w.heap.size + 1 ≠ w.heap.size + 2 by omega)) (show w.heap.size + 1 ≠ w.heap.size + 2 by omega)) (show w.heap.size + 1 ≠ w.heap.size + 2 by omega)) (show w.heap.size + 1 ≠ w.heap.size + 2 by omega)) (show w.heap.size + 1 ≠ w.heap.size + 2 by omega)) (show w.heap.size + 1 ≠ w.heap.size + 2 by omega))
 have xH:=H (((((((((U xN).setCell (p:=(Q (w.heap.size + 2) 1)) (show w.heap.size ≤ w.heap.size + 2 by omega) (I ck)).setCell (p:=(Q (w.heap.size + 2) 2)) (show w.heap.size ≤ w.heap.size + 2 by omega) (I A)).setCell (p:=(Q (w.heap.size + 2) 3)) (show w.heap.size ≤ w.heap.size + 2 by omega) (I ct)).setCell (p:=(Q (w.heap.size + 2) 4)) (show w.heap.size ≤ w.heap.size + 2 by omega) (I F)).setCell (p:=(Q (w.heap.size + 2) 5)) (show w.heap.size ≤ w.heap.size + 2 by omega) (I cq)).setCell (p:=(Q (w.heap.size + 2) 6)) (show w.heap.size ≤ w.heap.size + 2 by omega) (I ci)).setCell (p:=(Q (w.heap.size + 2) 7)) (show w.heap.size ≤ w.heap.size + 2 by omega) (yk O)).setCell (p:=(Q (w.heap.size + 2) 8)) (show w.heap.size ≤ w.heap.size + 2 by omega) (yl cg))
 clear hX R hO uA vz qW ue qL xN
 go_wp2_with fail
 refine U xU _ _ ?_
 clear xU o0 fo0 o1 fo1 o2 fo2 o3 fo3 o4 fo4 o5 fo5 o6 fo6 o7 fo7 o8 fo8 o9 fo9 o10 fo10 o11 fo11 o12 fo12 o13 fo13
 generalize ((((((((W3.setCell (Q (w.heap.size + 2) 1) (I ck)).setCell (Q (w.heap.size + 2) 2) (I A)).setCell (Q (w.heap.size + 2) 3) (I ct)).setCell (Q (w.heap.size + 2) 4) (I F)).setCell (Q (w.heap.size + 2) 5) (I cq)).setCell (Q (w.heap.size + 2) 6) (I ci)).setCell (Q (w.heap.size + 2) 7) (yk O)).setCell (Q (w.heap.size + 2) 8) (yl cg)) = W4 at vr xG HR4 xH ⊢
 have x9:=K (U xG) 9 rfl
 have jP:=K (U xG) 10 rfl
 have jQ:=K (U xG) 11 rfl
 have jR:=K (U xG) 12 rfl
 have jS:=K (U xG) 13 rfl
 have o0:=K (U vr) 0 rfl
 have fo0:=zd (U vr) 0 (by simp)
 have o1:=K (U vr) 1 rfl
 have fo1:=zd (U vr) 1 (by simp)
 have o2:=K (U vr) 2 rfl
 have fo2:=zd (U vr) 2 (by simp)
 have o3:=K (U vr) 3 rfl
 have fo3:=zd (U vr) 3 (by simp)
 have o4:=K (U vr) 4 rfl
 have fo4:=zd (U vr) 4 (by simp)
 have o5:=K (U vr) 5 rfl
 have fo5:=zd (U vr) 5 (by simp)
 have o6:=K (U vr) 6 rfl
 have fo6:=zd (U vr) 6 (by simp)
 have o7:=K (U vr) 7 rfl
 have fo7:=zd (U vr) 7 (by simp)
 have o8:=K (U vr) 8 rfl
 have fo8:=zd (U vr) 8 (by simp)
 have o9:=K (U vr) 9 rfl
 have fo9:=zd (U vr) 9 (by simp)
 have o10:=K (U vr) 10 rfl
 have fo10:=zd (U vr) 10 (by simp)
 have o11:=K (U vr) 11 rfl
 have fo11:=zd (U vr) 11 (by simp)
 have o12:=K (U vr) 12 rfl
 have fo12:=zd (U vr) 12 (by simp)
 have o13:=K (U vr) 13 rfl
 have fo13:=zd (U vr) 13 (by simp)
 have jl:Hid (Bx (((((W4.setCell (Q (w.heap.size + 2) 9) (I id)).setCell (Q (w.heap.size + 2) 10) (I xj)).setCell (Q (w.heap.size + 2) 11) (I qty)).setCell (Q (w.heap.size + 2) 12) (I xk)).setCell (Q (w.heap.size + 2) 13) (I xi)) (w.heap.size + 2) (yw xn ck A ct F cq ci O cg id xj qty xk xi)):=(aX (j:=13) (u:=I xi) (aX (j:=12) (u:=I xk) (aX (j:=11) (u:=I qty) (aX (j:=10) (u:=I xj) (aX (j:=9) (u:=I id) (U vr) (by simp)) (by simp)) (by simp)) (by simp)) (by simp))
 have vD:=H (zP (j:=13) (u:=I xi) (zP (j:=12) (u:=I xk) (zP (j:=11) (u:=I qty) (zP (j:=10) (u:=I xj) (zP (j:=9) (u:=I id) (U HR4) (show w.heap.size + 1 ≠ w.heap.size + 2 by omega)) (show w.heap.size + 1 ≠ w.heap.size + 2 by omega)) (show w.heap.size + 1 ≠ w.heap.size + 2 by omega)) (show w.heap.size + 1 ≠ w.heap.size + 2 by omega)) (show w.heap.size + 1 ≠ w.heap.size + 2 by omega))
 have uj:=H ((((((U xH).setCell (p:=(Q (w.heap.size + 2) 9)) (show w.heap.size ≤ w.heap.size + 2 by omega) (I id)).setCell (p:=(Q (w.heap.size + 2) 10)) (show w.heap.size ≤ w.heap.size + 2 by omega) (I xj)).setCell (p:=(Q (w.heap.size + 2) 11)) (show w.heap.size ≤ w.heap.size + 2 by omega) (I qty)).setCell (p:=(Q (w.heap.size + 2) 12)) (show w.heap.size ≤ w.heap.size + 2 by omega) (I xk)).setCell (p:=(Q (w.heap.size + 2) 13)) (show w.heap.size ≤ w.heap.size + 2 by omega) (I xi))
 clear vr xG HR4 xH
 refine fD fun zb xU=>?_
 go_wp2_with fail
 refine U xU _ _ ?_
 clear xU
 refine fD fun zb xU=>?_
 go_wp2_with fail
 refine U xU _ _ ?_
 clear xU
 refine fD fun zb xU=>?_
 go_wp2_with fail
 refine U xU _ _ ?_
 clear xU
 refine fD fun zb xU=>?_
 go_wp2_with fail
 refine U xU _ _ ?_
 clear xU
 refine fD fun zb xU=>?_
 go_wp2_with fail
 refine U xU _ _ ?_
 clear xU
 clear o0 fo0 o1 fo1 o2 fo2 o3 fo3 o4 fo4 o5 fo5 o6 fo6 o7 fo7 o8 fo8 o9 fo9 o10 fo10 o11 fo11 o12 fo12 o13 fo13 x9 jP jQ jR jS
 generalize (((((W4.setCell (Q (w.heap.size + 2) 9) (I id)).setCell (Q (w.heap.size + 2) 10) (I xj)).setCell (Q (w.heap.size + 2) 11) (I qty)).setCell (Q (w.heap.size + 2) 12) (I xk)).setCell (Q (w.heap.size + 2) 13) (I xi)) = W5 at jl vD uj ⊢
 obtain ⟨o0,o1,o2,o3,o4,o5,o6,o7,o8,o9,o10,o11,o12,o13⟩:=yz (U jl)
 have r0:=K (U vD) 0 rfl
 have fr0:=zd (U vD) 0 (by simp)
 have r1:=K (U vD) 1 rfl
 have fr1:=zd (U vD) 1 (by simp)
 have r2:=K (U vD) 2 rfl
 have fr2:=zd (U vD) 2 (by simp)
 have r3:=K (U vD) 3 rfl
 have fr3:=zd (U vD) 3 (by simp)
 have r4:=K (U vD) 4 rfl
 have fr4:=zd (U vD) 4 (by simp)
 have r5:=K (U vD) 5 rfl
 have fr5:=zd (U vD) 5 (by simp)
 have r6:=K (U vD) 6 rfl
 have fr6:=zd (U vD) 6 (by simp)
 have r7:=K (U vD) 7 rfl
 have fr7:=zd (U vD) 7 (by simp)
 have r8:=K (U vD) 8 rfl
 have fr8:=zd (U vD) 8 (by simp)
 have r9:=K (U vD) 9 rfl
 have fr9:=zd (U vD) 9 (by simp)
 have r10:=K (U vD) 10 rfl
 have fr10:=zd (U vD) 10 (by simp)
 have r11:=K (U vD) 11 rfl
 have fr11:=zd (U vD) 11 (by simp)
 have r12:=K (U vD) 12 rfl
 have fr12:=zd (U vD) 12 (by simp)
 have r13:=K (U vD) 13 rfl
 have fr13:=zd (U vD) 13 (by simp)
 have xT:=H (zw (us:=(yw xn ck A ct F cq ci O cg id xj qty xk xi)) (U vD) rfl)
 have HBF:=H (zi (w.heap.size + 1) (by omega) (yw xn ck A ct F cq ci O cg id xj qty xk xi) 0 W5 (U uj))
 clear jl vD uj
 go_wp2_with fail
 rw [set14]
 generalize (W5.setCells (w.heap.size + 1) 0 (yw xn ck A ct F cq ci O cg id xj qty xk xi)) = WF at xT HBF ⊢
 obtain ⟨d0,d1,d2,d3,d4,d5,d6,d7,d8,d9,ku,kY,kZ,oa⟩:=yz (U xT)
 refine bodyPost_ret (v:=.agg (yw xn ck A ct F cq ci O cg id xj qty xk xi).toArray) ?_ rfl ⟨rfl,U HBF⟩
 simp [results,Tryz.f17,go_sem,d0,d1,d2,d3,d4,d5,d6,d7,d8,d9,ku,kY,kZ,oa]
theorem Tryz.infoEvent:(Tryz.prog.info? 52).map (fun i=>(i.zero,i.size,i.bytes)) = some (some (.agg (yw 0 0 0 0 0 0 0 0 ⟨#[]⟩ 0 0 0 0 0).toArray),14,120):=by kernel_rfl
theorem take_snocE {α:Type} (l:List α) (k:Nat) (c:α) (h:l[k]? = some c):l.take (k + 1) = l.take k ++ [c]:=by
 obtain ⟨hk,rfl⟩:=yH.1 h
 rw [List.take_succ_eq_append_getElem hk]
theorem ev_cells {W:World} {b o:Nat} {e:Ev} (h:W.rangeAt b o e.vs):W.cell? (Q b o) = some (I e.kind)∧W.cell? (Q b (o + 1)) = some (I e.cmd.k)∧W.cell? (Q b (o + 2)) = some (I e.cmd.s)∧W.cell? (Q b (o + 3)) = some (I e.cmd.t)∧W.cell? (Q b (o + 4)) = some (I e.cmd.l)∧W.cell? (Q b (o + 5)) = some (I e.cmd.q)∧W.cell? (Q b (o + 6)) = some (I e.cmd.i)∧W.cell? (Q b (o + 7)) = some (yk e.cmd.p)∧W.cell? (Q b (o + 8)) = some (yl e.cmd.g)∧W.cell? (Q b (o + 9)) = some (I e.id)∧W.cell? (Q b (o + 10)) = some (I e.other)∧W.cell? (Q b (o + 11)) = some (I e.qty)∧W.cell? (Q b (o + 12)) = some (I e.price)∧W.cell? (Q b (o + 13)) = some (I e.reason):=⟨h 0 _ rfl,h 1 _ rfl,h 2 _ rfl,h 3 _ rfl,h 4 _ rfl,h 5 _ rfl,h 6 _ rfl,h 7 _ rfl,h 8 _ rfl,h 9 _ rfl,h 10 _ rfl,h 11 _ rfl,h 12 _ rfl,h 13 _ rfl⟩
theorem bP {w:World} {b o n:Nat} (h:w.there b o n) (j:Nat) (V:j < n):∃ v,w.cell? (Q b (o + j)) = some v∧w.frozen? (Q b (o + j)) = false:=by
 obtain ⟨N,Y⟩:=h j V
 obtain ⟨v,hv⟩:=Option.isSome_iff_exists.1 N
 exact ⟨v,hv,Y⟩
theorem eT (v:Value) (l:List Ev) (w:World) (hr:RdR Ev.vs 14 w v l) :
  Calls Tryz.prog 10 #[v] w fun e w'=>∃ v',e = .returned v'∧OwnR Ev.vs 14 w.heap.size w' v' l∧yp w w':=by
 obtain ⟨a,cap,rfl,hl,hc⟩:=hr
 obtain ⟨i0,hi,uH,uI,uW⟩:=info_parts Tryz.infoEvent
 have xt:∀ (k:Nat) (c:Ev),l[k]? = some c→∃ b off,a = some (Q b off)∧b < w.heap.size∧w.rangeAt b (off + k * 14) c.vs:=by
  intro k c hk
  obtain ⟨b,off,N,Y,h3⟩:=hc (by intro h; rw [h] at hk; simp at hk)
  exact ⟨b,off,N,Y,h3 k c hk⟩
 have HC:=H xt
 clear xt hc
 go_enter Tryz.func10,Tryz.ntmps10
 go_wp2_with (at_make; go_must (refine wpList_make_full _ rfl _ _ 36 rfl w.heap.size 52 i0 _ 14 Tryz.underlying36 hi uH uI _ _ _ _ l.length rfl rfl rfl rfl (by rw [uW]; omega) (by unfold maxLen; omega) yb ?_); intro w1 xS ju)
 have HA:=H (fill_made (f:=Ev.vs) xS ju)
 clear xS ju hi uH uI uW
 go_loopw [4] (fun i wr=>∃ k:Nat,k ≤ l.length∧i = I k∧FillR Ev.vs 14 l.length w.heap.size w wr (l.take k)) (fun i _=>l.length - (intOf i).toNat)
 case atStart=>exact ⟨0,Nat.zero_le _,rfl,by simpa using U HA⟩
 case round =>
  obtain ⟨k,hk,rfl,jE⟩:=hrel
  have HF:=H jE
  clear jE HA
  by_cases xJ:k < l.length
  ·obtain ⟨c,ur⟩:∃ c,l[k]? = some c:=⟨_,yI xJ⟩
   have jK:=H ur
   obtain ⟨b,off,rfl,E,X⟩:=U HC k c ur
   have kC:=zc X (U HF).2.2.2.2 E
   obtain ⟨g0,g1,g2,g3,g4,g5,g6,g7,g8,g9,qn,vE,ua,qI⟩:=ev_cells kC
   have uF:(k:Int) < l.length:=by omega
   clear ur X E kC
   go_wp2_with fail
   refine (toEvent_any c _).mono ?_
   rintro e w2 ⟨rfl,xL⟩
   unfold evV
   have vC:=H (fill_below (U HF) xL yb)
   clear xL
   have qR:=fill_there (U vC) xJ
   obtain ⟨x0,y0,z0⟩:=bP qR 0 (by omega)
   obtain ⟨x1,y1,z1⟩:=bP qR 1 (by omega)
   obtain ⟨x2,y2,z2⟩:=bP qR 2 (by omega)
   obtain ⟨x3,y3,z3⟩:=bP qR 3 (by omega)
   obtain ⟨x4,y4,z4⟩:=bP qR 4 (by omega)
   obtain ⟨x5,y5,z5⟩:=bP qR 5 (by omega)
   obtain ⟨x6,y6,z6⟩:=bP qR 6 (by omega)
   obtain ⟨x7,y7,z7⟩:=bP qR 7 (by omega)
   obtain ⟨x8,y8,z8⟩:=bP qR 8 (by omega)
   obtain ⟨x9,y9,z9⟩:=bP qR 9 (by omega)
   obtain ⟨jP,y10,kU⟩:=bP qR 10 (by omega)
   obtain ⟨jQ,y11,ow⟩:=bP qR 11 (by omega)
   obtain ⟨jR,y12,ox⟩:=bP qR 12 (by omega)
   obtain ⟨jS,y13,oy⟩:=bP qR 13 (by omega)
   rw [Nat.add_zero] at y0 z0
   clear qR
   have hsf:=sfl
   go_wp2_with fail
   go_roundw
   case rel =>
    refine ⟨k + 1,by omega,by go_num,?_⟩
    have h:=fill_step c (U vC) (by rw [List.length_take]; omega) Ev.len
    rw [← take_snocE l k c (U jK),show (l.take k).length = k by rw [List.length_take]; omega] at h
    exact h
   case measure=>simp [intOf]; omega
  ·go_wp2_with fail
   go_ret
   have h:=U HF
   rw [xa (by omega)] at h
   exact ⟨_,rfl,fill_own h rfl hl,h.2.2.2.2⟩
theorem szEventS_at (v:Value) (l:List Ev) (w:World) (hr:RdR Ev.vs 14 w v l) (x0:Int) (hx0:0 ≤ x0) (hx1:x0 ≤ 1048576) (hl:l.length ≤ x0) (hg:∀ c ∈ l,c.cmd.g.size ≤ maxLen) :
  Calls Tryz.prog 7 #[v,I x0] w fun e w'=>∃ y:Int,e = .returned (I y)∧y ≤ 1048576∧yp w w':=by
 obtain ⟨a,cap,rfl,_,hc⟩:=hr
 have xt:∀ (k:Nat) (c:Ev),l[k]? = some c→∃ b off,a = some (Q b off)∧b < w.heap.size∧w.rangeAt b (off + k * 14) c.vs:=by
  intro k c hk
  obtain ⟨b,off,N,Y,h3⟩:=hc (by intro h; rw [h] at hk; simp at hk)
  exact ⟨b,off,N,Y,h3 k c hk⟩
 have HC:=H xt
 have HG:=H hg
 clear xt hc hg
 have px:¬ (x0 - (l.length:Int) < 0):=by omega
 go_enter Tryz.func7,Tryz.ntmps7
 go_wp2_with fail
 go_loopw [1,5] (fun xv i wr=>∃ (x:Int) (k:Nat),xv = I x∧0 ≤ x∧x ≤ 1048576∧k ≤ l.length∧i = I k∧yp w wr) (fun _ i _=>l.length - (intOf i).toNat)
 case atStart=>exact ⟨_,0,rfl,by omega,by omega,Nat.zero_le _,rfl,Below.refl _ _⟩
 case round =>
  obtain ⟨x,k,rfl,hy2,hy3,hk,rfl,xl⟩:=hrel
  have HB:=H xl
  clear xl
  by_cases xJ:k < l.length
  ·obtain ⟨c,ur⟩:∃ c,l[k]? = some c:=⟨_,yI xJ⟩
   obtain ⟨b,off,rfl,E,X⟩:=U HC k c ur
   have HS:=H (U HG c (yP ur))
   obtain ⟨g0,g1,g2,g3,g4,g5,g6,g7,g8,g9,qn,vE,ua,qI⟩:=ev_cells (zc X (U HB) E)
   have uF:(k:Int) < l.length:=by omega
   clear ur X E
   go_wp2_with fail
   refine (szEvent_any c x _ hy2 (by omega) (U HS)).mono ?_
   rintro e w2 ⟨y,rfl,hy1,xL⟩
   have xw:=H (fC (U HB) xL)
   clear xL
   by_cases hy:y < 0
   ·go_wp2_with fail
    go_ret
    exact ⟨_,rfl,by omega,U xw⟩
   ·go_wp2_with fail
    go_roundw
    case rel=>exact ⟨y,k + 1,rfl,by omega,by omega,by omega,by go_num,U xw⟩
    case measure=>simp [intOf]; omega
  ·go_wp2_with fail
   go_ret
   exact ⟨_,rfl,by omega,U HB⟩
theorem szEventS_far (a:Option Addr) (len cap:Nat) (w:World) (x0:Int) (hx0:0 ≤ x0) (hx1:x0 ≤ 1048576) (hl:x0 < len) (hm:len ≤ maxLen) :
  Calls Tryz.prog 7 #[.slice a len cap,I x0] w fun e w'=>e = .returned (I (-1))∧w' = w:=by
 unfold maxLen at hm
 have px:x0 - (len:Int) < 0:=by omega
 go_enter Tryz.func7,Tryz.ntmps7
 go_wp2_with fail
 go_ret
 exact ⟨rfl,rfl⟩
theorem eqEventS_same (va vb:Value) (l:List Ev) (w:World) (ha:RdR Ev.vs 14 w va l) (E:RdR Ev.vs 14 w vb l) :
  Calls Tryz.prog 14 #[va,vb] w fun e w'=>e = .returned (.bool true)∧yp w w':=by
 obtain ⟨aa,ca,rfl,hl,hca⟩:=ha
 obtain ⟨ab,cb,rfl,_,hcb⟩:=E
 have xt:∀ (k:Nat) (c:Ev),l[k]? = some c→∃ b off b' qr,aa = some (Q b off)∧ab = some (Q b' qr)∧b < w.heap.size∧b' < w.heap.size∧w.rangeAt b (off + k * 14) c.vs∧w.rangeAt b' (qr + k * 14) c.vs:=by
  intro k c hk
  have xD:l ≠ []:=by intro h; rw [h] at hk; simp at hk
  obtain ⟨b,off,N,Y,h3⟩:=hca xD
  obtain ⟨b',qr,pp,oE,h3'⟩:=hcb xD
  exact ⟨b,off,b',qr,N,pp,Y,oE,h3 k c hk,h3' k c hk⟩
 have HC:=H xt
 clear xt hca hcb
 go_enter Tryz.func14,Tryz.ntmps14
 go_wp2_with fail
 go_loopw [5] (fun i wr=>∃ k:Nat,k ≤ l.length∧i = I k∧yp w wr) (fun i _=>l.length - (intOf i).toNat)
 case atStart=>exact ⟨0,Nat.zero_le _,rfl,Below.refl _ _⟩
 case round =>
  obtain ⟨k,hk,rfl,xl⟩:=hrel
  have HB:=H xl
  clear xl
  by_cases xJ:k < l.length
  ·obtain ⟨c,ur⟩:∃ c,l[k]? = some c:=⟨_,yI xJ⟩
   obtain ⟨b,off,b',qr,rfl,rfl,E,hb',X,qp⟩:=U HC k c ur
   obtain ⟨g0,g1,g2,g3,g4,g5,g6,g7,g8,g9,qn,vE,ua,qI⟩:=ev_cells (zc X (U HB) E)
   obtain ⟨e0,e1,e2,e3,e4,e5,e6,e7,e8,e9,uO,uy,vQ,uQ⟩:=ev_cells (zc qp (U HB) hb')
   have uF:(k:Int) < l.length:=by omega
   clear ur X qp E hb'
   go_wp2_with fail
   go_region_with (go_at_call 34; refine (eqEvent_same c _).mono ?_; rintro e w2 ⟨rfl,xL⟩; have xw:=H ((U HB).drew.trans (xL.mono (U HB).drew.size)); clear xL)
   go_wp2_with fail
   go_roundw
   case rel=>exact ⟨k + 1,by omega,by go_num,U xw⟩
   case measure=>simp [intOf]; omega
   all_goals exact ⟨⟨k + 1,by omega,by go_num,U xw⟩,by simp [intOf]; omega⟩
  ·go_wp2_with fail
   go_ret
   exact ⟨rfl,U HB⟩
end Go.Proofs.YtnphbkgfjanmgaaGreatDoor
namespace Go.Proofs.YtnphbkgfjanmgaaGreatDoor
open Go.RowKit Go.ChangeShapes Go.WideShapes Go.Deep
set_option linter.unusedVariables false

structure Ev.ok (e:Ev):Prop where
 k:(Lit.int .i64 e.kind).wf = true
 c:e.cmd.ok
 a:(Lit.int .i64 e.id).wf = true
 o:(Lit.int .i64 e.other).wf = true
 q:(Lit.int .i64 e.qty).wf = true
 p:(Lit.int .i64 e.price).wf = true
 r:(Lit.int .i64 e.reason).wf = true
theorem flt_lt {p:Nat} (h:(Lit.float .f64 p).wf = true):p < 18446744073709551616:=by
 simpa [Lit.wf] using h
theorem Ev.ok.fit {e:Ev} (h:e.ok):e.fit:=by
 refine ⟨fun o=>?_,bounds_i64 h.k,flt_lt h.c.p,h.c.g⟩
 unfold Ev.num
 split
 ·exact bounds_i64 h.c.k
 ·exact bounds_i64 h.c.s
 ·exact bounds_i64 h.c.t
 ·exact bounds_i64 h.c.l
 ·exact bounds_i64 h.c.q
 ·exact bounds_i64 h.c.i
 ·exact bounds_i64 h.a
 ·exact bounds_i64 h.o
 ·exact bounds_i64 h.q
 ·exact bounds_i64 h.p
 ·exact bounds_i64 h.r
 ·omega
section
variable {yd:Type} {enc:TypeId × Value→yd} {w:World} {base:Nat} {spare:Nat→Bool} {held:Bool}
theorem list14 {A:List Value} (h:A.length = 14):∃ v0 v1 v2 v3 v4 v5 v6 v7 v8 v9 v10 v11 v12 v13,A = [v0,v1,v2,v3,v4,v5,v6,v7,v8,v9,v10,v11,v12,v13] :=
 match A,h with
 | [v0,v1,v2,v3,v4,v5,v6,v7,v8,v9,v10,v11,v12,v13],_=>⟨v0,v1,v2,v3,v4,v5,v6,v7,v8,v9,v10,v11,v12,v13,rfl⟩
theorem ev_opened {fuel:Nat} {A:List Value} {x:DataW yd × List MemPlace} (h:DataW.trod enc Tryz.prog w base spare held fuel 46 A = some x):∃ e:Ev,A = e.vs∧e.ok:=by
 obtain ⟨xs,n,_,_,xA,hxl,hf⟩:=DataW.trod_struct Tryz.underlying46 h
 have hl14:A.length = 14:=xA.trans (by kernel_rfl)
 have k3:Tryz.prog.cellsOf 3 = 1:=by kernel_rfl
 have k8:Tryz.prog.cellsOf 44 = 8:=by kernel_rfl
 have hx:∀ i,i < 7→∃ y,xs[i]? = some y:=fun i hi=>⟨_,yI (by rw [hxl]; exact hi)⟩
 obtain ⟨y0,e0⟩:=hx 0 (by omega)
 obtain ⟨y1,e1⟩:=hx 1 (by omega)
 obtain ⟨y2,e2⟩:=hx 2 (by omega)
 obtain ⟨y3,e3⟩:=hx 3 (by omega)
 obtain ⟨y4,e4⟩:=hx 4 (by omega)
 obtain ⟨y5,e5⟩:=hx 5 (by omega)
 obtain ⟨y6,e6⟩:=hx 6 (by omega)
 have f0:DataW.trod enc Tryz.prog w base spare held n 3 ((A.drop 0).take (Tryz.prog.cellsOf 3)) = some y0:=(hf 0 _ rfl).trans e0
 have f1:DataW.trod enc Tryz.prog w base spare held n 44 ((A.drop 1).take (Tryz.prog.cellsOf 44)) = some y1:=(hf 1 _ rfl).trans e1
 have f2:DataW.trod enc Tryz.prog w base spare held n 3 ((A.drop 9).take (Tryz.prog.cellsOf 3)) = some y2:=(hf 2 _ rfl).trans e2
 have f3:DataW.trod enc Tryz.prog w base spare held n 3 ((A.drop 10).take (Tryz.prog.cellsOf 3)) = some y3:=(hf 3 _ rfl).trans e3
 have f4:DataW.trod enc Tryz.prog w base spare held n 3 ((A.drop 11).take (Tryz.prog.cellsOf 3)) = some y4:=(hf 4 _ rfl).trans e4
 have f5:DataW.trod enc Tryz.prog w base spare held n 3 ((A.drop 12).take (Tryz.prog.cellsOf 3)) = some y5:=(hf 5 _ rfl).trans e5
 have f6:DataW.trod enc Tryz.prog w base spare held n 3 ((A.drop 13).take (Tryz.prog.cellsOf 3)) = some y6:=(hf 6 _ rfl).trans e6
 clear hf hx e0 e1 e2 e3 e4 e5 e6 h xA
 obtain ⟨v0,v1,v2,v3,v4,v5,v6,v7,v8,v9,v10,v11,v12,v13,rfl⟩:=list14 hl14
 clear hl14
 simp only [k3,k8,List.drop_zero,yV,yU,List.take_zero] at f0 f1 f2 f3 f4 f5 f6
 obtain ⟨n0,c0,_,b0⟩:=DataW.trod_int Tryz.underlying3 f0
 obtain ⟨c,c1,b1⟩:=cm_opened f1
 obtain ⟨n2,c2,_,b2⟩:=DataW.trod_int Tryz.underlying3 f2
 obtain ⟨n3,c3,_,b3⟩:=DataW.trod_int Tryz.underlying3 f3
 obtain ⟨n4,c4,_,b4⟩:=DataW.trod_int Tryz.underlying3 f4
 obtain ⟨n5,c5,_,b5⟩:=DataW.trod_int Tryz.underlying3 f5
 obtain ⟨n6,c6,_,b6⟩:=DataW.trod_int Tryz.underlying3 f6
 simp only [Cm.vs,List.cons.injEq,and_true] at c0 c1 c2 c3 c4 c5 c6
 obtain ⟨rfl,rfl,rfl,rfl,rfl,rfl,rfl,rfl⟩:=c1
 subst c0 c2 c3 c4 c5 c6
 exact ⟨⟨n0,c,n2,n3,n4,n5,n6⟩,rfl,⟨b0,b1,b2,b3,b4,b5,b6⟩⟩
end
end Go.Proofs.YtnphbkgfjanmgaaGreatDoor
namespace Go.Proofs.YtnphbkgfjanmgaaGreatDoor
open Go.RowKit Go.ChangeShapes Go.WideShapes Go.Deep
set_option linter.unusedVariables false

section
variable {yd:Type} {enc:TypeId × Value→yd} {w:World} {base:Nat} {spare:Nat→Bool} {held:Bool}
def IsEvents (w:World) (a:Option Addr) (len cap:Nat):Prop :=
 len ≤ maxLen∧(len ≤ 1073741824→∃ l:List Ev,l.length = len∧RdR Ev.vs 14 w (.slice a len cap) l∧∀ c ∈ l,c.ok)
theorem events_opened {fuel:Nat} {a:Option Addr} {len cap:Nat} {x:DataW yd × List MemPlace} (h:DataW.trod enc Tryz.prog w base spare held fuel 25 [.slice a len cap] = some x):IsEvents w a len cap:=by
 rcases open_slice Tryz.underlying25 h with ⟨kp,_⟩ | ⟨ad,ln,O,m,n,xh,Pl,kp,_,hl,hm,hmm,_,hel⟩
 ·simp only [List.cons.injEq,Value.slice.injEq,and_true] at kp
  obtain ⟨rfl,rfl,rfl⟩:=kp
  exact ⟨Nat.zero_le _,fun _=>⟨[],rfl,⟨none,0,rfl,by simp,fun h=>absurd rfl h⟩,by simp⟩⟩
 ·simp only [List.cons.injEq,Value.slice.injEq,and_true] at kp
  obtain ⟨rfl,rfl,rfl⟩:=kp
  have k37:Tryz.prog.cellsOf 46 = 14:=by kernel_rfl
  rw [k37] at hel
  have hlm:len ≤ m:=by rw [hmm]; split <;> omega
  refine ⟨by omega,fun E=>?_⟩
  have hc:∀ i,i < len→∃ c:Ev,c.ok∧∀ j v,c.vs[j]? = some v→w.cell? (ad.add (i * 14 + j)) = some v:=by
   intro i hi
   obtain ⟨cs',N,Y⟩:=hel i (by omega)
   obtain ⟨c,rfl,vu⟩:=ev_opened Y
   obtain ⟨_,_,xt⟩:=World.cells?_some N
   refine ⟨c,vu,fun j v hv=>?_⟩
   have:=xt j (yH.1 hv).1
   rw [add_add] at this
   rw [this,hv]
  have xz:0 < len→∃ b off,ad = (Q b off)∧b < w.heap.size:=by
   intro hp
   obtain ⟨c,_,h0⟩:=hc 0 hp
   have h0:=h0 0 _ rfl
   obtain ⟨b,off,spot⟩:=ad
   have hspot:spot = none:=by simpa [Addr.add] using World.cell?_spot h0
   subst hspot
   exact ⟨b,off,rfl,by have:=yL w _ h0; simpa [Addr.add] using this⟩
  haveI:Inhabited Ev:=⟨⟨0,⟨0,0,0,0,0,0,0,⟨#[]⟩⟩,0,0,0,0,0⟩⟩
  obtain ⟨cl,hF⟩:=choose_lt hc
  have hget:∀ i c,((List.range len).map cl)[i]? = some c→i < len∧c = cl i:=by
   intro i c hi
   have xJ:i < len:=by simpa using (yH.1 hi).1
   refine ⟨xJ,?_⟩
   rw [List.getElem?_map,List.getElem?_range xJ] at hi
   simpa using hi.symm
  refine ⟨(List.range len).map cl,by simp,⟨some ad,cap,by simp,by simpa using E,fun xD=>?_⟩,fun c hcm=>?_⟩
  ·have hp:0 < len:=by
    rcases Nat.eq_zero_or_pos len with h0 | h0
    ·subst h0; simp at xD
    ·exact h0
   obtain ⟨b,off,rfl,xJ⟩:=xz hp
   refine ⟨b,off,rfl,xJ,fun i c hi j v hv=>?_⟩
   obtain ⟨qa,rfl⟩:=hget i c hi
   have:=(hF i qa).2 j v hv
   rw [Addr.add_mid] at this
   rw [Nat.add_assoc]; exact this
  ·obtain ⟨i,hi⟩:=List.mem_iff_getElem?.1 hcm
   obtain ⟨qa,rfl⟩:=hget i c hi
   exact (hF i qa).1
end
end Go.Proofs.YtnphbkgfjanmgaaGreatDoor
