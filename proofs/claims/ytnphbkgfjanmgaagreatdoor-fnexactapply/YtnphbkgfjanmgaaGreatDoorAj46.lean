/-
  The laws' own helpers on events: the size of one, and its copying.
-/
import Derived.Test.YtnphbkgfjanmgaaGreatDoorAj45
import Derived.Laws.Cover2
set_option linter.unusedVariables false
set_option maxHeartbeats 6400000
set_option maxRecDepth 100000
namespace Go.Proofs.YtnphbkgfjanmgaaGreatDoor
open Go.RowKit
theorem szEvent_any (e:Ev) (x:Int) (w:World) (h0:0 ≤ x) (N:x ≤ 1073741824) (hg:e.cmd.g.size ≤ maxLen) :
  Calls Tryz.prog 15 #[evV e,I x] w fun r w'=>∃ y:Int,r = .returned (I y)∧y ≤ x∧yp w w':=by
 obtain ⟨xC,HX⟩:=gw w e.vs 46
 have HB:=H xC
 have HS:=H (fun W=>szCmd_any e.cmd x W h0 N hg)
 clear xC hg
 obtain ⟨xn,⟨ck,L,ct,V,cq,ci,O,cg⟩,id,xj,qty,xk,xi⟩:=e
 unfold evV
 unfold Ev.vs at HX HB
 simp only at HX HB HS ⊢
 go_enter Tryz.func15,Tryz.ntmps15
 refine gv fun hR xU=>?_
 go_wp2_with fail
 refine U xU _ _ ?_
 clear xU
 generalize (w.alloc (A (yw xn ck L ct V cq ci O cg id xj qty xk xi).toArray 46)) = W1 at HX HB ⊢
 obtain ⟨x0,x1,x2,x3,x4,x5,x6,x7,x8,x9,ka,kc,ke,kf⟩:=yz (U HX)
 go_wp2_with fail
 refine (U HS W1).mono ?_
 rintro r W2 ⟨y,rfl,hy0,hy1,xK⟩
 have xw:=H (gu (U HB) xK)
 clear xK HX
 by_cases hy:y < 0
 ·go_wp2_with fail
  go_ret
  exact ⟨-1,rfl,by omega,U xw⟩
 ·have hy':0 ≤ y:=by omega
  go_wp2_with fail
  go_ret
  exact ⟨y,rfl,hy1,U xw⟩
theorem toE_boxes (w:World) (us vs ws:List Value) (t u v:TypeId):Bx (((w.alloc (Obj.cells us.toArray t)).alloc (Obj.cells vs.toArray u)).alloc (Obj.cells ws.toArray v)) w.heap.size us∧Bx (((w.alloc (Obj.cells us.toArray t)).alloc (Obj.cells vs.toArray u)).alloc (Obj.cells ws.toArray v)) (w.heap.size + 1) vs∧Bx (((w.alloc (Obj.cells us.toArray t)).alloc (Obj.cells vs.toArray u)).alloc (Obj.cells ws.toArray v)) (w.heap.size + 2) ws∧yp w (((w.alloc (Obj.cells us.toArray t)).alloc (Obj.cells vs.toArray u)).alloc (Obj.cells ws.toArray v))∧(((w.alloc (Obj.cells us.toArray t)).alloc (Obj.cells vs.toArray u)).alloc (Obj.cells ws.toArray v)).heap.size = w.heap.size + 3:=by
 have s1:(w.alloc (Obj.cells us.toArray t)).heap.size = w.heap.size + 1:=by simp
 have s2:((w.alloc (Obj.cells us.toArray t)).alloc (Obj.cells vs.toArray u)).heap.size = w.heap.size + 2:=by simp
 have N:=zq w us t
 have Y:=zq (w.alloc (Obj.cells us.toArray t)) vs u
 have h3:=zq ((w.alloc (Obj.cells us.toArray t)).alloc (Obj.cells vs.toArray u)) ws v
 rw [s1] at Y
 rw [s2] at h3
 have b1:Below (w.heap.size + 1) (w.alloc (Obj.cells us.toArray t)) ((w.alloc (Obj.cells us.toArray t)).alloc (Obj.cells vs.toArray u)):=(Below.refl _ _).alloc (by omega) _
 have b2:Below (w.heap.size + 2) ((w.alloc (Obj.cells us.toArray t)).alloc (Obj.cells vs.toArray u)) (((w.alloc (Obj.cells us.toArray t)).alloc (Obj.cells vs.toArray u)).alloc (Obj.cells ws.toArray v)):=(Below.refl _ _).alloc (by omega) _
 exact ⟨zf (zf N b1 (by omega)) b2 (by omega),zf Y b2 (by omega),h3,(((Below.refl _ w).alloc yb _).alloc (by omega) _).alloc (by omega) _,by simp⟩
theorem toEvent_any (e:Ev) (w:World):Calls Tryz.prog 17 #[evV e] w fun r w'=>r = .returned (evV e)∧yp w w':=by
 have hsf:=sfl
 have HT:=H (fun W=>toCmd_any e.cmd W)
 have qN:=H (toE_boxes w e.vs (yw 0 0 0 0 0 0 0 0 ⟨#[]⟩ 0 0 0 0 0) (yw 0 0 0 0 0 0 0 0 ⟨#[]⟩ 0 0 0 0 0) 46 52 52)
 obtain ⟨xn,⟨ck,L,ct,V,cq,ci,O,cg⟩,id,xj,qty,xk,xi⟩:=e
 unfold evV
 unfold Ev.vs at qN
 simp only at qN HT ⊢
 go_enter Tryz.func17,Tryz.ntmps17
 refine gv fun hR xU=>?_
 go_wp2_with fail
 refine U xU _ _ ?_
 clear xU
 refine gv fun hR xU=>?_
 go_wp2_with fail
 refine U xU _ _ ?_
 clear xU
 generalize (((w.alloc (A (yw xn ck L ct V cq ci O cg id xj qty xk xi).toArray 46)).alloc (A (yw 0 0 0 0 0 0 0 0 ⟨#[]⟩ 0 0 0 0 0).toArray 52)).alloc (A (yw 0 0 0 0 0 0 0 0 ⟨#[]⟩ 0 0 0 0 0).toArray 52)) = W1 at qN ⊢
 obtain ⟨hX,K,hO,hB,hZ⟩:=U qN
 obtain ⟨x0,x1,x2,x3,x4,x5,x6,x7,x8,x9,ka,kc,ke,kf⟩:=yz (hX)
 have o0:=R hO 0 rfl
 have fo0:=zd hO 0 (by decide)
 have qX:=H (bH (j:=0) (u:=I xn) hO (by decide))
 have uD:=H (zR (j:=0) (u:=I xn) hX (show w.heap.size ≠ w.heap.size + 2 by omega))
 have qT:=H (zR (j:=0) (u:=I xn) K (show w.heap.size + 1 ≠ w.heap.size + 2 by omega))
 have uf:=H (hB.setCell (p:=(D (w.heap.size + 2) 0)) (show w.heap.size ≤ w.heap.size + 2 by omega) (I xn))
 have qU:Hid ((W1.setCell (D (w.heap.size + 2) 0) (I xn)).heap.size = w.heap.size + 3):=by show _ = _; rw [← hZ]; simp [World.setCell]
 clear hX K hO hB hZ qN
 refine gv fun hR xU=>?_
 go_wp2_with fail
 refine U xU _ _ ?_
 clear xU x0 o0 fo0 x1 x2 x3 x4 x5 x6 x7 x8 x9 ka kc ke kf
 generalize (W1.setCell (D (w.heap.size + 2) 0) (I xn)) = W2 at qX uD qT uf qU ⊢
 obtain ⟨x0,x1,x2,x3,x4,x5,x6,x7,x8,x9,ka,kc,ke,kf⟩:=yz (U uD)
 refine gv fun hR xU=>?_
 go_wp2_with fail
 refine (U HT W2).mono ?_
 rintro r W3 ⟨rfl,xQ⟩
 have hz:=U qU
 have hX:=zf (U uD) xQ (by omega)
 have K:=zf (U qT) xQ (by omega)
 have hO:=zf (U qX) xQ (by omega)
 have xN:=H (gu (U uf) xQ)
 clear xQ hz x0 x1 x2 x3 x4 x5 x6 x7 x8 x9 ka kc ke kf
 have o0:=R (hO) 0 rfl
 have fo0:=zd (hO) 0 (by simp)
 have o1:=R (hO) 1 rfl
 have fo1:=zd (hO) 1 (by simp)
 have o2:=R (hO) 2 rfl
 have fo2:=zd (hO) 2 (by simp)
 have o3:=R (hO) 3 rfl
 have fo3:=zd (hO) 3 (by simp)
 have o4:=R (hO) 4 rfl
 have fo4:=zd (hO) 4 (by simp)
 have o5:=R (hO) 5 rfl
 have fo5:=zd (hO) 5 (by simp)
 have o6:=R (hO) 6 rfl
 have fo6:=zd (hO) 6 (by simp)
 have o7:=R (hO) 7 rfl
 have fo7:=zd (hO) 7 (by simp)
 have o8:=R (hO) 8 rfl
 have fo8:=zd (hO) 8 (by simp)
 have o9:=R (hO) 9 rfl
 have fo9:=zd (hO) 9 (by simp)
 have o10:=R (hO) 10 rfl
 have fo10:=zd (hO) 10 (by simp)
 have o11:=R (hO) 11 rfl
 have fo11:=zd (hO) 11 (by simp)
 have o12:=R (hO) 12 rfl
 have fo12:=zd (hO) 12 (by simp)
 have o13:=R (hO) 13 rfl
 have fo13:=zd (hO) 13 (by simp)
 have vz:Hid (Bx ((((((((W3.setCell (D (w.heap.size + 2) 1) (I ck)).setCell (D (w.heap.size + 2) 2) (I L)).setCell (D (w.heap.size + 2) 3) (I ct)).setCell (D (w.heap.size + 2) 4) (I V)).setCell (D (w.heap.size + 2) 5) (I cq)).setCell (D (w.heap.size + 2) 6) (I ci)).setCell (D (w.heap.size + 2) 7) (yk O)).setCell (D (w.heap.size + 2) 8) (yl cg)) (w.heap.size + 2) (yw xn ck L ct V cq ci O cg 0 0 0 0 0)):=(bH (j:=8) (u:=yl cg) (bH (j:=7) (u:=yk O) (bH (j:=6) (u:=I ci) (bH (j:=5) (u:=I cq) (bH (j:=4) (u:=I V) (bH (j:=3) (u:=I ct) (bH (j:=2) (u:=I L) (bH (j:=1) (u:=I ck) hO (by simp)) (by simp)) (by simp)) (by simp)) (by simp)) (by simp)) (by simp)) (by simp))
 have xG:=H (zR (j:=8) (u:=yl cg) (zR (j:=7) (u:=yk O) (zR (j:=6) (u:=I ci) (zR (j:=5) (u:=I cq) (zR (j:=4) (u:=I V) (zR (j:=3) (u:=I ct) (zR (j:=2) (u:=I L) (zR (j:=1) (u:=I ck) hX (show w.heap.size ≠ w.heap.size + 2 by omega)) (show w.heap.size ≠ w.heap.size + 2 by omega)) (show w.heap.size ≠ w.heap.size + 2 by omega)) (show w.heap.size ≠ w.heap.size + 2 by omega)) (show w.heap.size ≠ w.heap.size + 2 by omega)) (show w.heap.size ≠ w.heap.size + 2 by omega)) (show w.heap.size ≠ w.heap.size + 2 by omega)) (show w.heap.size ≠ w.heap.size + 2 by omega))
 have HR4:=H (zR (j:=8) (u:=yl cg) (zR (j:=7) (u:=yk O) (zR (j:=6) (u:=I ci) (zR (j:=5) (u:=I cq) (zR (j:=4) (u:=I V) (zR (j:=3) (u:=I ct) (zR (j:=2) (u:=I L) (zR (j:=1) (u:=I ck) K (show w.heap.size + 1 ≠ w.heap.size + 2 by omega)) (show w.heap.size + 1 ≠ w.heap.size + 2 by omega)) (show w.heap.size + 1 ≠ w.heap.size + 2 by omega)) (show w.heap.size + 1 ≠ w.heap.size + 2 by omega)) (show w.heap.size + 1 ≠ w.heap.size + 2 by omega)) (show w.heap.size + 1 ≠ w.heap.size + 2 by omega)) (show w.heap.size + 1 ≠ w.heap.size + 2 by omega)) (show w.heap.size + 1 ≠ w.heap.size + 2 by omega))
 have xH:=H (((((((((U xN).setCell (p:=(D (w.heap.size + 2) 1)) (show w.heap.size ≤ w.heap.size + 2 by omega) (I ck)).setCell (p:=(D (w.heap.size + 2) 2)) (show w.heap.size ≤ w.heap.size + 2 by omega) (I L)).setCell (p:=(D (w.heap.size + 2) 3)) (show w.heap.size ≤ w.heap.size + 2 by omega) (I ct)).setCell (p:=(D (w.heap.size + 2) 4)) (show w.heap.size ≤ w.heap.size + 2 by omega) (I V)).setCell (p:=(D (w.heap.size + 2) 5)) (show w.heap.size ≤ w.heap.size + 2 by omega) (I cq)).setCell (p:=(D (w.heap.size + 2) 6)) (show w.heap.size ≤ w.heap.size + 2 by omega) (I ci)).setCell (p:=(D (w.heap.size + 2) 7)) (show w.heap.size ≤ w.heap.size + 2 by omega) (yk O)).setCell (p:=(D (w.heap.size + 2) 8)) (show w.heap.size ≤ w.heap.size + 2 by omega) (yl cg))
 clear hX K hO uD qT qX uf qU xN
 go_wp2_with fail
 refine U xU _ _ ?_
 clear xU o0 fo0 o1 fo1 o2 fo2 o3 fo3 o4 fo4 o5 fo5 o6 fo6 o7 fo7 o8 fo8 o9 fo9 o10 fo10 o11 fo11 o12 fo12 o13 fo13
 generalize ((((((((W3.setCell (D (w.heap.size + 2) 1) (I ck)).setCell (D (w.heap.size + 2) 2) (I L)).setCell (D (w.heap.size + 2) 3) (I ct)).setCell (D (w.heap.size + 2) 4) (I V)).setCell (D (w.heap.size + 2) 5) (I cq)).setCell (D (w.heap.size + 2) 6) (I ci)).setCell (D (w.heap.size + 2) 7) (yk O)).setCell (D (w.heap.size + 2) 8) (yl cg)) = W4 at vz xG HR4 xH ⊢
 have x9:=R (U xG) 9 rfl
 have ka:=R (U xG) 10 rfl
 have kc:=R (U xG) 11 rfl
 have ke:=R (U xG) 12 rfl
 have kf:=R (U xG) 13 rfl
 have o0:=R (U vz) 0 rfl
 have fo0:=zd (U vz) 0 (by simp)
 have o1:=R (U vz) 1 rfl
 have fo1:=zd (U vz) 1 (by simp)
 have o2:=R (U vz) 2 rfl
 have fo2:=zd (U vz) 2 (by simp)
 have o3:=R (U vz) 3 rfl
 have fo3:=zd (U vz) 3 (by simp)
 have o4:=R (U vz) 4 rfl
 have fo4:=zd (U vz) 4 (by simp)
 have o5:=R (U vz) 5 rfl
 have fo5:=zd (U vz) 5 (by simp)
 have o6:=R (U vz) 6 rfl
 have fo6:=zd (U vz) 6 (by simp)
 have o7:=R (U vz) 7 rfl
 have fo7:=zd (U vz) 7 (by simp)
 have o8:=R (U vz) 8 rfl
 have fo8:=zd (U vz) 8 (by simp)
 have o9:=R (U vz) 9 rfl
 have fo9:=zd (U vz) 9 (by simp)
 have o10:=R (U vz) 10 rfl
 have fo10:=zd (U vz) 10 (by simp)
 have o11:=R (U vz) 11 rfl
 have fo11:=zd (U vz) 11 (by simp)
 have o12:=R (U vz) 12 rfl
 have fo12:=zd (U vz) 12 (by simp)
 have o13:=R (U vz) 13 rfl
 have fo13:=zd (U vz) 13 (by simp)
 have jy:Hid (Bx (((((W4.setCell (D (w.heap.size + 2) 9) (I id)).setCell (D (w.heap.size + 2) 10) (I xj)).setCell (D (w.heap.size + 2) 11) (I qty)).setCell (D (w.heap.size + 2) 12) (I xk)).setCell (D (w.heap.size + 2) 13) (I xi)) (w.heap.size + 2) (yw xn ck L ct V cq ci O cg id xj qty xk xi)):=(bH (j:=13) (u:=I xi) (bH (j:=12) (u:=I xk) (bH (j:=11) (u:=I qty) (bH (j:=10) (u:=I xj) (bH (j:=9) (u:=I id) (U vz) (by simp)) (by simp)) (by simp)) (by simp)) (by simp))
 have vH:=H (zR (j:=13) (u:=I xi) (zR (j:=12) (u:=I xk) (zR (j:=11) (u:=I qty) (zR (j:=10) (u:=I xj) (zR (j:=9) (u:=I id) (U HR4) (show w.heap.size + 1 ≠ w.heap.size + 2 by omega)) (show w.heap.size + 1 ≠ w.heap.size + 2 by omega)) (show w.heap.size + 1 ≠ w.heap.size + 2 by omega)) (show w.heap.size + 1 ≠ w.heap.size + 2 by omega)) (show w.heap.size + 1 ≠ w.heap.size + 2 by omega))
 have uk:=H ((((((U xH).setCell (p:=(D (w.heap.size + 2) 9)) (show w.heap.size ≤ w.heap.size + 2 by omega) (I id)).setCell (p:=(D (w.heap.size + 2) 10)) (show w.heap.size ≤ w.heap.size + 2 by omega) (I xj)).setCell (p:=(D (w.heap.size + 2) 11)) (show w.heap.size ≤ w.heap.size + 2 by omega) (I qty)).setCell (p:=(D (w.heap.size + 2) 12)) (show w.heap.size ≤ w.heap.size + 2 by omega) (I xk)).setCell (p:=(D (w.heap.size + 2) 13)) (show w.heap.size ≤ w.heap.size + 2 by omega) (I xi))
 clear vz xG HR4 xH
 refine gv fun hR xU=>?_
 go_wp2_with fail
 refine U xU _ _ ?_
 clear xU
 refine gv fun hR xU=>?_
 go_wp2_with fail
 refine U xU _ _ ?_
 clear xU
 refine gv fun hR xU=>?_
 go_wp2_with fail
 refine U xU _ _ ?_
 clear xU
 refine gv fun hR xU=>?_
 go_wp2_with fail
 refine U xU _ _ ?_
 clear xU
 refine gv fun hR xU=>?_
 go_wp2_with fail
 refine U xU _ _ ?_
 clear xU
 clear o0 fo0 o1 fo1 o2 fo2 o3 fo3 o4 fo4 o5 fo5 o6 fo6 o7 fo7 o8 fo8 o9 fo9 o10 fo10 o11 fo11 o12 fo12 o13 fo13 x9 ka kc ke kf
 generalize (((((W4.setCell (D (w.heap.size + 2) 9) (I id)).setCell (D (w.heap.size + 2) 10) (I xj)).setCell (D (w.heap.size + 2) 11) (I qty)).setCell (D (w.heap.size + 2) 12) (I xk)).setCell (D (w.heap.size + 2) 13) (I xi)) = W5 at jy vH uk ⊢
 obtain ⟨o0,o1,o2,o3,o4,o5,o6,o7,o8,o9,o10,o11,o12,o13⟩:=yz (U jy)
 have r0:=R (U vH) 0 rfl
 have fr0:=zd (U vH) 0 (by simp)
 have r1:=R (U vH) 1 rfl
 have fr1:=zd (U vH) 1 (by simp)
 have r2:=R (U vH) 2 rfl
 have fr2:=zd (U vH) 2 (by simp)
 have r3:=R (U vH) 3 rfl
 have fr3:=zd (U vH) 3 (by simp)
 have r4:=R (U vH) 4 rfl
 have fr4:=zd (U vH) 4 (by simp)
 have r5:=R (U vH) 5 rfl
 have fr5:=zd (U vH) 5 (by simp)
 have r6:=R (U vH) 6 rfl
 have fr6:=zd (U vH) 6 (by simp)
 have r7:=R (U vH) 7 rfl
 have fr7:=zd (U vH) 7 (by simp)
 have r8:=R (U vH) 8 rfl
 have fr8:=zd (U vH) 8 (by simp)
 have r9:=R (U vH) 9 rfl
 have fr9:=zd (U vH) 9 (by simp)
 have r10:=R (U vH) 10 rfl
 have fr10:=zd (U vH) 10 (by simp)
 have r11:=R (U vH) 11 rfl
 have fr11:=zd (U vH) 11 (by simp)
 have r12:=R (U vH) 12 rfl
 have fr12:=zd (U vH) 12 (by simp)
 have r13:=R (U vH) 13 rfl
 have fr13:=zd (U vH) 13 (by simp)
 have xT:=H (zu (us:=(yw xn ck L ct V cq ci O cg id xj qty xk xi)) (U vH) rfl)
 have HBF:=H (zh (w.heap.size + 1) (by omega) (yw xn ck L ct V cq ci O cg id xj qty xk xi) 0 W5 (U uk))
 clear jy vH uk
 go_wp2_with fail
 rw [set14]
 generalize (W5.setCells (w.heap.size + 1) 0 (yw xn ck L ct V cq ci O cg id xj qty xk xi)) = WF at xT HBF ⊢
 obtain ⟨d0,d1,d2,d3,d4,d5,d6,d7,d8,d9,kN,ox,oy,oz⟩:=yz (U xT)
 refine bodyPost_ret (v:=.agg (yw xn ck L ct V cq ci O cg id xj qty xk xi).toArray) ?_ rfl ⟨rfl,U HBF⟩
 simp [results,Tryz.f17,go_sem,d0,d1,d2,d3,d4,d5,d6,d7,d8,d9,kN,ox,oy,oz]
theorem Tryz.infoEvent:(Tryz.prog.info? 52).map (fun i=>(i.zero,i.size,i.bytes)) = some (some (.agg (yw 0 0 0 0 0 0 0 0 ⟨#[]⟩ 0 0 0 0 0).toArray),14,120):=by kernel_rfl
theorem take_snocE {α:Type} (l:List α) (k:Nat) (c:α) (h:l[k]? = some c):l.take (k + 1) = l.take k ++ [c]:=by
 obtain ⟨hk,rfl⟩:=yH.1 h
 rw [List.take_succ_eq_append_getElem hk]
theorem ev_cells {W:World} {b o:Nat} {e:Ev} (h:W.rangeAt b o e.vs):W.cell? (D b o) = some (I e.kind)∧W.cell? (D b (o + 1)) = some (I e.cmd.k)∧W.cell? (D b (o + 2)) = some (I e.cmd.s)∧W.cell? (D b (o + 3)) = some (I e.cmd.t)∧W.cell? (D b (o + 4)) = some (I e.cmd.l)∧W.cell? (D b (o + 5)) = some (I e.cmd.q)∧W.cell? (D b (o + 6)) = some (I e.cmd.i)∧W.cell? (D b (o + 7)) = some (yk e.cmd.p)∧W.cell? (D b (o + 8)) = some (yl e.cmd.g)∧W.cell? (D b (o + 9)) = some (I e.id)∧W.cell? (D b (o + 10)) = some (I e.other)∧W.cell? (D b (o + 11)) = some (I e.qty)∧W.cell? (D b (o + 12)) = some (I e.price)∧W.cell? (D b (o + 13)) = some (I e.reason):=⟨h 0 _ rfl,h 1 _ rfl,h 2 _ rfl,h 3 _ rfl,h 4 _ rfl,h 5 _ rfl,h 6 _ rfl,h 7 _ rfl,h 8 _ rfl,h 9 _ rfl,h 10 _ rfl,h 11 _ rfl,h 12 _ rfl,h 13 _ rfl⟩
theorem cF {w:World} {b o n:Nat} (h:w.there b o n) (j:Nat) (X:j < n):∃ v,w.cell? (D b (o + j)) = some v∧w.frozen? (D b (o + j)) = false:=by
 obtain ⟨N,Y⟩:=h j X
 obtain ⟨v,hv⟩:=Option.isSome_iff_exists.1 N
 exact ⟨v,hv,Y⟩
theorem fq (v:Value) (l:List Ev) (w:World) (hr:RdR Ev.vs 14 w v l) :
  Calls Tryz.prog 10 #[v] w fun e w'=>∃ v',e = .returned v'∧OwnR Ev.vs 14 w.heap.size w' v' l∧yp w w':=by
 obtain ⟨a,cap,rfl,hl,hc⟩:=hr
 obtain ⟨i0,hi,uK,uL,uZ⟩:=info_parts Tryz.infoEvent
 have xr:∀ (k:Nat) (c:Ev),l[k]? = some c→∃ b off,a = some (D b off)∧b < w.heap.size∧w.rangeAt b (off + k * 14) c.vs:=by
  intro k c hk
  obtain ⟨b,off,N,Y,h3⟩:=hc (by intro h; rw [h] at hk; simp at hk)
  exact ⟨b,off,N,Y,h3 k c hk⟩
 have HC:=H xr
 clear xr hc
 go_enter Tryz.func10,Tryz.ntmps10
 go_wp2_with (at_make; go_must (refine wpList_make_full _ rfl _ _ 36 rfl w.heap.size 52 i0 _ 14 Tryz.underlying36 hi uK uL _ _ _ _ l.length rfl rfl rfl rfl (by rw [uZ]; omega) (by unfold maxLen; omega) yb ?_); intro w1 xS jG)
 have HA:=H (fill_made (f:=Ev.vs) xS jG)
 clear xS jG hi uK uL uZ
 go_loopw [4] (fun i wr=>∃ k:Nat,k ≤ l.length∧i = I k∧FillR Ev.vs 14 l.length w.heap.size w wr (l.take k)) (fun i _=>l.length - (intOf i).toNat)
 case atStart=>exact ⟨0,Nat.zero_le _,rfl,by simpa using U HA⟩
 case round =>
  obtain ⟨k,hk,rfl,jO⟩:=hrel
  have HF:=H jO
  clear jO HA
  by_cases xI:k < l.length
  ·obtain ⟨c,uu⟩:∃ c,l[k]? = some c:=⟨_,yI xI⟩
   have jV:=H uu
   obtain ⟨b,off,rfl,Q,F⟩:=U HC k c uu
   have kT:=zc F (U HF).2.2.2.2 Q
   obtain ⟨g0,g1,g2,g3,g4,g5,g6,g7,g8,g9,qy,vI,ua,qP⟩:=ev_cells kT
   have uF:(k:Int) < l.length:=by omega
   clear uu F Q kT
   go_wp2_with fail
   refine (toEvent_any c _).mono ?_
   rintro e w2 ⟨rfl,xK⟩
   unfold evV
   have vG:=H (fill_below (U HF) xK yb)
   clear xK
   have jc:=fill_there (U vG) xI
   obtain ⟨x0,y0,z0⟩:=cF jc 0 (by omega)
   obtain ⟨x1,y1,z1⟩:=cF jc 1 (by omega)
   obtain ⟨x2,y2,z2⟩:=cF jc 2 (by omega)
   obtain ⟨x3,y3,z3⟩:=cF jc 3 (by omega)
   obtain ⟨x4,y4,z4⟩:=cF jc 4 (by omega)
   obtain ⟨x5,y5,z5⟩:=cF jc 5 (by omega)
   obtain ⟨x6,y6,z6⟩:=cF jc 6 (by omega)
   obtain ⟨x7,y7,z7⟩:=cF jc 7 (by omega)
   obtain ⟨x8,y8,z8⟩:=cF jc 8 (by omega)
   obtain ⟨x9,y9,z9⟩:=cF jc 9 (by omega)
   obtain ⟨ka,y10,oq⟩:=cF jc 10 (by omega)
   obtain ⟨kc,y11,oM⟩:=cF jc 11 (by omega)
   obtain ⟨ke,y12,oN⟩:=cF jc 12 (by omega)
   obtain ⟨kf,y13,oO⟩:=cF jc 13 (by omega)
   rw [Nat.add_zero] at y0 z0
   clear jc
   have hsf:=sfl
   go_wp2_with fail
   go_roundw
   case rel =>
    refine ⟨k + 1,by omega,by go_num,?_⟩
    have h:=fill_step c (U vG) (by rw [List.length_take]; omega) Ev.len
    rw [← take_snocE l k c (U jV),show (l.take k).length = k by rw [List.length_take]; omega] at h
    exact h
   case measure=>simp [intOf]; omega
  ·go_wp2_with fail
   go_ret
   have h:=U HF
   rw [xa (by omega)] at h
   exact ⟨_,rfl,fill_own h rfl hl,h.2.2.2.2⟩
theorem szEventS_at (v:Value) (l:List Ev) (w:World) (hr:RdR Ev.vs 14 w v l) (x0:Int) (hx0:0 ≤ x0) (hx1:x0 ≤ 1048576) (hl:l.length ≤ x0) (hg:∀ c ∈ l,c.cmd.g.size ≤ maxLen) :
  Calls Tryz.prog 7 #[v,I x0] w fun e w'=>∃ y:Int,e = .returned (I y)∧y ≤ 1048576∧yp w w':=by
 obtain ⟨a,cap,rfl,_,hc⟩:=hr
 have xr:∀ (k:Nat) (c:Ev),l[k]? = some c→∃ b off,a = some (D b off)∧b < w.heap.size∧w.rangeAt b (off + k * 14) c.vs:=by
  intro k c hk
  obtain ⟨b,off,N,Y,h3⟩:=hc (by intro h; rw [h] at hk; simp at hk)
  exact ⟨b,off,N,Y,h3 k c hk⟩
 have HC:=H xr
 have HG:=H hg
 clear xr hc hg
 have pP:¬ (x0 - (l.length:Int) < 0):=by omega
 go_enter Tryz.func7,Tryz.ntmps7
 go_wp2_with fail
 go_loopw [1,5] (fun xv i wr=>∃ (x:Int) (k:Nat),xv = I x∧0 ≤ x∧x ≤ 1048576∧k ≤ l.length∧i = I k∧yp w wr) (fun _ i _=>l.length - (intOf i).toNat)
 case atStart=>exact ⟨_,0,rfl,by omega,by omega,Nat.zero_le _,rfl,Below.refl _ _⟩
 case round =>
  obtain ⟨x,k,rfl,hy2,hy3,hk,rfl,xl⟩:=hrel
  have HB:=H xl
  clear xl
  by_cases xI:k < l.length
  ·obtain ⟨c,uu⟩:∃ c,l[k]? = some c:=⟨_,yI xI⟩
   obtain ⟨b,off,rfl,Q,F⟩:=U HC k c uu
   have HS:=H (U HG c (yP uu))
   obtain ⟨g0,g1,g2,g3,g4,g5,g6,g7,g8,g9,qy,vI,ua,qP⟩:=ev_cells (zc F (U HB) Q)
   have uF:(k:Int) < l.length:=by omega
   clear uu F Q
   go_wp2_with fail
   refine (szEvent_any c x _ hy2 (by omega) (U HS)).mono ?_
   rintro e w2 ⟨y,rfl,hy1,xK⟩
   have xw:=H (gu (U HB) xK)
   clear xK
   by_cases hy:y < 0
   ·go_wp2_with fail
    go_ret
    exact ⟨_,rfl,by omega,U xw⟩
   ·go_wp2_with fail
    go_roundw
    case rel=>exact ⟨y,k + 1,rfl,by omega,by omega,by omega,by go_num,U xw⟩
    case measure=>simp [intOf]; omega
  ·go_wp2_with fail
   go_ret
   exact ⟨_,rfl,by omega,U HB⟩
theorem szEventS_far (a:Option Addr) (len cap:Nat) (w:World) (x0:Int) (hx0:0 ≤ x0) (hx1:x0 ≤ 1048576) (hl:x0 < len) (hm:len ≤ maxLen) :
  Calls Tryz.prog 7 #[.slice a len cap,I x0] w fun e w'=>e = .returned (I (-1))∧w' = w:=by
 unfold maxLen at hm
 have pP:x0 - (len:Int) < 0:=by omega
 go_enter Tryz.func7,Tryz.ntmps7
 go_wp2_with fail
 go_ret
 exact ⟨rfl,rfl⟩
theorem eqEventS_same (va vb:Value) (l:List Ev) (w:World) (ha:RdR Ev.vs 14 w va l) (Q:RdR Ev.vs 14 w vb l) :
  Calls Tryz.prog 14 #[va,vb] w fun e w'=>e = .returned (.bool true)∧yp w w':=by
 obtain ⟨aa,ca,rfl,hl,hca⟩:=ha
 obtain ⟨ab,cb,rfl,_,hcb⟩:=Q
 have xr:∀ (k:Nat) (c:Ev),l[k]? = some c→∃ b off b' qA,aa = some (D b off)∧ab = some (D b' qA)∧b < w.heap.size∧b' < w.heap.size∧w.rangeAt b (off + k * 14) c.vs∧w.rangeAt b' (qA + k * 14) c.vs:=by
  intro k c hk
  have xA:l ≠ []:=by intro h; rw [h] at hk; simp at hk
  obtain ⟨b,off,N,Y,h3⟩:=hca xA
  obtain ⟨b',qA,pJ,oU,h3'⟩:=hcb xA
  exact ⟨b,off,b',qA,N,pJ,Y,oU,h3 k c hk,h3' k c hk⟩
 have HC:=H xr
 clear xr hca hcb
 go_enter Tryz.func14,Tryz.ntmps14
 go_wp2_with fail
 go_loopw [5] (fun i wr=>∃ k:Nat,k ≤ l.length∧i = I k∧yp w wr) (fun i _=>l.length - (intOf i).toNat)
 case atStart=>exact ⟨0,Nat.zero_le _,rfl,Below.refl _ _⟩
 case round =>
  obtain ⟨k,hk,rfl,xl⟩:=hrel
  have HB:=H xl
  clear xl
  by_cases xI:k < l.length
  ·obtain ⟨c,uu⟩:∃ c,l[k]? = some c:=⟨_,yI xI⟩
   obtain ⟨b,off,b',qA,rfl,rfl,Q,oW,F,qz⟩:=U HC k c uu
   obtain ⟨g0,g1,g2,g3,g4,g5,g6,g7,g8,g9,qy,vI,ua,qP⟩:=ev_cells (zc F (U HB) Q)
   obtain ⟨e0,e1,e2,e3,e4,e5,e6,e7,e8,e9,uR,uA,vV,uT⟩:=ev_cells (zc qz (U HB) oW)
   have uF:(k:Int) < l.length:=by omega
   clear uu F qz Q oW
   go_wp2_with fail
   go_region_with (go_at_call 34; refine (eqEvent_same c _).mono ?_; rintro e w2 ⟨rfl,xK⟩; have xw:=H ((U HB).drew.trans (xK.mono (U HB).drew.size)); clear xK)
   go_wp2_with fail
   go_roundw
   case rel=>exact ⟨k + 1,by omega,by go_num,U xw⟩
   case measure=>simp [intOf]; omega
   all_goals exact ⟨⟨k + 1,by omega,by go_num,U xw⟩,by simp [intOf]; omega⟩
  ·go_wp2_with fail
   go_ret
   exact ⟨rfl,U HB⟩
def ch (n:Int):ByteArray:=strB [n]
def digF:Nat→Nat→ByteArray→ByteArray
 | 0,_,o=>o
 | f + 1,k,o=>if k = 0 then o else digF f (k / 10) (ch (48 + (k:Int) % 10) ++ o)
theorem digF_zero (f:Nat) (o:ByteArray):digF f 0 o = o:=by cases f <;> rfl
theorem digF_more:∀ (f k:Nat) (o:ByteArray),k ≤ f→0 < k→digF f k o = digF (f - 1) (k / 10) (ch (48 + (k:Int) % 10) ++ o)
 | 0,k,o,h,h0=>by omega
 | f + 1,k,o,h,h0=>by simp only [digF,Nat.add_sub_cancel]; rw [if_neg (by omega)]
def markS (k:Nat):ByteArray:=⟨#[109]⟩ ++ digF k k ⟨#[]⟩
theorem one_text (b:Nat) (x:Int) (W:World) (h:W.cell? (D b 0) = some (.int .u8 x)) :
  (convert 115 9 (.slice (some (D b 0)) 1 1)).run Tryz.prog W = .ok (yl (ch x)) W:=by
 refine conv_text _ [x] W ⟨_,1,rfl,by simp,fun _=>⟨b,0,rfl,fun i hi=>?_⟩⟩
 obtain rfl:i = 0:=by simp at hi; omega
 exact h
theorem markText_any (hR:Nat) (w:World) (h0:0 < hR) (N:hR ≤ 1073741824) :
  Calls Tryz.prog 44 #[I hR] w fun e w'=>e = yn (yl (markS hR))∧yp w w':=by
 have h0':¬ ((hR:Int) ≤ 0):=by omega
 go_enter Tryz.func44,Tryz.ntmps44
 go_wp2_with fail
 go_loopw [0,3] (fun kv ov wr=>∃ (f k:Nat) (o:ByteArray),kv = I k∧k ≤ f∧k ≤ hR∧ov = yl o∧o.size + k ≤ hR∧Hid (digF f k o = digF hR hR ⟨#[]⟩)∧yp w wr) (fun kv _ _=>(intOf kv).toNat)
 case atStart=>exact ⟨hR,hR,⟨#[]⟩,rfl,Nat.le_refl _,Nat.le_refl _,rfl,by rw [show (⟨#[]⟩:ByteArray).size = 0 from rfl]; omega,rfl,Below.refl _ _⟩
 case round =>
  obtain ⟨f,k,o,rfl,hkf,hk,rfl,kB,Z,xl⟩:=hrel
  have HB:=H xl
  clear xl
  by_cases jQ:0 < k
  ·have hk0':(0:Int) < k:=by omega
   have hcv:=one_text wr.heap.size (48 + (k:Int) % 10) (wr.alloc (A #[.int .u8 (48 + (k:Int) % 10)] 5)) (cell_of_row _ wr.heap.size 0 _ _ _ (heap_alloc_new wr _))
   have HO:=H ((digF_more f k o hkf jQ).symm.trans Z)
   clear Z
   have js:(ch (48 + (k:Int) % 10)).size = 1:=rfl
   generalize ch (48 + (k:Int) % 10) = c at *
   go_wp2_with fail
   go_roundw
   case rel=>exact ⟨f - 1,k / 10,c ++ o,by go_num,by omega,by omega,rfl,by rw [ByteArray.size_append]; omega,U HO,(U HB).alloc (U HB).size _⟩
   case measure=>simp [intOf]; omega
  ·have hk0':¬ ((0:Int) < k):=by omega
   have HO:Hid (o = digF hR hR ⟨#[]⟩):=by
    have h:=U Z
    rw [show k = 0 by omega,digF_zero] at h; exact h
   clear Z
   go_wp2_with fail
   go_ret
   refine ⟨?_,U HB⟩
   rw [U HO]; rfl
section
variable {α:Type} (f:α→List Value) (sz:Nat)
def MarkR (n g:Nat) (w wr:World) (done:List α):Prop :=
 (∀ i c,done[i]? = some c→wr.rangeAt g (0 + i * sz) (f c))∧wr.there g 0 (n * sz)∧w.grownBy wr (some g)∧done.length ≤ n∧g < wr.heap.size
variable {f sz}
theorem eL {w:World} (g:Nat):∀ (vs:List Value) (o:Nat) (wr:World),w.grownBy wr (some g)→w.grownBy (wr.setCells g o vs) (some g)
 | [],_,_,h=>h
 | v :: r,o,wr,h=>by rw [World.setCells]; exact eL g r (o + 1) _ (zZ h (gr_set wr (D g o) v))
theorem range_append {w:World} {b o:Nat} {a c:List Value} (N:w.rangeAt b o a) (Y:w.rangeAt b (o + a.length) c):w.rangeAt b o (a ++ c):=fun j v hv=>by
 by_cases X:j < a.length
 ·rw [List.getElem?_append_left X] at hv; exact N j v hv
 ·rw [List.getElem?_append_right (by omega)] at hv
  have:=Y _ v hv
  rw [show o + a.length + (j - a.length) = o + j by omega] at this; exact this
theorem dL {w:World} {g i m n:Nat} (h:w.there g 0 n) (hi:i + m ≤ n):w.there g i m:=fun j X=>by
 have:=h (i + j) (by omega)
 rw [Nat.zero_add] at this; exact this
theorem mark_stepR {n g C:Nat} {w wr W2:World} {done:List α} (x:α) (a:List Value) (z:Value) (hx:f x = a ++ [z]) (h:MarkR f sz n g w wr done) (hn:done.length < n) (hf:∀ c,(f c).length = sz)
  (Q:Below C (wr.setCells g (done.length * sz) a) W2) (hC:wr.heap.size ≤ C):MarkR f sz n g w (W2.setCells g (done.length * sz + a.length) [z]) (done ++ [x]):=by
 obtain ⟨N,Y,h3,h4,h5⟩:=h
 have kB:a.length + 1 = sz:=by rw [← hf x,hx]; simp
 have qi:done.length * sz + sz ≤ n * sz:=by
  have:=Nat.mul_le_mul_right sz (show done.length + 1 ≤ n by omega)
  rw [Nat.add_mul] at this; omega
 have xI:g < C:=by omega
 have t1:(wr.setCells g (done.length * sz) a).there g 0 (n * sz):=xc Y _ _ _
 have t2:=zm t1 Q xI
 have ra:W2.rangeAt g (done.length * sz) a:=zc (yY _ _ _ _ (dL Y (by omega))) Q xI
 refine ⟨fun i c hc=>?_,xc t2 _ _ _,?_,by simp; omega,?_⟩
 ·by_cases hi:i < done.length
  ·rw [List.getElem?_append_left hi] at hc
   have vE:=Nat.mul_le_mul_right sz (show i + 1 ≤ done.length by omega)
   rw [Nat.add_mul] at vE
   refine World.rangeAt_setCells_apart (zc (World.rangeAt_setCells_apart (N i c hc) _ _ _ (.inr (.inl ?_))) Q xI) _ _ _ (.inr (.inl ?_))
   ·rw [hf c]; omega
   ·rw [hf c]; omega
  ·have xz:i < (done ++ [x]).length:=(yH.1 hc).1
   have vE:i = done.length:=by simp at xz; omega
   subst vE
   simp only [List.getElem?_append_right yb,Nat.sub_self,List.getElem?_cons_zero,Option.some.injEq] at hc
   subst hc
   rw [Nat.zero_add,hx]
   exact range_append (World.rangeAt_setCells_apart ra _ _ _ (.inr (.inl (by omega)))) (yY _ _ _ _ (dL t2 (by simp; omega)))
 ·exact eL g _ _ _ (zZ (eL g _ _ _ h3) (cR Q (by rw [zM]; exact hC)))
 ·rw [zM]
  have:=Q.size
  rw [zM] at this
  omega
end

theorem fX (x:Int) (hR:Nat) (w:World) (hx:x = hR) (h0:0 < hR) (N:hR ≤ 1073741824) :
  Calls Tryz.prog 44 #[I x] w fun e w'=>e = yn (yl (markS hR))∧yp w w':=by
 subst hx; exact markText_any hR w h0 N
def markE (k:Nat):Ev:=⟨(k:Int),⟨(k:Int) + 1,(k:Int) + 1 + 1,(k:Int) + 1 + 1 + 1,(k:Int) + 1 + 1 + 1 + 1,(k:Int) + 1 + 1 + 1 + 1 + 1,(k:Int) + 1 + 1 + 1 + 1 + 1 + 1,floatOfInt .f64 ((k:Int) + 1 + 1 + 1 + 1 + 1 + 1 + 1),markS (k + 8)⟩,(k:Int) + 1 + 1 + 1 + 1 + 1 + 1 + 1 + 1 + 1,(k:Int) + 1 + 1 + 1 + 1 + 1 + 1 + 1 + 1 + 1 + 1,(k:Int) + 1 + 1 + 1 + 1 + 1 + 1 + 1 + 1 + 1 + 1 + 1,(k:Int) + 1 + 1 + 1 + 1 + 1 + 1 + 1 + 1 + 1 + 1 + 1 + 1,(k:Int) + 1 + 1 + 1 + 1 + 1 + 1 + 1 + 1 + 1 + 1 + 1 + 1 + 1⟩
def mark8 (k:Nat):List Value:=[I ((k:Int)),I ((k:Int) + 1),I ((k:Int) + 1 + 1),I ((k:Int) + 1 + 1 + 1),I ((k:Int) + 1 + 1 + 1 + 1),I ((k:Int) + 1 + 1 + 1 + 1 + 1),I ((k:Int) + 1 + 1 + 1 + 1 + 1 + 1),yk (floatOfInt .f64 ((k:Int) + 1 + 1 + 1 + 1 + 1 + 1 + 1))]
def mark6 (k:Nat):List Value:=[yl (markS (k + 8)),I ((k:Int) + 1 + 1 + 1 + 1 + 1 + 1 + 1 + 1 + 1),I ((k:Int) + 1 + 1 + 1 + 1 + 1 + 1 + 1 + 1 + 1 + 1),I ((k:Int) + 1 + 1 + 1 + 1 + 1 + 1 + 1 + 1 + 1 + 1 + 1),I ((k:Int) + 1 + 1 + 1 + 1 + 1 + 1 + 1 + 1 + 1 + 1 + 1 + 1),I ((k:Int) + 1 + 1 + 1 + 1 + 1 + 1 + 1 + 1 + 1 + 1 + 1 + 1 + 1)]
def cV (k n:Nat):List Ev:=(List.range n).map fun i=>markE (k + 14 * i)
theorem ex (k n:Nat):(cV k n).length = n:=by simp [cV]
theorem marksE_more (k n:Nat):cV k (n + 1) = cV k n ++ [markE (k + 14 * n)]:=by simp [cV,List.range_succ]
theorem cK {w:World} {b o n:Nat} (h:w.there b o n) (j:Nat) (X:j < n):∃ v,w.cell? (D b (o + j)) = some v∧w.frozen? (D b (o + j)) = false:=cF h j X
section
variable {α:Type} {f:α→List Value} {sz:Nat}
theorem mark_stepL {n g C:Nat} {w wr W2:World} {done:List α} (x:α) (a z:List Value) (hx:f x = a ++ z) (h:MarkR f sz n g w wr done) (hn:done.length < n) (hf:∀ c,(f c).length = sz)
  (Q:Below C (wr.setCells g (done.length * sz) a) W2) (hC:wr.heap.size ≤ C):MarkR f sz n g w (W2.setCells g (done.length * sz + a.length) z) (done ++ [x]):=by
 obtain ⟨N,Y,h3,h4,h5⟩:=h
 have kB:a.length + z.length = sz:=by rw [← hf x,hx]; simp
 have qi:done.length * sz + sz ≤ n * sz:=by
  have:=Nat.mul_le_mul_right sz (show done.length + 1 ≤ n by omega)
  rw [Nat.add_mul] at this; omega
 have xI:g < C:=by omega
 have t1:(wr.setCells g (done.length * sz) a).there g 0 (n * sz):=xc Y _ _ _
 have t2:=zm t1 Q xI
 have ra:W2.rangeAt g (done.length * sz) a:=zc (yY _ _ _ _ (dL Y (by omega))) Q xI
 refine ⟨fun i c hc=>?_,xc t2 _ _ _,?_,by simp; omega,?_⟩
 ·by_cases hi:i < done.length
  ·rw [List.getElem?_append_left hi] at hc
   have vE:=Nat.mul_le_mul_right sz (show i + 1 ≤ done.length by omega)
   rw [Nat.add_mul] at vE
   refine World.rangeAt_setCells_apart (zc (World.rangeAt_setCells_apart (N i c hc) _ _ _ (.inr (.inl ?_))) Q xI) _ _ _ (.inr (.inl ?_))
   ·rw [hf c]; omega
   ·rw [hf c]; omega
  ·have xz:i < (done ++ [x]).length:=(yH.1 hc).1
   have vE:i = done.length:=by simp at xz; omega
   subst vE
   simp only [List.getElem?_append_right yb,Nat.sub_self,List.getElem?_cons_zero,Option.some.injEq] at hc
   subst hc
   rw [Nat.zero_add,hx]
   exact range_append (World.rangeAt_setCells_apart ra _ _ _ (.inr (.inl (by omega)))) (yY _ _ _ _ (dL t2 (by omega)))
 ·exact eL g _ _ _ (zZ (eL g _ _ _ h3) (cR Q (by rw [zM]; exact hC)))
 ·rw [zM]
  have:=Q.size
  rw [zM] at this
  omega
end

theorem markEventS_any (g len cap k:Nat) (w:World) (hl:len ≤ 2097152) (jQ:0 < k) (ps:k ≤ 1000000000) (hg:g < w.heap.size) (ht:w.there g 0 (len * 14)) :
  Calls Tryz.prog 22 #[.slice (some (D g 0)) len cap,I k] w fun e w'=>e = yn (I ((k + 14 * len:Nat):Int))∧MarkR Ev.vs 14 len g w w' (cV k len):=by
 have HM:Hid (MarkR Ev.vs 14 len g w w (cV k 0)):=⟨by simp [cV],ht,yS _ _,by simp [cV],hg⟩
 have hsf:=sfl
 clear ht
 go_enter Tryz.func22,Tryz.ntmps22
 go_wp2_with fail
 go_loopw [1,5] (fun kv i wr=>∃ m kk:Nat,m ≤ len∧i = I m∧kv = I kk∧Hid (kk = k + 14 * m)∧MarkR Ev.vs 14 len g w wr (cV k m)) (fun _ i _=>len - (intOf i).toNat)
 case atStart=>exact ⟨0,k,Nat.zero_le _,rfl,rfl,rfl,U HM⟩
 case round =>
  obtain ⟨m,kk,hm,rfl,rfl,kw,hmr⟩:=hrel
  have HR:=H hmr
  have hkb:(kk:Int) ≤ 1030000000:=by have:=U kw; omega
  clear hmr HM
  by_cases xI:m < len
  ·have ht8:=dL (i:=m * 14) (m:=14) (U HR).2.1 (by omega)
   obtain ⟨x0,y0,z0⟩:=cK ht8 0 (by omega)
   obtain ⟨x1,y1,z1⟩:=cK ht8 1 (by omega)
   obtain ⟨x2,y2,z2⟩:=cK ht8 2 (by omega)
   obtain ⟨x3,y3,z3⟩:=cK ht8 3 (by omega)
   obtain ⟨x4,y4,z4⟩:=cK ht8 4 (by omega)
   obtain ⟨x5,y5,z5⟩:=cK ht8 5 (by omega)
   obtain ⟨x6,y6,z6⟩:=cK ht8 6 (by omega)
   obtain ⟨x7,y7,z7⟩:=cK ht8 7 (by omega)
   rw [Nat.add_zero] at y0 z0
   have uF:(m:Int) < len:=by omega
   clear ht8
   go_wp2_with fail
   refine (fX _ (kk + 8) _ (by omega) (by omega) (by omega)).mono ?_
   rintro e W2 ⟨rfl,Q⟩
   have oW:Below (wr.setCells g (m * 14) (mark8 kk)).heap.size (wr.setCells g (m * 14) (mark8 kk)) W2:=Q
   have T2:=dL (i:=m * 14) (m:=14) (zm (xc (U HR).2.1 g (m * 14) (mark8 kk)) oW (by rw [zM]; exact (U HR).2.2.2.2)) (by omega)
   obtain ⟨v8,c8,f8⟩:=cK T2 8 (by omega)
   obtain ⟨v9,c9,f9⟩:=cK T2 9 (by omega)
   obtain ⟨v10,c10,f10⟩:=cK T2 10 (by omega)
   obtain ⟨v11,c11,f11⟩:=cK T2 11 (by omega)
   obtain ⟨v12,c12,f12⟩:=cK T2 12 (by omega)
   obtain ⟨v13,c13,f13⟩:=cK T2 13 (by omega)
   have HB:=H oW
   clear Q oW T2 y0 z0 y1 z1 y2 z2 y3 z3 y4 z4 y5 z5 y6 z6 y7 z7
   go_wp2_with fail
   go_roundw
   case rel =>
    refine ⟨m + 1,kk + 14,by omega,by go_num,congrArg (I) (by omega),by have:=U kw; show kk + 14 = _; omega,?_⟩
    have h:=mark_stepL (markE kk) (mark8 kk) (mark6 kk) rfl (U HR) (by rw [ex]; exact xI) Ev.len (by rw [ex]; exact U HB) (by rw [zM]; exact Nat.le_refl _)
    rw [ex,U kw,← marksE_more,← U kw] at h
    exact h
   case measure=>simp [intOf]; omega
  ·go_wp2_with fail
   go_ret
   obtain rfl:m = len:=by omega
   have h:=U kw
   subst h
   exact ⟨rfl,U HR⟩
theorem markEventS_nil (a:Option Addr) (cap k:Nat) (w:World) :
  Calls Tryz.prog 22 #[.slice a 0 cap,I k] w fun e w'=>e = yn (I k)∧w' = w:=by
 go_enter Tryz.func22,Tryz.ntmps22
 go_wp2
 refine wp_loop_rounds 1 ?_
 rw [rounds_succ]
 go_wp2
 go_ret
 exact ⟨rfl,rfl⟩
theorem markE_own {B:Nat} (v:Value) (l:List Ev) (k:Nat) (w:World) (h:OwnR Ev.vs 14 B w v l) (hl:l.length ≤ 2097152) (jQ:0 < k) (ps:k ≤ 1000000000) :
  Calls Tryz.prog 22 #[v,I k] w fun e w'=>e = yn (I ((k + 14 * l.length:Nat):Int))∧OwnR Ev.vs 14 B w' v (cV k l.length) ∧
   ∃ G,w.grownBy w' G∧∀ g,G = some g→v.ownBlock = some g∧B ≤ g∧l ≠ []:=by
 obtain ⟨a,cap,rfl,xz,h⟩:=h
 by_cases xA:l = []
 ·subst xA
  refine (markEventS_nil a cap k w).mono ?_
  rintro e w' ⟨rfl,rfl⟩
  exact ⟨rfl,⟨a,cap,rfl,by simp [cV],fun h=>absurd rfl h⟩,none,yS _ _,fun g hg=>by cases hg⟩
 ·obtain ⟨g,rfl,h0,N,Y,h3⟩:=h xA
  refine (markEventS_any g l.length cap k w hl jQ ps N h3).mono ?_
  rintro e w' ⟨rfl,m1,m2,m3,m4,m5⟩
  refine ⟨rfl,⟨_,cap,by rw [ex],by rw [ex]; exact xz,fun _=>⟨g,rfl,h0,m5,m1,by rw [ex]; exact m2⟩⟩,some g,m3,fun g' hg=>?_⟩
  obtain rfl:=Option.some.inj hg
  exact ⟨rfl,h0,xA⟩
end Go.Proofs.YtnphbkgfjanmgaaGreatDoor
