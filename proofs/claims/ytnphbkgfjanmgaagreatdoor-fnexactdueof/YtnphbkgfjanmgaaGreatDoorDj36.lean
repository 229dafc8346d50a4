/-
  The rule that an event of a group breaks, by the model: proved by walking the methods.
-/
import Derived.Test.YtnphbkgfjanmgaaGreatDoorDj35
set_option linter.unusedVariables false
set_option maxHeartbeats 6400000
set_option maxRecDepth 100000
namespace Go.Proofs.YtnphbkgfjanmgaaGreatDoor
open Go.RowKit
theorem first_6 {cp B:Nat} {vl vd va:Value} {g:Gr} {t:Od} {kd n0:Int} {dy l0:List Od} (ck A ct F cq ci:Int) (O:Nat) (cg:ByteArray) (id xj qty xk xi:Int) (w:World) (h:MS cp B w vl vd va g t kd n0 dy l0) (hi:GI g) (E:g.bg = 0) (hg:cg.size ≤ maxLen):Calls Tryz.prog 67 #[J cp 0,.agg (yw 6 ck A ct F cq ci O cg id xj qty xk xi).toArray] w fun x w'=>x = .returned (I (fstM g.nx g.l ⟨6,⟨ck,A,ct,F,cq,ci,O,cg⟩,id,xj,qty,xk,xi⟩))∧yp w w':=by
 have hsf:=sfl
 have vZ:=H (fun W=>cV 6 W (by decide))
 have uw:=H (fun W=>dU ⟨6,⟨ck,A,ct,F,cq,ci,O,cg⟩,id,xj,qty,xk,xi⟩ W (by show (1:Int) ≤ 6∧(6:Int) ≤ 9; decide))
 have qK:=H (hi.good (.inl (by omega)))
 have HSI:=H (hi.start E).2.2.1
 have xA:=hi.len
 have vX:Hid (fstM g.nx g.l ⟨6,⟨ck,A,ct,F,cq,ci,O,cg⟩,id,xj,qty,xk,xi⟩ = if refR g.nx g.l (aQ ⟨6,⟨ck,A,ct,F,cq,ci,O,cg⟩,id,xj,qty,xk,xi⟩) = 0 then (if qty = leftAt g.l id then 0 else 7) else 5):=by show _ = _; simp [fstM,zO]
 have kX:Hid ((aQ ⟨6,⟨ck,A,ct,F,cq,ci,O,cg⟩,id,xj,qty,xk,xi⟩).g.size ≤ maxLen):=dL hg
 have jy:=H (h.eqn E)
 have aw:Hid (refR g.nx g.l (aQ ⟨6,⟨ck,A,ct,F,cq,ci,O,cg⟩,id,xj,qty,xk,xi⟩) = 0→∃ (k:Nat) (o:Od),plc g.l id = k∧g.l[k]? = some o):=fun Y=>by
  simp only [aQ] at Y
  obtain ⟨k,o,a,b,_⟩:=plc_pos (ref_can Y)
  exact ⟨k,o,a,b⟩
 generalize fstM g.nx g.l ⟨6,⟨ck,A,ct,F,cq,ci,O,cg⟩,id,xj,qty,xk,xi⟩ = fm at vX ⊢
 generalize aQ ⟨6,⟨ck,A,ct,F,cq,ci,O,cg⟩,id,xj,qty,xk,xi⟩ = c at uw vX kX aw
 unfold evV at uw
 simp only at uw
 obtain ⟨xz,HX⟩:=fE w (yw 6 ck A ct F cq ci O cg id xj qty xk xi) 52
 have HS:Hid ((w.alloc (L (yw 6 ck A ct F cq ci O cg id xj qty xk xi).toArray 52)).heap.size = w.heap.size + 1):=by show _ = _; simp
 have HM:=H (zv h xz)
 have HB:=H xz
 clear h xz hi E hg
 go_enter Tryz.func67,Tryz.ntmps67
 refine fD fun zb HK=>?_
 go_wp2_with fail
 refine U HK _ _ ?_
 clear HK
 generalize (w.alloc (L (yw 6 ck A ct F cq ci O cg id xj qty xk xi).toArray 52)) = W1 at HS HX HM HB ⊢
 obtain ⟨e0,e1,e2,e3,e4,e5,e6,e7,e8,e9,uO,uy,vQ,uQ⟩:=yz (U HX)
 go_wp2_with fail
 refine (U vZ W1).mono ?_
 rintro e w1 ⟨rfl,qx⟩
 rw [qx]
 clear qx
 go_wp2_with fail
 refine (U uw W1).mono ?_
 rintro e w3 ⟨rfl,xQ⟩
 have hz:=U HS
 obtain ⟨dk,ds,dt,dl,dq,di,dp,dg⟩:=c
 unfold cmV
 simp only
 have xy:=fw w3 (L (yy dk ds dt dl dq di dp dg).toArray 50)
 have uL:=xQ.trans (xy.mono xQ.size)
 have xG:=H (zf (U HX) uL (by omega))
 have qd:=H (zv (U HM) uL)
 have xH:=H (fC (U HB) uL)
 have vJ:=H (zq w3 (yy dk ds dt dl dq di dp dg) 50)
 have oF:w.heap.size < (w3.alloc (L (yy dk ds dt dl dq di dp dg).toArray 50)).heap.size:=by have:=xQ.size; simp; omega
 clear xQ xy uL hz HX HM HB HS e0 e1 e2 e3 e4 e5 e6 e7 e8 e9 uO uy vQ uQ
 go_wp2_with fail
 generalize (w3.alloc (L (yy dk ds dt dl dq di dp dg).toArray 50)) = xo at xG qd xH vJ oF ⊢
 have xY:Hid (Bx xo.drew w.heap.size (yw 6 ck A ct F cq ci O cg id xj qty xk xi)):=zJ (U xG)
 have vN:Hid (MS cp B xo.drew vl vd va g t kd n0 dy l0):=zv (U qd) ⟨rfl,rfl,rfl,Nat.le_refl _,fun _ _=>rfl⟩
 have vv:Hid (yp w xo.drew):=⟨(U xH).os,(U xH).tape,(U xH).output,(U xH).size,(U xH).block⟩
 have vB:Hid (Bx xo.drew w3.heap.size (yy dk ds dt dl dq di dp dg)):=zJ (U vJ)
 clear xG qd xH vJ
 obtain ⟨d0,d1,d2,d3,d4,d5,d6,d7⟩:=yA (U vB)
 have c11:=K (U vN).box 11 rfl
 have c12:=K (U vN).box 12 rfl
 have vn:Hid (Calls Tryz.prog 106 #[.agg #[I n0,va],.agg (yy dk ds dt dl dq di dp dg).toArray] xo.drew fun e w'=>e = .returned (I (refR g.nx g.l ⟨dk,ds,dt,dl,dq,di,dp,dg⟩))∧Below xo.drew.heap.size xo.drew w'):=by
  have N:=(U vN).ahd
  rw [(U jy).2] at N
  have:=dW g.nx va g.l ⟨dk,ds,dt,dl,dq,di,dp,dg⟩ xo.drew N (U vN).sla (U qK) (U HSI) (U kX)
  rw [ref_eq] at this
  rw [(U jy).1]
  exact this
 refine zE 5 (by kernel_rfl) (by kernel_rfl) ?_
 simp only [yU,List.take_zero,yV,List.drop_zero]
 repeat still_step
 refine wpStill_nil ?_
 clear d0 d1 d2 d3 d4 d5 d6 d7 c11 c12
 go_wp2_with fail
 refine (U vn).mono ?_
 rintro e w5 ⟨rfl,uh⟩
 have uU:=H (zf (U xY) uh oF)
 have vy:=H (zv (U vN) uh)
 have uj:=H (fC (U vv) uh)
 clear uh vn xY vN vv vB
 generalize refR g.nx g.l ⟨dk,ds,dt,dl,dq,di,dp,dg⟩ = rr at vX aw ⊢
 have e0:=K (U uU) 0 rfl
 have e9:=K (U uU) 9 rfl
 have uy:=K (U uU) 11 rfl
 have uQ:=K (U uU) 13 rfl
 by_cases h0:rr = 0
 case neg =>
  have b0:(rr != 0) = true:=by simpa using h0
  have HQ:Hid (fm = 5):=by show _ = _; rw [U vX,if_neg h0]
  clear h0
  go_wp2_with fail
  go_ret
  exact ⟨by rw [U HQ]; rfl,U uj⟩
 have b0:(rr != 0) = false:=by simpa using h0
 have vC:=H (U vX)
 rw [if_pos h0] at vC
 obtain ⟨k,o,uM,uX⟩:=U aw h0
 clear h0 vX aw
 rw [leftAt_at uM uX] at vC
 obtain ⟨a,cap,rfl,aE,hdc⟩:=zK (U vy).row (yO xA (by decide))
 obtain ⟨b,off,rfl,kz,X⟩:=hdc (by intro h; rw [h] at uX; simp at uX)
 obtain ⟨-,-,-,y3,-,-⟩:=zB (X k o uX)
 have oW:=(yH.1 uX).1
 have hkl':(k:Int) < g.l.length:=by omega
 have pw:(0:Int) ≤ k:=by omega
 have uN:=H (zK (U vy).row (yO xA (by decide)))
 have c1:=K (U vy).box 1 rfl
 have k1:=cell_regrown c1
 have k9:=cell_regrown e9
 have aj:=cell_regrown uy
 have k3:=cell_regrown y3
 have cf:∀ d os,Calls Tryz.prog 78 #[.slice (some (Q b off)) g.l.length cap,I id] (Go.Sort.grow (redrawn w5 d) os) fun e w''=>e = .returned (I k)∧∃ p:Regrown,w'' = Go.Sort.grow (redrawn w5 p.d) p.os:=fun d os=>Calls.regrown_of (by
  have:=cX _ g.l id (Go.Sort.grow (redrawn w5 d) os) (zh (U uN) (below_regrown w5 d os) yb)
  rw [uM] at this
  exact this)
 generalize o.left = ol at vC k3 y3
 clear uM uX hdc X
 go_wp2_with fail
 refine wp_region_quiet_below (by kernel_rfl) (by kernel_rfl) ?_
 clear c1 e0 e9 uy uQ y3
 repeat (quiet_step (first | (with_reducible exact cf _ _)))
 refine wpQuiet_nil ?_
 rintro w' ⟨p,un⟩
 have qA:Hid (yp w w'):=by
  rw [un]
  exact (U uj).trans ((below_regrown w5 p.d p.os).mono (U uj).size)
 clear un cf k1 k9 aj k3
 by_cases N:qty = ol
 ·have b1:(qty != ol) = false:=by simpa using N
  rw [if_pos N] at vC
  clear N
  go_wp2_with fail
  go_ret
  exact ⟨by rw [U vC]; rfl,U qA⟩
 ·have b1:(qty != ol) = true:=by simpa using N
  rw [if_neg N] at vC
  clear N
  go_wp2_with fail
  go_ret
  exact ⟨by rw [U vC]; rfl,U qA⟩
theorem first_8 {cp B:Nat} {vl vd va:Value} {g:Gr} {t:Od} {kd n0:Int} {dy l0:List Od} (ck A ct F cq ci:Int) (O:Nat) (cg:ByteArray) (id xj qty xk xi:Int) (w:World) (h:MS cp B w vl vd va g t kd n0 dy l0) (hi:GI g) (E:g.bg = 0) (hg:cg.size ≤ maxLen):Calls Tryz.prog 67 #[J cp 0,.agg (yw 8 ck A ct F cq ci O cg id xj qty xk xi).toArray] w fun x w'=>x = .returned (I (fstM g.nx g.l ⟨8,⟨ck,A,ct,F,cq,ci,O,cg⟩,id,xj,qty,xk,xi⟩))∧yp w w':=by
 have hsf:=sfl
 have vZ:=H (fun W=>cV 8 W (by decide))
 have uw:=H (fun W=>dU ⟨8,⟨ck,A,ct,F,cq,ci,O,cg⟩,id,xj,qty,xk,xi⟩ W (by show (1:Int) ≤ 8∧(8:Int) ≤ 9; decide))
 have qK:=H (hi.good (.inl (by omega)))
 have HSI:=H (hi.start E).2.2.1
 have xA:=hi.len
 have vX:Hid (fstM g.nx g.l ⟨8,⟨ck,A,ct,F,cq,ci,O,cg⟩,id,xj,qty,xk,xi⟩ = if refR g.nx g.l (aQ ⟨8,⟨ck,A,ct,F,cq,ci,O,cg⟩,id,xj,qty,xk,xi⟩) = 0 then (if qty = ((dys g.l).length:Int) then 0 else 7) else 5):=by show _ = _; simp [fstM,zO]
 have kX:Hid ((aQ ⟨8,⟨ck,A,ct,F,cq,ci,O,cg⟩,id,xj,qty,xk,xi⟩).g.size ≤ maxLen):=dL hg
 have jy:=H (h.eqn E)
 generalize fstM g.nx g.l ⟨8,⟨ck,A,ct,F,cq,ci,O,cg⟩,id,xj,qty,xk,xi⟩ = fm at vX ⊢
 generalize aQ ⟨8,⟨ck,A,ct,F,cq,ci,O,cg⟩,id,xj,qty,xk,xi⟩ = c at uw vX kX
 unfold evV at uw
 simp only at uw
 obtain ⟨xz,HX⟩:=fE w (yw 8 ck A ct F cq ci O cg id xj qty xk xi) 52
 have HS:Hid ((w.alloc (L (yw 8 ck A ct F cq ci O cg id xj qty xk xi).toArray 52)).heap.size = w.heap.size + 1):=by show _ = _; simp
 have HM:=H (zv h xz)
 have HB:=H xz
 clear h xz hi E hg
 go_enter Tryz.func67,Tryz.ntmps67
 refine fD fun zb HK=>?_
 go_wp2_with fail
 refine U HK _ _ ?_
 clear HK
 generalize (w.alloc (L (yw 8 ck A ct F cq ci O cg id xj qty xk xi).toArray 52)) = W1 at HS HX HM HB ⊢
 obtain ⟨e0,e1,e2,e3,e4,e5,e6,e7,e8,e9,uO,uy,vQ,uQ⟩:=yz (U HX)
 go_wp2_with fail
 refine (U vZ W1).mono ?_
 rintro e w1 ⟨rfl,qx⟩
 rw [qx]
 clear qx
 go_wp2_with fail
 refine (U uw W1).mono ?_
 rintro e w3 ⟨rfl,xQ⟩
 have hz:=U HS
 obtain ⟨dk,ds,dt,dl,dq,di,dp,dg⟩:=c
 unfold cmV
 simp only
 have xy:=fw w3 (L (yy dk ds dt dl dq di dp dg).toArray 50)
 have uL:=xQ.trans (xy.mono xQ.size)
 have xG:=H (zf (U HX) uL (by omega))
 have qd:=H (zv (U HM) uL)
 have xH:=H (fC (U HB) uL)
 have vJ:=H (zq w3 (yy dk ds dt dl dq di dp dg) 50)
 have oF:w.heap.size < (w3.alloc (L (yy dk ds dt dl dq di dp dg).toArray 50)).heap.size:=by have:=xQ.size; simp; omega
 clear xQ xy uL hz HX HM HB HS e0 e1 e2 e3 e4 e5 e6 e7 e8 e9 uO uy vQ uQ
 go_wp2_with fail
 generalize (w3.alloc (L (yy dk ds dt dl dq di dp dg).toArray 50)) = xo at xG qd xH vJ oF ⊢
 have xY:Hid (Bx xo.drew w.heap.size (yw 8 ck A ct F cq ci O cg id xj qty xk xi)):=zJ (U xG)
 have vN:Hid (MS cp B xo.drew vl vd va g t kd n0 dy l0):=zv (U qd) ⟨rfl,rfl,rfl,Nat.le_refl _,fun _ _=>rfl⟩
 have vv:Hid (yp w xo.drew):=⟨(U xH).os,(U xH).tape,(U xH).output,(U xH).size,(U xH).block⟩
 have vB:Hid (Bx xo.drew w3.heap.size (yy dk ds dt dl dq di dp dg)):=zJ (U vJ)
 clear xG qd xH vJ
 obtain ⟨d0,d1,d2,d3,d4,d5,d6,d7⟩:=yA (U vB)
 have c11:=K (U vN).box 11 rfl
 have c12:=K (U vN).box 12 rfl
 have vn:Hid (Calls Tryz.prog 106 #[.agg #[I n0,va],.agg (yy dk ds dt dl dq di dp dg).toArray] xo.drew fun e w'=>e = .returned (I (refR g.nx g.l ⟨dk,ds,dt,dl,dq,di,dp,dg⟩))∧Below xo.drew.heap.size xo.drew w'):=by
  have N:=(U vN).ahd
  rw [(U jy).2] at N
  have:=dW g.nx va g.l ⟨dk,ds,dt,dl,dq,di,dp,dg⟩ xo.drew N (U vN).sla (U qK) (U HSI) (U kX)
  rw [ref_eq] at this
  rw [(U jy).1]
  exact this
 refine zE 5 (by kernel_rfl) (by kernel_rfl) ?_
 simp only [yU,List.take_zero,yV,List.drop_zero]
 repeat still_step
 refine wpStill_nil ?_
 clear d0 d1 d2 d3 d4 d5 d6 d7 c11 c12
 go_wp2_with fail
 refine (U vn).mono ?_
 rintro e w5 ⟨rfl,uh⟩
 have uU:=H (zf (U xY) uh oF)
 have vy:=H (zv (U vN) uh)
 have uj:=H (fC (U vv) uh)
 clear uh vn xY vN vv vB
 generalize refR g.nx g.l ⟨dk,ds,dt,dl,dq,di,dp,dg⟩ = rr at vX ⊢
 have e0:=K (U uU) 0 rfl
 have e9:=K (U uU) 9 rfl
 have uy:=K (U uU) 11 rfl
 have uQ:=K (U uU) 13 rfl
 by_cases h0:rr = 0
 case neg =>
  have b0:(rr != 0) = true:=by simpa using h0
  have HQ:Hid (fm = 5):=by show _ = _; rw [U vX,if_neg h0]
  clear h0
  go_wp2_with fail
  go_ret
  exact ⟨by rw [U HQ]; rfl,U uj⟩
 have b0:(rr != 0) = false:=by simpa using h0
 have vC:=H (U vX)
 rw [if_pos h0] at vC
 clear h0 vX
 have c1:=K (U vy).box 1 rfl
 have uN:=H (zK (U vy).row (yO xA (by decide)))
 have HDA:=H (fun W (h:RdR Od.vs 6 W vl g.l)=>l04Days_any vl g.l W h (yO xA (by decide)))
 generalize dys g.l = dn8 at vC HDA
 have HEN:Hid (∀ W,yp w5 W→yp w W):=fun W h=>(U uj).trans (h.mono (U uj).size)
 go_wp2_with fail
 refine zm (RG w5 (fun f=>{ tmps:=#[J cp 0,.agg (yw 8 ck A ct F cq ci O cg id xj qty xk xi).toArray,M,J w.heap.size 0,I 0,J w3.heap.size 0,.bool (zO 8),I rr,J w.heap.size 0,I 8,.bool (zO 8),.bool false,.tuple #[.agg (yy dk ds dt dl dq di dp dg).toArray,.bool (zO 8)],.agg (yw 8 ck A ct F cq ci O cg id xj qty xk xi).toArray,.tuple #[.agg (yy dk ds dt dl dq di dp dg).toArray,.bool (zO 8)],.agg (yy dk ds dt dl dq di dp dg).toArray,.bool (zO 8),J cp 0,J cp 0,J cp 11,.agg #[I n0,va],.agg (yy dk ds dt dl dq di dp dg).toArray,I rr,J w.heap.size 0,I 8,.bool false,M,M,M,M,M,M,M,M,I rr,.bool false,J w.heap.size 0,I 8,.bool false,.bool false,M,M,M,M,M,M,M,.bool false,.bool false,M,M,M,M,M,M,M,M,M,M,M,M,M,M,M,M,M,.bool true,.bool true,f 0,f 1,f 2,f 3,f 4,f 5,f 6,f 7,f 8],defers:=[] }) 99 (DYc [some (J w.heap.size 11),some (I qty),some (J cp 0),some (J cp 0),some (J cp 1),some (vl),none,some (I (dn8.length:Int)),some (.bool (qty != (dn8.length:Int)))] dn8.length)) (by kernel_rfl) ?_ ?_ ?_
 ·exact ⟨fun _=>M,rfl,⟨rfl,rfl,rfl,Nat.le_refl _,fun _ _=>rfl⟩,fun j V=>by rw [yJ] at V; split at V <;> simp at V⟩
 ·rintro x cs hj ⟨f,rfl,xl,hD⟩ hx xO
  have xq:=zN xO hx (acyc _ (by kernel_rfl))
  have g8:f 8 = .bool (qty != (dn8.length:Int)):=(hD 8 (xq 8 (by simp))).2 _ rfl
  have qA:=H (U HEN hj xl)
  clear hD xq xO hx xl
  dsimp only
  simp only [g8]
  generalize f 0 = v0,f 1 = v1,f 2 = v2,f 3 = v3,f 4 = v4,f 5 = v5,f 6 = v6,f 7 = v7
  clear g8
  generalize dn8.length = dn at vC ⊢
  by_cases N:qty = (dn:Int)
  ·have b1:(qty != (dn:Int)) = false:=by simpa using N
   rw [if_pos N] at vC
   clear N
   go_wp2_with fail
   go_ret
   exact ⟨by rw [U vC]; rfl,U qA⟩
  ·have b1:(qty != (dn:Int)) = true:=by simpa using N
   rw [if_neg N] at vC
   clear N
   go_wp2_with fail
   go_ret
   exact ⟨by rw [U vC]; rfl,U qA⟩
 ·rintro x cs hj i op ⟨f,rfl,xl,hD⟩ X hx Z xr D
  clear X
  have xE:=H xl
  have HD:=H hD
  have qC:=H (zh (U uN) xl yb)
  have xm:∀ (p:Addr) u,w5.cell? p = some u→hj.cell? p = some u:=fun p u hu=>(xl.cell (yL w5 _ hu)).trans hu
  match i,Z with
  | 0,Z =>
   obtain rfl:=yc Z
   clear D hD xl xm c1 e0 e9 uy uQ
   rw [if_pos (by rfl)];unfold Oper.wp;go_simp
   exact ⟨upd f 0 (J w.heap.size 11),by simp [upd],zg (U xE) (U HD) (by decide) ⟨fun h=>absurd h (by decide),yj rfl⟩⟩
  | 1,Z =>
   obtain rfl:=yc Z
   have g0:=(hD 0 (yf D 0 rfl)).2 _ rfl
   have z:=xm (Q w.heap.size 11) _ uy
   clear D hD xl xm c1 e0 e9 uy uQ
   rw [if_pos (by rfl)];unfold Oper.wp;go_simp
   exact ⟨upd f 1 (I qty),by simp [upd,g0],zg (U xE) (U HD) (by decide) ⟨fun h=>absurd h (by decide),yj rfl⟩⟩
  | 2,Z =>
   obtain rfl:=yc Z
   clear D hD xl xm c1 e0 e9 uy uQ
   rw [if_pos (by rfl)];unfold Oper.wp;go_simp
   exact ⟨upd f 2 (J cp 0),by simp [upd],zg (U xE) (U HD) (by decide) ⟨fun h=>absurd h (by decide),yj rfl⟩⟩
  | 3,Z =>
   obtain rfl:=yc Z
   have g2:=(hD 2 (yf D 2 rfl)).2 _ rfl
   clear D hD xl xm c1 e0 e9 uy uQ
   rw [if_pos (by rfl)];unfold Oper.wp;go_simp
   exact ⟨upd f 3 (J cp 0),by simp [upd,g2],zg (U xE) (U HD) (by decide) ⟨fun h=>absurd h (by decide),yj rfl⟩⟩
  | 4,Z =>
   obtain rfl:=yc Z
   have g3:=(hD 3 (yf D 3 rfl)).2 _ rfl
   clear D hD xl xm c1 e0 e9 uy uQ
   rw [if_pos (by rfl)];unfold Oper.wp;go_simp
   exact ⟨upd f 4 (J cp 1),by simp [upd,g3],zg (U xE) (U HD) (by decide) ⟨fun h=>absurd h (by decide),yj rfl⟩⟩
  | 5,Z =>
   obtain rfl:=yc Z
   have g4:=(hD 4 (yf D 4 rfl)).2 _ rfl
   have z:=xm (Q cp 1) _ c1
   clear D hD xl xm c1 e0 e9 uy uQ
   rw [if_pos (by rfl)];unfold Oper.wp;go_simp
   exact ⟨upd f 5 (vl),by simp [upd,g4],zg (U xE) (U HD) (by decide) ⟨fun h=>absurd h (by decide),yj rfl⟩⟩
  | 6,Z =>
   obtain rfl:=yc Z
   have g5:=(hD 5 (yf D 5 rfl)).2 _ rfl
   clear D hD xl xm c1 e0 e9 uy uQ
   rw [if_pos (by rfl)];unfold Oper.wp;go_simp
   refine (U HDA hj (U qC)).mono ?_
   rintro e w6 ⟨v6,rfl,uG,om⟩
   exact ⟨upd f 6 v6,by simp [upd,g5],rg_grow dyc_mono (U xE) (U HD) om (by decide) ⟨fun _=>iRow_slice uG,fun u hu=>by cases hu⟩⟩
  | 7,Z =>
   obtain rfl:=yc Z
   obtain ⟨a6,c6,g6⟩:=(hD 6 (yf D 6 rfl)).1 rfl
   clear D hD xl xm c1 e0 e9 uy uQ
   rw [if_pos (by rfl)];unfold Oper.wp;go_simp
   exact ⟨upd f 7 (I (dn8.length:Int)),by simp [upd,g6],zg (U xE) (U HD) (by decide) ⟨fun h=>absurd h (by decide),yj rfl⟩⟩
  | 8,Z =>
   obtain rfl:=yc Z
   have g1:=(hD 1 (yf D 1 rfl)).2 _ rfl
   have g7:=(hD 7 (yf D 7 rfl)).2 _ rfl
   clear D hD xl xm c1 e0 e9 uy uQ
   rw [if_pos (by rfl)];unfold Oper.wp;go_simp
   exact ⟨upd f 8 (.bool (qty != (dn8.length:Int))),by simp [upd,g1,g7],zg (U xE) (U HD) (by decide) ⟨fun h=>absurd h (by decide),yj rfl⟩⟩
  | i + 9,Z=>simp at Z
theorem first_any {cp B:Nat} {vl vd va:Value} {g:Gr} {t:Od} {kd n0:Int} {dy l0:List Od} (e:Ev) (w:World) (h:MS cp B w vl vd va g t kd n0 dy l0) (hi:GI g) (E:g.bg = 0) (hk:1 ≤ e.kind∧e.kind ≤ 9) (hg:e.cmd.g.size ≤ maxLen):Calls Tryz.prog 67 #[J cp 0,evV e] w fun x w'=>x = .returned (I (fstM g.nx g.l e))∧yp w w':=by
 obtain ⟨xn,⟨ck,A,ct,F,cq,ci,O,cg⟩,id,xj,qty,xk,xi⟩:=e
 unfold evV
 simp only at hk hg ⊢
 rcases (show xn = 1 ∨ xn = 2 ∨ xn = 3 ∨ xn = 4 ∨ xn = 5 ∨ xn = 6 ∨ xn = 7 ∨ xn = 8 ∨ xn = 9 by omega) with rfl | rfl | rfl | rfl | rfl | rfl | rfl | rfl | rfl
 ·exact first_1 ck A ct F cq ci O cg id xj qty xk xi w h hi E hg
 ·exact first_2 ck A ct F cq ci O cg id xj qty xk xi w h hi E hg
 ·exact eF 3 ck A ct F cq ci O cg id xj qty xk xi cp g w (by decide) rfl
 ·exact eF 4 ck A ct F cq ci O cg id xj qty xk xi cp g w (by decide) rfl
 ·exact eF 5 ck A ct F cq ci O cg id xj qty xk xi cp g w (by decide) rfl
 ·exact first_6 ck A ct F cq ci O cg id xj qty xk xi w h hi E hg
 ·exact first_7 ck A ct F cq ci O cg id xj qty xk xi w h hi E hg
 ·exact first_8 ck A ct F cq ci O cg id xj qty xk xi w h hi E hg
 ·exact eF 9 ck A ct F cq ci O cg id xj qty xk xi cp g w (by decide) rfl
theorem broken_any {cp B:Nat} {vl vd va:Value} {g:Gr} {t:Od} {kd n0:Int} {dy l0:List Od} (e:Ev) (w:World) (h:MS cp B w vl vd va g t kd n0 dy l0) (hi:GI g) (hm:MR g t kd dy) (hk:1 ≤ e.kind∧e.kind ≤ 9) (hg:e.cmd.g.size ≤ maxLen):Calls Tryz.prog 37 #[J cp 0,evV e] w fun x w'=>x = .returned (I (zF g e))∧yp w w':=by
 have hsf:=sfl
 rw [← ruleM_eq hk]
 have uo:Hid (ruleM g e = if g.bg = 0 then fstM g.nx g.l e else latM (dueG g) e):=rfl
 have HFI:Hid (g.bg = 0→∀ W,MS cp B W vl vd va g t kd n0 dy l0→Calls Tryz.prog 67 #[J cp 0,evV e] W fun x w'=>x = .returned (I (fstM g.nx g.l e))∧yp W w'):=fun E W hW=>first_any e W hW hi E hk hg
 have HLA:=H (fun W (hW:MS cp B W vl vd va g t kd n0 dy l0)=>later_any e W hW hi hm hk)
 generalize ruleM g e = ru at uo ⊢
 generalize fstM g.nx g.l e = fm at uo HFI
 generalize latM (dueG g) e = lm at uo HLA
 obtain ⟨xn,⟨ck,A,ct,F,cq,ci,O,cg⟩,id,xj,qty,xk,xi⟩:=e
 unfold evV at HFI HLA ⊢
 simp only at HFI HLA ⊢
 obtain ⟨xz,HX⟩:=fE w (yw xn ck A ct F cq ci O cg id xj qty xk xi) 52
 have HM:=H (zv h xz)
 have HB:=H xz
 clear h xz hi hm hk hg
 go_enter Tryz.func37,Tryz.ntmps37
 refine fD fun zb HK=>?_
 go_wp2_with fail
 refine U HK _ _ ?_
 clear HK
 generalize (w.alloc (L (yw xn ck A ct F cq ci O cg id xj qty xk xi).toArray 52)) = W1 at HX HM HB ⊢
 obtain ⟨e0,e1,e2,e3,e4,e5,e6,e7,e8,e9,uO,uy,vQ,uQ⟩:=yz (U HX)
 have c9:=K (U HM).box 9 rfl
 by_cases h0:g.bg = 0
 ·have b0:(g.bg != 0) = false:=by simpa using h0
  rw [b0] at c9
  have vC:=H (U HFI h0 W1 (U HM))
  rw [if_pos h0] at uo
  clear h0 b0 HFI HLA
  go_wp2_with fail
  refine (U vC).mono ?_
  rintro x w2 ⟨rfl,xL⟩
  have xw:=H (fC (U HB) xL)
  clear xL
  go_wp2_with fail
  go_ret
  exact ⟨by rw [U uo]; rfl,U xw⟩
 ·have b0:(g.bg != 0) = true:=by simpa using h0
  rw [b0] at c9
  have vC:=H (U HLA W1 (U HM))
  rw [if_neg h0] at uo
  clear h0 b0 HFI HLA
  go_wp2_with fail
  refine (U vC).mono ?_
  rintro x w2 ⟨rfl,xL⟩
  have xw:=H (fC (U HB) xL)
  clear xL
  go_wp2_with fail
  go_ret
  exact ⟨by rw [U uo]; rfl,U xw⟩
def TakE (cp B:Nat) (va:Value) (n0:Int) (l0:List Od) (g:Gr) (t:Od) (kd:Int) (dy:List Od) (e:Ev) (w:World) (x:Ending) (w':World):Prop:=x = .returned (.tuple #[])∧Below B w w'∧∃ vT vh,MS cp B w' vT vh va (aM g e) (tkM g t e) (kdM kd e) n0 (dyM g dy e) l0
theorem take_2 {cp B:Nat} {vl vd va:Value} {g:Gr} {t:Od} {kd n0:Int} {dy l0:List Od} (ck A ct F cq ci:Int) (O:Nat) (cg:ByteArray) (id xj qty xk xi:Int) (w:World) (h:MS cp B w vl vd va g t kd n0 dy l0) (hi:GI g) (hm:MR g t kd dy) (he:okE ⟨2,⟨ck,A,ct,F,cq,ci,O,cg⟩,id,xj,qty,xk,xi⟩ = true) (hr:zF g ⟨2,⟨ck,A,ct,F,cq,ci,O,cg⟩,id,xj,qty,xk,xi⟩ = 0):Calls Tryz.prog 52 #[J cp 0,.agg (yw 2 ck A ct F cq ci O cg id xj qty xk xi).toArray] w fun x w'=>TakE cp B va n0 l0 g t kd dy ⟨2,⟨ck,A,ct,F,cq,ci,O,cg⟩,id,xj,qty,xk,xi⟩ w x w':=by
 have hsf:=sfl
 have hO:=h.lt
 have vW:=h.base
 have qF:Hid (∀ w' vT vh,Below B w w'→MS cp B w' vT vh va (aM g ⟨2,⟨ck,A,ct,F,cq,ci,O,cg⟩,id,xj,qty,xk,xi⟩) (tkM g t ⟨2,⟨ck,A,ct,F,cq,ci,O,cg⟩,id,xj,qty,xk,xi⟩) (kdM kd ⟨2,⟨ck,A,ct,F,cq,ci,O,cg⟩,id,xj,qty,xk,xi⟩) n0 (dyM g dy ⟨2,⟨ck,A,ct,F,cq,ci,O,cg⟩,id,xj,qty,xk,xi⟩) l0→TakE cp B va n0 l0 g t kd dy ⟨2,⟨ck,A,ct,F,cq,ci,O,cg⟩,id,xj,qty,xk,xi⟩ w (.returned (.tuple #[])) w'):=fun w' vT vh N Y=>⟨rfl,N,vT,vh,Y⟩
 have h0:=rule2 (e:=⟨2,⟨ck,A,ct,F,cq,ci,O,cg⟩,id,xj,qty,xk,xi⟩) rfl hr
 have ug:Hid (aM g ⟨2,⟨ck,A,ct,F,cq,ci,O,cg⟩,id,xj,qty,xk,xi⟩ = { g with bg:=2 }):=by show _ = _; rw [step2 rfl]; simp only [begG,if_pos h0]
 have ux:Hid (tkM g t ⟨2,⟨ck,A,ct,F,cq,ci,O,cg⟩,id,xj,qty,xk,xi⟩ = t∧kdM kd ⟨2,⟨ck,A,ct,F,cq,ci,O,cg⟩,id,xj,qty,xk,xi⟩ = kd∧dyM g dy ⟨2,⟨ck,A,ct,F,cq,ci,O,cg⟩,id,xj,qty,xk,xi⟩ = dy):=⟨rfl,rfl,rfl⟩
 generalize TakE cp B va n0 l0 g t kd dy ⟨2,⟨ck,A,ct,F,cq,ci,O,cg⟩,id,xj,qty,xk,xi⟩ w = C at qF ⊢
 obtain ⟨xz,HX⟩:=fE w (yw 2 ck A ct F cq ci O cg id xj qty xk xi) 52
 have HM:=H (zv h xz)
 have HB:=H (xz.mono vW)
 clear h xz hi hm he hr
 go_enter Tryz.func52,Tryz.ntmps52
 refine fD fun zb HK=>?_
 go_wp2_with fail
 refine U HK _ _ ?_
 clear HK
 generalize (w.alloc (L (yw 2 ck A ct F cq ci O cg id xj qty xk xi).toArray 52)) = W1 at HX HM HB ⊢
 have c9:=K (U HM).box 9 rfl
 have q9:=zd (U HM).box 9 (by show 9 < 13; decide)
 have xw:Hid (Below B w (World.setCells W1 cp 9 [.bool true])):=zL (U HB) yb (U HM) 9 _
 have xR:Hid (MS cp B (World.setCells W1 cp 9 [.bool true]) vl vd va { g with bg:=2 } t kd n0 dy l0):=bK (U HM) 9 [.bool true] (by simp) rfl rfl (fun h=>absurd (show (2:Int) = 0 from h) (by decide))
 have e0:(World.setCells W1 cp 9 [.bool true]).cell? (Q w.heap.size 0) = some (I 2):=K (aO (U HX) (bA cp w.heap.size (by omega) _ 9 W1)) 0 rfl
 simp only [World.setCells] at e0
 go_wp2_with fail
 go_end0
 refine U qF _ vl vd (U xw) ?_
 rw [U ug,(U ux).1,(U ux).2.1,(U ux).2.2]
 exact U xR
theorem take_5 {cp B:Nat} {vl vd va:Value} {g:Gr} {t:Od} {kd n0:Int} {dy l0:List Od} (ck A ct F cq ci:Int) (O:Nat) (cg:ByteArray) (id xj qty xk xi:Int) (w:World) (h:MS cp B w vl vd va g t kd n0 dy l0) (hi:GI g) (hm:MR g t kd dy) (he:okE ⟨5,⟨ck,A,ct,F,cq,ci,O,cg⟩,id,xj,qty,xk,xi⟩ = true) (hr:zF g ⟨5,⟨ck,A,ct,F,cq,ci,O,cg⟩,id,xj,qty,xk,xi⟩ = 0):Calls Tryz.prog 52 #[J cp 0,.agg (yw 5 ck A ct F cq ci O cg id xj qty xk xi).toArray] w fun x w'=>TakE cp B va n0 l0 g t kd dy ⟨5,⟨ck,A,ct,F,cq,ci,O,cg⟩,id,xj,qty,xk,xi⟩ w x w':=by
 have hsf:=sfl
 have hO:=h.lt
 have vW:=h.base
 have qF:Hid (∀ w' vT vh,Below B w w'→MS cp B w' vT vh va (aM g ⟨5,⟨ck,A,ct,F,cq,ci,O,cg⟩,id,xj,qty,xk,xi⟩) (tkM g t ⟨5,⟨ck,A,ct,F,cq,ci,O,cg⟩,id,xj,qty,xk,xi⟩) (kdM kd ⟨5,⟨ck,A,ct,F,cq,ci,O,cg⟩,id,xj,qty,xk,xi⟩) n0 (dyM g dy ⟨5,⟨ck,A,ct,F,cq,ci,O,cg⟩,id,xj,qty,xk,xi⟩) l0→TakE cp B va n0 l0 g t kd dy ⟨5,⟨ck,A,ct,F,cq,ci,O,cg⟩,id,xj,qty,xk,xi⟩ w (.returned (.tuple #[])) w'):=fun w' vT vh N Y=>⟨rfl,N,vT,vh,Y⟩
 have h0:=(rule45 (e:=⟨5,⟨ck,A,ct,F,cq,ci,O,cg⟩,id,xj,qty,xk,xi⟩) (.inr rfl) hr).1
 have ug:Hid (aM g ⟨5,⟨ck,A,ct,F,cq,ci,O,cg⟩,id,xj,qty,xk,xi⟩ = { g with tk:={ g.tk with left:=0 } }):=by show _ = _; rw [step5 rfl]; simp only [begG]; rw [if_neg (by omega)]
 have ux:Hid (tkM g t ⟨5,⟨ck,A,ct,F,cq,ci,O,cg⟩,id,xj,qty,xk,xi⟩ = zOd∧kdM kd ⟨5,⟨ck,A,ct,F,cq,ci,O,cg⟩,id,xj,qty,xk,xi⟩ = kd∧dyM g dy ⟨5,⟨ck,A,ct,F,cq,ci,O,cg⟩,id,xj,qty,xk,xi⟩ = dy):=⟨rfl,rfl,rfl⟩
 have hbn:(g.bg != 0) = true:=by simp [h0]
 have pC:Hid (g.bg ≠ 0):=by show _ ≠ _; omega
 clear h0
 generalize TakE cp B va n0 l0 g t kd dy ⟨5,⟨ck,A,ct,F,cq,ci,O,cg⟩,id,xj,qty,xk,xi⟩ w = C at qF ⊢
 obtain ⟨xz,HX⟩:=fE w (yw 5 ck A ct F cq ci O cg id xj qty xk xi) 52
 have HM:=H (zv h xz)
 have HB:=H (xz.mono vW)
 clear h xz hi hm he hr
 go_enter Tryz.func52,Tryz.ntmps52
 refine fD fun zb HK=>?_
 go_wp2_with fail
 refine U HK _ _ ?_
 clear HK
 generalize (w.alloc (L (yw 5 ck A ct F cq ci O cg id xj qty xk xi).toArray 52)) = W1 at HX HM HB ⊢
 have c9:=K (U HM).box 9 rfl
 have q9:=zd (U HM).box 9 (by show 9 < 13; decide)
 have xw:Hid (Below B w (World.setCells W1 cp 9 [.bool true])):=zL (U HB) yb (U HM) 9 _
 have xR:Hid (MS cp B (World.setCells W1 cp 9 [.bool true]) vl vd va g t kd n0 dy l0):=bK (U HM) 9 [.bool true] (by simp) (by simp [msV,hbn]) rfl (fun h=>absurd h (U pC))
 have e0:(World.setCells W1 cp 9 [.bool true]).cell? (Q w.heap.size 0) = some (I 5):=K (aO (U HX) (bA cp w.heap.size (by omega) _ 9 W1)) 0 rfl
 clear hbn HX HM HB
 refine fD fun zb HK=>?_
 go_wp2_with fail
 refine U HK _ _ ?_
 clear HK
 change Code.wp _ _ _ _ (World.setCells W1 cp 9 [.bool true])
 generalize World.setCells W1 cp 9 [.bool true] = xo at xw xR e0 ⊢
 have c2:=K (U xR).box 2 rfl
 have q2:=zd (U xR).box 2 (by show 2 < 13; decide)
 have c3:=K (U xR).box 3 rfl
 have q3:=zd (U xR).box 3 (by show 3 < 13; decide)
 have c4:=K (U xR).box 4 rfl
 have q4:=zd (U xR).box 4 (by show 4 < 13; decide)
 have c5:=K (U xR).box 5 rfl
 have q5:=zd (U xR).box 5 (by show 5 < 13; decide)
 have c6:=K (U xR).box 6 rfl
 have q6:=zd (U xR).box 6 (by show 6 < 13; decide)
 have c7:=K (U xR).box 7 rfl
 have q7:=zd (U xR).box 7 (by show 7 < 13; decide)
 go_wp2_with fail
 go_end0
 refine U qF _ vl vd (zL (U xw) yb (U xR) 2 (yx 0 0 0 0 0 ⟨#[]⟩)) ?_
 rw [U ug,(U ux).1,(U ux).2.1,(U ux).2.2]
 exact bK (U xR) 2 (yx 0 0 0 0 0 ⟨#[]⟩) (by simp) rfl rfl (fun h=>absurd h (U pC))
end Go.Proofs.YtnphbkgfjanmgaaGreatDoor
