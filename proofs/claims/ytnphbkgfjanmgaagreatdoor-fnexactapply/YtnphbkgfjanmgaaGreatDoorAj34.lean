/-
  The rule that an event of a group breaks, by the model: proved by walking the methods.
-/
import Derived.Test.YtnphbkgfjanmgaaGreatDoorAj33
set_option linter.unusedVariables false
set_option maxHeartbeats 6400000
set_option maxRecDepth 100000
namespace Go.Proofs.YtnphbkgfjanmgaaGreatDoor
open Go.RowKit
theorem first_6 {cp B:Nat} {vl vd va:Value} {g:Gr} {t:Od} {kd n0:Int} {dy l0:List Od} (ck L ct V cq ci:Int) (O:Nat) (cg:ByteArray) (id xj qty xk xi:Int) (w:World) (h:MS cp B w vl vd va g t kd n0 dy l0) (hi:GI g) (Q:g.bg = 0) (hg:cg.size ≤ maxLen):Calls Tryz.prog 67 #[J cp 0,.agg (yw 6 ck L ct V cq ci O cg id xj qty xk xi).toArray] w fun x w'=>x = .returned (I (fstM g.nx g.l ⟨6,⟨ck,L,ct,V,cq,ci,O,cg⟩,id,xj,qty,xk,xi⟩))∧yp w w':=by
 have hsf:=sfl
 have qg:=H (fun W=>dV 6 W (by decide))
 have uy:=H (fun W=>eI ⟨6,⟨ck,L,ct,V,cq,ci,O,cg⟩,id,xj,qty,xk,xi⟩ W (by show (1:Int) ≤ 6∧(6:Int) ≤ 9; decide))
 have qR:=H (hi.good (.inl (by omega)))
 have HSI:=H (hi.start Q).2.2.1
 have xz:=hi.len
 have qf:Hid (fstM g.nx g.l ⟨6,⟨ck,L,ct,V,cq,ci,O,cg⟩,id,xj,qty,xk,xi⟩ = if refR g.nx g.l (bA ⟨6,⟨ck,L,ct,V,cq,ci,O,cg⟩,id,xj,qty,xk,xi⟩) = 0 then (if qty = leftAt g.l id then 0 else 7) else 5):=by show _ = _; simp [fstM,zQ]
 have ow:Hid ((bA ⟨6,⟨ck,L,ct,V,cq,ci,O,cg⟩,id,xj,qty,xk,xi⟩).g.size ≤ maxLen):=ez hg
 have aQ:=H (h.eqn Q)
 have aS:Hid (refR g.nx g.l (bA ⟨6,⟨ck,L,ct,V,cq,ci,O,cg⟩,id,xj,qty,xk,xi⟩) = 0→∃ (k:Nat) (o:Od),plc g.l id = k∧g.l[k]? = some o):=fun Y=>by
  simp only [bA] at Y
  obtain ⟨k,o,a,b,_⟩:=plc_pos (ref_can Y)
  exact ⟨k,o,a,b⟩
 generalize fstM g.nx g.l ⟨6,⟨ck,L,ct,V,cq,ci,O,cg⟩,id,xj,qty,xk,xi⟩ = fm at qf ⊢
 generalize bA ⟨6,⟨ck,L,ct,V,cq,ci,O,cg⟩,id,xj,qty,xk,xi⟩ = c at uy qf ow aS
 unfold evV at uy
 simp only at uy
 obtain ⟨xC,HX⟩:=gw w (yw 6 ck L ct V cq ci O cg id xj qty xk xi) 52
 have HS:Hid ((w.alloc (A (yw 6 ck L ct V cq ci O cg id xj qty xk xi).toArray 52)).heap.size = w.heap.size + 1):=by show _ = _; simp
 have HM:=H (zx h xC)
 have HB:=H xC
 clear h xC hi Q hg
 go_enter Tryz.func67,Tryz.ntmps67
 refine gv fun hR HK=>?_
 go_wp2_with fail
 refine U HK _ _ ?_
 clear HK
 generalize (w.alloc (A (yw 6 ck L ct V cq ci O cg id xj qty xk xi).toArray 52)) = W1 at HS HX HM HB ⊢
 obtain ⟨e0,e1,e2,e3,e4,e5,e6,e7,e8,e9,uR,uA,vV,uT⟩:=yz (U HX)
 go_wp2_with fail
 refine (U qg W1).mono ?_
 rintro e w1 ⟨rfl,qE⟩
 rw [qE]
 clear qE
 go_wp2_with fail
 refine (U uy W1).mono ?_
 rintro e w3 ⟨rfl,xQ⟩
 have hz:=U HS
 obtain ⟨dk,ds,dt,dl,dq,di,dp,dg⟩:=c
 unfold cmV
 simp only
 have xy:=gp w3 (A (yy dk ds dt dl dq di dp dg).toArray 50)
 have uO:=xQ.trans (xy.mono xQ.size)
 have xG:=H (zf (U HX) uO (by omega))
 have qk:=H (zx (U HM) uO)
 have xH:=H (gu (U HB) uO)
 have vL:=H (zq w3 (yy dk ds dt dl dq di dp dg) 50)
 have oV:w.heap.size < (w3.alloc (A (yy dk ds dt dl dq di dp dg).toArray 50)).heap.size:=by have:=xQ.size; simp; omega
 clear xQ xy uO hz HX HM HB HS e0 e1 e2 e3 e4 e5 e6 e7 e8 e9 uR uA vV uT
 go_wp2_with fail
 generalize (w3.alloc (A (yy dk ds dt dl dq di dp dg).toArray 50)) = hj at xG qk xH vL oV ⊢
 have xV:Hid (Bx hj.drew w.heap.size (yw 6 ck L ct V cq ci O cg id xj qty xk xi)):=zK (U xG)
 have vS:Hid (MS cp B hj.drew vl vd va g t kd n0 dy l0):=zx (U qk) ⟨rfl,rfl,rfl,Nat.le_refl _,fun _ _=>rfl⟩
 have vu:Hid (yp w hj.drew):=⟨(U xH).os,(U xH).tape,(U xH).output,(U xH).size,(U xH).block⟩
 have vD:Hid (Bx hj.drew w3.heap.size (yy dk ds dt dl dq di dp dg)):=zK (U vL)
 clear xG qk xH vL
 obtain ⟨d0,d1,d2,d3,d4,d5,d6,d7⟩:=yA (U vD)
 have c11:=R (U vS).box 11 rfl
 have c12:=R (U vS).box 12 rfl
 have vv:Hid (Calls Tryz.prog 106 #[.agg #[I n0,va],.agg (yy dk ds dt dl dq di dp dg).toArray] hj.drew fun e w'=>e = .returned (I (refR g.nx g.l ⟨dk,ds,dt,dl,dq,di,dp,dg⟩))∧Below hj.drew.heap.size hj.drew w'):=by
  have N:=(U vS).ahd
  rw [(U aQ).2] at N
  have:=eK g.nx va g.l ⟨dk,ds,dt,dl,dq,di,dp,dg⟩ hj.drew N (U vS).sla (U qR) (U HSI) (U ow)
  rw [ref_eq] at this
  rw [(U aQ).1]
  exact this
 refine zF 5 (by kernel_rfl) (by kernel_rfl) ?_
 simp only [yU,List.take_zero,yV,List.drop_zero]
 repeat still_step
 refine wpStill_nil ?_
 clear d0 d1 d2 d3 d4 d5 d6 d7 c11 c12
 go_wp2_with fail
 refine (U vv).mono ?_
 rintro e w5 ⟨rfl,ui⟩
 have uX:=H (zf (U xV) ui oV)
 have vB:=H (zx (U vS) ui)
 have uk:=H (gu (U vu) ui)
 clear ui vv xV vS vu vD
 generalize refR g.nx g.l ⟨dk,ds,dt,dl,dq,di,dp,dg⟩ = rr at qf aS ⊢
 have e0:=R (U uX) 0 rfl
 have e9:=R (U uX) 9 rfl
 have uA:=R (U uX) 11 rfl
 have uT:=R (U uX) 13 rfl
 by_cases h0:rr = 0
 case neg =>
  have b0:(rr != 0) = true:=by simpa using h0
  have HQ:Hid (fm = 5):=by show _ = _; rw [U qf,if_neg h0]
  clear h0
  go_wp2_with fail
  go_ret
  exact ⟨by rw [U HQ]; rfl,U uk⟩
 have b0:(rr != 0) = false:=by simpa using h0
 have vG:=H (U qf)
 rw [if_pos h0] at vG
 obtain ⟨k,o,uP,vf⟩:=U aS h0
 clear h0 qf aS
 rw [leftAt_at uP vf] at vG
 obtain ⟨a,cap,rfl,ba,hdc⟩:=zI (U vB).row (yO xz (by decide))
 obtain ⟨b,off,rfl,kr,F⟩:=hdc (by intro h; rw [h] at vf; simp at vf)
 obtain ⟨-,-,-,y3,-,-⟩:=zB (F k o vf)
 have pt:=(yH.1 vf).1
 have hkl':(k:Int) < g.l.length:=by omega
 have jQ:(0:Int) ≤ k:=by omega
 have uQ:=H (zI (U vB).row (yO xz (by decide)))
 have c1:=R (U vB).box 1 rfl
 have k1:=cell_regrown c1
 have k9:=cell_regrown e9
 have aL:=cell_regrown uA
 have k3:=cell_regrown y3
 have cf:∀ d os,Calls Tryz.prog 78 #[.slice (some (D b off)) g.l.length cap,I id] (Go.Sort.grow (redrawn w5 d) os) fun e w''=>e = .returned (I k)∧∃ p:Regrown,w'' = Go.Sort.grow (redrawn w5 p.d) p.os:=fun d os=>Calls.regrown_of (by
  have:=dW _ g.l id (Go.Sort.grow (redrawn w5 d) os) (zi (U uQ) (below_regrown w5 d os) yb)
  rw [uP] at this
  exact this)
 generalize o.left = ol at vG k3 y3
 clear uP vf hdc F
 go_wp2_with fail
 refine wp_region_quiet_below (by kernel_rfl) (by kernel_rfl) ?_
 clear c1 e0 e9 uA uT y3
 repeat (quiet_step (first | (with_reducible exact cf _ _)))
 refine wpQuiet_nil ?_
 rintro w' ⟨p,uq⟩
 have qH:Hid (yp w w'):=by
  rw [uq]
  exact (U uk).trans ((below_regrown w5 p.d p.os).mono (U uk).size)
 clear uq cf k1 k9 aL k3
 by_cases N:qty = ol
 ·have b1:(qty != ol) = false:=by simpa using N
  rw [if_pos N] at vG
  clear N
  go_wp2_with fail
  go_ret
  exact ⟨by rw [U vG]; rfl,U qH⟩
 ·have b1:(qty != ol) = true:=by simpa using N
  rw [if_neg N] at vG
  clear N
  go_wp2_with fail
  go_ret
  exact ⟨by rw [U vG]; rfl,U qH⟩
theorem first_8 {cp B:Nat} {vl vd va:Value} {g:Gr} {t:Od} {kd n0:Int} {dy l0:List Od} (ck L ct V cq ci:Int) (O:Nat) (cg:ByteArray) (id xj qty xk xi:Int) (w:World) (h:MS cp B w vl vd va g t kd n0 dy l0) (hi:GI g) (Q:g.bg = 0) (hg:cg.size ≤ maxLen):Calls Tryz.prog 67 #[J cp 0,.agg (yw 8 ck L ct V cq ci O cg id xj qty xk xi).toArray] w fun x w'=>x = .returned (I (fstM g.nx g.l ⟨8,⟨ck,L,ct,V,cq,ci,O,cg⟩,id,xj,qty,xk,xi⟩))∧yp w w':=by
 have hsf:=sfl
 have qg:=H (fun W=>dV 8 W (by decide))
 have uy:=H (fun W=>eI ⟨8,⟨ck,L,ct,V,cq,ci,O,cg⟩,id,xj,qty,xk,xi⟩ W (by show (1:Int) ≤ 8∧(8:Int) ≤ 9; decide))
 have qR:=H (hi.good (.inl (by omega)))
 have HSI:=H (hi.start Q).2.2.1
 have xz:=hi.len
 have qf:Hid (fstM g.nx g.l ⟨8,⟨ck,L,ct,V,cq,ci,O,cg⟩,id,xj,qty,xk,xi⟩ = if refR g.nx g.l (bA ⟨8,⟨ck,L,ct,V,cq,ci,O,cg⟩,id,xj,qty,xk,xi⟩) = 0 then (if qty = ((dys g.l).length:Int) then 0 else 7) else 5):=by show _ = _; simp [fstM,zQ]
 have ow:Hid ((bA ⟨8,⟨ck,L,ct,V,cq,ci,O,cg⟩,id,xj,qty,xk,xi⟩).g.size ≤ maxLen):=ez hg
 have aQ:=H (h.eqn Q)
 generalize fstM g.nx g.l ⟨8,⟨ck,L,ct,V,cq,ci,O,cg⟩,id,xj,qty,xk,xi⟩ = fm at qf ⊢
 generalize bA ⟨8,⟨ck,L,ct,V,cq,ci,O,cg⟩,id,xj,qty,xk,xi⟩ = c at uy qf ow
 unfold evV at uy
 simp only at uy
 obtain ⟨xC,HX⟩:=gw w (yw 8 ck L ct V cq ci O cg id xj qty xk xi) 52
 have HS:Hid ((w.alloc (A (yw 8 ck L ct V cq ci O cg id xj qty xk xi).toArray 52)).heap.size = w.heap.size + 1):=by show _ = _; simp
 have HM:=H (zx h xC)
 have HB:=H xC
 clear h xC hi Q hg
 go_enter Tryz.func67,Tryz.ntmps67
 refine gv fun hR HK=>?_
 go_wp2_with fail
 refine U HK _ _ ?_
 clear HK
 generalize (w.alloc (A (yw 8 ck L ct V cq ci O cg id xj qty xk xi).toArray 52)) = W1 at HS HX HM HB ⊢
 obtain ⟨e0,e1,e2,e3,e4,e5,e6,e7,e8,e9,uR,uA,vV,uT⟩:=yz (U HX)
 go_wp2_with fail
 refine (U qg W1).mono ?_
 rintro e w1 ⟨rfl,qE⟩
 rw [qE]
 clear qE
 go_wp2_with fail
 refine (U uy W1).mono ?_
 rintro e w3 ⟨rfl,xQ⟩
 have hz:=U HS
 obtain ⟨dk,ds,dt,dl,dq,di,dp,dg⟩:=c
 unfold cmV
 simp only
 have xy:=gp w3 (A (yy dk ds dt dl dq di dp dg).toArray 50)
 have uO:=xQ.trans (xy.mono xQ.size)
 have xG:=H (zf (U HX) uO (by omega))
 have qk:=H (zx (U HM) uO)
 have xH:=H (gu (U HB) uO)
 have vL:=H (zq w3 (yy dk ds dt dl dq di dp dg) 50)
 have oV:w.heap.size < (w3.alloc (A (yy dk ds dt dl dq di dp dg).toArray 50)).heap.size:=by have:=xQ.size; simp; omega
 clear xQ xy uO hz HX HM HB HS e0 e1 e2 e3 e4 e5 e6 e7 e8 e9 uR uA vV uT
 go_wp2_with fail
 generalize (w3.alloc (A (yy dk ds dt dl dq di dp dg).toArray 50)) = hj at xG qk xH vL oV ⊢
 have xV:Hid (Bx hj.drew w.heap.size (yw 8 ck L ct V cq ci O cg id xj qty xk xi)):=zK (U xG)
 have vS:Hid (MS cp B hj.drew vl vd va g t kd n0 dy l0):=zx (U qk) ⟨rfl,rfl,rfl,Nat.le_refl _,fun _ _=>rfl⟩
 have vu:Hid (yp w hj.drew):=⟨(U xH).os,(U xH).tape,(U xH).output,(U xH).size,(U xH).block⟩
 have vD:Hid (Bx hj.drew w3.heap.size (yy dk ds dt dl dq di dp dg)):=zK (U vL)
 clear xG qk xH vL
 obtain ⟨d0,d1,d2,d3,d4,d5,d6,d7⟩:=yA (U vD)
 have c11:=R (U vS).box 11 rfl
 have c12:=R (U vS).box 12 rfl
 have vv:Hid (Calls Tryz.prog 106 #[.agg #[I n0,va],.agg (yy dk ds dt dl dq di dp dg).toArray] hj.drew fun e w'=>e = .returned (I (refR g.nx g.l ⟨dk,ds,dt,dl,dq,di,dp,dg⟩))∧Below hj.drew.heap.size hj.drew w'):=by
  have N:=(U vS).ahd
  rw [(U aQ).2] at N
  have:=eK g.nx va g.l ⟨dk,ds,dt,dl,dq,di,dp,dg⟩ hj.drew N (U vS).sla (U qR) (U HSI) (U ow)
  rw [ref_eq] at this
  rw [(U aQ).1]
  exact this
 refine zF 5 (by kernel_rfl) (by kernel_rfl) ?_
 simp only [yU,List.take_zero,yV,List.drop_zero]
 repeat still_step
 refine wpStill_nil ?_
 clear d0 d1 d2 d3 d4 d5 d6 d7 c11 c12
 go_wp2_with fail
 refine (U vv).mono ?_
 rintro e w5 ⟨rfl,ui⟩
 have uX:=H (zf (U xV) ui oV)
 have vB:=H (zx (U vS) ui)
 have uk:=H (gu (U vu) ui)
 clear ui vv xV vS vu vD
 generalize refR g.nx g.l ⟨dk,ds,dt,dl,dq,di,dp,dg⟩ = rr at qf ⊢
 have e0:=R (U uX) 0 rfl
 have e9:=R (U uX) 9 rfl
 have uA:=R (U uX) 11 rfl
 have uT:=R (U uX) 13 rfl
 by_cases h0:rr = 0
 case neg =>
  have b0:(rr != 0) = true:=by simpa using h0
  have HQ:Hid (fm = 5):=by show _ = _; rw [U qf,if_neg h0]
  clear h0
  go_wp2_with fail
  go_ret
  exact ⟨by rw [U HQ]; rfl,U uk⟩
 have b0:(rr != 0) = false:=by simpa using h0
 have vG:=H (U qf)
 rw [if_pos h0] at vG
 clear h0 qf
 have c1:=R (U vB).box 1 rfl
 have uQ:=H (zI (U vB).row (yO xz (by decide)))
 have HDA:=H (fun W (h:RdR Od.vs 6 W vl g.l)=>l04Days_any vl g.l W h (yO xz (by decide)))
 generalize dys g.l = dn8 at vG HDA
 have HEN:Hid (∀ W,yp w5 W→yp w W):=fun W h=>(U uk).trans (h.mono (U uk).size)
 go_wp2_with fail
 refine zn (RG w5 (fun f=>{ tmps:=#[J cp 0,.agg (yw 8 ck L ct V cq ci O cg id xj qty xk xi).toArray,M,J w.heap.size 0,I 0,J w3.heap.size 0,.bool (zQ 8),I rr,J w.heap.size 0,I 8,.bool (zQ 8),.bool false,.tuple #[.agg (yy dk ds dt dl dq di dp dg).toArray,.bool (zQ 8)],.agg (yw 8 ck L ct V cq ci O cg id xj qty xk xi).toArray,.tuple #[.agg (yy dk ds dt dl dq di dp dg).toArray,.bool (zQ 8)],.agg (yy dk ds dt dl dq di dp dg).toArray,.bool (zQ 8),J cp 0,J cp 0,J cp 11,.agg #[I n0,va],.agg (yy dk ds dt dl dq di dp dg).toArray,I rr,J w.heap.size 0,I 8,.bool false,M,M,M,M,M,M,M,M,I rr,.bool false,J w.heap.size 0,I 8,.bool false,.bool false,M,M,M,M,M,M,M,.bool false,.bool false,M,M,M,M,M,M,M,M,M,M,M,M,M,M,M,M,M,.bool true,.bool true,f 0,f 1,f 2,f 3,f 4,f 5,f 6,f 7,f 8],defers:=[] }) 99 (DYc [some (J w.heap.size 11),some (I qty),some (J cp 0),some (J cp 0),some (J cp 1),some (vl),none,some (I (dn8.length:Int)),some (.bool (qty != (dn8.length:Int)))] dn8.length)) (by kernel_rfl) ?_ ?_ ?_
 ·exact ⟨fun _=>M,rfl,⟨rfl,rfl,rfl,Nat.le_refl _,fun _ _=>rfl⟩,fun j X=>by rw [yJ] at X; split at X <;> simp at X⟩
 ·rintro x gs cl ⟨f,rfl,xl,hD⟩ hx xO
  have xq:=zP xO hx (acyc _ (by kernel_rfl))
  have g8:f 8 = .bool (qty != (dn8.length:Int)):=(hD 8 (xq 8 (by simp))).2 _ rfl
  have qH:=H (U HEN cl xl)
  clear hD xq xO hx xl
  dsimp only
  simp only [g8]
  generalize f 0 = v0,f 1 = v1,f 2 = v2,f 3 = v3,f 4 = v4,f 5 = v5,f 6 = v6,f 7 = v7
  clear g8
  generalize dn8.length = dn at vG ⊢
  by_cases N:qty = (dn:Int)
  ·have b1:(qty != (dn:Int)) = false:=by simpa using N
   rw [if_pos N] at vG
   clear N
   go_wp2_with fail
   go_ret
   exact ⟨by rw [U vG]; rfl,U qH⟩
  ·have b1:(qty != (dn:Int)) = true:=by simpa using N
   rw [if_neg N] at vG
   clear N
   go_wp2_with fail
   go_ret
   exact ⟨by rw [U vG]; rfl,U qH⟩
 ·rintro x gs cl i op ⟨f,rfl,xl,hD⟩ F hx Z xt E
  clear F
  have xE:=H xl
  have HD:=H hD
  have qJ:=H (zi (U uQ) xl yb)
  have xm:∀ (p:Addr) u,w5.cell? p = some u→cl.cell? p = some u:=fun p u hu=>(xl.cell (yL w5 _ hu)).trans hu
  match i,Z with
  | 0,Z =>
   obtain rfl:=yc Z
   clear E hD xl xm c1 e0 e9 uA uT
   rw [if_pos (by rfl)];unfold Oper.wp;go_simp
   exact ⟨upd f 0 (J w.heap.size 11),by simp [upd],zg (U xE) (U HD) (by decide) ⟨fun h=>absurd h (by decide),yj rfl⟩⟩
  | 1,Z =>
   obtain rfl:=yc Z
   have g0:=(hD 0 (yf E 0 rfl)).2 _ rfl
   have z:=xm (D w.heap.size 11) _ uA
   clear E hD xl xm c1 e0 e9 uA uT
   rw [if_pos (by rfl)];unfold Oper.wp;go_simp
   exact ⟨upd f 1 (I qty),by simp [upd,g0],zg (U xE) (U HD) (by decide) ⟨fun h=>absurd h (by decide),yj rfl⟩⟩
  | 2,Z =>
   obtain rfl:=yc Z
   clear E hD xl xm c1 e0 e9 uA uT
   rw [if_pos (by rfl)];unfold Oper.wp;go_simp
   exact ⟨upd f 2 (J cp 0),by simp [upd],zg (U xE) (U HD) (by decide) ⟨fun h=>absurd h (by decide),yj rfl⟩⟩
  | 3,Z =>
   obtain rfl:=yc Z
   have g2:=(hD 2 (yf E 2 rfl)).2 _ rfl
   clear E hD xl xm c1 e0 e9 uA uT
   rw [if_pos (by rfl)];unfold Oper.wp;go_simp
   exact ⟨upd f 3 (J cp 0),by simp [upd,g2],zg (U xE) (U HD) (by decide) ⟨fun h=>absurd h (by decide),yj rfl⟩⟩
  | 4,Z =>
   obtain rfl:=yc Z
   have g3:=(hD 3 (yf E 3 rfl)).2 _ rfl
   clear E hD xl xm c1 e0 e9 uA uT
   rw [if_pos (by rfl)];unfold Oper.wp;go_simp
   exact ⟨upd f 4 (J cp 1),by simp [upd,g3],zg (U xE) (U HD) (by decide) ⟨fun h=>absurd h (by decide),yj rfl⟩⟩
  | 5,Z =>
   obtain rfl:=yc Z
   have g4:=(hD 4 (yf E 4 rfl)).2 _ rfl
   have z:=xm (D cp 1) _ c1
   clear E hD xl xm c1 e0 e9 uA uT
   rw [if_pos (by rfl)];unfold Oper.wp;go_simp
   exact ⟨upd f 5 (vl),by simp [upd,g4],zg (U xE) (U HD) (by decide) ⟨fun h=>absurd h (by decide),yj rfl⟩⟩
  | 6,Z =>
   obtain rfl:=yc Z
   have g5:=(hD 5 (yf E 5 rfl)).2 _ rfl
   clear E hD xl xm c1 e0 e9 uA uT
   rw [if_pos (by rfl)];unfold Oper.wp;go_simp
   refine (U HDA cl (U qJ)).mono ?_
   rintro e w6 ⟨v6,rfl,uJ,oF⟩
   exact ⟨upd f 6 v6,by simp [upd,g5],rg_grow dyc_mono (U xE) (U HD) oF (by decide) ⟨fun _=>iRow_slice uJ,fun u hu=>by cases hu⟩⟩
  | 7,Z =>
   obtain rfl:=yc Z
   obtain ⟨a6,c6,g6⟩:=(hD 6 (yf E 6 rfl)).1 rfl
   clear E hD xl xm c1 e0 e9 uA uT
   rw [if_pos (by rfl)];unfold Oper.wp;go_simp
   exact ⟨upd f 7 (I (dn8.length:Int)),by simp [upd,g6],zg (U xE) (U HD) (by decide) ⟨fun h=>absurd h (by decide),yj rfl⟩⟩
  | 8,Z =>
   obtain rfl:=yc Z
   have g1:=(hD 1 (yf E 1 rfl)).2 _ rfl
   have g7:=(hD 7 (yf E 7 rfl)).2 _ rfl
   clear E hD xl xm c1 e0 e9 uA uT
   rw [if_pos (by rfl)];unfold Oper.wp;go_simp
   exact ⟨upd f 8 (.bool (qty != (dn8.length:Int))),by simp [upd,g1,g7],zg (U xE) (U HD) (by decide) ⟨fun h=>absurd h (by decide),yj rfl⟩⟩
  | i + 9,Z=>simp at Z
theorem first_any {cp B:Nat} {vl vd va:Value} {g:Gr} {t:Od} {kd n0:Int} {dy l0:List Od} (e:Ev) (w:World) (h:MS cp B w vl vd va g t kd n0 dy l0) (hi:GI g) (Q:g.bg = 0) (hk:1 ≤ e.kind∧e.kind ≤ 9) (hg:e.cmd.g.size ≤ maxLen):Calls Tryz.prog 67 #[J cp 0,evV e] w fun x w'=>x = .returned (I (fstM g.nx g.l e))∧yp w w':=by
 obtain ⟨xn,⟨ck,L,ct,V,cq,ci,O,cg⟩,id,xj,qty,xk,xi⟩:=e
 unfold evV
 simp only at hk hg ⊢
 rcases (show xn = 1 ∨ xn = 2 ∨ xn = 3 ∨ xn = 4 ∨ xn = 5 ∨ xn = 6 ∨ xn = 7 ∨ xn = 8 ∨ xn = 9 by omega) with rfl | rfl | rfl | rfl | rfl | rfl | rfl | rfl | rfl
 ·exact first_1 ck L ct V cq ci O cg id xj qty xk xi w h hi Q hg
 ·exact first_2 ck L ct V cq ci O cg id xj qty xk xi w h hi Q hg
 ·exact fI 3 ck L ct V cq ci O cg id xj qty xk xi cp g w (by decide) rfl
 ·exact fI 4 ck L ct V cq ci O cg id xj qty xk xi cp g w (by decide) rfl
 ·exact fI 5 ck L ct V cq ci O cg id xj qty xk xi cp g w (by decide) rfl
 ·exact first_6 ck L ct V cq ci O cg id xj qty xk xi w h hi Q hg
 ·exact first_7 ck L ct V cq ci O cg id xj qty xk xi w h hi Q hg
 ·exact first_8 ck L ct V cq ci O cg id xj qty xk xi w h hi Q hg
 ·exact fI 9 ck L ct V cq ci O cg id xj qty xk xi cp g w (by decide) rfl
theorem broken_any {cp B:Nat} {vl vd va:Value} {g:Gr} {t:Od} {kd n0:Int} {dy l0:List Od} (e:Ev) (w:World) (h:MS cp B w vl vd va g t kd n0 dy l0) (hi:GI g) (hm:MR g t kd dy) (hk:1 ≤ e.kind∧e.kind ≤ 9) (hg:e.cmd.g.size ≤ maxLen):Calls Tryz.prog 37 #[J cp 0,evV e] w fun x w'=>x = .returned (I (zG g e))∧yp w w':=by
 have hsf:=sfl
 rw [← ruleM_eq hk]
 have ur:Hid (ruleM g e = if g.bg = 0 then fstM g.nx g.l e else latM (dueG g) e):=rfl
 have HFI:Hid (g.bg = 0→∀ W,MS cp B W vl vd va g t kd n0 dy l0→Calls Tryz.prog 67 #[J cp 0,evV e] W fun x w'=>x = .returned (I (fstM g.nx g.l e))∧yp W w'):=fun Q W hW=>first_any e W hW hi Q hk hg
 have HLA:=H (fun W (hW:MS cp B W vl vd va g t kd n0 dy l0)=>later_any e W hW hi hm hk)
 generalize ruleM g e = ru at ur ⊢
 generalize fstM g.nx g.l e = fm at ur HFI
 generalize latM (dueG g) e = lm at ur HLA
 obtain ⟨xn,⟨ck,L,ct,V,cq,ci,O,cg⟩,id,xj,qty,xk,xi⟩:=e
 unfold evV at HFI HLA ⊢
 simp only at HFI HLA ⊢
 obtain ⟨xC,HX⟩:=gw w (yw xn ck L ct V cq ci O cg id xj qty xk xi) 52
 have HM:=H (zx h xC)
 have HB:=H xC
 clear h xC hi hm hk hg
 go_enter Tryz.func37,Tryz.ntmps37
 refine gv fun hR HK=>?_
 go_wp2_with fail
 refine U HK _ _ ?_
 clear HK
 generalize (w.alloc (A (yw xn ck L ct V cq ci O cg id xj qty xk xi).toArray 52)) = W1 at HX HM HB ⊢
 obtain ⟨e0,e1,e2,e3,e4,e5,e6,e7,e8,e9,uR,uA,vV,uT⟩:=yz (U HX)
 have c9:=R (U HM).box 9 rfl
 by_cases h0:g.bg = 0
 ·have b0:(g.bg != 0) = false:=by simpa using h0
  rw [b0] at c9
  have vG:=H (U HFI h0 W1 (U HM))
  rw [if_pos h0] at ur
  clear h0 b0 HFI HLA
  go_wp2_with fail
  refine (U vG).mono ?_
  rintro x w2 ⟨rfl,xK⟩
  have xw:=H (gu (U HB) xK)
  clear xK
  go_wp2_with fail
  go_ret
  exact ⟨by rw [U ur]; rfl,U xw⟩
 ·have b0:(g.bg != 0) = true:=by simpa using h0
  rw [b0] at c9
  have vG:=H (U HLA W1 (U HM))
  rw [if_neg h0] at ur
  clear h0 b0 HFI HLA
  go_wp2_with fail
  refine (U vG).mono ?_
  rintro x w2 ⟨rfl,xK⟩
  have xw:=H (gu (U HB) xK)
  clear xK
  go_wp2_with fail
  go_ret
  exact ⟨by rw [U ur]; rfl,U xw⟩
def TakE (cp B:Nat) (va:Value) (n0:Int) (l0:List Od) (g:Gr) (t:Od) (kd:Int) (dy:List Od) (e:Ev) (w:World) (x:Ending) (w':World):Prop:=x = .returned (.tuple #[])∧Below B w w'∧∃ vY vk,MS cp B w' vY vk va (br g e) (tkM g t e) (kdM kd e) n0 (dyM g dy e) l0
theorem take_2 {cp B:Nat} {vl vd va:Value} {g:Gr} {t:Od} {kd n0:Int} {dy l0:List Od} (ck L ct V cq ci:Int) (O:Nat) (cg:ByteArray) (id xj qty xk xi:Int) (w:World) (h:MS cp B w vl vd va g t kd n0 dy l0) (hi:GI g) (hm:MR g t kd dy) (he:okE ⟨2,⟨ck,L,ct,V,cq,ci,O,cg⟩,id,xj,qty,xk,xi⟩ = true) (hr:zG g ⟨2,⟨ck,L,ct,V,cq,ci,O,cg⟩,id,xj,qty,xk,xi⟩ = 0):Calls Tryz.prog 52 #[J cp 0,.agg (yw 2 ck L ct V cq ci O cg id xj qty xk xi).toArray] w fun x w'=>TakE cp B va n0 l0 g t kd dy ⟨2,⟨ck,L,ct,V,cq,ci,O,cg⟩,id,xj,qty,xk,xi⟩ w x w':=by
 have hsf:=sfl
 have hO:=h.lt
 have qe:=h.base
 have qM:Hid (∀ w' vY vk,Below B w w'→MS cp B w' vY vk va (br g ⟨2,⟨ck,L,ct,V,cq,ci,O,cg⟩,id,xj,qty,xk,xi⟩) (tkM g t ⟨2,⟨ck,L,ct,V,cq,ci,O,cg⟩,id,xj,qty,xk,xi⟩) (kdM kd ⟨2,⟨ck,L,ct,V,cq,ci,O,cg⟩,id,xj,qty,xk,xi⟩) n0 (dyM g dy ⟨2,⟨ck,L,ct,V,cq,ci,O,cg⟩,id,xj,qty,xk,xi⟩) l0→TakE cp B va n0 l0 g t kd dy ⟨2,⟨ck,L,ct,V,cq,ci,O,cg⟩,id,xj,qty,xk,xi⟩ w (.returned (.tuple #[])) w'):=fun w' vY vk N Y=>⟨rfl,N,vY,vk,Y⟩
 have h0:=rule2 (e:=⟨2,⟨ck,L,ct,V,cq,ci,O,cg⟩,id,xj,qty,xk,xi⟩) rfl hr
 have uh:Hid (br g ⟨2,⟨ck,L,ct,V,cq,ci,O,cg⟩,id,xj,qty,xk,xi⟩ = { g with bg:=2 }):=by show _ = _; rw [step2 rfl]; simp only [begG,if_pos h0]
 have uz:Hid (tkM g t ⟨2,⟨ck,L,ct,V,cq,ci,O,cg⟩,id,xj,qty,xk,xi⟩ = t∧kdM kd ⟨2,⟨ck,L,ct,V,cq,ci,O,cg⟩,id,xj,qty,xk,xi⟩ = kd∧dyM g dy ⟨2,⟨ck,L,ct,V,cq,ci,O,cg⟩,id,xj,qty,xk,xi⟩ = dy):=⟨rfl,rfl,rfl⟩
 generalize TakE cp B va n0 l0 g t kd dy ⟨2,⟨ck,L,ct,V,cq,ci,O,cg⟩,id,xj,qty,xk,xi⟩ w = C at qM ⊢
 obtain ⟨xC,HX⟩:=gw w (yw 2 ck L ct V cq ci O cg id xj qty xk xi) 52
 have HM:=H (zx h xC)
 have HB:=H (xC.mono qe)
 clear h xC hi hm he hr
 go_enter Tryz.func52,Tryz.ntmps52
 refine gv fun hR HK=>?_
 go_wp2_with fail
 refine U HK _ _ ?_
 clear HK
 generalize (w.alloc (A (yw 2 ck L ct V cq ci O cg id xj qty xk xi).toArray 52)) = W1 at HX HM HB ⊢
 have c9:=R (U HM).box 9 rfl
 have q9:=zd (U HM).box 9 (by show 9 < 13; decide)
 have xw:Hid (Below B w (World.setCells W1 cp 9 [.bool true])):=zN (U HB) yb (U HM) 9 _
 have xR:Hid (MS cp B (World.setCells W1 cp 9 [.bool true]) vl vd va { g with bg:=2 } t kd n0 dy l0):=cE (U HM) 9 [.bool true] (by simp) rfl rfl (fun h=>absurd (show (2:Int) = 0 from h) (by decide))
 have e0:(World.setCells W1 cp 9 [.bool true]).cell? (D w.heap.size 0) = some (I 2):=R (bx (U HX) (bY cp w.heap.size (by omega) _ 9 W1)) 0 rfl
 simp only [World.setCells] at e0
 go_wp2_with fail
 go_end0
 refine U qM _ vl vd (U xw) ?_
 rw [U uh,(U uz).1,(U uz).2.1,(U uz).2.2]
 exact U xR
theorem take_5 {cp B:Nat} {vl vd va:Value} {g:Gr} {t:Od} {kd n0:Int} {dy l0:List Od} (ck L ct V cq ci:Int) (O:Nat) (cg:ByteArray) (id xj qty xk xi:Int) (w:World) (h:MS cp B w vl vd va g t kd n0 dy l0) (hi:GI g) (hm:MR g t kd dy) (he:okE ⟨5,⟨ck,L,ct,V,cq,ci,O,cg⟩,id,xj,qty,xk,xi⟩ = true) (hr:zG g ⟨5,⟨ck,L,ct,V,cq,ci,O,cg⟩,id,xj,qty,xk,xi⟩ = 0):Calls Tryz.prog 52 #[J cp 0,.agg (yw 5 ck L ct V cq ci O cg id xj qty xk xi).toArray] w fun x w'=>TakE cp B va n0 l0 g t kd dy ⟨5,⟨ck,L,ct,V,cq,ci,O,cg⟩,id,xj,qty,xk,xi⟩ w x w':=by
 have hsf:=sfl
 have hO:=h.lt
 have qe:=h.base
 have qM:Hid (∀ w' vY vk,Below B w w'→MS cp B w' vY vk va (br g ⟨5,⟨ck,L,ct,V,cq,ci,O,cg⟩,id,xj,qty,xk,xi⟩) (tkM g t ⟨5,⟨ck,L,ct,V,cq,ci,O,cg⟩,id,xj,qty,xk,xi⟩) (kdM kd ⟨5,⟨ck,L,ct,V,cq,ci,O,cg⟩,id,xj,qty,xk,xi⟩) n0 (dyM g dy ⟨5,⟨ck,L,ct,V,cq,ci,O,cg⟩,id,xj,qty,xk,xi⟩) l0→TakE cp B va n0 l0 g t kd dy ⟨5,⟨ck,L,ct,V,cq,ci,O,cg⟩,id,xj,qty,xk,xi⟩ w (.returned (.tuple #[])) w'):=fun w' vY vk N Y=>⟨rfl,N,vY,vk,Y⟩
 have h0:=(rule45 (e:=⟨5,⟨ck,L,ct,V,cq,ci,O,cg⟩,id,xj,qty,xk,xi⟩) (.inr rfl) hr).1
 have uh:Hid (br g ⟨5,⟨ck,L,ct,V,cq,ci,O,cg⟩,id,xj,qty,xk,xi⟩ = { g with tk:={ g.tk with left:=0 } }):=by show _ = _; rw [step5 rfl]; simp only [begG]; rw [if_neg (by omega)]
 have uz:Hid (tkM g t ⟨5,⟨ck,L,ct,V,cq,ci,O,cg⟩,id,xj,qty,xk,xi⟩ = zOd∧kdM kd ⟨5,⟨ck,L,ct,V,cq,ci,O,cg⟩,id,xj,qty,xk,xi⟩ = kd∧dyM g dy ⟨5,⟨ck,L,ct,V,cq,ci,O,cg⟩,id,xj,qty,xk,xi⟩ = dy):=⟨rfl,rfl,rfl⟩
 have hbn:(g.bg != 0) = true:=by simp [h0]
 have pU:Hid (g.bg ≠ 0):=by show _ ≠ _; omega
 clear h0
 generalize TakE cp B va n0 l0 g t kd dy ⟨5,⟨ck,L,ct,V,cq,ci,O,cg⟩,id,xj,qty,xk,xi⟩ w = C at qM ⊢
 obtain ⟨xC,HX⟩:=gw w (yw 5 ck L ct V cq ci O cg id xj qty xk xi) 52
 have HM:=H (zx h xC)
 have HB:=H (xC.mono qe)
 clear h xC hi hm he hr
 go_enter Tryz.func52,Tryz.ntmps52
 refine gv fun hR HK=>?_
 go_wp2_with fail
 refine U HK _ _ ?_
 clear HK
 generalize (w.alloc (A (yw 5 ck L ct V cq ci O cg id xj qty xk xi).toArray 52)) = W1 at HX HM HB ⊢
 have c9:=R (U HM).box 9 rfl
 have q9:=zd (U HM).box 9 (by show 9 < 13; decide)
 have xw:Hid (Below B w (World.setCells W1 cp 9 [.bool true])):=zN (U HB) yb (U HM) 9 _
 have xR:Hid (MS cp B (World.setCells W1 cp 9 [.bool true]) vl vd va g t kd n0 dy l0):=cE (U HM) 9 [.bool true] (by simp) (by simp [msV,hbn]) rfl (fun h=>absurd h (U pU))
 have e0:(World.setCells W1 cp 9 [.bool true]).cell? (D w.heap.size 0) = some (I 5):=R (bx (U HX) (bY cp w.heap.size (by omega) _ 9 W1)) 0 rfl
 clear hbn HX HM HB
 refine gv fun hR HK=>?_
 go_wp2_with fail
 refine U HK _ _ ?_
 clear HK
 change Code.wp _ _ _ _ (World.setCells W1 cp 9 [.bool true])
 generalize World.setCells W1 cp 9 [.bool true] = hj at xw xR e0 ⊢
 have c2:=R (U xR).box 2 rfl
 have q2:=zd (U xR).box 2 (by show 2 < 13; decide)
 have c3:=R (U xR).box 3 rfl
 have q3:=zd (U xR).box 3 (by show 3 < 13; decide)
 have c4:=R (U xR).box 4 rfl
 have q4:=zd (U xR).box 4 (by show 4 < 13; decide)
 have c5:=R (U xR).box 5 rfl
 have q5:=zd (U xR).box 5 (by show 5 < 13; decide)
 have c6:=R (U xR).box 6 rfl
 have q6:=zd (U xR).box 6 (by show 6 < 13; decide)
 have c7:=R (U xR).box 7 rfl
 have q7:=zd (U xR).box 7 (by show 7 < 13; decide)
 go_wp2_with fail
 go_end0
 refine U qM _ vl vd (zN (U xw) yb (U xR) 2 (yx 0 0 0 0 0 ⟨#[]⟩)) ?_
 rw [U uh,(U uz).1,(U uz).2.1,(U uz).2.2]
 exact cE (U xR) 2 (yx 0 0 0 0 0 ⟨#[]⟩) (by simp) rfl rfl (fun h=>absurd h (U pU))
end Go.Proofs.YtnphbkgfjanmgaaGreatDoor
