/-
  A first event held against the rules of all first events, by the program: proved by walking the method.
-/
import Derived.Test.YtnphbkgfjanmgaaGreatDoorDj28
set_option linter.unusedVariables false
set_option maxHeartbeats 6400000
set_option maxRecDepth 100000
namespace Go.Proofs.YtnphbkgfjanmgaaGreatDoor
open Go.RowKit
def outR (k:Int):Ending:=if k = 0 then .returned (.tuple #[]) else .panicked (brk k)
theorem outR_ok {k:Int} (h:k = 0):outR k = .returned (.tuple #[]):=if_pos h
theorem outR_no {k:Int} (h:k ≠ 0):outR k = .panicked (brk k):=if_neg h
theorem dL {e:Ev} (hg:e.cmd.g.size ≤ maxLen):(aQ e).g.size ≤ maxLen:=by
 have hz:(⟨#[]⟩:ByteArray).size ≤ maxLen:=by decide
 unfold aQ zCm
 repeat' split
 all_goals first | exact hg | exact hz
theorem start_any {G B r:Nat} {vq:Value} {g:Gr} (e:Ev) (w:World) (h:GS G B r w vq g) (hi:GI g) (hk:1 ≤ e.kind∧e.kind ≤ 9) (hg:e.cmd.g.size ≤ maxLen):Calls Tryz.prog 132 #[J G 0,evV e] w fun x w'=>x = outR (aP g e)∧yp w w':=by
 have hsf:=sfl
 have hG:=h.lt
 have HTO:=H (fun W=>toldCmd_any e W hk)
 have kX:=H (dL hg)
 have vZ:Hid (aP g e = if g.bg ≠ 0 then 3 else if refR g.nx g.l (aQ e) ≠ 0 then 5 else 0):=rfl
 generalize aQ e = c at HTO kX vZ
 generalize zO e.kind = sb at HTO
 generalize aP g e = sr at vZ ⊢
 obtain ⟨xn,⟨ck,A,ct,F,cq,ci,O,cg⟩,id,xj,qty,xk,xi⟩:=e
 unfold evV at HTO ⊢
 simp only at HTO ⊢
 obtain ⟨xz,HX⟩:=fE w (yw xn ck A ct F cq ci O cg id xj qty xk xi) 52
 have HS:Hid ((w.alloc (L (yw xn ck A ct F cq ci O cg id xj qty xk xi).toArray 52)).heap.size = w.heap.size + 1):=by show _ = _; simp
 have HG:=H (zy h xz)
 have HB:=H xz
 have HI:=H hi
 clear h xz hi hk hg
 go_enter Tryz.func132,Tryz.ntmps132
 refine fD fun zb HK=>?_
 go_wp2_with fail
 refine U HK _ _ ?_
 clear HK
 generalize (w.alloc (L (yw xn ck A ct F cq ci O cg id xj qty xk xi).toArray 52)) = W1 at HS HX HG HB ⊢
 have c3:W1.cell? (Q G 3) = some (I g.bg):=K (U HG).box 3 rfl
 by_cases h0:g.bg = 0
 ·have b0:(g.bg == 0) = true:=by simpa using h0
  have qK:=H ((U HI).good (.inl (by omega)))
  have HNX:=H ((U HI).start h0)
  have HST2:Hid (sr = if refR g.nx g.l c ≠ 0 then 5 else 0):=by show _ = _; rw [U vZ,if_neg (by simpa using h0)]
  clear h0 vZ
  go_wp2_with fail
  refine (bC 3 _).mono ?_
  rintro e w2 ⟨rfl,rfl⟩
  clear c3 b0
  obtain ⟨e0,e1,e2,e3,e4,e5,e6,e7,e8,e9,uO,uy,vQ,uQ⟩:=yz (U HX)
  go_wp2_with fail
  refine (U HTO w2).mono ?_
  rintro e w3 ⟨rfl,xQ⟩
  have vi:=H (zy (U HG) xQ)
  have xN:=H (fC (U HB) xQ)
  clear e0 e1 e2 e3 e4 e5 e6 e7 e8 e9 uO uy vQ uQ xQ
  obtain ⟨dk,ds,dt,dl,dq,di,dp,dg⟩:=c
  unfold cmV
  simp only
  obtain ⟨xy,xG⟩:=fE w3 (yy dk ds dt dl dq di dp dg) 50
  have ut:=H (zy (U vi) xy)
  have xH:=H (fC (U xN) xy)
  clear xy vi xN
  have HZ4:Hid (w3.heap.size < (w3.alloc (L (yy dk ds dt dl dq di dp dg).toArray 50)).heap.size):=by show _ < _; simp
  go_wp2_with fail
  generalize (w3.alloc (L (yy dk ds dt dl dq di dp dg).toArray 50)) = xo at xG ut xH HZ4 ⊢
  have xY:Hid (Bx xo.drew w3.heap.size (yy dk ds dt dl dq di dp dg)):=zJ (U xG)
  have ql:Hid (GS G B r xo.drew vq g):=zy (U ut) ⟨rfl,rfl,rfl,Nat.le_refl _,fun _ _=>rfl⟩
  have vv:Hid (yp w xo.drew):=⟨(U xH).os,(U xH).tape,(U xH).output,(U xH).size,(U xH).block⟩
  clear xG ut xH HX
  obtain ⟨d0,d1,d2,d3,d4,d5,d6,d7⟩:=yA (U xY)
  have c1:xo.drew.cell? (Q G 1) = some (I g.nx):=K (U ql).box 1 rfl
  have c2:xo.drew.cell? (Q G 2) = some vq:=K (U ql).box 2 rfl
  have uN:=H (zK (U ql).row (yO (U HI).len (by decide)))
  have km:=H (oRow_sl (U ql).row)
  refine zE 5 (by kernel_rfl) (by kernel_rfl) ?_
  simp only [yU,List.take_zero,yV,List.drop_zero]
  repeat still_step
  refine wpStill_nil ?_
  clear d0 d1 d2 d3 d4 d5 d6 d7 c1 c2
  go_wp2_with fail
  refine (refusal_any g.nx vq g.l ⟨dk,ds,dt,dl,dq,di,dp,dg⟩ xo.drew (U uN) (U km) (U qK) (U HNX).1 (U HNX).2.1 (U kX)).mono ?_
  rintro e w5 ⟨rfl,uh⟩
  have uj:=H (fC (U vv) uh)
  clear uh
  generalize refR g.nx g.l ⟨dk,ds,dt,dl,dq,di,dp,dg⟩ = rr at HST2 ⊢
  by_cases jO:rr = 0
  ·have b1:(rr == 0) = true:=by simpa using jO
   have vU:Hid (sr = 0):=by show _ = _; rw [U HST2,if_neg (by simpa using jO)]
   clear jO
   go_wp2_with fail
   refine (bC 5 _).mono ?_
   rintro e w6 ⟨rfl,rfl⟩
   go_wp2_with fail
   go_end0
   exact ⟨by rw [U vU]; rfl,U uj⟩
  ·have b1:(rr == 0) = false:=by simpa using jO
   have vU:Hid (sr = 5):=by show _ = _; rw [U HST2,if_pos jO]
   clear jO
   go_wp2_with fail
   refine (bw 5 _).mono ?_
   rintro e w6 ⟨rfl,rfl⟩
   go_wp2_with fail
   exact ⟨rfl,by rw [U vU]; rfl,U uj⟩
 ·have b0:(g.bg == 0) = false:=by simpa using h0
  have HST2:Hid (sr = 3):=by show _ = _; rw [U vZ,if_pos h0]
  clear h0
  go_wp2_with fail
  refine (bw 3 _).mono ?_
  rintro e w2 ⟨rfl,rfl⟩
  go_wp2_with fail
  exact ⟨rfl,by rw [U HST2]; rfl,U HB⟩
def outD (k:Int) (d:Du):Ending:=if k = 0 then .returned (duV d) else .panicked (brk k)
theorem outD_ok {k:Int} {d:Du} (h:k = 0):outD k d = .returned (duV d):=if_pos h
theorem outD_no {k:Int} {d:Du} (h:k ≠ 0):outD k d = .panicked (brk k):=if_neg h
theorem eE {G B r:Nat} {vq:Value} {g:Gr} (e:Ev) (w:World) (h:GS G B r w vq g) (hi:GI g):Calls Tryz.prog 137 #[J G 0,evV e] w fun x w'=>x = outD (dueR g e) (dueG g)∧yp w w':=by
 have hsf:=sfl
 have hG:=h.lt
 have HJ:=H (fun W=>isJust_any e (dueG g) W)
 have jU:=H (fun W hW=>due_any (G:=G) (B:=B) (r:=r) (vq:=vq) (g:=g) W hW hi)
 have HDR:Hid (dueR g e = if g.bg = 0 then 3 else if (dueG g).kind = 0 then 8 else if ((dueG g).kind = 9 ∨ e.kind = 9)∧aS e (dueG g) = false then 14 else 0):=rfl
 generalize dueR g e = dr at HDR ⊢
 generalize aS e (dueG g) = jb at HJ HDR
 generalize dueG g = d at HJ jU HDR ⊢
 obtain ⟨xn,⟨ck,A,ct,F,cq,ci,O,cg⟩,id,xj,qty,xk,xi⟩:=e
 obtain ⟨dk,di,dt,dq,dp⟩:=d
 unfold evV duV at HJ
 unfold evV
 unfold duV at jU
 simp only at HJ jU HDR ⊢
 have hs0:(w.alloc (L (yw xn ck A ct F cq ci O cg id xj qty xk xi).toArray 52)).heap.size = w.heap.size + 1:=by simp
 have xz:=fw w (L (yw xn ck A ct F cq ci O cg id xj qty xk xi).toArray 52)
 have uk:Below (w.heap.size + 1) (w.alloc (L (yw xn ck A ct F cq ci O cg id xj qty xk xi).toArray 52)) ((w.alloc (L (yw xn ck A ct F cq ci O cg id xj qty xk xi).toArray 52)).alloc (L #[I 0,I 0,I 0,I 0,I 0] 29)):=(Below.refl _ _).alloc (by rw [hs0]; omega) _
 have HS:Hid (((w.alloc (L (yw xn ck A ct F cq ci O cg id xj qty xk xi).toArray 52)).alloc (L #[I 0,I 0,I 0,I 0,I 0] 29)).heap.size = w.heap.size + 1 + 1):=by show _ = _; simp
 have HX:=H (zf (zq w (yw xn ck A ct F cq ci O cg id xj qty xk xi) 52) uk (by omega))
 have HY:Hid (Bx ((w.alloc (L (yw xn ck A ct F cq ci O cg id xj qty xk xi).toArray 52)).alloc (L #[I 0,I 0,I 0,I 0,I 0] 29)) (w.heap.size + 1) [I 0,I 0,I 0,I 0,I 0]):=by
  have:=zq (w.alloc (L (yw xn ck A ct F cq ci O cg id xj qty xk xi).toArray 52)) [I 0,I 0,I 0,I 0,I 0] 29
  rwa [hs0] at this
 have HB:Hid (yp w ((w.alloc (L (yw xn ck A ct F cq ci O cg id xj qty xk xi).toArray 52)).alloc (L #[I 0,I 0,I 0,I 0,I 0] 29))):=xz.trans (uk.mono (by omega))
 have HG:=H (zy h (U HB))
 clear h xz hi uk hs0
 go_enter Tryz.func137,Tryz.ntmps137
 refine fD fun zb HK=>?_
 go_wp2_with fail
 refine U HK _ _ ?_
 clear HK
 generalize ((w.alloc (L (yw xn ck A ct F cq ci O cg id xj qty xk xi).toArray 52)).alloc (L #[I 0,I 0,I 0,I 0,I 0] 29)) = W1 at HS HX HY HG HB ⊢
 have c3:W1.cell? (Q G 3) = some (I g.bg):=K (U HG).box 3 rfl
 by_cases h0:g.bg = 0
 ·have b0:(g.bg != 0) = false:=by simpa using h0
  have HQ:Hid (dr = 3):=by show _ = _; rw [U HDR,if_pos h0]
  clear h0
  go_wp2_with fail
  refine (bw 3 _).mono ?_
  rintro e w6 ⟨rfl,rfl⟩
  go_wp2_with fail
  exact ⟨rfl,by rw [U HQ]; rfl,U HB⟩
 have b0:(g.bg != 0) = true:=by simpa using h0
 have HDR2:Hid (dr = if dk = 0 then 8 else if (dk = 9 ∨ xn = 9)∧jb = false then 14 else 0):=by show _ = _; rw [U HDR,if_neg h0]
 clear h0 HDR
 go_wp2_with fail
 refine (bC 3 _).mono ?_
 rintro e w6 ⟨rfl,rfl⟩
 clear c3 b0
 go_wp2_with fail
 refine (U jU w6 (U HG)).mono ?_
 rintro e w3 ⟨rfl,xQ⟩
 have hz:=U HS
 have xy:=fw w3 (L #[I dk,I di,I dt,I dq,I dp] 29)
 have uL:=xQ.trans (xy.mono xQ.size)
 have xG:=H (zf (U HX) uL (by omega))
 have aA:=H (zf (U HY) uL (by omega))
 have ut:=H (zy (U HG) uL)
 have xH:=H (fC (U HB) uL)
 have vJ:=H (zq w3 [I dk,I di,I dt,I dq,I dp] 29)
 have HZ4:Hid (w3.heap.size < (w3.alloc (L #[I dk,I di,I dt,I dq,I dp] 29)).heap.size∧w.heap.size + 1 < w3.heap.size):=⟨by simp,by have:=xQ.size; omega⟩
 clear xQ xy uL hz HX HY HG HB HS jU
 by_cases pw:dk = 0
 ·have b0:(dk != 0) = false:=by simpa using pw
  have HQ:Hid (dr = 8):=by show _ = _; rw [U HDR2,if_pos pw]
  clear pw
  go_wp2_with fail
  refine (bw 8 _).mono ?_
  rintro e w6 ⟨rfl,rfl⟩
  go_wp2_with fail
  exact ⟨rfl,by rw [U HQ]; rfl,U xH⟩
 have b0:(dk != 0) = true:=by simpa using pw
 have HDR3:Hid (dr = if (dk = 9 ∨ xn = 9)∧jb = false then 14 else 0):=by show _ = _; rw [U HDR2,if_neg pw]
 clear pw HDR2
 go_wp2_with fail
 refine (bC 8 _).mono ?_
 rintro e xo ⟨rfl,hX⟩
 rw [← hX] at xG aA ut xH vJ HZ4
 clear hX b0
 have v0:=K (U vJ) 0 rfl
 have e0:=K (U xG) 0 rfl
 by_cases h9:dk = 9
 ·have b9:(dk == 9) = true:=by simpa using h9
  have HOR:Hid (dk = 9 ∨ xn = 9):=.inl h9
  clear h9
  obtain ⟨e0,e1,e2,e3,e4,e5,e6,e7,e8,e9,uO,uy,vQ,uQ⟩:=yz (U xG)
  have v0:=K (U vJ) 0 rfl
  have v1:=K (U vJ) 1 rfl
  have v2:=K (U vJ) 2 rfl
  have v3:=K (U vJ) 3 rfl
  have v4:=K (U vJ) 4 rfl
  go_wp2_with fail
  refine (U HJ xo).mono ?_
  rintro e w7 ⟨rfl,qi⟩
  have jY:=H (zf (U aA) qi (by have:=U HZ4; omega))
  have HV7:=H (zf (U vJ) qi (U HZ4).1)
  have qV:=H (fC (U xH) qi)
  clear qi e0 e1 e2 e3 e4 e5 e6 e7 e8 e9 uO uy vQ uQ v0 v1 v2 v3 v4
  cases jb
  ·have HQ:Hid (dr = 14):=by show _ = _; rw [U HDR3,if_pos ⟨U HOR,rfl⟩]
   go_wp2_with fail
   refine (bw 14 _).mono ?_
   rintro e w6 ⟨rfl,rfl⟩
   go_wp2_with fail
   exact ⟨rfl,by rw [U HQ]; rfl,U qV⟩
  ·have HQ:Hid (dr = 0):=by show _ = _; rw [U HDR3,if_neg (by simp)]
   go_wp2_with fail
   refine (bC 14 _).mono ?_
   rintro e w6 ⟨rfl,rfl⟩
   have v0:=K (U HV7) 0 rfl
   have v1:=K (U HV7) 1 rfl
   have v2:=K (U HV7) 2 rfl
   have v3:=K (U HV7) 3 rfl
   have v4:=K (U HV7) 4 rfl
   have z0:=K (U jY) 0 rfl
   have z1:=K (U jY) 1 rfl
   have z2:=K (U jY) 2 rfl
   have z3:=K (U jY) 3 rfl
   have z4:=K (U jY) 4 rfl
   have f0:=zd (U jY) 0 (by decide)
   have f1:=zd (U jY) 1 (by decide)
   have f2:=zd (U jY) 2 (by decide)
   have f3:=zd (U jY) 3 (by decide)
   have f4:=zd (U jY) 4 (by decide)
   go_wp2_with fail
   try simp (config:={ zetaDelta:=true }) only [Exit.noGoto_ret]
   change bodyPost _ _ _ _ _ (World.setCells w6 (w.heap.size + 1) 0 [I dk,I di,I dt,I dq,I dp])
   have xp:Hid ((World.setCells w6 (w.heap.size + 1) 0 [I dk,I di,I dt,I dq,I dp]).rangeAt (w.heap.size + 1) 0 [I dk,I di,I dt,I dq,I dp]∧yp w (World.setCells w6 (w.heap.size + 1) 0 [I dk,I di,I dt,I dq,I dp])):=⟨(zw (U jY) (by simp only [List.length_cons,List.length_nil])).r,zi (w.heap.size + 1) (by omega) [I dk,I di,I dt,I dq,I dp] 0 w6 (U qV)⟩
   generalize World.setCells w6 (w.heap.size + 1) 0 [I dk,I di,I dt,I dq,I dp] = WE at xp ⊢
   obtain ⟨d0,d1,d2,d3,d4⟩:=yC (U xp).1
   try simp only [Exit.inBlock,Exit.then]
   refine bodyPost_ret (by simp [results,Tryz.results137,go_sem,d0,d1,d2,d3,d4]; try rfl) rfl ?_
   exact ⟨by rw [U HQ]; rfl,(U xp).2⟩
 have b9:(dk == 9) = false:=by simpa using h9
 by_cases jG:xn = 9
 ·have bk9:(xn == 9) = true:=by simpa using jG
  have HOR:Hid (dk = 9 ∨ xn = 9):=.inr jG
  clear h9 jG
  obtain ⟨e0,e1,e2,e3,e4,e5,e6,e7,e8,e9,uO,uy,vQ,uQ⟩:=yz (U xG)
  have v0:=K (U vJ) 0 rfl
  have v1:=K (U vJ) 1 rfl
  have v2:=K (U vJ) 2 rfl
  have v3:=K (U vJ) 3 rfl
  have v4:=K (U vJ) 4 rfl
  go_wp2_with fail
  refine (U HJ xo).mono ?_
  rintro e w7 ⟨rfl,qi⟩
  have jY:=H (zf (U aA) qi (by have:=U HZ4; omega))
  have HV7:=H (zf (U vJ) qi (U HZ4).1)
  have qV:=H (fC (U xH) qi)
  clear qi e0 e1 e2 e3 e4 e5 e6 e7 e8 e9 uO uy vQ uQ v0 v1 v2 v3 v4
  cases jb
  ·have HQ:Hid (dr = 14):=by show _ = _; rw [U HDR3,if_pos ⟨U HOR,rfl⟩]
   go_wp2_with fail
   refine (bw 14 _).mono ?_
   rintro e w6 ⟨rfl,rfl⟩
   go_wp2_with fail
   exact ⟨rfl,by rw [U HQ]; rfl,U qV⟩
  ·have HQ:Hid (dr = 0):=by show _ = _; rw [U HDR3,if_neg (by simp)]
   go_wp2_with fail
   refine (bC 14 _).mono ?_
   rintro e w6 ⟨rfl,rfl⟩
   have v0:=K (U HV7) 0 rfl
   have v1:=K (U HV7) 1 rfl
   have v2:=K (U HV7) 2 rfl
   have v3:=K (U HV7) 3 rfl
   have v4:=K (U HV7) 4 rfl
   have z0:=K (U jY) 0 rfl
   have z1:=K (U jY) 1 rfl
   have z2:=K (U jY) 2 rfl
   have z3:=K (U jY) 3 rfl
   have z4:=K (U jY) 4 rfl
   have f0:=zd (U jY) 0 (by decide)
   have f1:=zd (U jY) 1 (by decide)
   have f2:=zd (U jY) 2 (by decide)
   have f3:=zd (U jY) 3 (by decide)
   have f4:=zd (U jY) 4 (by decide)
   go_wp2_with fail
   try simp (config:={ zetaDelta:=true }) only [Exit.noGoto_ret]
   change bodyPost _ _ _ _ _ (World.setCells w6 (w.heap.size + 1) 0 [I dk,I di,I dt,I dq,I dp])
   have xp:Hid ((World.setCells w6 (w.heap.size + 1) 0 [I dk,I di,I dt,I dq,I dp]).rangeAt (w.heap.size + 1) 0 [I dk,I di,I dt,I dq,I dp]∧yp w (World.setCells w6 (w.heap.size + 1) 0 [I dk,I di,I dt,I dq,I dp])):=⟨(zw (U jY) (by simp only [List.length_cons,List.length_nil])).r,zi (w.heap.size + 1) (by omega) [I dk,I di,I dt,I dq,I dp] 0 w6 (U qV)⟩
   generalize World.setCells w6 (w.heap.size + 1) 0 [I dk,I di,I dt,I dq,I dp] = WE at xp ⊢
   obtain ⟨d0,d1,d2,d3,d4⟩:=yC (U xp).1
   try simp only [Exit.inBlock,Exit.then]
   refine bodyPost_ret (by simp [results,Tryz.results137,go_sem,d0,d1,d2,d3,d4]; try rfl) rfl ?_
   exact ⟨by rw [U HQ]; rfl,(U xp).2⟩
 have bk9:(xn == 9) = false:=by simpa using jG
 have HQ:Hid (dr = 0):=by show _ = _; rw [U HDR3,if_neg (by simp [h9,jG])]
 clear h9 jG
 have v0:=K (U vJ) 0 rfl
 have v1:=K (U vJ) 1 rfl
 have v2:=K (U vJ) 2 rfl
 have v3:=K (U vJ) 3 rfl
 have v4:=K (U vJ) 4 rfl
 have z0:=K (U aA) 0 rfl
 have z1:=K (U aA) 1 rfl
 have z2:=K (U aA) 2 rfl
 have z3:=K (U aA) 3 rfl
 have z4:=K (U aA) 4 rfl
 have f0:=zd (U aA) 0 (by decide)
 have f1:=zd (U aA) 1 (by decide)
 have f2:=zd (U aA) 2 (by decide)
 have f3:=zd (U aA) 3 (by decide)
 have f4:=zd (U aA) 4 (by decide)
 go_wp2_with fail
 try simp (config:={ zetaDelta:=true }) only [Exit.noGoto_ret]
 change bodyPost _ _ _ _ _ (World.setCells xo (w.heap.size + 1) 0 [I dk,I di,I dt,I dq,I dp])
 have xp:Hid ((World.setCells xo (w.heap.size + 1) 0 [I dk,I di,I dt,I dq,I dp]).rangeAt (w.heap.size + 1) 0 [I dk,I di,I dt,I dq,I dp]∧yp w (World.setCells xo (w.heap.size + 1) 0 [I dk,I di,I dt,I dq,I dp])):=⟨(zw (U aA) (by simp only [List.length_cons,List.length_nil])).r,zi (w.heap.size + 1) (by omega) [I dk,I di,I dt,I dq,I dp] 0 xo (U xH)⟩
 generalize World.setCells xo (w.heap.size + 1) 0 [I dk,I di,I dt,I dq,I dp] = WE at xp ⊢
 obtain ⟨d0,d1,d2,d3,d4⟩:=yC (U xp).1
 try simp only [Exit.inBlock,Exit.then]
 refine bodyPost_ret (by simp [results,Tryz.results137,go_sem,d0,d1,d2,d3,d4]; try rfl) rfl ?_
 exact ⟨by rw [U HQ]; rfl,(U xp).2⟩
theorem zl {W:World} {b n j:Nat} (h:W.there b 0 n) (V:j < n):∃ u,W.cell? (Q b j) = some u∧W.frozen? (Q b j) = false:=by
 obtain ⟨N,Y⟩:=h j V
 rw [Nat.zero_add] at N Y
 obtain ⟨u,hu⟩:=Option.isSome_iff_exists.1 N
 exact ⟨u,hu,Y⟩
theorem br {x:List Bool} {n j:Nat} (hx:x.length = n) (V:j < n):x[j]? = some false ∨ x[j]? = some true:=by
 rw [yI (by omega)]
 cases x[j] <;> simp
structure RW (C:Nat→Value→Prop) (n:Nat) (T:World→World) (base:World) (x:List Bool) (f:Nat→Value) (W:World):Prop where
 c:∀ j,x[j]? = some true→C j (f j)
 b:x[n]? = some false→Below base.heap.size base W
 m:x[n]? = some true→∃ hj,Below base.heap.size base hj∧W = T hj
def RWA (cl:(Nat→Value)→Act) (C:Nat→Value→Prop) (n:Nat) (T:World→World) (base:World) (x:List Bool) (cs:Act) (W:World):Prop:=∃ f,cs = cl f∧RW C n T base x f W
section
variable {C:Nat→Value→Prop} {n:Nat} {T:World→World} {base W W':World} {x:List Bool} {f:Nat→Value}
theorem zD (h:RW C n T base x f W) (i:Nat) (v:Value) (hv:C i v) (hn:i ≠ n):RW C n T base (x.set i true) (upd f i v) W:=by
 refine ⟨zC h.c hv,?_,?_⟩ <;> rw [gq hn]
 ·exact h.b
 ·exact h.m
theorem cJ (h:RW C n T base x f W) (hn:x[n]? = some false) (E:yp W W'):RW C n T base x f W' :=
 ⟨h.c,fun e=>(h.b e).trans (E.mono (h.b e).size),fun e=>by rw [hn] at e; cases e⟩
theorem rw_last (h:RW C n T base x f W) (hn:x[n]? = some false) (hc:∀ j,j = n→x[j]? = some false→C j (f j)):RW C n T base (x.set n true) f (T W):=by
 refine ⟨fun j V=>?_,?_,fun _=>⟨W,h.b hn,rfl⟩⟩
 ·by_cases hji:j = n
  ·exact hc j hji (by rw [hji]; exact hn)
  ·rw [gq (fun e=>hji e.symm)] at V; exact h.c j V
 ·intro e; rw [gqs hn] at e; cases e
end
theorem rw_lastv {C:Nat→Value→Prop} {n:Nat} {T:World→World} {base W:World} {x:List Bool} {f:Nat→Value} (h:RW C n T base x f W) (hn:x[n]? = some false) {v:Value} (hv:C n v):RW C n T base (x.set n true) (upd f n v) (T W):=by
 refine ⟨zC h.c hv,?_,fun _=>⟨W,h.b hn,rfl⟩⟩
 intro e; rw [gqs hn] at e; cases e
def CVw (vs:List (Option Value)) (P:Nat→Prop) (j:Nat) (v:Value):Prop:=(∀ u,vs[j]? = some (some u)→v = u)∧P j
theorem l03Better_any (o c:Od) (w:World) :
  Calls Tryz.prog 75 #[.agg (yx o.id o.side o.ticks o.left o.life o.tag).toArray,.agg (yx c.id c.side c.ticks c.left c.life c.tag).toArray] w fun e w'=>e = .returned (.bool (ahdB o c))∧w.grownBy w' none:=by
 by_cases h:o.ticks = c.ticks
 ·have h':(o.ticks == c.ticks) = true:=by simpa using h
  have HA:Hid (ahdB o c = decide (o.id < c.id)):=if_pos h
  go_enter Tryz.func75,Tryz.ntmps75
  go_wp2_with fail
  go_ret
  exact ⟨zp (U HA).symm,(World.grownBy_alloc _ _ _).trans (World.grownBy_alloc _ _ _)⟩
 ·have HA:Hid (ahdB o c = (decide (c.ticks < o.ticks) == decide (o.side = 1))):=if_neg h
  go_enter Tryz.func75,Tryz.ntmps75
  go_wp2_with fail
  go_ret
  exact ⟨zp (by rw [U HA]; rfl),(World.grownBy_alloc _ _ _).trans (World.grownBy_alloc _ _ _)⟩
theorem er (v:Value) (l:List Od) (sd:Int) (w:World) (hr:RdR Od.vs 6 w v l) (hri:bu l) (hn:l.length ≤ 1000) :
  Calls Tryz.prog 50 #[v,I sd] w fun e w'=>∃ k:Int,e = .returned (I k)∧FrPre l sd l.length k∧w.grownBy w' none:=by
 obtain ⟨a,cap,rfl,xA,hc⟩:=hr
 have xt:∀ (k:Nat) (c:Od),l[k]? = some c→∃ b off,a = some (Q b off)∧b < w.heap.size∧w.rangeAt b (off + k * 6) c.vs:=by
  intro k c hk
  obtain ⟨b,off,N,Y,h3⟩:=hc (by intro h; rw [h] at hk; simp at hk)
  exact ⟨b,off,N,Y,h3 k c hk⟩
 have HC:=H xt
 have HRI:=H hri
 clear xt hc hri
 go_enter Tryz.func50,Tryz.ntmps50
 go_wp2_with fail
 go_loopw [5,6] (fun bv iv wr=>∃ (k:Nat) (best:Int),bv = I best∧k ≤ l.length∧iv = I k∧Hid (FrPre l sd k best)∧w.grownBy wr none) (fun _ iv _=>l.length - (intOf iv).toNat)
 case atStart=>exact ⟨0,-1,rfl,Nat.zero_le _,rfl,.inl ⟨rfl,fun j o V=>by omega⟩,yS _ _⟩
 case round =>
  obtain ⟨k,best,rfl,hk,rfl,kf,hg⟩:=hrel
  have HG:=H hg
  clear hg
  by_cases xJ:k < l.length
  ·obtain ⟨c,ur⟩:∃ c,l[k]? = some c:=⟨_,yI xJ⟩
   obtain ⟨b,off,rfl,E,X⟩:=U HC k c ur
   have jK:=H ur
   obtain ⟨g0,g1,g2,g3,g4,g5⟩:=zB (zx X (U HG) E (by simp))
   have uF:(k:Int) < l.length:=by omega
   have jq:=H X
   have HHB:=H E
   clear ur X
   by_cases hs:c.side = sd
   ·subst hs
    rcases U kf with ⟨rfl,vL⟩ | ⟨i,o,rfl,hi,qQ,pz,hah⟩
    ·have HN:=H (frPre_first (U kf) (U jK) rfl)
     clear vL
     go_wp2_with fail
     go_quiet (fail)
     go_wp2_with fail
     go_roundw
     case rel=>exact ⟨k + 1,k,rfl,by omega,by go_num,U HN,cE (U HG) rfl rfl rfl rfl⟩
     case measure=>simp [intOf]; omega
    ·obtain ⟨b',qr,jF,hb',qp⟩:=U HC i o qQ
     simp only [Option.some.injEq,Addr.mk.injEq,and_true] at jF
     obtain ⟨rfl,rfl⟩:=jF
     obtain ⟨e0,e1,e2,e3,e4,e5⟩:=zB (zx qp (U HG) E (by simp))
     have hlti:(i:Int) < l.length:=by have:=(yH.1 qQ).1; omega
     have vA:¬ ((i:Int) < 0):=by omega
     have hi0':decide ((i:Int) < 0) = false:=by simp
     have qN:Hid (∀ w',wr.grownBy w' none→w'.rangeAt b (off + k * 6) c.vs∧w'.rangeAt b (off + i * 6) o.vs):=fun w' h'=>⟨zx (zx (U jq) (U HG) E (by simp)) h' (yK E (U HG).size) (by simp),zx (zx qp (U HG) E (by simp)) h' (yK E (U HG).size) (by simp)⟩
     have HHI:Hid (l[i]? = some o):=qQ
     clear hah qQ qp pz
     go_wp2_with fail
     refine dG (W:=wr) (by kernel_rfl) (by kernel_rfl) (yS _ _) ?_
     iterate 19 (
      refine bx (v:=?_) ?_ ?_ ?_
      rotate_left
      ·rfl
      ·intro w' un
       obtain ⟨c0,c1,c2,c3,c4,c5⟩:=zB (U qN w' un).1
       obtain ⟨d0,d1,d2,d3,d4,d5⟩:=zB (U qN w' un).2
       go_simp
       try rfl
      intro zb hK
      go_simp
      refine hK _ ?_
      clear hK zb)
     refine bx (v:=.bool (ahdB c o)) ?_ ?_ ?_
     ·rfl
     ·intro w' un
      go_simp
      refine (l03Better_any c o _).mono ?_
      rintro e w3 ⟨rfl,uD⟩
      exact ⟨rfl,un.trans uD⟩
     intro zb hK
     go_simp
     refine hK _ ?_
     clear hK zb
     iterate 2 (
      refine bx (v:=?_) ?_ ?_ ?_
      rotate_left
      ·rfl
      ·intro w' un
       go_simp
       try rfl
      intro zb hK
      go_simp
      refine hK _ ?_
      clear hK zb)
     refine wpQuiet_nil ?_
     intro w2 uZ
     have ug:=H ((U HG).trans uZ)
     clear uZ g0 g1 g2 g3 g4 g5 e0 e1 e2 e3 e4 e5
     cases hah:ahdB c o
     ·have HN:=H (frPre_worse (U HRI) (U kf) (U HHI) (U jK) rfl hah)
      go_wp2_with fail
      go_roundw
      case rel=>exact ⟨k + 1,i,rfl,by omega,by go_num,U HN,U ug⟩
      case measure=>simp [intOf]; omega
     ·have HN:=H (frPre_better (U HRI) (U kf) (U HHI) (U jK) rfl hah)
      go_wp2_with fail
      go_roundw
      case rel=>exact ⟨k + 1,k,rfl,by omega,by go_num,U HN,U ug⟩
      case measure=>simp [intOf]; omega
   ·have HN:=H (frPre_skip (U kf) (U jK) hs)
    have hs':(c.side == sd) = false:=by simpa using hs
    go_wp2_with fail
    go_quiet (fail)
    go_wp2_with fail
    go_roundw
    case rel=>exact ⟨k + 1,best,rfl,by omega,by go_num,U HN,cE (U HG) rfl rfl rfl rfl⟩
    case measure=>simp [intOf]; omega
  ·go_wp2_with fail
   go_ret
   have h:=U kf
   rw [show k = l.length by omega] at h
   exact ⟨_,rfl,h,U HG⟩
theorem nex_stop {l:List Od} {t:Od} (h:t.left = 0):NexS l t (-1):=.inl ⟨rfl,.inl h⟩
theorem nex_none {l:List Od} {t:Od} (h:aR l (othS t.side) = none):NexS l t (-1):=.inl ⟨rfl,.inr (.inl h)⟩
theorem nex_no {l:List Od} {t o:Od} (h:aR l (othS t.side) = some o) (hc:bL t.side t.ticks o = false):NexS l t (-1):=.inl ⟨rfl,.inr (.inr ⟨o,h,hc⟩)⟩
theorem eX (v:Value) (l:List Od) (t:Od) (w:World) (hr:RdR Od.vs 6 w v l) (hri:bu l) (hn:l.length ≤ 1000) (uS:t.side = 1 ∨ t.side = 2) :
  Calls Tryz.prog 53 #[v,.agg (yx t.id t.side t.ticks t.left t.life t.tag).toArray] w fun e w'=>∃ k:Int,e = .returned (I k)∧NexS l t k∧yp w w':=by
 have HR:=H hr
 obtain ⟨a,cap,rfl,xA,hc⟩:=hr
 have xt:∀ (k:Nat) (c:Od),l[k]? = some c→∃ b off,a = some (Q b off)∧b < w.heap.size∧w.rangeAt b (off + k * 6) c.vs:=by
  intro k c hk
  obtain ⟨b,off,N,Y,h3⟩:=hc (by intro h; rw [h] at hk; simp at hk)
  exact ⟨b,off,N,Y,h3 k c hk⟩
 have HC:=H xt
 have HRI:=H hri
 have HOT:=H (oth_of uS)
 have xK:1 ≤ t.side:=by omega
 have uf:t.side ≤ 2:=by omega
 have ue:Hid (yp w (w.alloc (L (yx t.id t.side t.ticks t.left t.life t.tag).toArray 78))):=fw _ _
 have HX:Hid (World.rangeAt (w.alloc (L (yx t.id t.side t.ticks t.left t.life t.tag).toArray 78)) w.heap.size 0 t.vs∧w.heap.size < (w.alloc (L (yx t.id t.side t.ticks t.left t.life t.tag).toArray 78)).heap.size):=⟨zn w t.vs _,by rw [zj]; omega⟩
 clear xt hc hri uS
 go_enter Tryz.func53,Tryz.ntmps53
 go_wp2_with fail
 generalize (w.alloc (L (yx t.id t.side t.ticks t.left t.life t.tag).toArray 78)) = W1 at ue HX ⊢
 refine (er _ l _ W1 (zh (U HR) (U ue) yb) (U HRI) hn).mono ?_
 rintro e w2 ⟨k,rfl,hf,uZ⟩
 have HF:=H (front_pre (U HRI) hf)
 have xw:=H ((U ue).trans ((dM uZ (fun g hg=>by cases hg) yb).mono (U ue).size))
 have xI:=H (zx (U HX).1 uZ (U HX).2 (by simp))
 have hlt2:w.heap.size < w2.heap.size:=yK (U HX).2 uZ.size
 have HC2:Hid (∀ (k:Nat) (c:Od),l[k]? = some c→∃ b off,a = some (Q b off)∧b < w2.heap.size∧w2.rangeAt b (off + k * 6) c.vs):=fun k c hk=>by
  obtain ⟨b,off,N,Y,h3⟩:=U HC k c hk
  exact ⟨b,off,N,by omega,zc h3 (U xw) Y⟩
 obtain ⟨t0,t1,t2,t3,t4,t5⟩:=zB (U xI)
 clear hf uZ xK uf
 by_cases h0:t.left = 0
 ·have HN:=H (nex_stop (l:=l) h0)
  have b0:(t.left == 0) = true:=by simpa using h0
  clear h0
  go_wp2_with fail
  go_quiet (fail)
  go_wp2_with fail
  go_ret
  exact ⟨_,rfl,U HN,zV (U xw) _⟩
 have b0:(t.left == 0) = false:=by simpa using h0
 rcases U HF with ⟨rfl,vL⟩ | ⟨i,o,rfl,hi,qQ,oq⟩
 ·have HN:=H (nex_none (l:=l) (t:=t) (by rw [← U HOT]; exact vL))
  clear vL h0
  go_wp2_with fail
  go_quiet (fail)
  go_wp2_with fail
  go_ret
  exact ⟨_,rfl,U HN,zV (U xw) _⟩
 have HFO:Hid (aR l (othS t.side) = some o):=by rw [← U HOT]; exact oq
 have HIO:=H qQ
 obtain ⟨b,off,rfl,E,X⟩:=U HC2 i o qQ
 have HL0:=H h0
 have qN:Hid (∀ w',w2.grownBy w' none→w'.rangeAt w.heap.size 0 t.vs∧w'.rangeAt b (off + i * 6) o.vs):=fun w' h'=>⟨zx (U xI) h' hlt2 (by simp),zx X h' E (by simp)⟩
 have hlti:(i:Int) < l.length:=by omega
 have vA:¬ ((i:Int) < 0):=by omega
 have hi0':decide ((i:Int) < 0) = false:=by simp
 clear oq qQ X h0 HF HOT
 go_wp2_with fail
 refine dG (W:=w2) (by kernel_rfl) (by kernel_rfl) (yS _ _) ?_
 iterate 16 (
  refine bx (v:=?_) ?_ ?_ ?_
  rotate_left
  ·rfl
  ·intro w' un
   obtain ⟨c0,c1,c2,c3,c4,c5⟩:=zB (U qN w' un).1
   obtain ⟨d0,d1,d2,d3,d4,d5⟩:=zB (U qN w' un).2
   go_simp
   try rfl
  intro zb hK
  go_simp
  refine hK _ ?_
  clear hK zb)
 refine bx (v:=.bool (bL t.side t.ticks o)) ?_ ?_ ?_
 ·rfl
 ·intro w' un
  go_simp
  refine (l04Crosses_any t.side t.ticks o _).mono ?_
  rintro e w3 ⟨rfl,uD⟩
  exact ⟨rfl,un.trans (cD uD yb)⟩
 intro zb hK
 go_simp
 refine hK _ ?_
 clear hK zb
 cases kC:bL t.side t.ticks o
 ·have HN:=H (nex_no (U HFO) kC)
  iterate 2 (
   refine bx (v:=?_) ?_ ?_ ?_
   rotate_left
   ·rfl
   ·intro w' un
    go_simp
    try rfl
   intro zb hK
   go_simp
   refine hK _ ?_
   clear hK zb)
  refine wpQuiet_nil ?_
  intro w3 uD
  have xN:=H ((U xw).grown uD (U xw).size (fun g hg=>by cases hg))
  clear uD
  go_wp2_with fail
  go_ret
  exact ⟨_,rfl,U HN,U xN⟩
 ·have HN:Hid (NexS l t i):=.inr ⟨i,o,rfl,hi,U HIO,U HFO,kC,U HL0⟩
  iterate 2 (
   refine bx (v:=?_) ?_ ?_ ?_
   rotate_left
   ·rfl
   ·intro w' un
    go_simp
    try rfl
   intro zb hK
   go_simp
   refine hK _ ?_
   clear hK zb)
  refine wpQuiet_nil ?_
  intro w3 uD
  have xN:=H ((U xw).grown uD (U xw).size (fun g hg=>by cases hg))
  clear uD
  go_wp2_with fail
  go_ret
  exact ⟨_,rfl,U HN,U xN⟩
end Go.Proofs.YtnphbkgfjanmgaaGreatDoor
