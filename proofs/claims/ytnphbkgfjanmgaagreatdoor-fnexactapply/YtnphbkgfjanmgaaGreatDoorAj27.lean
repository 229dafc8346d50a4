/-
  A first event held against the rules of all first events, by the program: proved by walking the method.
-/
import Derived.Test.YtnphbkgfjanmgaaGreatDoorAj26
set_option linter.unusedVariables false
set_option maxHeartbeats 6400000
set_option maxRecDepth 100000
namespace Go.Proofs.YtnphbkgfjanmgaaGreatDoor
open Go.RowKit
def outR (k:Int):Ending:=if k = 0 then .returned (.tuple #[]) else .panicked (brk k)
theorem outR_ok {k:Int} (h:k = 0):outR k = .returned (.tuple #[]):=if_pos h
theorem outR_no {k:Int} (h:k ≠ 0):outR k = .panicked (brk k):=if_neg h
theorem ez {e:Ev} (hg:e.cmd.g.size ≤ maxLen):(bA e).g.size ≤ maxLen:=by
 have hz:(⟨#[]⟩:ByteArray).size ≤ maxLen:=by decide
 unfold bA zCm
 repeat' split
 all_goals first | exact hg | exact hz
theorem start_any {G B r:Nat} {vq:Value} {g:Gr} (e:Ev) (w:World) (h:GS G B r w vq g) (hi:GI g) (hk:1 ≤ e.kind∧e.kind ≤ 9) (hg:e.cmd.g.size ≤ maxLen):Calls Tryz.prog 132 #[J G 0,evV e] w fun x w'=>x = outR (bz g e)∧yp w w':=by
 have hsf:=sfl
 have hG:=h.lt
 have HTO:=H (fun W=>toldCmd_any e W hk)
 have ow:=H (ez hg)
 have qg:Hid (bz g e = if g.bg ≠ 0 then 3 else if refR g.nx g.l (bA e) ≠ 0 then 5 else 0):=rfl
 generalize bA e = c at HTO ow qg
 generalize zQ e.kind = sb at HTO
 generalize bz g e = sr at qg ⊢
 obtain ⟨xn,⟨ck,L,ct,V,cq,ci,O,cg⟩,id,xj,qty,xk,xi⟩:=e
 unfold evV at HTO ⊢
 simp only at HTO ⊢
 obtain ⟨xC,HX⟩:=gw w (yw xn ck L ct V cq ci O cg id xj qty xk xi) 52
 have HS:Hid ((w.alloc (A (yw xn ck L ct V cq ci O cg id xj qty xk xi).toArray 52)).heap.size = w.heap.size + 1):=by show _ = _; simp
 have HG:=H (zA h xC)
 have HB:=H xC
 have HI:=H hi
 clear h xC hi hk hg
 go_enter Tryz.func132,Tryz.ntmps132
 refine gv fun hR HK=>?_
 go_wp2_with fail
 refine U HK _ _ ?_
 clear HK
 generalize (w.alloc (A (yw xn ck L ct V cq ci O cg id xj qty xk xi).toArray 52)) = W1 at HS HX HG HB ⊢
 have c3:W1.cell? (D G 3) = some (I g.bg):=R (U HG).box 3 rfl
 by_cases h0:g.bg = 0
 ·have b0:(g.bg == 0) = true:=by simpa using h0
  have qR:=H ((U HI).good (.inl (by omega)))
  have HNX:=H ((U HI).start h0)
  have HST2:Hid (sr = if refR g.nx g.l c ≠ 0 then 5 else 0):=by show _ = _; rw [U qg,if_neg (by simpa using h0)]
  clear h0 qg
  go_wp2_with fail
  refine (co 3 _).mono ?_
  rintro e w2 ⟨rfl,rfl⟩
  clear c3 b0
  obtain ⟨e0,e1,e2,e3,e4,e5,e6,e7,e8,e9,uR,uA,vV,uT⟩:=yz (U HX)
  go_wp2_with fail
  refine (U HTO w2).mono ?_
  rintro e w3 ⟨rfl,xQ⟩
  have vn:=H (zA (U HG) xQ)
  have xN:=H (gu (U HB) xQ)
  clear e0 e1 e2 e3 e4 e5 e6 e7 e8 e9 uR uA vV uT xQ
  obtain ⟨dk,ds,dt,dl,dq,di,dp,dg⟩:=c
  unfold cmV
  simp only
  obtain ⟨xy,xG⟩:=gw w3 (yy dk ds dt dl dq di dp dg) 50
  have uw:=H (zA (U vn) xy)
  have xH:=H (gu (U xN) xy)
  clear xy vn xN
  have HZ4:Hid (w3.heap.size < (w3.alloc (A (yy dk ds dt dl dq di dp dg).toArray 50)).heap.size):=by show _ < _; simp
  go_wp2_with fail
  generalize (w3.alloc (A (yy dk ds dt dl dq di dp dg).toArray 50)) = hj at xG uw xH HZ4 ⊢
  have xV:Hid (Bx hj.drew w3.heap.size (yy dk ds dt dl dq di dp dg)):=zK (U xG)
  have qw:Hid (GS G B r hj.drew vq g):=zA (U uw) ⟨rfl,rfl,rfl,Nat.le_refl _,fun _ _=>rfl⟩
  have vu:Hid (yp w hj.drew):=⟨(U xH).os,(U xH).tape,(U xH).output,(U xH).size,(U xH).block⟩
  clear xG uw xH HX
  obtain ⟨d0,d1,d2,d3,d4,d5,d6,d7⟩:=yA (U xV)
  have c1:hj.drew.cell? (D G 1) = some (I g.nx):=R (U qw).box 1 rfl
  have c2:hj.drew.cell? (D G 2) = some vq:=R (U qw).box 2 rfl
  have uQ:=H (zI (U qw).row (yO (U HI).len (by decide)))
  have kE:=H (oRow_sl (U qw).row)
  refine zF 5 (by kernel_rfl) (by kernel_rfl) ?_
  simp only [yU,List.take_zero,yV,List.drop_zero]
  repeat still_step
  refine wpStill_nil ?_
  clear d0 d1 d2 d3 d4 d5 d6 d7 c1 c2
  go_wp2_with fail
  refine (refusal_any g.nx vq g.l ⟨dk,ds,dt,dl,dq,di,dp,dg⟩ hj.drew (U uQ) (U kE) (U qR) (U HNX).1 (U HNX).2.1 (U ow)).mono ?_
  rintro e w5 ⟨rfl,ui⟩
  have uk:=H (gu (U vu) ui)
  clear ui
  generalize refR g.nx g.l ⟨dk,ds,dt,dl,dq,di,dp,dg⟩ = rr at HST2 ⊢
  by_cases jZ:rr = 0
  ·have b1:(rr == 0) = true:=by simpa using jZ
   have vZ:Hid (sr = 0):=by show _ = _; rw [U HST2,if_neg (by simpa using jZ)]
   clear jZ
   go_wp2_with fail
   refine (co 5 _).mono ?_
   rintro e w6 ⟨rfl,rfl⟩
   go_wp2_with fail
   go_end0
   exact ⟨by rw [U vZ]; rfl,U uk⟩
  ·have b1:(rr == 0) = false:=by simpa using jZ
   have vZ:Hid (sr = 5):=by show _ = _; rw [U HST2,if_pos jZ]
   clear jZ
   go_wp2_with fail
   refine (bU 5 _).mono ?_
   rintro e w6 ⟨rfl,rfl⟩
   go_wp2_with fail
   exact ⟨rfl,by rw [U vZ]; rfl,U uk⟩
 ·have b0:(g.bg == 0) = false:=by simpa using h0
  have HST2:Hid (sr = 3):=by show _ = _; rw [U qg,if_pos h0]
  clear h0
  go_wp2_with fail
  refine (bU 3 _).mono ?_
  rintro e w2 ⟨rfl,rfl⟩
  go_wp2_with fail
  exact ⟨rfl,by rw [U HST2]; rfl,U HB⟩
def outD (k:Int) (d:Du):Ending:=if k = 0 then .returned (duV d) else .panicked (brk k)
theorem outD_ok {k:Int} {d:Du} (h:k = 0):outD k d = .returned (duV d):=if_pos h
theorem outD_no {k:Int} {d:Du} (h:k ≠ 0):outD k d = .panicked (brk k):=if_neg h
theorem fH {G B r:Nat} {vq:Value} {g:Gr} (e:Ev) (w:World) (h:GS G B r w vq g) (hi:GI g):Calls Tryz.prog 137 #[J G 0,evV e] w fun x w'=>x = outD (dueR g e) (dueG g)∧yp w w':=by
 have hsf:=sfl
 have hG:=h.lt
 have HJ:=H (fun W=>isJust_any e (dueG g) W)
 have kg:=H (fun W hW=>due_any (G:=G) (B:=B) (r:=r) (vq:=vq) (g:=g) W hW hi)
 have HDR:Hid (dueR g e = if g.bg = 0 then 3 else if (dueG g).kind = 0 then 8 else if ((dueG g).kind = 9 ∨ e.kind = 9)∧bC e (dueG g) = false then 14 else 0):=rfl
 generalize dueR g e = dr at HDR ⊢
 generalize bC e (dueG g) = jb at HJ HDR
 generalize dueG g = d at HJ kg HDR ⊢
 obtain ⟨xn,⟨ck,L,ct,V,cq,ci,O,cg⟩,id,xj,qty,xk,xi⟩:=e
 obtain ⟨dk,di,dt,dq,dp⟩:=d
 unfold evV duV at HJ
 unfold evV
 unfold duV at kg
 simp only at HJ kg HDR ⊢
 have hs0:(w.alloc (A (yw xn ck L ct V cq ci O cg id xj qty xk xi).toArray 52)).heap.size = w.heap.size + 1:=by simp
 have xC:=gp w (A (yw xn ck L ct V cq ci O cg id xj qty xk xi).toArray 52)
 have ul:Below (w.heap.size + 1) (w.alloc (A (yw xn ck L ct V cq ci O cg id xj qty xk xi).toArray 52)) ((w.alloc (A (yw xn ck L ct V cq ci O cg id xj qty xk xi).toArray 52)).alloc (A #[I 0,I 0,I 0,I 0,I 0] 29)):=(Below.refl _ _).alloc (by rw [hs0]; omega) _
 have HS:Hid (((w.alloc (A (yw xn ck L ct V cq ci O cg id xj qty xk xi).toArray 52)).alloc (A #[I 0,I 0,I 0,I 0,I 0] 29)).heap.size = w.heap.size + 1 + 1):=by show _ = _; simp
 have HX:=H (zf (zq w (yw xn ck L ct V cq ci O cg id xj qty xk xi) 52) ul (by omega))
 have HY:Hid (Bx ((w.alloc (A (yw xn ck L ct V cq ci O cg id xj qty xk xi).toArray 52)).alloc (A #[I 0,I 0,I 0,I 0,I 0] 29)) (w.heap.size + 1) [I 0,I 0,I 0,I 0,I 0]):=by
  have:=zq (w.alloc (A (yw xn ck L ct V cq ci O cg id xj qty xk xi).toArray 52)) [I 0,I 0,I 0,I 0,I 0] 29
  rwa [hs0] at this
 have HB:Hid (yp w ((w.alloc (A (yw xn ck L ct V cq ci O cg id xj qty xk xi).toArray 52)).alloc (A #[I 0,I 0,I 0,I 0,I 0] 29))):=xC.trans (ul.mono (by omega))
 have HG:=H (zA h (U HB))
 clear h xC hi ul hs0
 go_enter Tryz.func137,Tryz.ntmps137
 refine gv fun hR HK=>?_
 go_wp2_with fail
 refine U HK _ _ ?_
 clear HK
 generalize ((w.alloc (A (yw xn ck L ct V cq ci O cg id xj qty xk xi).toArray 52)).alloc (A #[I 0,I 0,I 0,I 0,I 0] 29)) = W1 at HS HX HY HG HB ⊢
 have c3:W1.cell? (D G 3) = some (I g.bg):=R (U HG).box 3 rfl
 by_cases h0:g.bg = 0
 ·have b0:(g.bg != 0) = false:=by simpa using h0
  have HQ:Hid (dr = 3):=by show _ = _; rw [U HDR,if_pos h0]
  clear h0
  go_wp2_with fail
  refine (bU 3 _).mono ?_
  rintro e w6 ⟨rfl,rfl⟩
  go_wp2_with fail
  exact ⟨rfl,by rw [U HQ]; rfl,U HB⟩
 have b0:(g.bg != 0) = true:=by simpa using h0
 have HDR2:Hid (dr = if dk = 0 then 8 else if (dk = 9 ∨ xn = 9)∧jb = false then 14 else 0):=by show _ = _; rw [U HDR,if_neg h0]
 clear h0 HDR
 go_wp2_with fail
 refine (co 3 _).mono ?_
 rintro e w6 ⟨rfl,rfl⟩
 clear c3 b0
 go_wp2_with fail
 refine (U kg w6 (U HG)).mono ?_
 rintro e w3 ⟨rfl,xQ⟩
 have hz:=U HS
 have xy:=gp w3 (A #[I dk,I di,I dt,I dq,I dp] 29)
 have uO:=xQ.trans (xy.mono xQ.size)
 have xG:=H (zf (U HX) uO (by omega))
 have aW:=H (zf (U HY) uO (by omega))
 have uw:=H (zA (U HG) uO)
 have xH:=H (gu (U HB) uO)
 have vL:=H (zq w3 [I dk,I di,I dt,I dq,I dp] 29)
 have HZ4:Hid (w3.heap.size < (w3.alloc (A #[I dk,I di,I dt,I dq,I dp] 29)).heap.size∧w.heap.size + 1 < w3.heap.size):=⟨by simp,by have:=xQ.size; omega⟩
 clear xQ xy uO hz HX HY HG HB HS kg
 by_cases jQ:dk = 0
 ·have b0:(dk != 0) = false:=by simpa using jQ
  have HQ:Hid (dr = 8):=by show _ = _; rw [U HDR2,if_pos jQ]
  clear jQ
  go_wp2_with fail
  refine (bU 8 _).mono ?_
  rintro e w6 ⟨rfl,rfl⟩
  go_wp2_with fail
  exact ⟨rfl,by rw [U HQ]; rfl,U xH⟩
 have b0:(dk != 0) = true:=by simpa using jQ
 have HDR3:Hid (dr = if (dk = 9 ∨ xn = 9)∧jb = false then 14 else 0):=by show _ = _; rw [U HDR2,if_neg jQ]
 clear jQ HDR2
 go_wp2_with fail
 refine (co 8 _).mono ?_
 rintro e hj ⟨rfl,hX⟩
 rw [← hX] at xG aW uw xH vL HZ4
 clear hX b0
 have v0:=R (U vL) 0 rfl
 have e0:=R (U xG) 0 rfl
 by_cases h9:dk = 9
 ·have b9:(dk == 9) = true:=by simpa using h9
  have HOR:Hid (dk = 9 ∨ xn = 9):=.inl h9
  clear h9
  obtain ⟨e0,e1,e2,e3,e4,e5,e6,e7,e8,e9,uR,uA,vV,uT⟩:=yz (U xG)
  have v0:=R (U vL) 0 rfl
  have v1:=R (U vL) 1 rfl
  have v2:=R (U vL) 2 rfl
  have v3:=R (U vL) 3 rfl
  have v4:=R (U vL) 4 rfl
  go_wp2_with fail
  refine (U HJ hj).mono ?_
  rintro e w7 ⟨rfl,qu⟩
  have kn:=H (zf (U aW) qu (by have:=U HZ4; omega))
  have HV7:=H (zf (U vL) qu (U HZ4).1)
  have jg:=H (gu (U xH) qu)
  clear qu e0 e1 e2 e3 e4 e5 e6 e7 e8 e9 uR uA vV uT v0 v1 v2 v3 v4
  cases jb
  ·have HQ:Hid (dr = 14):=by show _ = _; rw [U HDR3,if_pos ⟨U HOR,rfl⟩]
   go_wp2_with fail
   refine (bU 14 _).mono ?_
   rintro e w6 ⟨rfl,rfl⟩
   go_wp2_with fail
   exact ⟨rfl,by rw [U HQ]; rfl,U jg⟩
  ·have HQ:Hid (dr = 0):=by show _ = _; rw [U HDR3,if_neg (by simp)]
   go_wp2_with fail
   refine (co 14 _).mono ?_
   rintro e w6 ⟨rfl,rfl⟩
   have v0:=R (U HV7) 0 rfl
   have v1:=R (U HV7) 1 rfl
   have v2:=R (U HV7) 2 rfl
   have v3:=R (U HV7) 3 rfl
   have v4:=R (U HV7) 4 rfl
   have z0:=R (U kn) 0 rfl
   have z1:=R (U kn) 1 rfl
   have z2:=R (U kn) 2 rfl
   have z3:=R (U kn) 3 rfl
   have z4:=R (U kn) 4 rfl
   have f0:=zd (U kn) 0 (by decide)
   have f1:=zd (U kn) 1 (by decide)
   have f2:=zd (U kn) 2 (by decide)
   have f3:=zd (U kn) 3 (by decide)
   have f4:=zd (U kn) 4 (by decide)
   go_wp2_with fail
   try simp (config:={ zetaDelta:=true }) only [Exit.noGoto_ret]
   change bodyPost _ _ _ _ _ (World.setCells w6 (w.heap.size + 1) 0 [I dk,I di,I dt,I dq,I dp])
   have xp:Hid ((World.setCells w6 (w.heap.size + 1) 0 [I dk,I di,I dt,I dq,I dp]).rangeAt (w.heap.size + 1) 0 [I dk,I di,I dt,I dq,I dp]∧yp w (World.setCells w6 (w.heap.size + 1) 0 [I dk,I di,I dt,I dq,I dp])):=⟨(zu (U kn) (by simp only [List.length_cons,List.length_nil])).r,zh (w.heap.size + 1) (by omega) [I dk,I di,I dt,I dq,I dp] 0 w6 (U jg)⟩
   generalize World.setCells w6 (w.heap.size + 1) 0 [I dk,I di,I dt,I dq,I dp] = WE at xp ⊢
   obtain ⟨d0,d1,d2,d3,d4⟩:=yC (U xp).1
   try simp only [Exit.inBlock,Exit.then]
   refine bodyPost_ret (by simp [results,Tryz.results137,go_sem,d0,d1,d2,d3,d4]; try rfl) rfl ?_
   exact ⟨by rw [U HQ]; rfl,(U xp).2⟩
 have b9:(dk == 9) = false:=by simpa using h9
 by_cases jR:xn = 9
 ·have bk9:(xn == 9) = true:=by simpa using jR
  have HOR:Hid (dk = 9 ∨ xn = 9):=.inr jR
  clear h9 jR
  obtain ⟨e0,e1,e2,e3,e4,e5,e6,e7,e8,e9,uR,uA,vV,uT⟩:=yz (U xG)
  have v0:=R (U vL) 0 rfl
  have v1:=R (U vL) 1 rfl
  have v2:=R (U vL) 2 rfl
  have v3:=R (U vL) 3 rfl
  have v4:=R (U vL) 4 rfl
  go_wp2_with fail
  refine (U HJ hj).mono ?_
  rintro e w7 ⟨rfl,qu⟩
  have kn:=H (zf (U aW) qu (by have:=U HZ4; omega))
  have HV7:=H (zf (U vL) qu (U HZ4).1)
  have jg:=H (gu (U xH) qu)
  clear qu e0 e1 e2 e3 e4 e5 e6 e7 e8 e9 uR uA vV uT v0 v1 v2 v3 v4
  cases jb
  ·have HQ:Hid (dr = 14):=by show _ = _; rw [U HDR3,if_pos ⟨U HOR,rfl⟩]
   go_wp2_with fail
   refine (bU 14 _).mono ?_
   rintro e w6 ⟨rfl,rfl⟩
   go_wp2_with fail
   exact ⟨rfl,by rw [U HQ]; rfl,U jg⟩
  ·have HQ:Hid (dr = 0):=by show _ = _; rw [U HDR3,if_neg (by simp)]
   go_wp2_with fail
   refine (co 14 _).mono ?_
   rintro e w6 ⟨rfl,rfl⟩
   have v0:=R (U HV7) 0 rfl
   have v1:=R (U HV7) 1 rfl
   have v2:=R (U HV7) 2 rfl
   have v3:=R (U HV7) 3 rfl
   have v4:=R (U HV7) 4 rfl
   have z0:=R (U kn) 0 rfl
   have z1:=R (U kn) 1 rfl
   have z2:=R (U kn) 2 rfl
   have z3:=R (U kn) 3 rfl
   have z4:=R (U kn) 4 rfl
   have f0:=zd (U kn) 0 (by decide)
   have f1:=zd (U kn) 1 (by decide)
   have f2:=zd (U kn) 2 (by decide)
   have f3:=zd (U kn) 3 (by decide)
   have f4:=zd (U kn) 4 (by decide)
   go_wp2_with fail
   try simp (config:={ zetaDelta:=true }) only [Exit.noGoto_ret]
   change bodyPost _ _ _ _ _ (World.setCells w6 (w.heap.size + 1) 0 [I dk,I di,I dt,I dq,I dp])
   have xp:Hid ((World.setCells w6 (w.heap.size + 1) 0 [I dk,I di,I dt,I dq,I dp]).rangeAt (w.heap.size + 1) 0 [I dk,I di,I dt,I dq,I dp]∧yp w (World.setCells w6 (w.heap.size + 1) 0 [I dk,I di,I dt,I dq,I dp])):=⟨(zu (U kn) (by simp only [List.length_cons,List.length_nil])).r,zh (w.heap.size + 1) (by omega) [I dk,I di,I dt,I dq,I dp] 0 w6 (U jg)⟩
   generalize World.setCells w6 (w.heap.size + 1) 0 [I dk,I di,I dt,I dq,I dp] = WE at xp ⊢
   obtain ⟨d0,d1,d2,d3,d4⟩:=yC (U xp).1
   try simp only [Exit.inBlock,Exit.then]
   refine bodyPost_ret (by simp [results,Tryz.results137,go_sem,d0,d1,d2,d3,d4]; try rfl) rfl ?_
   exact ⟨by rw [U HQ]; rfl,(U xp).2⟩
 have bk9:(xn == 9) = false:=by simpa using jR
 have HQ:Hid (dr = 0):=by show _ = _; rw [U HDR3,if_neg (by simp [h9,jR])]
 clear h9 jR
 have v0:=R (U vL) 0 rfl
 have v1:=R (U vL) 1 rfl
 have v2:=R (U vL) 2 rfl
 have v3:=R (U vL) 3 rfl
 have v4:=R (U vL) 4 rfl
 have z0:=R (U aW) 0 rfl
 have z1:=R (U aW) 1 rfl
 have z2:=R (U aW) 2 rfl
 have z3:=R (U aW) 3 rfl
 have z4:=R (U aW) 4 rfl
 have f0:=zd (U aW) 0 (by decide)
 have f1:=zd (U aW) 1 (by decide)
 have f2:=zd (U aW) 2 (by decide)
 have f3:=zd (U aW) 3 (by decide)
 have f4:=zd (U aW) 4 (by decide)
 go_wp2_with fail
 try simp (config:={ zetaDelta:=true }) only [Exit.noGoto_ret]
 change bodyPost _ _ _ _ _ (World.setCells hj (w.heap.size + 1) 0 [I dk,I di,I dt,I dq,I dp])
 have xp:Hid ((World.setCells hj (w.heap.size + 1) 0 [I dk,I di,I dt,I dq,I dp]).rangeAt (w.heap.size + 1) 0 [I dk,I di,I dt,I dq,I dp]∧yp w (World.setCells hj (w.heap.size + 1) 0 [I dk,I di,I dt,I dq,I dp])):=⟨(zu (U aW) (by simp only [List.length_cons,List.length_nil])).r,zh (w.heap.size + 1) (by omega) [I dk,I di,I dt,I dq,I dp] 0 hj (U xH)⟩
 generalize World.setCells hj (w.heap.size + 1) 0 [I dk,I di,I dt,I dq,I dp] = WE at xp ⊢
 obtain ⟨d0,d1,d2,d3,d4⟩:=yC (U xp).1
 try simp only [Exit.inBlock,Exit.then]
 refine bodyPost_ret (by simp [results,Tryz.results137,go_sem,d0,d1,d2,d3,d4]; try rfl) rfl ?_
 exact ⟨by rw [U HQ]; rfl,(U xp).2⟩
theorem zl {W:World} {b n j:Nat} (h:W.there b 0 n) (X:j < n):∃ u,W.cell? (D b j) = some u∧W.frozen? (D b j) = false:=by
 obtain ⟨N,Y⟩:=h j X
 rw [Nat.zero_add] at N Y
 obtain ⟨u,hu⟩:=Option.isSome_iff_exists.1 N
 exact ⟨u,hu,Y⟩
theorem bS {x:List Bool} {n j:Nat} (hx:x.length = n) (X:j < n):x[j]? = some false ∨ x[j]? = some true:=by
 rw [yI (by omega)]
 cases x[j] <;> simp
structure RW (C:Nat→Value→Prop) (n:Nat) (T:World→World) (base:World) (x:List Bool) (f:Nat→Value) (W:World):Prop where
 c:∀ j,x[j]? = some true→C j (f j)
 b:x[n]? = some false→Below base.heap.size base W
 m:x[n]? = some true→∃ cl,Below base.heap.size base cl∧W = T cl
def RWA (xo:(Nat→Value)→Act) (C:Nat→Value→Prop) (n:Nat) (T:World→World) (base:World) (x:List Bool) (gs:Act) (W:World):Prop:=∃ f,gs = xo f∧RW C n T base x f W
section
variable {C:Nat→Value→Prop} {n:Nat} {T:World→World} {base W W':World} {x:List Bool} {f:Nat→Value}
theorem zE (h:RW C n T base x f W) (i:Nat) (v:Value) (hv:C i v) (hn:i ≠ n):RW C n T base (x.set i true) (upd f i v) W:=by
 refine ⟨zD h.c hv,?_,?_⟩ <;> rw [gq hn]
 ·exact h.b
 ·exact h.m
theorem dF (h:RW C n T base x f W) (hn:x[n]? = some false) (Q:yp W W'):RW C n T base x f W' :=
 ⟨h.c,fun e=>(h.b e).trans (Q.mono (h.b e).size),fun e=>by rw [hn] at e; cases e⟩
theorem rw_last (h:RW C n T base x f W) (hn:x[n]? = some false) (hc:∀ j,j = n→x[j]? = some false→C j (f j)):RW C n T base (x.set n true) f (T W):=by
 refine ⟨fun j X=>?_,?_,fun _=>⟨W,h.b hn,rfl⟩⟩
 ·by_cases hji:j = n
  ·exact hc j hji (by rw [hji]; exact hn)
  ·rw [gq (fun e=>hji e.symm)] at X; exact h.c j X
 ·intro e; rw [gqs hn] at e; cases e
end
theorem rw_lastv {C:Nat→Value→Prop} {n:Nat} {T:World→World} {base W:World} {x:List Bool} {f:Nat→Value} (h:RW C n T base x f W) (hn:x[n]? = some false) {v:Value} (hv:C n v):RW C n T base (x.set n true) (upd f n v) (T W):=by
 refine ⟨zD h.c hv,?_,fun _=>⟨W,h.b hn,rfl⟩⟩
 intro e; rw [gqs hn] at e; cases e
def CVw (vs:List (Option Value)) (P:Nat→Prop) (j:Nat) (v:Value):Prop:=(∀ u,vs[j]? = some (some u)→v = u)∧P j
theorem l03Better_any (o c:Od) (w:World) :
  Calls Tryz.prog 75 #[.agg (yx o.id o.side o.ticks o.left o.life o.tag).toArray,.agg (yx c.id c.side c.ticks c.left c.life c.tag).toArray] w fun e w'=>e = .returned (.bool (ahdB o c))∧w.grownBy w' none:=by
 by_cases h:o.ticks = c.ticks
 ·have h':(o.ticks == c.ticks) = true:=by simpa using h
  have HA:Hid (ahdB o c = decide (o.id < c.id)):=if_pos h
  go_enter Tryz.func75,Tryz.ntmps75
  go_wp2_with fail
  go_ret
  exact ⟨zp (U HA).symm,(World.grownBy_alloc _ _ _).trans (World.grownBy_alloc _ _ _)⟩
 ·have HA:Hid (ahdB o c = (decide (c.ticks < o.ticks) == decide (o.side = 1))):=if_neg h
  go_enter Tryz.func75,Tryz.ntmps75
  go_wp2_with fail
  go_ret
  exact ⟨zp (by rw [U HA]; rfl),(World.grownBy_alloc _ _ _).trans (World.grownBy_alloc _ _ _)⟩
theorem fj (v:Value) (l:List Od) (sd:Int) (w:World) (hr:RdR Od.vs 6 w v l) (hri:bT l) (hn:l.length ≤ 1000) :
  Calls Tryz.prog 50 #[v,I sd] w fun e w'=>∃ k:Int,e = .returned (I k)∧FrPre l sd l.length k∧w.grownBy w' none:=by
 obtain ⟨a,cap,rfl,xz,hc⟩:=hr
 have xr:∀ (k:Nat) (c:Od),l[k]? = some c→∃ b off,a = some (D b off)∧b < w.heap.size∧w.rangeAt b (off + k * 6) c.vs:=by
  intro k c hk
  obtain ⟨b,off,N,Y,h3⟩:=hc (by intro h; rw [h] at hk; simp at hk)
  exact ⟨b,off,N,Y,h3 k c hk⟩
 have HC:=H xr
 have HRI:=H hri
 clear xr hc hri
 go_enter Tryz.func50,Tryz.ntmps50
 go_wp2_with fail
 go_loopw [5,6] (fun bv iv wr=>∃ (k:Nat) (best:Int),bv = I best∧k ≤ l.length∧iv = I k∧Hid (FrPre l sd k best)∧w.grownBy wr none) (fun _ iv _=>l.length - (intOf iv).toNat)
 case atStart=>exact ⟨0,-1,rfl,Nat.zero_le _,rfl,.inl ⟨rfl,fun j o X=>by omega⟩,yS _ _⟩
 case round =>
  obtain ⟨k,best,rfl,hk,rfl,ku,hg⟩:=hrel
  have HG:=H hg
  clear hg
  by_cases xI:k < l.length
  ·obtain ⟨c,uu⟩:∃ c,l[k]? = some c:=⟨_,yI xI⟩
   obtain ⟨b,off,rfl,Q,F⟩:=U HC k c uu
   have jV:=H uu
   obtain ⟨g0,g1,g2,g3,g4,g5⟩:=zB (zy F (U HG) Q (by simp))
   have uF:(k:Int) < l.length:=by omega
   have jB:=H F
   have HHB:=H Q
   clear uu F
   by_cases hs:c.side = sd
   ·subst hs
    rcases U ku with ⟨rfl,vN⟩ | ⟨i,o,rfl,hi,ja,pR,hah⟩
    ·have HN:=H (frPre_first (U ku) (U jV) rfl)
     clear vN
     go_wp2_with fail
     go_quiet (fail)
     go_wp2_with fail
     go_roundw
     case rel=>exact ⟨k + 1,k,rfl,by omega,by go_num,U HN,dw (U HG) rfl rfl rfl rfl⟩
     case measure=>simp [intOf]; omega
    ·obtain ⟨b',qA,jP,oW,qz⟩:=U HC i o ja
     simp only [Option.some.injEq,Addr.mk.injEq,and_true] at jP
     obtain ⟨rfl,rfl⟩:=jP
     obtain ⟨e0,e1,e2,e3,e4,e5⟩:=zB (zy qz (U HG) Q (by simp))
     have hlti:(i:Int) < l.length:=by have:=(yH.1 ja).1; omega
     have vC:¬ ((i:Int) < 0):=by omega
     have hi0':decide ((i:Int) < 0) = false:=by simp
     have qW:Hid (∀ w',wr.grownBy w' none→w'.rangeAt b (off + k * 6) c.vs∧w'.rangeAt b (off + i * 6) o.vs):=fun w' h'=>⟨zy (zy (U jB) (U HG) Q (by simp)) h' (yK Q (U HG).size) (by simp),zy (zy qz (U HG) Q (by simp)) h' (yK Q (U HG).size) (by simp)⟩
     have HHI:Hid (l[i]? = some o):=ja
     clear hah ja qz pR
     go_wp2_with fail
     refine ep (W:=wr) (by kernel_rfl) (by kernel_rfl) (yS _ _) ?_
     iterate 19 (
      refine bV (v:=?_) ?_ ?_ ?_
      rotate_left
      ·rfl
      ·intro w' uq
       obtain ⟨c0,c1,c2,c3,c4,c5⟩:=zB (U qW w' uq).1
       obtain ⟨d0,d1,d2,d3,d4,d5⟩:=zB (U qW w' uq).2
       go_simp
       try rfl
      intro hR hK
      go_simp
      refine hK _ ?_
      clear hK hR)
     refine bV (v:=.bool (ahdB c o)) ?_ ?_ ?_
     ·rfl
     ·intro w' uq
      go_simp
      refine (l03Better_any c o _).mono ?_
      rintro e w3 ⟨rfl,uG⟩
      exact ⟨rfl,uq.trans uG⟩
     intro hR hK
     go_simp
     refine hK _ ?_
     clear hK hR
     iterate 2 (
      refine bV (v:=?_) ?_ ?_ ?_
      rotate_left
      ·rfl
      ·intro w' uq
       go_simp
       try rfl
      intro hR hK
      go_simp
      refine hK _ ?_
      clear hK hR)
     refine wpQuiet_nil ?_
     intro w2 vh
     have uh:=H ((U HG).trans vh)
     clear vh g0 g1 g2 g3 g4 g5 e0 e1 e2 e3 e4 e5
     cases hah:ahdB c o
     ·have HN:=H (frPre_worse (U HRI) (U ku) (U HHI) (U jV) rfl hah)
      go_wp2_with fail
      go_roundw
      case rel=>exact ⟨k + 1,i,rfl,by omega,by go_num,U HN,U uh⟩
      case measure=>simp [intOf]; omega
     ·have HN:=H (frPre_better (U HRI) (U ku) (U HHI) (U jV) rfl hah)
      go_wp2_with fail
      go_roundw
      case rel=>exact ⟨k + 1,k,rfl,by omega,by go_num,U HN,U uh⟩
      case measure=>simp [intOf]; omega
   ·have HN:=H (frPre_skip (U ku) (U jV) hs)
    have hs':(c.side == sd) = false:=by simpa using hs
    go_wp2_with fail
    go_quiet (fail)
    go_wp2_with fail
    go_roundw
    case rel=>exact ⟨k + 1,best,rfl,by omega,by go_num,U HN,dw (U HG) rfl rfl rfl rfl⟩
    case measure=>simp [intOf]; omega
  ·go_wp2_with fail
   go_ret
   have h:=U ku
   rw [show k = l.length by omega] at h
   exact ⟨_,rfl,h,U HG⟩
theorem nex_stop {l:List Od} {t:Od} (h:t.left = 0):NexS l t (-1):=.inl ⟨rfl,.inl h⟩
theorem nex_none {l:List Od} {t:Od} (h:bB l (othS t.side) = none):NexS l t (-1):=.inl ⟨rfl,.inr (.inl h)⟩
theorem nex_no {l:List Od} {t o:Od} (h:bB l (othS t.side) = some o) (hc:cG t.side t.ticks o = false):NexS l t (-1):=.inl ⟨rfl,.inr (.inr ⟨o,h,hc⟩)⟩
theorem fV (v:Value) (l:List Od) (t:Od) (w:World) (hr:RdR Od.vs 6 w v l) (hri:bT l) (hn:l.length ≤ 1000) (uV:t.side = 1 ∨ t.side = 2) :
  Calls Tryz.prog 53 #[v,.agg (yx t.id t.side t.ticks t.left t.life t.tag).toArray] w fun e w'=>∃ k:Int,e = .returned (I k)∧NexS l t k∧yp w w':=by
 have HR:=H hr
 obtain ⟨a,cap,rfl,xz,hc⟩:=hr
 have xr:∀ (k:Nat) (c:Od),l[k]? = some c→∃ b off,a = some (D b off)∧b < w.heap.size∧w.rangeAt b (off + k * 6) c.vs:=by
  intro k c hk
  obtain ⟨b,off,N,Y,h3⟩:=hc (by intro h; rw [h] at hk; simp at hk)
  exact ⟨b,off,N,Y,h3 k c hk⟩
 have HC:=H xr
 have HRI:=H hri
 have HOT:=H (oth_of uV)
 have xL:1 ≤ t.side:=by omega
 have ug:t.side ≤ 2:=by omega
 have uf:Hid (yp w (w.alloc (A (yx t.id t.side t.ticks t.left t.life t.tag).toArray 78))):=gp _ _
 have HX:Hid (World.rangeAt (w.alloc (A (yx t.id t.side t.ticks t.left t.life t.tag).toArray 78)) w.heap.size 0 t.vs∧w.heap.size < (w.alloc (A (yx t.id t.side t.ticks t.left t.life t.tag).toArray 78)).heap.size):=⟨zo w t.vs _,by rw [zj]; omega⟩
 clear xr hc hri uV
 go_enter Tryz.func53,Tryz.ntmps53
 go_wp2_with fail
 generalize (w.alloc (A (yx t.id t.side t.ticks t.left t.life t.tag).toArray 78)) = W1 at uf HX ⊢
 refine (fj _ l _ W1 (zi (U HR) (U uf) yb) (U HRI) hn).mono ?_
 rintro e w2 ⟨k,rfl,hf,vh⟩
 have HF:=H (front_pre (U HRI) hf)
 have xw:=H ((U uf).trans ((eA vh (fun g hg=>by cases hg) yb).mono (U uf).size))
 have xJ:=H (zy (U HX).1 vh (U HX).2 (by simp))
 have hlt2:w.heap.size < w2.heap.size:=yK (U HX).2 vh.size
 have HC2:Hid (∀ (k:Nat) (c:Od),l[k]? = some c→∃ b off,a = some (D b off)∧b < w2.heap.size∧w2.rangeAt b (off + k * 6) c.vs):=fun k c hk=>by
  obtain ⟨b,off,N,Y,h3⟩:=U HC k c hk
  exact ⟨b,off,N,by omega,zc h3 (U xw) Y⟩
 obtain ⟨t0,t1,t2,t3,t4,t5⟩:=zB (U xJ)
 clear hf vh xL ug
 by_cases h0:t.left = 0
 ·have HN:=H (nex_stop (l:=l) h0)
  have b0:(t.left == 0) = true:=by simpa using h0
  clear h0
  go_wp2_with fail
  go_quiet (fail)
  go_wp2_with fail
  go_ret
  exact ⟨_,rfl,U HN,zX (U xw) _⟩
 have b0:(t.left == 0) = false:=by simpa using h0
 rcases U HF with ⟨rfl,vN⟩ | ⟨i,o,rfl,hi,ja,oH⟩
 ·have HN:=H (nex_none (l:=l) (t:=t) (by rw [← U HOT]; exact vN))
  clear vN h0
  go_wp2_with fail
  go_quiet (fail)
  go_wp2_with fail
  go_ret
  exact ⟨_,rfl,U HN,zX (U xw) _⟩
 have HFO:Hid (bB l (othS t.side) = some o):=by rw [← U HOT]; exact oH
 have HIO:=H ja
 obtain ⟨b,off,rfl,Q,F⟩:=U HC2 i o ja
 have HL0:=H h0
 have qW:Hid (∀ w',w2.grownBy w' none→w'.rangeAt w.heap.size 0 t.vs∧w'.rangeAt b (off + i * 6) o.vs):=fun w' h'=>⟨zy (U xJ) h' hlt2 (by simp),zy F h' Q (by simp)⟩
 have hlti:(i:Int) < l.length:=by omega
 have vC:¬ ((i:Int) < 0):=by omega
 have hi0':decide ((i:Int) < 0) = false:=by simp
 clear oH ja F h0 HF HOT
 go_wp2_with fail
 refine ep (W:=w2) (by kernel_rfl) (by kernel_rfl) (yS _ _) ?_
 iterate 16 (
  refine bV (v:=?_) ?_ ?_ ?_
  rotate_left
  ·rfl
  ·intro w' uq
   obtain ⟨c0,c1,c2,c3,c4,c5⟩:=zB (U qW w' uq).1
   obtain ⟨d0,d1,d2,d3,d4,d5⟩:=zB (U qW w' uq).2
   go_simp
   try rfl
  intro hR hK
  go_simp
  refine hK _ ?_
  clear hK hR)
 refine bV (v:=.bool (cG t.side t.ticks o)) ?_ ?_ ?_
 ·rfl
 ·intro w' uq
  go_simp
  refine (l04Crosses_any t.side t.ticks o _).mono ?_
  rintro e w3 ⟨rfl,uG⟩
  exact ⟨rfl,uq.trans (cR uG yb)⟩
 intro hR hK
 go_simp
 refine hK _ ?_
 clear hK hR
 cases kT:cG t.side t.ticks o
 ·have HN:=H (nex_no (U HFO) kT)
  iterate 2 (
   refine bV (v:=?_) ?_ ?_ ?_
   rotate_left
   ·rfl
   ·intro w' uq
    go_simp
    try rfl
   intro hR hK
   go_simp
   refine hK _ ?_
   clear hK hR)
  refine wpQuiet_nil ?_
  intro w3 uG
  have xN:=H ((U xw).grown uG (U xw).size (fun g hg=>by cases hg))
  clear uG
  go_wp2_with fail
  go_ret
  exact ⟨_,rfl,U HN,U xN⟩
 ·have HN:Hid (NexS l t i):=.inr ⟨i,o,rfl,hi,U HIO,U HFO,kT,U HL0⟩
  iterate 2 (
   refine bV (v:=?_) ?_ ?_ ?_
   rotate_left
   ·rfl
   ·intro w' uq
    go_simp
    try rfl
   intro hR hK
   go_simp
   refine hK _ ?_
   clear hK hR)
  refine wpQuiet_nil ?_
  intro w3 uG
  have xN:=H ((U xw).grown uG (U xw).size (fun g hg=>by cases hg))
  clear uG
  go_wp2_with fail
  go_ret
  exact ⟨_,rfl,U HN,U xN⟩
end Go.Proofs.YtnphbkgfjanmgaaGreatDoor
