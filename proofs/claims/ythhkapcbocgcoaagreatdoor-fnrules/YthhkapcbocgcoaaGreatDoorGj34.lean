/-
  A first event held against the rules of all first events, by the program: proved by walking the method.
-/
import Derived.Test.YthhkapcbocgcoaaGreatDoorGj33
set_option linter.unusedVariables false
set_option maxHeartbeats 6400000
set_option maxRecDepth 100000
namespace Go.Proofs.YthhkapcbocgcoaaGreatDoor
open Go.RowKit
def outR (k:Int):Ending:=if k = 0 then .returned (.tuple #[]) else .panicked (brk k)
theorem outR_ok {k:Int} (h:k = 0):outR k = .returned (.tuple #[]):=if_pos h
theorem outR_no {k:Int} (h:k ≠ 0):outR k = .panicked (brk k):=if_neg h
theorem toldE_size {e:Ev} (hg:e.cmd.g.size ≤ maxLen):(da e).g.size ≤ maxLen:=by
 have hz:(⟨#[]⟩:ByteArray).size ≤ maxLen:=by decide
 unfold da zCm
 repeat' split
 all_goals first | exact hg | exact hz
theorem start_any {G B r:Nat} {vq:Value} {g:Gr} (e:Ev) (w:World) (h:GS G B r w vq g) (hi:GI g) (E:1 ≤ e.kind∧e.kind ≤ 9) (hg:e.cmd.g.size ≤ maxLen):Calls Tryz.prog 148 #[I G 0,evV e] w fun x w'=>x = outR (zU g e)∧yn w w':=by
 have hsf:=sfl
 have hG:=h.lt
 have HTO:=M (fun W=>toldCmd_any e W E)
 have HTS:=M (toldE_size hg)
 have vH:Hid (zU g e = if g.bg ≠ 0 then 3 else if refR g.nx g.l (da e) ≠ 0 then 5 else 0):=rfl
 generalize da e = c at HTO HTS vH
 generalize startsB e.kind = sb at HTO
 generalize zU g e = sr at vH ⊢
 obtain ⟨xn,⟨ck,cs,ct,cl,cq,ci,cp,cg⟩,id,xl,qty,xm,xk⟩:=e
 unfold evV at HTO ⊢
 simp only at HTO ⊢
 obtain ⟨xR,HX⟩:=ie w (yv xn ck cs ct cl cq ci cp cg id xl qty xm xk) 37
 have HS:Hid ((w.alloc (O (yv xn ck cs ct cl cq ci cp cg id xl qty xm xk).toArray 37)).heap.size = w.heap.size + 1):=by show _ = _; simp
 have HG:=M (zx h xR)
 have HB:=M xR
 have HI:=M hi
 clear h xR hi E hg
 go_enter Tryz.func148,Tryz.ntmps148
 refine ic fun xh HK=>?_
 go_wp2_with fail
 refine U HK _ _ ?_
 clear HK
 generalize (w.alloc (O (yv xn ck cs ct cl cq ci cp cg id xl qty xm xk).toArray 37)) = W1 at HS HX HG HB ⊢
 have c3:W1.cell? (J G 3) = some (H g.bg):=zb (U HG).box 3 rfl
 by_cases h0:g.bg = 0
 ·have b0:(g.bg == 0) = true:=by simpa using h0
  have kt:=M ((U HI).good (.inl (by omega)))
  have oZ:=M ((U HI).start h0)
  have kN:Hid (sr = if refR g.nx g.l c ≠ 0 then 5 else 0):=by show _ = _; rw [U vH,if_neg (by simpa using h0)]
  clear h0 vH
  go_wp2_with fail
  refine (cN 3 _).mono ?_
  rintro e w2 ⟨rfl,rfl⟩
  clear c3 b0
  obtain ⟨e0,e1,e2,e3,e4,e5,e6,e7,e8,e9,vy,vz,qj,qk⟩:=yz (U HX)
  go_wp2_with fail
  refine (U HTO w2).mono ?_
  rintro e w3 ⟨rfl,xQ⟩
  have uS:=M (zx (U HG) xQ)
  have xG:=M (ia (U HB) xQ)
  clear e0 e1 e2 e3 e4 e5 e6 e7 e8 e9 vy vz qj qk xQ
  obtain ⟨dk,ds,dt,dl,dq,di,dp,dg⟩:=c
  unfold cmV
  simp only
  obtain ⟨xy,xE⟩:=ie w3 (yx dk ds dt dl dq di dp dg) 33
  have uk:=M (zx (U uS) xy)
  have xO:=M (ia (U xG) xy)
  clear xy uS xG
  have HZ4:Hid (w3.heap.size < (w3.alloc (O (yx dk ds dt dl dq di dp dg).toArray 33)).heap.size):=by show _ < _; simp
  go_wp2_with fail
  generalize (w3.alloc (O (yx dk ds dt dl dq di dp dg).toArray 33)) = h3 at xE uk xO HZ4 ⊢
  have vJ:Hid (Bx h3.drew w3.heap.size (yx dk ds dt dl dq di dp dg)):=cf (U xE)
  have qg:Hid (GS G B r h3.drew vq g):=zx (U uk) ⟨rfl,rfl,rfl,Nat.le_refl _,fun _ _=>rfl⟩
  have af:Hid (yn w h3.drew):=⟨(U xO).os,(U xO).tape,(U xO).output,(U xO).size,(U xO).block⟩
  clear xE uk xO HX
  obtain ⟨d0,d1,d2,d3,d4,d5,d6,d7⟩:=yA (U vJ)
  have c1:h3.drew.cell? (J G 1) = some (H g.nx):=zb (U qg).box 1 rfl
  have c2:h3.drew.cell? (J G 2) = some vq:=zb (U qg).box 2 rfl
  have qh:=M (zV (U qg).row (yO (U HI).len (by decide)))
  have qn:=M (oRow_sl (U qg).row)
  refine zS 5 (by kernel_rfl) (by kernel_rfl) ?_
  simp only [yU,List.take_zero,yV,List.drop_zero]
  repeat still_step
  refine wpStill_nil ?_
  clear d0 d1 d2 d3 d4 d5 d6 d7 c1 c2
  go_wp2_with fail
  refine (refusal_any g.nx vq g.l ⟨dk,ds,dt,dl,dq,di,dp,dg⟩ h3.drew (U qh) (U qn) (U kt) (U oZ).1 (U oZ).2.1 (U HTS)).mono ?_
  rintro e w5 ⟨rfl,uj⟩
  have uE:=M (ia (U af) uj)
  clear uj
  generalize refR g.nx g.l ⟨dk,ds,dt,dl,dq,di,dp,dg⟩ = rr at kN ⊢
  by_cases jY:rr = 0
  ·have b1:(rr == 0) = true:=by simpa using jY
   have ji:Hid (sr = 0):=by show _ = _; rw [U kN,if_neg (by simpa using jY)]
   clear jY
   go_wp2_with fail
   refine (cN 5 _).mono ?_
   rintro e w6 ⟨rfl,rfl⟩
   go_wp2_with fail
   go_end0
   exact ⟨by rw [U ji]; rfl,U uE⟩
  ·have b1:(rr == 0) = false:=by simpa using jY
   have ji:Hid (sr = 5):=by show _ = _; rw [U kN,if_pos jY]
   clear jY
   go_wp2_with fail
   refine (cG 5 _).mono ?_
   rintro e w6 ⟨rfl,rfl⟩
   go_wp2_with fail
   exact ⟨rfl,by rw [U ji]; rfl,U uE⟩
 ·have b0:(g.bg == 0) = false:=by simpa using h0
  have kN:Hid (sr = 3):=by show _ = _; rw [U vH,if_pos h0]
  clear h0
  go_wp2_with fail
  refine (cG 3 _).mono ?_
  rintro e w2 ⟨rfl,rfl⟩
  go_wp2_with fail
  exact ⟨rfl,by rw [U kN]; rfl,U HB⟩
def outD (k:Int) (d:Du):Ending:=if k = 0 then .returned (duV d) else .panicked (brk k)
theorem outD_ok {k:Int} {d:Du} (h:k = 0):outD k d = .returned (duV d):=if_pos h
theorem outD_no {k:Int} {d:Du} (h:k ≠ 0):outD k d = .panicked (brk k):=if_neg h
theorem gz {G B r:Nat} {vq:Value} {g:Gr} (e:Ev) (w:World) (h:GS G B r w vq g) (hi:GI g):Calls Tryz.prog 153 #[I G 0,evV e] w fun x w'=>x = outD (dueR g e) (dueG g)∧yn w w':=by
 have hsf:=sfl
 have hG:=h.lt
 have HJ:=M (fun W=>isJust_any e (dueG g) W)
 have kJ:=M (fun W hW=>due_any (G:=G) (B:=B) (r:=r) (vq:=vq) (g:=g) W hW hi)
 have HDR:Hid (dueR g e = if g.bg = 0 then 3 else if (dueG g).kind = 0 then 8 else if ((dueG g).kind = 9 ∨ e.kind = 9)∧cz e (dueG g) = false then 14 else 0):=rfl
 generalize dueR g e = dr at HDR ⊢
 generalize cz e (dueG g) = jb at HJ HDR
 generalize dueG g = d at HJ kJ HDR ⊢
 obtain ⟨xn,⟨ck,cs,ct,cl,cq,ci,cp,cg⟩,id,xl,qty,xm,xk⟩:=e
 obtain ⟨dk,di,dt,dq,dp⟩:=d
 unfold evV duV at HJ
 unfold evV
 unfold duV at kJ
 simp only at HJ kJ HDR ⊢
 have qH:(w.alloc (O (yv xn ck cs ct cl cq ci cp cg id xl qty xm xk).toArray 37)).heap.size = w.heap.size + 1:=by simp
 have xR:=gZ w (O (yv xn ck cs ct cl cq ci cp cg id xl qty xm xk).toArray 37)
 have ub:Below (w.heap.size + 1) (w.alloc (O (yv xn ck cs ct cl cq ci cp cg id xl qty xm xk).toArray 37)) ((w.alloc (O (yv xn ck cs ct cl cq ci cp cg id xl qty xm xk).toArray 37)).alloc (O #[H 0,H 0,H 0,H 0,H 0] 39)):=(Below.refl _ _).alloc (by rw [qH]; omega) _
 have HS:Hid (((w.alloc (O (yv xn ck cs ct cl cq ci cp cg id xl qty xm xk).toArray 37)).alloc (O #[H 0,H 0,H 0,H 0,H 0] 39)).heap.size = w.heap.size + 1 + 1):=by show _ = _; simp
 have HX:=M (zl (zy w (yv xn ck cs ct cl cq ci cp cg id xl qty xm xk) 37) ub (by omega))
 have HY:Hid (Bx ((w.alloc (O (yv xn ck cs ct cl cq ci cp cg id xl qty xm xk).toArray 37)).alloc (O #[H 0,H 0,H 0,H 0,H 0] 39)) (w.heap.size + 1) [H 0,H 0,H 0,H 0,H 0]):=by
  have:=zy (w.alloc (O (yv xn ck cs ct cl cq ci cp cg id xl qty xm xk).toArray 37)) [H 0,H 0,H 0,H 0,H 0] 39
  rwa [qH] at this
 have HB:Hid (yn w ((w.alloc (O (yv xn ck cs ct cl cq ci cp cg id xl qty xm xk).toArray 37)).alloc (O #[H 0,H 0,H 0,H 0,H 0] 39))):=xR.trans (ub.mono (by omega))
 have HG:=M (zx h (U HB))
 clear h xR hi ub qH
 go_enter Tryz.func153,Tryz.ntmps153
 refine ic fun xh HK=>?_
 go_wp2_with fail
 refine U HK _ _ ?_
 clear HK
 generalize ((w.alloc (O (yv xn ck cs ct cl cq ci cp cg id xl qty xm xk).toArray 37)).alloc (O #[H 0,H 0,H 0,H 0,H 0] 39)) = W1 at HS HX HY HG HB ⊢
 have c3:W1.cell? (J G 3) = some (H g.bg):=zb (U HG).box 3 rfl
 by_cases h0:g.bg = 0
 ·have b0:(g.bg != 0) = false:=by simpa using h0
  have HQ:Hid (dr = 3):=by show _ = _; rw [U HDR,if_pos h0]
  clear h0
  go_wp2_with fail
  refine (cG 3 _).mono ?_
  rintro e w6 ⟨rfl,rfl⟩
  go_wp2_with fail
  exact ⟨rfl,by rw [U HQ]; rfl,U HB⟩
 have b0:(g.bg != 0) = true:=by simpa using h0
 have HDR2:Hid (dr = if dk = 0 then 8 else if (dk = 9 ∨ xn = 9)∧jb = false then 14 else 0):=by show _ = _; rw [U HDR,if_neg h0]
 clear h0 HDR
 go_wp2_with fail
 refine (cN 3 _).mono ?_
 rintro e w6 ⟨rfl,rfl⟩
 clear c3 b0
 go_wp2_with fail
 refine (U kJ w6 (U HG)).mono ?_
 rintro e w3 ⟨rfl,xQ⟩
 have hz:=U HS
 have xy:=gZ w3 (O #[H dk,H di,H dt,H dq,H dp] 39)
 have hb34:=xQ.trans (xy.mono xQ.size)
 have xE:=M (zl (U HX) hb34 (by omega))
 have qu:=M (zl (U HY) hb34 (by omega))
 have uk:=M (zx (U HG) hb34)
 have xO:=M (ia (U HB) hb34)
 have ox:=M (zy w3 [H dk,H di,H dt,H dq,H dp] 39)
 have HZ4:Hid (w3.heap.size < (w3.alloc (O #[H dk,H di,H dt,H dq,H dp] 39)).heap.size∧w.heap.size + 1 < w3.heap.size):=⟨by simp,by have:=xQ.size; omega⟩
 clear xQ xy hb34 hz HX HY HG HB HS kJ
 by_cases oG:dk = 0
 ·have b0:(dk != 0) = false:=by simpa using oG
  have HQ:Hid (dr = 8):=by show _ = _; rw [U HDR2,if_pos oG]
  clear oG
  go_wp2_with fail
  refine (cG 8 _).mono ?_
  rintro e w6 ⟨rfl,rfl⟩
  go_wp2_with fail
  exact ⟨rfl,by rw [U HQ]; rfl,U xO⟩
 have b0:(dk != 0) = true:=by simpa using oG
 have HDR3:Hid (dr = if (dk = 9 ∨ xn = 9)∧jb = false then 14 else 0):=by show _ = _; rw [U HDR2,if_neg oG]
 clear oG HDR2
 go_wp2_with fail
 refine (cN 8 _).mono ?_
 rintro e h3 ⟨rfl,hX⟩
 rw [← hX] at xE qu uk xO ox HZ4
 clear hX b0
 have v0:=zb (U ox) 0 rfl
 have e0:=zb (U xE) 0 rfl
 by_cases h9:dk = 9
 ·have b9:(dk == 9) = true:=by simpa using h9
  have HOR:Hid (dk = 9 ∨ xn = 9):=.inl h9
  clear h9
  obtain ⟨e0,e1,e2,e3,e4,e5,e6,e7,e8,e9,vy,vz,qj,qk⟩:=yz (U xE)
  have v0:=zb (U ox) 0 rfl
  have v1:=zb (U ox) 1 rfl
  have v2:=zb (U ox) 2 rfl
  have v3:=zb (U ox) 3 rfl
  have v4:=zb (U ox) 4 rfl
  go_wp2_with fail
  refine (U HJ h3).mono ?_
  rintro e w7 ⟨rfl,vQ⟩
  have jc:=M (zl (U qu) vQ (by have:=U HZ4; omega))
  have HV7:=M (zl (U ox) vQ (U HZ4).1)
  have jn:=M (ia (U xO) vQ)
  clear vQ e0 e1 e2 e3 e4 e5 e6 e7 e8 e9 vy vz qj qk v0 v1 v2 v3 v4
  cases jb
  ·have HQ:Hid (dr = 14):=by show _ = _; rw [U HDR3,if_pos ⟨U HOR,rfl⟩]
   go_wp2_with fail
   refine (cG 14 _).mono ?_
   rintro e w6 ⟨rfl,rfl⟩
   go_wp2_with fail
   exact ⟨rfl,by rw [U HQ]; rfl,U jn⟩
  ·have HQ:Hid (dr = 0):=by show _ = _; rw [U HDR3,if_neg (by simp)]
   go_wp2_with fail
   refine (cN 14 _).mono ?_
   rintro e w6 ⟨rfl,rfl⟩
   have v0:=zb (U HV7) 0 rfl
   have v1:=zb (U HV7) 1 rfl
   have v2:=zb (U HV7) 2 rfl
   have v3:=zb (U HV7) 3 rfl
   have v4:=zb (U HV7) 4 rfl
   have z0:=zb (U jc) 0 rfl
   have z1:=zb (U jc) 1 rfl
   have z2:=zb (U jc) 2 rfl
   have z3:=zb (U jc) 3 rfl
   have z4:=zb (U jc) 4 rfl
   have f0:=zd (U jc) 0 (by decide)
   have f1:=zd (U jc) 1 (by decide)
   have f2:=zd (U jc) 2 (by decide)
   have f3:=zd (U jc) 3 (by decide)
   have f4:=zd (U jc) 4 (by decide)
   go_wp2_with fail
   try simp (config:={ zetaDelta:=true }) only [Exit.noGoto_ret]
   change bodyPost _ _ _ _ _ (World.setCells w6 (w.heap.size + 1) 0 [H dk,H di,H dt,H dq,H dp])
   have xq:Hid ((World.setCells w6 (w.heap.size + 1) 0 [H dk,H di,H dt,H dq,H dp]).rangeAt (w.heap.size + 1) 0 [H dk,H di,H dt,H dq,H dp]∧yn w (World.setCells w6 (w.heap.size + 1) 0 [H dk,H di,H dt,H dq,H dp])):=⟨(zB (U jc) (by simp only [List.length_cons,List.length_nil])).r,zj (w.heap.size + 1) (by omega) [H dk,H di,H dt,H dq,H dp] 0 w6 (U jn)⟩
   generalize World.setCells w6 (w.heap.size + 1) 0 [H dk,H di,H dt,H dq,H dp] = WE at xq ⊢
   obtain ⟨d0,d1,d2,d3,d4⟩:=yC (U xq).1
   try simp only [Exit.inBlock,Exit.then]
   refine bodyPost_ret (by simp [results,Tryz.results153,go_sem,d0,d1,d2,d3,d4]; try rfl) rfl ?_
   exact ⟨by rw [U HQ]; rfl,(U xq).2⟩
 have b9:(dk == 9) = false:=by simpa using h9
 by_cases hk9:xn = 9
 ·have bk9:(xn == 9) = true:=by simpa using hk9
  have HOR:Hid (dk = 9 ∨ xn = 9):=.inr hk9
  clear h9 hk9
  obtain ⟨e0,e1,e2,e3,e4,e5,e6,e7,e8,e9,vy,vz,qj,qk⟩:=yz (U xE)
  have v0:=zb (U ox) 0 rfl
  have v1:=zb (U ox) 1 rfl
  have v2:=zb (U ox) 2 rfl
  have v3:=zb (U ox) 3 rfl
  have v4:=zb (U ox) 4 rfl
  go_wp2_with fail
  refine (U HJ h3).mono ?_
  rintro e w7 ⟨rfl,vQ⟩
  have jc:=M (zl (U qu) vQ (by have:=U HZ4; omega))
  have HV7:=M (zl (U ox) vQ (U HZ4).1)
  have jn:=M (ia (U xO) vQ)
  clear vQ e0 e1 e2 e3 e4 e5 e6 e7 e8 e9 vy vz qj qk v0 v1 v2 v3 v4
  cases jb
  ·have HQ:Hid (dr = 14):=by show _ = _; rw [U HDR3,if_pos ⟨U HOR,rfl⟩]
   go_wp2_with fail
   refine (cG 14 _).mono ?_
   rintro e w6 ⟨rfl,rfl⟩
   go_wp2_with fail
   exact ⟨rfl,by rw [U HQ]; rfl,U jn⟩
  ·have HQ:Hid (dr = 0):=by show _ = _; rw [U HDR3,if_neg (by simp)]
   go_wp2_with fail
   refine (cN 14 _).mono ?_
   rintro e w6 ⟨rfl,rfl⟩
   have v0:=zb (U HV7) 0 rfl
   have v1:=zb (U HV7) 1 rfl
   have v2:=zb (U HV7) 2 rfl
   have v3:=zb (U HV7) 3 rfl
   have v4:=zb (U HV7) 4 rfl
   have z0:=zb (U jc) 0 rfl
   have z1:=zb (U jc) 1 rfl
   have z2:=zb (U jc) 2 rfl
   have z3:=zb (U jc) 3 rfl
   have z4:=zb (U jc) 4 rfl
   have f0:=zd (U jc) 0 (by decide)
   have f1:=zd (U jc) 1 (by decide)
   have f2:=zd (U jc) 2 (by decide)
   have f3:=zd (U jc) 3 (by decide)
   have f4:=zd (U jc) 4 (by decide)
   go_wp2_with fail
   try simp (config:={ zetaDelta:=true }) only [Exit.noGoto_ret]
   change bodyPost _ _ _ _ _ (World.setCells w6 (w.heap.size + 1) 0 [H dk,H di,H dt,H dq,H dp])
   have xq:Hid ((World.setCells w6 (w.heap.size + 1) 0 [H dk,H di,H dt,H dq,H dp]).rangeAt (w.heap.size + 1) 0 [H dk,H di,H dt,H dq,H dp]∧yn w (World.setCells w6 (w.heap.size + 1) 0 [H dk,H di,H dt,H dq,H dp])):=⟨(zB (U jc) (by simp only [List.length_cons,List.length_nil])).r,zj (w.heap.size + 1) (by omega) [H dk,H di,H dt,H dq,H dp] 0 w6 (U jn)⟩
   generalize World.setCells w6 (w.heap.size + 1) 0 [H dk,H di,H dt,H dq,H dp] = WE at xq ⊢
   obtain ⟨d0,d1,d2,d3,d4⟩:=yC (U xq).1
   try simp only [Exit.inBlock,Exit.then]
   refine bodyPost_ret (by simp [results,Tryz.results153,go_sem,d0,d1,d2,d3,d4]; try rfl) rfl ?_
   exact ⟨by rw [U HQ]; rfl,(U xq).2⟩
 have bk9:(xn == 9) = false:=by simpa using hk9
 have HQ:Hid (dr = 0):=by show _ = _; rw [U HDR3,if_neg (by simp [h9,hk9])]
 clear h9 hk9
 have v0:=zb (U ox) 0 rfl
 have v1:=zb (U ox) 1 rfl
 have v2:=zb (U ox) 2 rfl
 have v3:=zb (U ox) 3 rfl
 have v4:=zb (U ox) 4 rfl
 have z0:=zb (U qu) 0 rfl
 have z1:=zb (U qu) 1 rfl
 have z2:=zb (U qu) 2 rfl
 have z3:=zb (U qu) 3 rfl
 have z4:=zb (U qu) 4 rfl
 have f0:=zd (U qu) 0 (by decide)
 have f1:=zd (U qu) 1 (by decide)
 have f2:=zd (U qu) 2 (by decide)
 have f3:=zd (U qu) 3 (by decide)
 have f4:=zd (U qu) 4 (by decide)
 go_wp2_with fail
 try simp (config:={ zetaDelta:=true }) only [Exit.noGoto_ret]
 change bodyPost _ _ _ _ _ (World.setCells h3 (w.heap.size + 1) 0 [H dk,H di,H dt,H dq,H dp])
 have xq:Hid ((World.setCells h3 (w.heap.size + 1) 0 [H dk,H di,H dt,H dq,H dp]).rangeAt (w.heap.size + 1) 0 [H dk,H di,H dt,H dq,H dp]∧yn w (World.setCells h3 (w.heap.size + 1) 0 [H dk,H di,H dt,H dq,H dp])):=⟨(zB (U qu) (by simp only [List.length_cons,List.length_nil])).r,zj (w.heap.size + 1) (by omega) [H dk,H di,H dt,H dq,H dp] 0 h3 (U xO)⟩
 generalize World.setCells h3 (w.heap.size + 1) 0 [H dk,H di,H dt,H dq,H dp] = WE at xq ⊢
 obtain ⟨d0,d1,d2,d3,d4⟩:=yC (U xq).1
 try simp only [Exit.inBlock,Exit.then]
 refine bodyPost_ret (by simp [results,Tryz.results153,go_sem,d0,d1,d2,d3,d4]; try rfl) rfl ?_
 exact ⟨by rw [U HQ]; rfl,(U xq).2⟩
theorem l03Better_any (o c:Od) (w:World) :
  Calls Tryz.prog 66 #[.agg (yw o.id o.side o.ticks o.left o.life o.tag).toArray,.agg (yw c.id c.side c.ticks c.left c.life c.tag).toArray] w fun e w'=>e = .returned (.bool (ahdB o c))∧w.grownBy w' none:=by
 by_cases h:o.ticks = c.ticks
 ·have h':(o.ticks == c.ticks) = true:=by simpa using h
  have HA:Hid (ahdB o c = decide (o.id < c.id)):=if_pos h
  go_enter Tryz.func66,Tryz.ntmps66
  go_wp2_with fail
  go_ret
  exact ⟨zo (U HA).symm,(World.grownBy_alloc _ _ _).trans (World.grownBy_alloc _ _ _)⟩
 ·have HA:Hid (ahdB o c = (decide (c.ticks < o.ticks) == decide (o.side = 1))):=if_neg h
  go_enter Tryz.func66,Tryz.ntmps66
  go_wp2_with fail
  go_ret
  exact ⟨zo (by rw [U HA]; rfl),(World.grownBy_alloc _ _ _).trans (World.grownBy_alloc _ _ _)⟩
theorem gK (v:Value) (l:List Od) (sd:Int) (w:World) (hr:RdR Od.vs 6 w v l) (hri:cy l) (hn:l.length ≤ 1000) :
  Calls Tryz.prog 34 #[v,H sd] w fun e w'=>∃ k:Int,e = .returned (H k)∧FrPre l sd l.length k∧w.grownBy w' none:=by
 obtain ⟨a,cap,rfl,xD,hc⟩:=hr
 have xr:∀ (k:Nat) (c:Od),l[k]? = some c→∃ b off,a = some (J b off)∧b < w.heap.size∧w.rangeAt b (off + k * 6) c.vs:=by
  intro k c E
  obtain ⟨b,off,Q,D,X⟩:=hc (by intro h; rw [h] at E; simp at E)
  exact ⟨b,off,Q,D,X k c E⟩
 have HC:=M xr
 have HRI:=M hri
 clear xr hc hri
 go_enter Tryz.func34,Tryz.ntmps34
 go_wp2_with fail
 go_loopw [5,6] (fun bv iv wr=>∃ (k:Nat) (best:Int),bv = H best∧k ≤ l.length∧iv = H k∧Hid (FrPre l sd k best)∧w.grownBy wr none) (fun _ iv _=>l.length - (intOf iv).toNat)
 case atStart=>exact ⟨0,-1,rfl,Nat.zero_le _,rfl,.inl ⟨rfl,fun j o hj=>by omega⟩,yS _ _⟩
 case round =>
  obtain ⟨k,best,rfl,E,rfl,oF,hg⟩:=hrel
  have HG:=M hg
  clear hg
  by_cases xM:k < l.length
  ·obtain ⟨c,uV⟩:∃ c,l[k]? = some c:=⟨_,yI xM⟩
   obtain ⟨b,off,rfl,A,xo⟩:=U HC k c uV
   have kY:=M uV
   obtain ⟨g0,g1,g2,g3,g4,g5⟩:=zC (zv xo (U HG) A (by simp))
   have vj:(k:Int) < l.length:=by omega
   have kH:=M xo
   have HHB:=M A
   clear uV xo
   by_cases hs:c.side = sd
   ·subst hs
    rcases U oF with ⟨rfl,qY⟩ | ⟨i,o,rfl,hi,jC,pS,hah⟩
    ·have HN:=M (frPre_first (U oF) (U kY) rfl)
     clear qY
     go_wp2_with fail
     go_quiet (fail)
     go_wp2_with fail
     go_roundw
     case rel=>exact ⟨k + 1,k,rfl,by omega,by go_num,U HN,ef (U HG) rfl rfl rfl rfl⟩
     case measure=>simp [intOf]; omega
    ·obtain ⟨b',jQ,jL,hb',qQ⟩:=U HC i o jC
     simp only [Option.some.injEq,Addr.mk.injEq,and_true] at jL
     obtain ⟨rfl,rfl⟩:=jL
     obtain ⟨e0,e1,e2,e3,e4,e5⟩:=zC (zv qQ (U HG) A (by simp))
     have hlti:(i:Int) < l.length:=by have:=(yH.1 jC).1; omega
     have uJ:¬ ((i:Int) < 0):=by omega
     have hi0':decide ((i:Int) < 0) = false:=by simp
     have qO:Hid (∀ w',wr.grownBy w' none→w'.rangeAt b (off + k * 6) c.vs∧w'.rangeAt b (off + i * 6) o.vs):=fun w' h'=>⟨zv (zv (U kH) (U HG) A (by simp)) h' (yK A (U HG).size) (by simp),zv (zv qQ (U HG) A (by simp)) h' (yK A (U HG).size) (by simp)⟩
     have HHI:Hid (l[i]? = some o):=jC
     clear hah jC qQ pS
     go_wp2_with fail
     refine fq (W:=wr) (by kernel_rfl) (by kernel_rfl) (yS _ _) ?_
     iterate 19 (
      refine cH (v:=?_) ?_ ?_ ?_
      rotate_left
      ·rfl
      ·intro w' uh
       obtain ⟨c0,c1,c2,c3,c4,c5⟩:=zC (U qO w' uh).1
       obtain ⟨d0,d1,d2,d3,d4,d5⟩:=zC (U qO w' uh).2
       go_simp
       try rfl
      intro xh hK
      go_simp
      refine hK _ ?_
      clear hK xh)
     refine cH (v:=.bool (ahdB c o)) ?_ ?_ ?_
     ·rfl
     ·intro w' uh
      go_simp
      refine (l03Better_any c o _).mono ?_
      rintro e w3 ⟨rfl,uF⟩
      exact ⟨rfl,uh.trans uF⟩
     intro xh hK
     go_simp
     refine hK _ ?_
     clear hK xh
     iterate 2 (
      refine cH (v:=?_) ?_ ?_ ?_
      rotate_left
      ·rfl
      ·intro w' uh
       go_simp
       try rfl
      intro xh hK
      go_simp
      refine hK _ ?_
      clear hK xh)
     refine wpQuiet_nil ?_
     intro w2 vh
     have uo:=M ((U HG).trans vh)
     clear vh g0 g1 g2 g3 g4 g5 e0 e1 e2 e3 e4 e5
     cases hah:ahdB c o
     ·have HN:=M (frPre_worse (U HRI) (U oF) (U HHI) (U kY) rfl hah)
      go_wp2_with fail
      go_roundw
      case rel=>exact ⟨k + 1,i,rfl,by omega,by go_num,U HN,U uo⟩
      case measure=>simp [intOf]; omega
     ·have HN:=M (frPre_better (U HRI) (U oF) (U HHI) (U kY) rfl hah)
      go_wp2_with fail
      go_roundw
      case rel=>exact ⟨k + 1,k,rfl,by omega,by go_num,U HN,U uo⟩
      case measure=>simp [intOf]; omega
   ·have HN:=M (frPre_skip (U oF) (U kY) hs)
    have hs':(c.side == sd) = false:=by simpa using hs
    go_wp2_with fail
    go_quiet (fail)
    go_wp2_with fail
    go_roundw
    case rel=>exact ⟨k + 1,best,rfl,by omega,by go_num,U HN,ef (U HG) rfl rfl rfl rfl⟩
    case measure=>simp [intOf]; omega
  ·go_wp2_with fail
   go_ret
   have h:=U oF
   rw [show k = l.length by omega] at h
   exact ⟨_,rfl,h,U HG⟩
theorem nex_stop {l:List Od} {t:Od} (h:t.left = 0):NexS l t (-1):=.inl ⟨rfl,.inl h⟩
theorem nex_none {l:List Od} {t:Od} (h:bT l (othS t.side) = none):NexS l t (-1):=.inl ⟨rfl,.inr (.inl h)⟩
theorem nex_no {l:List Od} {t o:Od} (h:bT l (othS t.side) = some o) (hc:dy t.side t.ticks o = false):NexS l t (-1):=.inl ⟨rfl,.inr (.inr ⟨o,h,hc⟩)⟩
theorem l04Next_any (v:Value) (l:List Od) (t:Od) (w:World) (hr:RdR Od.vs 6 w v l) (hri:cy l) (hn:l.length ≤ 1000) (ui:t.side = 1 ∨ t.side = 2) :
  Calls Tryz.prog 61 #[v,.agg (yw t.id t.side t.ticks t.left t.life t.tag).toArray] w fun e w'=>∃ k:Int,e = .returned (H k)∧NexS l t k∧yn w w':=by
 have HR:=M hr
 obtain ⟨a,cap,rfl,xD,hc⟩:=hr
 have xr:∀ (k:Nat) (c:Od),l[k]? = some c→∃ b off,a = some (J b off)∧b < w.heap.size∧w.rangeAt b (off + k * 6) c.vs:=by
  intro k c E
  obtain ⟨b,off,Q,D,X⟩:=hc (by intro h; rw [h] at E; simp at E)
  exact ⟨b,off,Q,D,X k c E⟩
 have HC:=M xr
 have HRI:=M hri
 have HOT:=M (oth_of ui)
 have xF:1 ≤ t.side:=by omega
 have ug:t.side ≤ 2:=by omega
 have xU:Hid (yn w (w.alloc (O (yw t.id t.side t.ticks t.left t.life t.tag).toArray 65))):=gZ _ _
 have HX:Hid (World.rangeAt (w.alloc (O (yw t.id t.side t.ticks t.left t.life t.tag).toArray 65)) w.heap.size 0 t.vs∧w.heap.size < (w.alloc (O (yw t.id t.side t.ticks t.left t.life t.tag).toArray 65)).heap.size):=⟨zm w t.vs _,by rw [zi]; omega⟩
 clear xr hc hri ui
 go_enter Tryz.func61,Tryz.ntmps61
 go_wp2_with fail
 generalize (w.alloc (O (yw t.id t.side t.ticks t.left t.life t.tag).toArray 65)) = W1 at xU HX ⊢
 refine (gK _ l _ W1 (zh (U HR) (U xU) hU) (U HRI) hn).mono ?_
 rintro e w2 ⟨k,rfl,hf,vh⟩
 have HF:=M (front_pre (U HRI) hf)
 have xt:=M ((U xU).trans ((gr_below' vh (fun g hg=>by cases hg) hU).mono (U xU).size))
 have xW:=M (zv (U HX).1 vh (U HX).2 (by simp))
 have hlt2:w.heap.size < w2.heap.size:=yK (U HX).2 vh.size
 have kE:Hid (∀ (k:Nat) (c:Od),l[k]? = some c→∃ b off,a = some (J b off)∧b < w2.heap.size∧w2.rangeAt b (off + k * 6) c.vs):=fun k c E=>by
  obtain ⟨b,off,Q,D,X⟩:=U HC k c E
  exact ⟨b,off,Q,by omega,zc X (U xt) D⟩
 obtain ⟨t0,t1,t2,t3,t4,t5⟩:=zC (U xW)
 clear hf vh xF ug
 by_cases h0:t.left = 0
 ·have HN:=M (nex_stop (l:=l) h0)
  have b0:(t.left == 0) = true:=by simpa using h0
  clear h0
  go_wp2_with fail
  go_quiet (fail)
  go_wp2_with fail
  go_ret
  exact ⟨_,rfl,U HN,dI (U xt) _⟩
 have b0:(t.left == 0) = false:=by simpa using h0
 rcases U HF with ⟨rfl,qY⟩ | ⟨i,o,rfl,hi,jC,pM⟩
 ·have HN:=M (nex_none (l:=l) (t:=t) (by rw [← U HOT]; exact qY))
  clear qY h0
  go_wp2_with fail
  go_quiet (fail)
  go_wp2_with fail
  go_ret
  exact ⟨_,rfl,U HN,dI (U xt) _⟩
 have HFO:Hid (bT l (othS t.side) = some o):=by rw [← U HOT]; exact pM
 have HIO:=M jC
 obtain ⟨b,off,rfl,A,xo⟩:=U kE i o jC
 have HL0:=M h0
 have qO:Hid (∀ w',w2.grownBy w' none→w'.rangeAt w.heap.size 0 t.vs∧w'.rangeAt b (off + i * 6) o.vs):=fun w' h'=>⟨zv (U xW) h' hlt2 (by simp),zv xo h' A (by simp)⟩
 have hlti:(i:Int) < l.length:=by omega
 have uJ:¬ ((i:Int) < 0):=by omega
 have hi0':decide ((i:Int) < 0) = false:=by simp
 clear pM jC xo h0 HF HOT
 go_wp2_with fail
 refine fq (W:=w2) (by kernel_rfl) (by kernel_rfl) (yS _ _) ?_
 iterate 16 (
  refine cH (v:=?_) ?_ ?_ ?_
  rotate_left
  ·rfl
  ·intro w' uh
   obtain ⟨c0,c1,c2,c3,c4,c5⟩:=zC (U qO w' uh).1
   obtain ⟨d0,d1,d2,d3,d4,d5⟩:=zC (U qO w' uh).2
   go_simp
   try rfl
  intro xh hK
  go_simp
  refine hK _ ?_
  clear hK xh)
 refine cH (v:=.bool (dy t.side t.ticks o)) ?_ ?_ ?_
 ·rfl
 ·intro w' uh
  go_simp
  refine (l04Crosses_any t.side t.ticks o _).mono ?_
  rintro e w3 ⟨rfl,uF⟩
  exact ⟨rfl,uh.trans (ep uF hU)⟩
 intro xh hK
 go_simp
 refine hK _ ?_
 clear hK xh
 cases hcr:dy t.side t.ticks o
 ·have HN:=M (nex_no (U HFO) hcr)
  iterate 2 (
   refine cH (v:=?_) ?_ ?_ ?_
   rotate_left
   ·rfl
   ·intro w' uh
    go_simp
    try rfl
   intro xh hK
   go_simp
   refine hK _ ?_
   clear hK xh)
  refine wpQuiet_nil ?_
  intro w3 uF
  have xG:=M ((U xt).grown uF (U xt).size (fun g hg=>by cases hg))
  clear uF
  go_wp2_with fail
  go_ret
  exact ⟨_,rfl,U HN,U xG⟩
 ·have HN:Hid (NexS l t i):=.inr ⟨i,o,rfl,hi,U HIO,U HFO,hcr,U HL0⟩
  iterate 2 (
   refine cH (v:=?_) ?_ ?_ ?_
   rotate_left
   ·rfl
   ·intro w' uh
    go_simp
    try rfl
   intro xh hK
   go_simp
   refine hK _ ?_
   clear hK xh)
  refine wpQuiet_nil ?_
  intro w3 uF
  have xG:=M ((U xt).grown uF (U xt).size (fun g hg=>by cases hg))
  clear uF
  go_wp2_with fail
  go_ret
  exact ⟨_,rfl,U HN,U xG⟩
end Go.Proofs.YthhkapcbocgcoaaGreatDoor
