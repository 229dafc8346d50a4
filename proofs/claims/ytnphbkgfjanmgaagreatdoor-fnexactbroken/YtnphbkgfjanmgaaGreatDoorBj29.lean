/-
  A first event held against the rules of all first events, by the program: proved by walking the method.
-/
import Derived.Test.YtnphbkgfjanmgaaGreatDoorBj28
set_option linter.unusedVariables false
set_option maxHeartbeats 6400000
set_option maxRecDepth 100000
namespace Go.Proofs.YtnphbkgfjanmgaaGreatDoor
open Go.RowKit
def outR (k:Int):Ending:=if k = 0 then .returned (.tuple #[]) else .panicked (brk k)
theorem outR_ok {k:Int} (h:k = 0):outR k = .returned (.tuple #[]):=if_pos h
theorem outR_no {k:Int} (h:k ≠ 0):outR k = .panicked (brk k):=if_neg h
theorem dQ {e:Ev} (hg:e.cmd.g.size ≤ maxLen):(aU e).g.size ≤ maxLen:=by
 have hz:(⟨#[]⟩:ByteArray).size ≤ maxLen:=by decide
 unfold aU zCm
 repeat' split
 all_goals first | exact hg | exact hz
theorem start_any {G B r:Nat} {vq:Value} {g:Gr} (e:Ev) (w:World) (h:GS G B r w vq g) (hi:GI g) (hk:1 ≤ e.kind∧e.kind ≤ 9) (hg:e.cmd.g.size ≤ maxLen):Calls Tryz.prog 132 #[J G 0,evV e] w fun x w'=>x = outR (aT g e)∧yn w w':=by
 have hsf:=sfl
 have hG:=h.lt
 have HTO:=M (fun W=>toldCmd_any e W hk)
 have oa:=M (dQ hg)
 have vZ:Hid (aT g e = if g.bg ≠ 0 then 3 else if refR g.nx g.l (aU e) ≠ 0 then 5 else 0):=rfl
 generalize aU e = c at HTO oa vZ
 generalize zO e.kind = sb at HTO
 generalize aT g e = sr at vZ ⊢
 obtain ⟨xm,⟨ck,L,ct,F,cq,ci,X,cg⟩,id,xi,qty,xj,xh⟩:=e
 unfold evV at HTO ⊢
 simp only at HTO ⊢
 obtain ⟨xz,HX⟩:=fJ w (yv xm ck L ct F cq ci X cg id xi qty xj xh) 52
 have HS:Hid ((w.alloc (A (yv xm ck L ct F cq ci X cg id xi qty xj xh).toArray 52)).heap.size = w.heap.size + 1):=by show _ = _; simp
 have HG:=M (zx h xz)
 have HB:=M xz
 have HI:=M hi
 clear h xz hi hk hg
 go_enter Tryz.func132,Tryz.ntmps132
 refine fI fun hR HK=>?_
 go_wp2_with fail
 refine H HK _ _ ?_
 clear HK
 generalize (w.alloc (A (yv xm ck L ct F cq ci X cg id xi qty xj xh).toArray 52)) = W1 at HS HX HG HB ⊢
 have c3:W1.cell? (U G 3) = some (I g.bg):=R (H HG).box 3 rfl
 by_cases h0:g.bg = 0
 ·have b0:(g.bg == 0) = true:=by simpa using h0
  have qL:=M ((H HI).good (.inl (by omega)))
  have HNX:=M ((H HI).start h0)
  have HST2:Hid (sr = if refR g.nx g.l c ≠ 0 then 5 else 0):=by show _ = _; rw [H vZ,if_neg (by simpa using h0)]
  clear h0 vZ
  go_wp2_with fail
  refine (bI 3 _).mono ?_
  rintro e w2 ⟨rfl,rfl⟩
  clear c3 b0
  obtain ⟨e0,e1,e2,e3,e4,e5,e6,e7,e8,e9,uy,uk,uW,uA⟩:=yy (H HX)
  go_wp2_with fail
  refine (H HTO w2).mono ?_
  rintro e w3 ⟨rfl,xM⟩
  have vi:=M (zx (H HG) xM)
  have xL:=M (fH (H HB) xM)
  clear e0 e1 e2 e3 e4 e5 e6 e7 e8 e9 uy uk uW uA xM
  obtain ⟨dk,ds,dt,dl,dq,di,dp,dg⟩:=c
  unfold cmV
  simp only
  obtain ⟨xw,xE⟩:=fJ w3 (yx dk ds dt dl dq di dp dg) 50
  have ut:=M (zx (H vi) xw)
  have xG:=M (fH (H xL) xw)
  clear xw vi xL
  have HZ4:Hid (w3.heap.size < (w3.alloc (A (yx dk ds dt dl dq di dp dg).toArray 50)).heap.size):=by show _ < _; simp
  go_wp2_with fail
  generalize (w3.alloc (A (yx dk ds dt dl dq di dp dg).toArray 50)) = cp at xE ut xG HZ4 ⊢
  have xX:Hid (Bx cp.drew w3.heap.size (yx dk ds dt dl dq di dp dg)):=zJ (H xE)
  have qk:Hid (GS G B r cp.drew vq g):=zx (H ut) ⟨rfl,rfl,rfl,Nat.le_refl _,fun _ _=>rfl⟩
  have vy:Hid (yn w cp.drew):=⟨(H xG).os,(H xG).tape,(H xG).output,(H xG).size,(H xG).block⟩
  clear xE ut xG HX
  obtain ⟨d0,d1,d2,d3,d4,d5,d6,d7⟩:=yz (H xX)
  have c1:cp.drew.cell? (U G 1) = some (I g.nx):=R (H qk).box 1 rfl
  have c2:cp.drew.cell? (U G 2) = some vq:=R (H qk).box 2 rfl
  have uR:=M (zK (H qk).row (yN (H HI).len (by decide)))
  have km:=M (oRow_sl (H qk).row)
  refine zE 5 (by kernel_rfl) (by kernel_rfl) ?_
  simp only [yT,List.take_zero,yU,List.drop_zero]
  repeat still_step
  refine wpStill_nil ?_
  clear d0 d1 d2 d3 d4 d5 d6 d7 c1 c2
  go_wp2_with fail
  refine (refusal_any g.nx vq g.l ⟨dk,ds,dt,dl,dq,di,dp,dg⟩ cp.drew (H uR) (H km) (H qL) (H HNX).1 (H HNX).2.1 (H oa)).mono ?_
  rintro e w5 ⟨rfl,uf⟩
  have ug:=M (fH (H vy) uf)
  clear uf
  generalize refR g.nx g.l ⟨dk,ds,dt,dl,dq,di,dp,dg⟩ = rr at HST2 ⊢
  by_cases jO:rr = 0
  ·have b1:(rr == 0) = true:=by simpa using jO
   have vT:Hid (sr = 0):=by show _ = _; rw [H HST2,if_neg (by simpa using jO)]
   clear jO
   go_wp2_with fail
   refine (bI 5 _).mono ?_
   rintro e w6 ⟨rfl,rfl⟩
   go_wp2_with fail
   go_end0
   exact ⟨by rw [H vT]; rfl,H ug⟩
  ·have b1:(rr == 0) = false:=by simpa using jO
   have vT:Hid (sr = 5):=by show _ = _; rw [H HST2,if_pos jO]
   clear jO
   go_wp2_with fail
   refine (bD 5 _).mono ?_
   rintro e w6 ⟨rfl,rfl⟩
   go_wp2_with fail
   exact ⟨rfl,by rw [H vT]; rfl,H ug⟩
 ·have b0:(g.bg == 0) = false:=by simpa using h0
  have HST2:Hid (sr = 3):=by show _ = _; rw [H vZ,if_pos h0]
  clear h0
  go_wp2_with fail
  refine (bD 3 _).mono ?_
  rintro e w2 ⟨rfl,rfl⟩
  go_wp2_with fail
  exact ⟨rfl,by rw [H HST2]; rfl,H HB⟩
def outD (k:Int) (d:Du):Ending:=if k = 0 then .returned (duV d) else .panicked (brk k)
theorem outD_ok {k:Int} {d:Du} (h:k = 0):outD k d = .returned (duV d):=if_pos h
theorem outD_no {k:Int} {d:Du} (h:k ≠ 0):outD k d = .panicked (brk k):=if_neg h
theorem eJ {G B r:Nat} {vq:Value} {g:Gr} (e:Ev) (w:World) (h:GS G B r w vq g) (hi:GI g):Calls Tryz.prog 137 #[J G 0,evV e] w fun x w'=>x = outD (dueR g e) (dueG g)∧yn w w':=by
 have hsf:=sfl
 have hG:=h.lt
 have HJ:=M (fun W=>isJust_any e (dueG g) W)
 have HDU:=M (fun W hW=>due_any (G:=G) (B:=B) (r:=r) (vq:=vq) (g:=g) W hW hi)
 have HDR:Hid (dueR g e = if g.bg = 0 then 3 else if (dueG g).kind = 0 then 8 else if ((dueG g).kind = 9 ∨ e.kind = 9)∧aW e (dueG g) = false then 14 else 0):=rfl
 generalize dueR g e = dr at HDR ⊢
 generalize aW e (dueG g) = jb at HJ HDR
 generalize dueG g = d at HJ HDU HDR ⊢
 obtain ⟨xm,⟨ck,L,ct,F,cq,ci,X,cg⟩,id,xi,qty,xj,xh⟩:=e
 obtain ⟨dk,di,dt,dq,dp⟩:=d
 unfold evV duV at HJ
 unfold evV
 unfold duV at HDU
 simp only at HJ HDU HDR ⊢
 have oP:(w.alloc (A (yv xm ck L ct F cq ci X cg id xi qty xj xh).toArray 52)).heap.size = w.heap.size + 1:=by simp
 have xz:=fE w (A (yv xm ck L ct F cq ci X cg id xi qty xj xh).toArray 52)
 have ui:Below (w.heap.size + 1) (w.alloc (A (yv xm ck L ct F cq ci X cg id xi qty xj xh).toArray 52)) ((w.alloc (A (yv xm ck L ct F cq ci X cg id xi qty xj xh).toArray 52)).alloc (A #[I 0,I 0,I 0,I 0,I 0] 29)):=(Below.refl _ _).alloc (by rw [oP]; omega) _
 have HS:Hid (((w.alloc (A (yv xm ck L ct F cq ci X cg id xi qty xj xh).toArray 52)).alloc (A #[I 0,I 0,I 0,I 0,I 0] 29)).heap.size = w.heap.size + 1 + 1):=by show _ = _; simp
 have HX:=M (zg (zq w (yv xm ck L ct F cq ci X cg id xi qty xj xh) 52) ui (by omega))
 have HY:Hid (Bx ((w.alloc (A (yv xm ck L ct F cq ci X cg id xi qty xj xh).toArray 52)).alloc (A #[I 0,I 0,I 0,I 0,I 0] 29)) (w.heap.size + 1) [I 0,I 0,I 0,I 0,I 0]):=by
  have:=zq (w.alloc (A (yv xm ck L ct F cq ci X cg id xi qty xj xh).toArray 52)) [I 0,I 0,I 0,I 0,I 0] 29
  rwa [oP] at this
 have HB:Hid (yn w ((w.alloc (A (yv xm ck L ct F cq ci X cg id xi qty xj xh).toArray 52)).alloc (A #[I 0,I 0,I 0,I 0,I 0] 29))):=xz.trans (ui.mono (by omega))
 have HG:=M (zx h (H HB))
 clear h xz hi ui oP
 go_enter Tryz.func137,Tryz.ntmps137
 refine fI fun hR HK=>?_
 go_wp2_with fail
 refine H HK _ _ ?_
 clear HK
 generalize ((w.alloc (A (yv xm ck L ct F cq ci X cg id xi qty xj xh).toArray 52)).alloc (A #[I 0,I 0,I 0,I 0,I 0] 29)) = W1 at HS HX HY HG HB ⊢
 have c3:W1.cell? (U G 3) = some (I g.bg):=R (H HG).box 3 rfl
 by_cases h0:g.bg = 0
 ·have b0:(g.bg != 0) = false:=by simpa using h0
  have HQ:Hid (dr = 3):=by show _ = _; rw [H HDR,if_pos h0]
  clear h0
  go_wp2_with fail
  refine (bD 3 _).mono ?_
  rintro e w6 ⟨rfl,rfl⟩
  go_wp2_with fail
  exact ⟨rfl,by rw [H HQ]; rfl,H HB⟩
 have b0:(g.bg != 0) = true:=by simpa using h0
 have HDR2:Hid (dr = if dk = 0 then 8 else if (dk = 9 ∨ xm = 9)∧jb = false then 14 else 0):=by show _ = _; rw [H HDR,if_neg h0]
 clear h0 HDR
 go_wp2_with fail
 refine (bI 3 _).mono ?_
 rintro e w6 ⟨rfl,rfl⟩
 clear c3 b0
 go_wp2_with fail
 refine (H HDU w6 (H HG)).mono ?_
 rintro e w3 ⟨rfl,xM⟩
 have hz:=H HS
 have xw:=fE w3 (A #[I dk,I di,I dt,I dq,I dp] 29)
 have uP:=xM.trans (xw.mono xM.size)
 have xE:=M (zg (H HX) uP (by omega))
 have qy:=M (zg (H HY) uP (by omega))
 have ut:=M (zx (H HG) uP)
 have xG:=M (fH (H HB) uP)
 have vJ:=M (zq w3 [I dk,I di,I dt,I dq,I dp] 29)
 have HZ4:Hid (w3.heap.size < (w3.alloc (A #[I dk,I di,I dt,I dq,I dp] 29)).heap.size∧w.heap.size + 1 < w3.heap.size):=⟨by simp,by have:=xM.size; omega⟩
 clear xM xw uP hz HX HY HG HB HS HDU
 by_cases pA:dk = 0
 ·have b0:(dk != 0) = false:=by simpa using pA
  have HQ:Hid (dr = 8):=by show _ = _; rw [H HDR2,if_pos pA]
  clear pA
  go_wp2_with fail
  refine (bD 8 _).mono ?_
  rintro e w6 ⟨rfl,rfl⟩
  go_wp2_with fail
  exact ⟨rfl,by rw [H HQ]; rfl,H xG⟩
 have b0:(dk != 0) = true:=by simpa using pA
 have HDR3:Hid (dr = if (dk = 9 ∨ xm = 9)∧jb = false then 14 else 0):=by show _ = _; rw [H HDR2,if_neg pA]
 clear pA HDR2
 go_wp2_with fail
 refine (bI 8 _).mono ?_
 rintro e cp ⟨rfl,hX⟩
 rw [← hX] at xE qy ut xG vJ HZ4
 clear hX b0
 have v0:=R (H vJ) 0 rfl
 have e0:=R (H xE) 0 rfl
 by_cases h9:dk = 9
 ·have b9:(dk == 9) = true:=by simpa using h9
  have HOR:Hid (dk = 9 ∨ xm = 9):=.inl h9
  clear h9
  obtain ⟨e0,e1,e2,e3,e4,e5,e6,e7,e8,e9,uy,uk,uW,uA⟩:=yy (H xE)
  have v0:=R (H vJ) 0 rfl
  have v1:=R (H vJ) 1 rfl
  have v2:=R (H vJ) 2 rfl
  have v3:=R (H vJ) 3 rfl
  have v4:=R (H vJ) 4 rfl
  go_wp2_with fail
  refine (H HJ cp).mono ?_
  rintro e w7 ⟨rfl,vX⟩
  have jY:=M (zg (H qy) vX (by have:=H HZ4; omega))
  have HV7:=M (zg (H vJ) vX (H HZ4).1)
  have qx:=M (fH (H xG) vX)
  clear vX e0 e1 e2 e3 e4 e5 e6 e7 e8 e9 uy uk uW uA v0 v1 v2 v3 v4
  cases jb
  ·have HQ:Hid (dr = 14):=by show _ = _; rw [H HDR3,if_pos ⟨H HOR,rfl⟩]
   go_wp2_with fail
   refine (bD 14 _).mono ?_
   rintro e w6 ⟨rfl,rfl⟩
   go_wp2_with fail
   exact ⟨rfl,by rw [H HQ]; rfl,H qx⟩
  ·have HQ:Hid (dr = 0):=by show _ = _; rw [H HDR3,if_neg (by simp)]
   go_wp2_with fail
   refine (bI 14 _).mono ?_
   rintro e w6 ⟨rfl,rfl⟩
   have v0:=R (H HV7) 0 rfl
   have v1:=R (H HV7) 1 rfl
   have v2:=R (H HV7) 2 rfl
   have v3:=R (H HV7) 3 rfl
   have v4:=R (H HV7) 4 rfl
   have z0:=R (H jY) 0 rfl
   have z1:=R (H jY) 1 rfl
   have z2:=R (H jY) 2 rfl
   have z3:=R (H jY) 3 rfl
   have z4:=R (H jY) 4 rfl
   have f0:=zd (H jY) 0 (by decide)
   have f1:=zd (H jY) 1 (by decide)
   have f2:=zd (H jY) 2 (by decide)
   have f3:=zd (H jY) 3 (by decide)
   have f4:=zd (H jY) 4 (by decide)
   go_wp2_with fail
   try simp (config:={ zetaDelta:=true }) only [Exit.noGoto_ret]
   change bodyPost _ _ _ _ _ (World.setCells w6 (w.heap.size + 1) 0 [I dk,I di,I dt,I dq,I dp])
   have xp:Hid ((World.setCells w6 (w.heap.size + 1) 0 [I dk,I di,I dt,I dq,I dp]).rangeAt (w.heap.size + 1) 0 [I dk,I di,I dt,I dq,I dp]∧yn w (World.setCells w6 (w.heap.size + 1) 0 [I dk,I di,I dt,I dq,I dp])):=⟨(zF (H jY) (by simp only [List.length_cons,List.length_nil])).r,zj (w.heap.size + 1) (by omega) [I dk,I di,I dt,I dq,I dp] 0 w6 (H qx)⟩
   generalize World.setCells w6 (w.heap.size + 1) 0 [I dk,I di,I dt,I dq,I dp] = WE at xp ⊢
   obtain ⟨d0,d1,d2,d3,d4⟩:=yB (H xp).1
   try simp only [Exit.inBlock,Exit.then]
   refine bodyPost_ret (by simp [results,Tryz.results137,go_sem,d0,d1,d2,d3,d4]; try rfl) rfl ?_
   exact ⟨by rw [H HQ]; rfl,(H xp).2⟩
 have b9:(dk == 9) = false:=by simpa using h9
 by_cases jG:xm = 9
 ·have bk9:(xm == 9) = true:=by simpa using jG
  have HOR:Hid (dk = 9 ∨ xm = 9):=.inr jG
  clear h9 jG
  obtain ⟨e0,e1,e2,e3,e4,e5,e6,e7,e8,e9,uy,uk,uW,uA⟩:=yy (H xE)
  have v0:=R (H vJ) 0 rfl
  have v1:=R (H vJ) 1 rfl
  have v2:=R (H vJ) 2 rfl
  have v3:=R (H vJ) 3 rfl
  have v4:=R (H vJ) 4 rfl
  go_wp2_with fail
  refine (H HJ cp).mono ?_
  rintro e w7 ⟨rfl,vX⟩
  have jY:=M (zg (H qy) vX (by have:=H HZ4; omega))
  have HV7:=M (zg (H vJ) vX (H HZ4).1)
  have qx:=M (fH (H xG) vX)
  clear vX e0 e1 e2 e3 e4 e5 e6 e7 e8 e9 uy uk uW uA v0 v1 v2 v3 v4
  cases jb
  ·have HQ:Hid (dr = 14):=by show _ = _; rw [H HDR3,if_pos ⟨H HOR,rfl⟩]
   go_wp2_with fail
   refine (bD 14 _).mono ?_
   rintro e w6 ⟨rfl,rfl⟩
   go_wp2_with fail
   exact ⟨rfl,by rw [H HQ]; rfl,H qx⟩
  ·have HQ:Hid (dr = 0):=by show _ = _; rw [H HDR3,if_neg (by simp)]
   go_wp2_with fail
   refine (bI 14 _).mono ?_
   rintro e w6 ⟨rfl,rfl⟩
   have v0:=R (H HV7) 0 rfl
   have v1:=R (H HV7) 1 rfl
   have v2:=R (H HV7) 2 rfl
   have v3:=R (H HV7) 3 rfl
   have v4:=R (H HV7) 4 rfl
   have z0:=R (H jY) 0 rfl
   have z1:=R (H jY) 1 rfl
   have z2:=R (H jY) 2 rfl
   have z3:=R (H jY) 3 rfl
   have z4:=R (H jY) 4 rfl
   have f0:=zd (H jY) 0 (by decide)
   have f1:=zd (H jY) 1 (by decide)
   have f2:=zd (H jY) 2 (by decide)
   have f3:=zd (H jY) 3 (by decide)
   have f4:=zd (H jY) 4 (by decide)
   go_wp2_with fail
   try simp (config:={ zetaDelta:=true }) only [Exit.noGoto_ret]
   change bodyPost _ _ _ _ _ (World.setCells w6 (w.heap.size + 1) 0 [I dk,I di,I dt,I dq,I dp])
   have xp:Hid ((World.setCells w6 (w.heap.size + 1) 0 [I dk,I di,I dt,I dq,I dp]).rangeAt (w.heap.size + 1) 0 [I dk,I di,I dt,I dq,I dp]∧yn w (World.setCells w6 (w.heap.size + 1) 0 [I dk,I di,I dt,I dq,I dp])):=⟨(zF (H jY) (by simp only [List.length_cons,List.length_nil])).r,zj (w.heap.size + 1) (by omega) [I dk,I di,I dt,I dq,I dp] 0 w6 (H qx)⟩
   generalize World.setCells w6 (w.heap.size + 1) 0 [I dk,I di,I dt,I dq,I dp] = WE at xp ⊢
   obtain ⟨d0,d1,d2,d3,d4⟩:=yB (H xp).1
   try simp only [Exit.inBlock,Exit.then]
   refine bodyPost_ret (by simp [results,Tryz.results137,go_sem,d0,d1,d2,d3,d4]; try rfl) rfl ?_
   exact ⟨by rw [H HQ]; rfl,(H xp).2⟩
 have bk9:(xm == 9) = false:=by simpa using jG
 have HQ:Hid (dr = 0):=by show _ = _; rw [H HDR3,if_neg (by simp [h9,jG])]
 clear h9 jG
 have v0:=R (H vJ) 0 rfl
 have v1:=R (H vJ) 1 rfl
 have v2:=R (H vJ) 2 rfl
 have v3:=R (H vJ) 3 rfl
 have v4:=R (H vJ) 4 rfl
 have z0:=R (H qy) 0 rfl
 have z1:=R (H qy) 1 rfl
 have z2:=R (H qy) 2 rfl
 have z3:=R (H qy) 3 rfl
 have z4:=R (H qy) 4 rfl
 have f0:=zd (H qy) 0 (by decide)
 have f1:=zd (H qy) 1 (by decide)
 have f2:=zd (H qy) 2 (by decide)
 have f3:=zd (H qy) 3 (by decide)
 have f4:=zd (H qy) 4 (by decide)
 go_wp2_with fail
 try simp (config:={ zetaDelta:=true }) only [Exit.noGoto_ret]
 change bodyPost _ _ _ _ _ (World.setCells cp (w.heap.size + 1) 0 [I dk,I di,I dt,I dq,I dp])
 have xp:Hid ((World.setCells cp (w.heap.size + 1) 0 [I dk,I di,I dt,I dq,I dp]).rangeAt (w.heap.size + 1) 0 [I dk,I di,I dt,I dq,I dp]∧yn w (World.setCells cp (w.heap.size + 1) 0 [I dk,I di,I dt,I dq,I dp])):=⟨(zF (H qy) (by simp only [List.length_cons,List.length_nil])).r,zj (w.heap.size + 1) (by omega) [I dk,I di,I dt,I dq,I dp] 0 cp (H xG)⟩
 generalize World.setCells cp (w.heap.size + 1) 0 [I dk,I di,I dt,I dq,I dp] = WE at xp ⊢
 obtain ⟨d0,d1,d2,d3,d4⟩:=yB (H xp).1
 try simp only [Exit.inBlock,Exit.then]
 refine bodyPost_ret (by simp [results,Tryz.results137,go_sem,d0,d1,d2,d3,d4]; try rfl) rfl ?_
 exact ⟨by rw [H HQ]; rfl,(H xp).2⟩
theorem zm {W:World} {b n j:Nat} (h:W.there b 0 n) (O:j < n):∃ u,W.cell? (U b j) = some u∧W.frozen? (U b j) = false:=by
 obtain ⟨Q,E⟩:=h j O
 rw [Nat.zero_add] at Q E
 obtain ⟨u,hu⟩:=Option.isSome_iff_exists.1 Q
 exact ⟨u,hu,E⟩
theorem bB {x:List Bool} {n j:Nat} (hx:x.length = n) (O:j < n):x[j]? = some false ∨ x[j]? = some true:=by
 rw [yH (by omega)]
 cases x[j] <;> simp
structure RW (C:Nat→Value→Prop) (n:Nat) (T:World→World) (base:World) (x:List Bool) (f:Nat→Value) (W:World):Prop where
 c:∀ j,x[j]? = some true→C j (f j)
 b:x[n]? = some false→Below base.heap.size base W
 m:x[n]? = some true→∃ xn,Below base.heap.size base xn∧W = T xn
def RWA (cl:(Nat→Value)→Act) (C:Nat→Value→Prop) (n:Nat) (T:World→World) (base:World) (x:List Bool) (fG:Act) (W:World):Prop:=∃ f,fG = cl f∧RW C n T base x f W
section
variable {C:Nat→Value→Prop} {n:Nat} {T:World→World} {base W W':World} {x:List Bool} {f:Nat→Value}
theorem zC (h:RW C n T base x f W) (i:Nat) (v:Value) (hv:C i v) (hn:i ≠ n):RW C n T base (x.set i true) (upd f i v) W:=by
 refine ⟨zB h.c hv,?_,?_⟩ <;> rw [gq hn]
 ·exact h.b
 ·exact h.m
theorem cQ (h:RW C n T base x f W) (hn:x[n]? = some false) (Y:yn W W'):RW C n T base x f W' :=
 ⟨h.c,fun e=>(h.b e).trans (Y.mono (h.b e).size),fun e=>by rw [hn] at e; cases e⟩
theorem rw_last (h:RW C n T base x f W) (hn:x[n]? = some false) (hc:∀ j,j = n→x[j]? = some false→C j (f j)):RW C n T base (x.set n true) f (T W):=by
 refine ⟨fun j O=>?_,?_,fun _=>⟨W,h.b hn,rfl⟩⟩
 ·by_cases hji:j = n
  ·exact hc j hji (by rw [hji]; exact hn)
  ·rw [gq (fun e=>hji e.symm)] at O; exact h.c j O
 ·intro e; rw [gqs hn] at e; cases e
end
theorem rw_lastv {C:Nat→Value→Prop} {n:Nat} {T:World→World} {base W:World} {x:List Bool} {f:Nat→Value} (h:RW C n T base x f W) (hn:x[n]? = some false) {v:Value} (hv:C n v):RW C n T base (x.set n true) (upd f n v) (T W):=by
 refine ⟨zB h.c hv,?_,fun _=>⟨W,h.b hn,rfl⟩⟩
 intro e; rw [gqs hn] at e; cases e
def CVw (vs:List (Option Value)) (P:Nat→Prop) (j:Nat) (v:Value):Prop:=(∀ u,vs[j]? = some (some u)→v = u)∧P j
theorem l03Better_any (o c:Od) (w:World) :
  Calls Tryz.prog 75 #[.agg (yw o.id o.side o.ticks o.left o.life o.tag).toArray,.agg (yw c.id c.side c.ticks c.left c.life c.tag).toArray] w fun e w'=>e = .returned (.bool (ahdB o c))∧w.grownBy w' none:=by
 by_cases h:o.ticks = c.ticks
 ·have h':(o.ticks == c.ticks) = true:=by simpa using h
  have HA:Hid (ahdB o c = decide (o.id < c.id)):=if_pos h
  go_enter Tryz.func75,Tryz.ntmps75
  go_wp2_with fail
  go_ret
  exact ⟨zp (H HA).symm,(World.grownBy_alloc _ _ _).trans (World.grownBy_alloc _ _ _)⟩
 ·have HA:Hid (ahdB o c = (decide (c.ticks < o.ticks) == decide (o.side = 1))):=if_neg h
  go_enter Tryz.func75,Tryz.ntmps75
  go_wp2_with fail
  go_ret
  exact ⟨zp (by rw [H HA]; rfl),(World.grownBy_alloc _ _ _).trans (World.grownBy_alloc _ _ _)⟩
theorem ey (v:Value) (l:List Od) (sd:Int) (w:World) (hr:RdR Od.vs 6 w v l) (hri:bC l) (hn:l.length ≤ 1000) :
  Calls Tryz.prog 50 #[v,I sd] w fun e w'=>∃ k:Int,e = .returned (I k)∧FrPre l sd l.length k∧w.grownBy w' none:=by
 obtain ⟨a,cap,rfl,xA,hc⟩:=hr
 have xr:∀ (k:Nat) (c:Od),l[k]? = some c→∃ b off,a = some (U b off)∧b < w.heap.size∧w.rangeAt b (off + k * 6) c.vs:=by
  intro k c hk
  obtain ⟨b,off,Q,E,h3⟩:=hc (by intro h; rw [h] at hk; simp at hk)
  exact ⟨b,off,Q,E,h3 k c hk⟩
 have HC:=M xr
 have HRI:=M hri
 clear xr hc hri
 go_enter Tryz.func50,Tryz.ntmps50
 go_wp2_with fail
 go_loopw [5,6] (fun bv iv wr=>∃ (k:Nat) (best:Int),bv = I best∧k ≤ l.length∧iv = I k∧Hid (FrPre l sd k best)∧w.grownBy wr none) (fun _ iv _=>l.length - (intOf iv).toNat)
 case atStart=>exact ⟨0,-1,rfl,Nat.zero_le _,rfl,.inl ⟨rfl,fun j o O=>by omega⟩,yR _ _⟩
 case round =>
  obtain ⟨k,best,rfl,hk,rfl,kf,hg⟩:=hrel
  have HG:=M hg
  clear hg
  by_cases xI:k < l.length
  ·obtain ⟨c,ur⟩:∃ c,l[k]? = some c:=⟨_,yH xI⟩
   obtain ⟨b,off,rfl,Y,V⟩:=H HC k c ur
   have jK:=M ur
   obtain ⟨g0,g1,g2,g3,g4,g5⟩:=zA (zw V (H HG) Y (by simp))
   have uJ:(k:Int) < l.length:=by omega
   have js:=M V
   have HHB:=M Y
   clear ur V
   by_cases hs:c.side = sd
   ·subst hs
    rcases H kf with ⟨rfl,vL⟩ | ⟨i,o,rfl,hi,qT,pD,hah⟩
    ·have HN:=M (frPre_first (H kf) (H jK) rfl)
     clear vL
     go_wp2_with fail
     go_quiet (fail)
     go_wp2_with fail
     go_roundw
     case rel=>exact ⟨k + 1,k,rfl,by omega,by go_num,H HN,cL (H HG) rfl rfl rfl rfl⟩
     case measure=>simp [intOf]; omega
    ·obtain ⟨b',qu,jF,hb',qr⟩:=H HC i o qT
     simp only [Option.some.injEq,Addr.mk.injEq,and_true] at jF
     obtain ⟨rfl,rfl⟩:=jF
     obtain ⟨e0,e1,e2,e3,e4,e5⟩:=zA (zw qr (H HG) Y (by simp))
     have hlti:(i:Int) < l.length:=by have:=(yG.1 qT).1; omega
     have vA:¬ ((i:Int) < 0):=by omega
     have hi0':decide ((i:Int) < 0) = false:=by simp
     have qO:Hid (∀ w',wr.grownBy w' none→w'.rangeAt b (off + k * 6) c.vs∧w'.rangeAt b (off + i * 6) o.vs):=fun w' h'=>⟨zw (zw (H js) (H HG) Y (by simp)) h' (yJ Y (H HG).size) (by simp),zw (zw qr (H HG) Y (by simp)) h' (yJ Y (H HG).size) (by simp)⟩
     have HHI:Hid (l[i]? = some o):=qT
     clear hah qT qr pD
     go_wp2_with fail
     refine dL (W:=wr) (by kernel_rfl) (by kernel_rfl) (yR _ _) ?_
     iterate 19 (
      refine bE (v:=?_) ?_ ?_ ?_
      rotate_left
      ·rfl
      ·intro w' un
       obtain ⟨c0,c1,c2,c3,c4,c5⟩:=zA (H qO w' un).1
       obtain ⟨d0,d1,d2,d3,d4,d5⟩:=zA (H qO w' un).2
       go_simp
       try rfl
      intro hR hK
      go_simp
      refine hK _ ?_
      clear hK hR)
     refine bE (v:=.bool (ahdB c o)) ?_ ?_ ?_
     ·rfl
     ·intro w' un
      go_simp
      refine (l03Better_any c o _).mono ?_
      rintro e w3 ⟨rfl,uG⟩
      exact ⟨rfl,un.trans uG⟩
     intro hR hK
     go_simp
     refine hK _ ?_
     clear hK hR
     iterate 2 (
      refine bE (v:=?_) ?_ ?_ ?_
      rotate_left
      ·rfl
      ·intro w' un
       go_simp
       try rfl
      intro hR hK
      go_simp
      refine hK _ ?_
      clear hK hR)
     refine wpQuiet_nil ?_
     intro w2 uZ
     have uh:=M ((H HG).trans uZ)
     clear uZ g0 g1 g2 g3 g4 g5 e0 e1 e2 e3 e4 e5
     cases hah:ahdB c o
     ·have HN:=M (frPre_worse (H HRI) (H kf) (H HHI) (H jK) rfl hah)
      go_wp2_with fail
      go_roundw
      case rel=>exact ⟨k + 1,i,rfl,by omega,by go_num,H HN,H uh⟩
      case measure=>simp [intOf]; omega
     ·have HN:=M (frPre_better (H HRI) (H kf) (H HHI) (H jK) rfl hah)
      go_wp2_with fail
      go_roundw
      case rel=>exact ⟨k + 1,k,rfl,by omega,by go_num,H HN,H uh⟩
      case measure=>simp [intOf]; omega
   ·have HN:=M (frPre_skip (H kf) (H jK) hs)
    have hs':(c.side == sd) = false:=by simpa using hs
    go_wp2_with fail
    go_quiet (fail)
    go_wp2_with fail
    go_roundw
    case rel=>exact ⟨k + 1,best,rfl,by omega,by go_num,H HN,cL (H HG) rfl rfl rfl rfl⟩
    case measure=>simp [intOf]; omega
  ·go_wp2_with fail
   go_ret
   have h:=H kf
   rw [show k = l.length by omega] at h
   exact ⟨_,rfl,h,H HG⟩
theorem nex_stop {l:List Od} {t:Od} (h:t.left = 0):NexS l t (-1):=.inl ⟨rfl,.inl h⟩
theorem nex_none {l:List Od} {t:Od} (h:aV l (othS t.side) = none):NexS l t (-1):=.inl ⟨rfl,.inr (.inl h)⟩
theorem nex_no {l:List Od} {t o:Od} (h:aV l (othS t.side) = some o) (hc:bR t.side t.ticks o = false):NexS l t (-1):=.inl ⟨rfl,.inr (.inr ⟨o,h,hc⟩)⟩
theorem fh (v:Value) (l:List Od) (t:Od) (w:World) (hr:RdR Od.vs 6 w v l) (hri:bC l) (hn:l.length ≤ 1000) (uT:t.side = 1 ∨ t.side = 2) :
  Calls Tryz.prog 53 #[v,.agg (yw t.id t.side t.ticks t.left t.life t.tag).toArray] w fun e w'=>∃ k:Int,e = .returned (I k)∧NexS l t k∧yn w w':=by
 have HR:=M hr
 obtain ⟨a,cap,rfl,xA,hc⟩:=hr
 have xr:∀ (k:Nat) (c:Od),l[k]? = some c→∃ b off,a = some (U b off)∧b < w.heap.size∧w.rangeAt b (off + k * 6) c.vs:=by
  intro k c hk
  obtain ⟨b,off,Q,E,h3⟩:=hc (by intro h; rw [h] at hk; simp at hk)
  exact ⟨b,off,Q,E,h3 k c hk⟩
 have HC:=M xr
 have HRI:=M hri
 have HOT:=M (oth_of uT)
 have xK:1 ≤ t.side:=by omega
 have ue:t.side ≤ 2:=by omega
 have ud:Hid (yn w (w.alloc (A (yw t.id t.side t.ticks t.left t.life t.tag).toArray 78))):=fE _ _
 have HX:Hid (World.rangeAt (w.alloc (A (yw t.id t.side t.ticks t.left t.life t.tag).toArray 78)) w.heap.size 0 t.vs∧w.heap.size < (w.alloc (A (yw t.id t.side t.ticks t.left t.life t.tag).toArray 78)).heap.size):=⟨zn w t.vs _,by rw [zi]; omega⟩
 clear xr hc hri uT
 go_enter Tryz.func53,Tryz.ntmps53
 go_wp2_with fail
 generalize (w.alloc (A (yw t.id t.side t.ticks t.left t.life t.tag).toArray 78)) = W1 at ud HX ⊢
 refine (ey _ l _ W1 (zh (H HR) (H ud) ya) (H HRI) hn).mono ?_
 rintro e w2 ⟨k,rfl,hf,uZ⟩
 have HF:=M (front_pre (H HRI) hf)
 have xu:=M ((H ud).trans ((dR uZ (fun g hg=>by cases hg) ya).mono (H ud).size))
 have xH:=M (zw (H HX).1 uZ (H HX).2 (by simp))
 have hlt2:w.heap.size < w2.heap.size:=yJ (H HX).2 uZ.size
 have oC:Hid (∀ (k:Nat) (c:Od),l[k]? = some c→∃ b off,a = some (U b off)∧b < w2.heap.size∧w2.rangeAt b (off + k * 6) c.vs):=fun k c hk=>by
  obtain ⟨b,off,Q,E,h3⟩:=H HC k c hk
  exact ⟨b,off,Q,by omega,zc h3 (H xu) E⟩
 obtain ⟨t0,t1,t2,t3,t4,t5⟩:=zA (H xH)
 clear hf uZ xK ue
 by_cases h0:t.left = 0
 ·have HN:=M (nex_stop (l:=l) h0)
  have b0:(t.left == 0) = true:=by simpa using h0
  clear h0
  go_wp2_with fail
  go_quiet (fail)
  go_wp2_with fail
  go_ret
  exact ⟨_,rfl,H HN,zV (H xu) _⟩
 have b0:(t.left == 0) = false:=by simpa using h0
 rcases H HF with ⟨rfl,vL⟩ | ⟨i,o,rfl,hi,qT,ow⟩
 ·have HN:=M (nex_none (l:=l) (t:=t) (by rw [← H HOT]; exact vL))
  clear vL h0
  go_wp2_with fail
  go_quiet (fail)
  go_wp2_with fail
  go_ret
  exact ⟨_,rfl,H HN,zV (H xu) _⟩
 have HFO:Hid (aV l (othS t.side) = some o):=by rw [← H HOT]; exact ow
 have HIO:=M qT
 obtain ⟨b,off,rfl,Y,V⟩:=H oC i o qT
 have HL0:=M h0
 have qO:Hid (∀ w',w2.grownBy w' none→w'.rangeAt w.heap.size 0 t.vs∧w'.rangeAt b (off + i * 6) o.vs):=fun w' h'=>⟨zw (H xH) h' hlt2 (by simp),zw V h' Y (by simp)⟩
 have hlti:(i:Int) < l.length:=by omega
 have vA:¬ ((i:Int) < 0):=by omega
 have hi0':decide ((i:Int) < 0) = false:=by simp
 clear ow qT V h0 HF HOT
 go_wp2_with fail
 refine dL (W:=w2) (by kernel_rfl) (by kernel_rfl) (yR _ _) ?_
 iterate 16 (
  refine bE (v:=?_) ?_ ?_ ?_
  rotate_left
  ·rfl
  ·intro w' un
   obtain ⟨c0,c1,c2,c3,c4,c5⟩:=zA (H qO w' un).1
   obtain ⟨d0,d1,d2,d3,d4,d5⟩:=zA (H qO w' un).2
   go_simp
   try rfl
  intro hR hK
  go_simp
  refine hK _ ?_
  clear hK hR)
 refine bE (v:=.bool (bR t.side t.ticks o)) ?_ ?_ ?_
 ·rfl
 ·intro w' un
  go_simp
  refine (l04Crosses_any t.side t.ticks o _).mono ?_
  rintro e w3 ⟨rfl,uG⟩
  exact ⟨rfl,un.trans (cK uG ya)⟩
 intro hR hK
 go_simp
 refine hK _ ?_
 clear hK hR
 cases kG:bR t.side t.ticks o
 ·have HN:=M (nex_no (H HFO) kG)
  iterate 2 (
   refine bE (v:=?_) ?_ ?_ ?_
   rotate_left
   ·rfl
   ·intro w' un
    go_simp
    try rfl
   intro hR hK
   go_simp
   refine hK _ ?_
   clear hK hR)
  refine wpQuiet_nil ?_
  intro w3 uG
  have xL:=M ((H xu).grown uG (H xu).size (fun g hg=>by cases hg))
  clear uG
  go_wp2_with fail
  go_ret
  exact ⟨_,rfl,H HN,H xL⟩
 ·have HN:Hid (NexS l t i):=.inr ⟨i,o,rfl,hi,H HIO,H HFO,kG,H HL0⟩
  iterate 2 (
   refine bE (v:=?_) ?_ ?_ ?_
   rotate_left
   ·rfl
   ·intro w' un
    go_simp
    try rfl
   intro hR hK
   go_simp
   refine hK _ ?_
   clear hK hR)
  refine wpQuiet_nil ?_
  intro w3 uG
  have xL:=M ((H xu).grown uG (H xu).size (fun g hg=>by cases hg))
  clear uG
  go_wp2_with fail
  go_ret
  exact ⟨_,rfl,H HN,H xL⟩
end Go.Proofs.YtnphbkgfjanmgaaGreatDoor
