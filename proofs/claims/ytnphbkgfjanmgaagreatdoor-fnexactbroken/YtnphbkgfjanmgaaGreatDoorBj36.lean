/-
  The rule that an event of a group breaks, by the model: proved by walking the methods.
-/
import Derived.Test.YtnphbkgfjanmgaaGreatDoorBj35
set_option linter.unusedVariables false
set_option maxHeartbeats 6400000
set_option maxRecDepth 100000
namespace Go.Proofs.YtnphbkgfjanmgaaGreatDoor
open Go.RowKit
theorem first_6 {hj B:Nat} {vl vd va:Value} {g:Gr} {t:Od} {kd n0:Int} {dy l0:List Od} (ck L ct F cq ci:Int) (X:Nat) (cg:ByteArray) (id xi qty xj xh:Int) (w:World) (h:MS hj B w vl vd va g t kd n0 dy l0) (hi:GI g) (Y:g.bg = 0) (hg:cg.size ≤ maxLen):Calls Tryz.prog 67 #[J hj 0,.agg (yv 6 ck L ct F cq ci X cg id xi qty xj xh).toArray] w fun x w'=>x = .returned (I (fstM g.nx g.l ⟨6,⟨ck,L,ct,F,cq,ci,X,cg⟩,id,xi,qty,xj,xh⟩))∧yn w w':=by
 have hsf:=sfl
 have vZ:=M (fun W=>dj 6 W (by decide))
 have uw:=M (fun W=>dZ ⟨6,⟨ck,L,ct,F,cq,ci,X,cg⟩,id,xi,qty,xj,xh⟩ W (by show (1:Int) ≤ 6∧(6:Int) ≤ 9; decide))
 have qL:=M (hi.good (.inl (by omega)))
 have HSI:=M (hi.start Y).2.2.1
 have xA:=hi.len
 have vY:Hid (fstM g.nx g.l ⟨6,⟨ck,L,ct,F,cq,ci,X,cg⟩,id,xi,qty,xj,xh⟩ = if refR g.nx g.l (aU ⟨6,⟨ck,L,ct,F,cq,ci,X,cg⟩,id,xi,qty,xj,xh⟩) = 0 then (if qty = leftAt g.l id then 0 else 7) else 5):=by show _ = _; simp [fstM,zO]
 have oa:Hid ((aU ⟨6,⟨ck,L,ct,F,cq,ci,X,cg⟩,id,xi,qty,xj,xh⟩).g.size ≤ maxLen):=dQ hg
 have ax:=M (h.eqn Y)
 have aA:Hid (refR g.nx g.l (aU ⟨6,⟨ck,L,ct,F,cq,ci,X,cg⟩,id,xi,qty,xj,xh⟩) = 0→∃ (k:Nat) (o:Od),plc g.l id = k∧g.l[k]? = some o):=fun E=>by
  simp only [aU] at E
  obtain ⟨k,o,a,b,_⟩:=plc_pos (ref_can E)
  exact ⟨k,o,a,b⟩
 generalize fstM g.nx g.l ⟨6,⟨ck,L,ct,F,cq,ci,X,cg⟩,id,xi,qty,xj,xh⟩ = fm at vY ⊢
 generalize aU ⟨6,⟨ck,L,ct,F,cq,ci,X,cg⟩,id,xi,qty,xj,xh⟩ = c at uw vY oa aA
 unfold evV at uw
 simp only at uw
 obtain ⟨xz,HX⟩:=fJ w (yv 6 ck L ct F cq ci X cg id xi qty xj xh) 52
 have HS:Hid ((w.alloc (A (yv 6 ck L ct F cq ci X cg id xi qty xj xh).toArray 52)).heap.size = w.heap.size + 1):=by show _ = _; simp
 have HM:=M (zv h xz)
 have HB:=M xz
 clear h xz hi Y hg
 go_enter Tryz.func67,Tryz.ntmps67
 refine fI fun hR HK=>?_
 go_wp2_with fail
 refine H HK _ _ ?_
 clear HK
 generalize (w.alloc (A (yv 6 ck L ct F cq ci X cg id xi qty xj xh).toArray 52)) = W1 at HS HX HM HB ⊢
 obtain ⟨e0,e1,e2,e3,e4,e5,e6,e7,e8,e9,uy,uk,uW,uA⟩:=yy (H HX)
 go_wp2_with fail
 refine (H vZ W1).mono ?_
 rintro e w1 ⟨rfl,qB⟩
 rw [qB]
 clear qB
 go_wp2_with fail
 refine (H uw W1).mono ?_
 rintro e w3 ⟨rfl,xM⟩
 have hz:=H HS
 obtain ⟨dk,ds,dt,dl,dq,di,dp,dg⟩:=c
 unfold cmV
 simp only
 have xw:=fE w3 (A (yx dk ds dt dl dq di dp dg).toArray 50)
 have uP:=xM.trans (xw.mono xM.size)
 have xE:=M (zg (H HX) uP (by omega))
 have qd:=M (zv (H HM) uP)
 have xG:=M (fH (H HB) uP)
 have vJ:=M (zq w3 (yx dk ds dt dl dq di dp dg) 50)
 have oJ:w.heap.size < (w3.alloc (A (yx dk ds dt dl dq di dp dg).toArray 50)).heap.size:=by have:=xM.size; simp; omega
 clear xM xw uP hz HX HM HB HS e0 e1 e2 e3 e4 e5 e6 e7 e8 e9 uy uk uW uA
 go_wp2_with fail
 generalize (w3.alloc (A (yx dk ds dt dl dq di dp dg).toArray 50)) = cp at xE qd xG vJ oJ ⊢
 have xX:Hid (Bx cp.drew w.heap.size (yv 6 ck L ct F cq ci X cg id xi qty xj xh)):=zJ (H xE)
 have vN:Hid (MS hj B cp.drew vl vd va g t kd n0 dy l0):=zv (H qd) ⟨rfl,rfl,rfl,Nat.le_refl _,fun _ _=>rfl⟩
 have vy:Hid (yn w cp.drew):=⟨(H xG).os,(H xG).tape,(H xG).output,(H xG).size,(H xG).block⟩
 have vB:Hid (Bx cp.drew w3.heap.size (yx dk ds dt dl dq di dp dg)):=zJ (H vJ)
 clear xE qd xG vJ
 obtain ⟨d0,d1,d2,d3,d4,d5,d6,d7⟩:=yz (H vB)
 have c11:=R (H vN).box 11 rfl
 have c12:=R (H vN).box 12 rfl
 have vk:Hid (Calls Tryz.prog 106 #[.agg #[I n0,va],.agg (yx dk ds dt dl dq di dp dg).toArray] cp.drew fun e w'=>e = .returned (I (refR g.nx g.l ⟨dk,ds,dt,dl,dq,di,dp,dg⟩))∧Below cp.drew.heap.size cp.drew w'):=by
  have Q:=(H vN).ahd
  rw [(H ax).2] at Q
  have:=ec g.nx va g.l ⟨dk,ds,dt,dl,dq,di,dp,dg⟩ cp.drew Q (H vN).sla (H qL) (H HSI) (H oa)
  rw [ref_eq] at this
  rw [(H ax).1]
  exact this
 refine zE 5 (by kernel_rfl) (by kernel_rfl) ?_
 simp only [yT,List.take_zero,yU,List.drop_zero]
 repeat still_step
 refine wpStill_nil ?_
 clear d0 d1 d2 d3 d4 d5 d6 d7 c11 c12
 go_wp2_with fail
 refine (H vk).mono ?_
 rintro e w5 ⟨rfl,uf⟩
 have uI:=M (zg (H xX) uf oJ)
 have vz:=M (zv (H vN) uf)
 have ug:=M (fH (H vy) uf)
 clear uf vk xX vN vy vB
 generalize refR g.nx g.l ⟨dk,ds,dt,dl,dq,di,dp,dg⟩ = rr at vY aA ⊢
 have e0:=R (H uI) 0 rfl
 have e9:=R (H uI) 9 rfl
 have uk:=R (H uI) 11 rfl
 have uA:=R (H uI) 13 rfl
 by_cases h0:rr = 0
 case neg =>
  have b0:(rr != 0) = true:=by simpa using h0
  have HQ:Hid (fm = 5):=by show _ = _; rw [H vY,if_neg h0]
  clear h0
  go_wp2_with fail
  go_ret
  exact ⟨by rw [H HQ]; rfl,H ug⟩
 have b0:(rr != 0) = false:=by simpa using h0
 have vC:=M (H vY)
 rw [if_pos h0] at vC
 obtain ⟨k,o,uQ,uX⟩:=H aA h0
 clear h0 vY aA
 rw [leftAt_at uQ uX] at vC
 obtain ⟨a,cap,rfl,aI,hdc⟩:=zK (H vz).row (yN xA (by decide))
 obtain ⟨b,off,rfl,kC,V⟩:=hdc (by intro h; rw [h] at uX; simp at uX)
 obtain ⟨-,-,-,y3,-,-⟩:=zA (V k o uX)
 have pa:=(yG.1 uX).1
 have hkl':(k:Int) < g.l.length:=by omega
 have pA:(0:Int) ≤ k:=by omega
 have uR:=M (zK (H vz).row (yN xA (by decide)))
 have c1:=R (H vz).box 1 rfl
 have k1:=cell_regrown c1
 have k9:=cell_regrown e9
 have ar:=cell_regrown uk
 have k3:=cell_regrown y3
 have cf:∀ d os,Calls Tryz.prog 78 #[.slice (some (U b off)) g.l.length cap,I id] (Go.Sort.grow (redrawn w5 d) os) fun e w''=>e = .returned (I k)∧∃ p:Regrown,w'' = Go.Sort.grow (redrawn w5 p.d) p.os:=fun d os=>Calls.regrown_of (by
  have:=du _ g.l id (Go.Sort.grow (redrawn w5 d) os) (zh (H uR) (below_regrown w5 d os) ya)
  rw [uQ] at this
  exact this)
 generalize o.left = ol at vC k3 y3
 clear uQ uX hdc V
 go_wp2_with fail
 refine wp_region_quiet_below (by kernel_rfl) (by kernel_rfl) ?_
 clear c1 e0 e9 uk uA y3
 repeat (quiet_step (first | (with_reducible exact cf _ _)))
 refine wpQuiet_nil ?_
 rintro w' ⟨p,un⟩
 have qw:Hid (yn w w'):=by
  rw [un]
  exact (H ug).trans ((below_regrown w5 p.d p.os).mono (H ug).size)
 clear un cf k1 k9 ar k3
 by_cases Q:qty = ol
 ·have b1:(qty != ol) = false:=by simpa using Q
  rw [if_pos Q] at vC
  clear Q
  go_wp2_with fail
  go_ret
  exact ⟨by rw [H vC]; rfl,H qw⟩
 ·have b1:(qty != ol) = true:=by simpa using Q
  rw [if_neg Q] at vC
  clear Q
  go_wp2_with fail
  go_ret
  exact ⟨by rw [H vC]; rfl,H qw⟩
theorem first_8 {hj B:Nat} {vl vd va:Value} {g:Gr} {t:Od} {kd n0:Int} {dy l0:List Od} (ck L ct F cq ci:Int) (X:Nat) (cg:ByteArray) (id xi qty xj xh:Int) (w:World) (h:MS hj B w vl vd va g t kd n0 dy l0) (hi:GI g) (Y:g.bg = 0) (hg:cg.size ≤ maxLen):Calls Tryz.prog 67 #[J hj 0,.agg (yv 8 ck L ct F cq ci X cg id xi qty xj xh).toArray] w fun x w'=>x = .returned (I (fstM g.nx g.l ⟨8,⟨ck,L,ct,F,cq,ci,X,cg⟩,id,xi,qty,xj,xh⟩))∧yn w w':=by
 have hsf:=sfl
 have vZ:=M (fun W=>dj 8 W (by decide))
 have uw:=M (fun W=>dZ ⟨8,⟨ck,L,ct,F,cq,ci,X,cg⟩,id,xi,qty,xj,xh⟩ W (by show (1:Int) ≤ 8∧(8:Int) ≤ 9; decide))
 have qL:=M (hi.good (.inl (by omega)))
 have HSI:=M (hi.start Y).2.2.1
 have xA:=hi.len
 have vY:Hid (fstM g.nx g.l ⟨8,⟨ck,L,ct,F,cq,ci,X,cg⟩,id,xi,qty,xj,xh⟩ = if refR g.nx g.l (aU ⟨8,⟨ck,L,ct,F,cq,ci,X,cg⟩,id,xi,qty,xj,xh⟩) = 0 then (if qty = ((dys g.l).length:Int) then 0 else 7) else 5):=by show _ = _; simp [fstM,zO]
 have oa:Hid ((aU ⟨8,⟨ck,L,ct,F,cq,ci,X,cg⟩,id,xi,qty,xj,xh⟩).g.size ≤ maxLen):=dQ hg
 have ax:=M (h.eqn Y)
 generalize fstM g.nx g.l ⟨8,⟨ck,L,ct,F,cq,ci,X,cg⟩,id,xi,qty,xj,xh⟩ = fm at vY ⊢
 generalize aU ⟨8,⟨ck,L,ct,F,cq,ci,X,cg⟩,id,xi,qty,xj,xh⟩ = c at uw vY oa
 unfold evV at uw
 simp only at uw
 obtain ⟨xz,HX⟩:=fJ w (yv 8 ck L ct F cq ci X cg id xi qty xj xh) 52
 have HS:Hid ((w.alloc (A (yv 8 ck L ct F cq ci X cg id xi qty xj xh).toArray 52)).heap.size = w.heap.size + 1):=by show _ = _; simp
 have HM:=M (zv h xz)
 have HB:=M xz
 clear h xz hi Y hg
 go_enter Tryz.func67,Tryz.ntmps67
 refine fI fun hR HK=>?_
 go_wp2_with fail
 refine H HK _ _ ?_
 clear HK
 generalize (w.alloc (A (yv 8 ck L ct F cq ci X cg id xi qty xj xh).toArray 52)) = W1 at HS HX HM HB ⊢
 obtain ⟨e0,e1,e2,e3,e4,e5,e6,e7,e8,e9,uy,uk,uW,uA⟩:=yy (H HX)
 go_wp2_with fail
 refine (H vZ W1).mono ?_
 rintro e w1 ⟨rfl,qB⟩
 rw [qB]
 clear qB
 go_wp2_with fail
 refine (H uw W1).mono ?_
 rintro e w3 ⟨rfl,xM⟩
 have hz:=H HS
 obtain ⟨dk,ds,dt,dl,dq,di,dp,dg⟩:=c
 unfold cmV
 simp only
 have xw:=fE w3 (A (yx dk ds dt dl dq di dp dg).toArray 50)
 have uP:=xM.trans (xw.mono xM.size)
 have xE:=M (zg (H HX) uP (by omega))
 have qd:=M (zv (H HM) uP)
 have xG:=M (fH (H HB) uP)
 have vJ:=M (zq w3 (yx dk ds dt dl dq di dp dg) 50)
 have oJ:w.heap.size < (w3.alloc (A (yx dk ds dt dl dq di dp dg).toArray 50)).heap.size:=by have:=xM.size; simp; omega
 clear xM xw uP hz HX HM HB HS e0 e1 e2 e3 e4 e5 e6 e7 e8 e9 uy uk uW uA
 go_wp2_with fail
 generalize (w3.alloc (A (yx dk ds dt dl dq di dp dg).toArray 50)) = cp at xE qd xG vJ oJ ⊢
 have xX:Hid (Bx cp.drew w.heap.size (yv 8 ck L ct F cq ci X cg id xi qty xj xh)):=zJ (H xE)
 have vN:Hid (MS hj B cp.drew vl vd va g t kd n0 dy l0):=zv (H qd) ⟨rfl,rfl,rfl,Nat.le_refl _,fun _ _=>rfl⟩
 have vy:Hid (yn w cp.drew):=⟨(H xG).os,(H xG).tape,(H xG).output,(H xG).size,(H xG).block⟩
 have vB:Hid (Bx cp.drew w3.heap.size (yx dk ds dt dl dq di dp dg)):=zJ (H vJ)
 clear xE qd xG vJ
 obtain ⟨d0,d1,d2,d3,d4,d5,d6,d7⟩:=yz (H vB)
 have c11:=R (H vN).box 11 rfl
 have c12:=R (H vN).box 12 rfl
 have vk:Hid (Calls Tryz.prog 106 #[.agg #[I n0,va],.agg (yx dk ds dt dl dq di dp dg).toArray] cp.drew fun e w'=>e = .returned (I (refR g.nx g.l ⟨dk,ds,dt,dl,dq,di,dp,dg⟩))∧Below cp.drew.heap.size cp.drew w'):=by
  have Q:=(H vN).ahd
  rw [(H ax).2] at Q
  have:=ec g.nx va g.l ⟨dk,ds,dt,dl,dq,di,dp,dg⟩ cp.drew Q (H vN).sla (H qL) (H HSI) (H oa)
  rw [ref_eq] at this
  rw [(H ax).1]
  exact this
 refine zE 5 (by kernel_rfl) (by kernel_rfl) ?_
 simp only [yT,List.take_zero,yU,List.drop_zero]
 repeat still_step
 refine wpStill_nil ?_
 clear d0 d1 d2 d3 d4 d5 d6 d7 c11 c12
 go_wp2_with fail
 refine (H vk).mono ?_
 rintro e w5 ⟨rfl,uf⟩
 have uI:=M (zg (H xX) uf oJ)
 have vz:=M (zv (H vN) uf)
 have ug:=M (fH (H vy) uf)
 clear uf vk xX vN vy vB
 generalize refR g.nx g.l ⟨dk,ds,dt,dl,dq,di,dp,dg⟩ = rr at vY ⊢
 have e0:=R (H uI) 0 rfl
 have e9:=R (H uI) 9 rfl
 have uk:=R (H uI) 11 rfl
 have uA:=R (H uI) 13 rfl
 by_cases h0:rr = 0
 case neg =>
  have b0:(rr != 0) = true:=by simpa using h0
  have HQ:Hid (fm = 5):=by show _ = _; rw [H vY,if_neg h0]
  clear h0
  go_wp2_with fail
  go_ret
  exact ⟨by rw [H HQ]; rfl,H ug⟩
 have b0:(rr != 0) = false:=by simpa using h0
 have vC:=M (H vY)
 rw [if_pos h0] at vC
 clear h0 vY
 have c1:=R (H vz).box 1 rfl
 have uR:=M (zK (H vz).row (yN xA (by decide)))
 have HDA:=M (fun W (h:RdR Od.vs 6 W vl g.l)=>l04Days_any vl g.l W h (yN xA (by decide)))
 generalize dys g.l = dn8 at vC HDA
 have HEN:Hid (∀ W,yn w5 W→yn w W):=fun W h=>(H ug).trans (h.mono (H ug).size)
 go_wp2_with fail
 refine zk (RG w5 (fun f=>{ tmps:=#[J hj 0,.agg (yv 8 ck L ct F cq ci X cg id xi qty xj xh).toArray,Z,J w.heap.size 0,I 0,J w3.heap.size 0,.bool (zO 8),I rr,J w.heap.size 0,I 8,.bool (zO 8),.bool false,.tuple #[.agg (yx dk ds dt dl dq di dp dg).toArray,.bool (zO 8)],.agg (yv 8 ck L ct F cq ci X cg id xi qty xj xh).toArray,.tuple #[.agg (yx dk ds dt dl dq di dp dg).toArray,.bool (zO 8)],.agg (yx dk ds dt dl dq di dp dg).toArray,.bool (zO 8),J hj 0,J hj 0,J hj 11,.agg #[I n0,va],.agg (yx dk ds dt dl dq di dp dg).toArray,I rr,J w.heap.size 0,I 8,.bool false,Z,Z,Z,Z,Z,Z,Z,Z,I rr,.bool false,J w.heap.size 0,I 8,.bool false,.bool false,Z,Z,Z,Z,Z,Z,Z,.bool false,.bool false,Z,Z,Z,Z,Z,Z,Z,Z,Z,Z,Z,Z,Z,Z,Z,Z,Z,.bool true,.bool true,f 0,f 1,f 2,f 3,f 4,f 5,f 6,f 7,f 8],defers:=[] }) 99 (DYc [some (J w.heap.size 11),some (I qty),some (J hj 0),some (J hj 0),some (J hj 1),some (vl),none,some (I (dn8.length:Int)),some (.bool (qty != (dn8.length:Int)))] dn8.length)) (by kernel_rfl) ?_ ?_ ?_
 ·exact ⟨fun _=>Z,rfl,⟨rfl,rfl,rfl,Nat.le_refl _,fun _ _=>rfl⟩,fun j O=>by rw [yI] at O; split at O <;> simp at O⟩
 ·rintro x fG xn ⟨f,rfl,xk,hD⟩ hx xN
  have xo:=zN xN hx (acyc _ (by kernel_rfl))
  have g8:f 8 = .bool (qty != (dn8.length:Int)):=(hD 8 (xo 8 (by simp))).2 _ rfl
  have qw:=M (H HEN xn xk)
  clear hD xo xN hx xk
  dsimp only
  simp only [g8]
  generalize f 0 = v0,f 1 = v1,f 2 = v2,f 3 = v3,f 4 = v4,f 5 = v5,f 6 = v6,f 7 = v7
  clear g8
  generalize dn8.length = dn at vC ⊢
  by_cases Q:qty = (dn:Int)
  ·have b1:(qty != (dn:Int)) = false:=by simpa using Q
   rw [if_pos Q] at vC
   clear Q
   go_wp2_with fail
   go_ret
   exact ⟨by rw [H vC]; rfl,H qw⟩
  ·have b1:(qty != (dn:Int)) = true:=by simpa using Q
   rw [if_neg Q] at vC
   clear Q
   go_wp2_with fail
   go_ret
   exact ⟨by rw [H vC]; rfl,H qw⟩
 ·rintro x fG xn i op ⟨f,rfl,xk,hD⟩ V hx N xq D
  clear V
  have xy:=M xk
  have HD:=M hD
  have ql:=M (zh (H uR) xk ya)
  have xl:∀ (p:Addr) u,w5.cell? p = some u→xn.cell? p = some u:=fun p u hu=>(xk.cell (yK w5 _ hu)).trans hu
  match i,N with
  | 0,N =>
   obtain rfl:=yb N
   clear D hD xk xl c1 e0 e9 uk uA
   rw [if_pos (by rfl)];unfold Oper.wp;go_simp
   exact ⟨upd f 0 (J w.heap.size 11),by simp [upd],zf (H xy) (H HD) (by decide) ⟨fun h=>absurd h (by decide),yi rfl⟩⟩
  | 1,N =>
   obtain rfl:=yb N
   have g0:=(hD 0 (ye D 0 rfl)).2 _ rfl
   have z:=xl (U w.heap.size 11) _ uk
   clear D hD xk xl c1 e0 e9 uk uA
   rw [if_pos (by rfl)];unfold Oper.wp;go_simp
   exact ⟨upd f 1 (I qty),by simp [upd,g0],zf (H xy) (H HD) (by decide) ⟨fun h=>absurd h (by decide),yi rfl⟩⟩
  | 2,N =>
   obtain rfl:=yb N
   clear D hD xk xl c1 e0 e9 uk uA
   rw [if_pos (by rfl)];unfold Oper.wp;go_simp
   exact ⟨upd f 2 (J hj 0),by simp [upd],zf (H xy) (H HD) (by decide) ⟨fun h=>absurd h (by decide),yi rfl⟩⟩
  | 3,N =>
   obtain rfl:=yb N
   have g2:=(hD 2 (ye D 2 rfl)).2 _ rfl
   clear D hD xk xl c1 e0 e9 uk uA
   rw [if_pos (by rfl)];unfold Oper.wp;go_simp
   exact ⟨upd f 3 (J hj 0),by simp [upd,g2],zf (H xy) (H HD) (by decide) ⟨fun h=>absurd h (by decide),yi rfl⟩⟩
  | 4,N =>
   obtain rfl:=yb N
   have g3:=(hD 3 (ye D 3 rfl)).2 _ rfl
   clear D hD xk xl c1 e0 e9 uk uA
   rw [if_pos (by rfl)];unfold Oper.wp;go_simp
   exact ⟨upd f 4 (J hj 1),by simp [upd,g3],zf (H xy) (H HD) (by decide) ⟨fun h=>absurd h (by decide),yi rfl⟩⟩
  | 5,N =>
   obtain rfl:=yb N
   have g4:=(hD 4 (ye D 4 rfl)).2 _ rfl
   have z:=xl (U hj 1) _ c1
   clear D hD xk xl c1 e0 e9 uk uA
   rw [if_pos (by rfl)];unfold Oper.wp;go_simp
   exact ⟨upd f 5 (vl),by simp [upd,g4],zf (H xy) (H HD) (by decide) ⟨fun h=>absurd h (by decide),yi rfl⟩⟩
  | 6,N =>
   obtain rfl:=yb N
   have g5:=(hD 5 (ye D 5 rfl)).2 _ rfl
   clear D hD xk xl c1 e0 e9 uk uA
   rw [if_pos (by rfl)];unfold Oper.wp;go_simp
   refine (H HDA xn (H ql)).mono ?_
   rintro e w6 ⟨v6,rfl,uK,kp⟩
   exact ⟨upd f 6 v6,by simp [upd,g5],co dyc_mono (H xy) (H HD) kp (by decide) ⟨fun _=>iRow_slice uK,fun u hu=>by cases hu⟩⟩
  | 7,N =>
   obtain rfl:=yb N
   obtain ⟨a6,c6,g6⟩:=(hD 6 (ye D 6 rfl)).1 rfl
   clear D hD xk xl c1 e0 e9 uk uA
   rw [if_pos (by rfl)];unfold Oper.wp;go_simp
   exact ⟨upd f 7 (I (dn8.length:Int)),by simp [upd,g6],zf (H xy) (H HD) (by decide) ⟨fun h=>absurd h (by decide),yi rfl⟩⟩
  | 8,N =>
   obtain rfl:=yb N
   have g1:=(hD 1 (ye D 1 rfl)).2 _ rfl
   have g7:=(hD 7 (ye D 7 rfl)).2 _ rfl
   clear D hD xk xl c1 e0 e9 uk uA
   rw [if_pos (by rfl)];unfold Oper.wp;go_simp
   exact ⟨upd f 8 (.bool (qty != (dn8.length:Int))),by simp [upd,g1,g7],zf (H xy) (H HD) (by decide) ⟨fun h=>absurd h (by decide),yi rfl⟩⟩
  | i + 9,N=>simp at N
theorem first_any {hj B:Nat} {vl vd va:Value} {g:Gr} {t:Od} {kd n0:Int} {dy l0:List Od} (e:Ev) (w:World) (h:MS hj B w vl vd va g t kd n0 dy l0) (hi:GI g) (Y:g.bg = 0) (hk:1 ≤ e.kind∧e.kind ≤ 9) (hg:e.cmd.g.size ≤ maxLen):Calls Tryz.prog 67 #[J hj 0,evV e] w fun x w'=>x = .returned (I (fstM g.nx g.l e))∧yn w w':=by
 obtain ⟨xm,⟨ck,L,ct,F,cq,ci,X,cg⟩,id,xi,qty,xj,xh⟩:=e
 unfold evV
 simp only at hk hg ⊢
 rcases (show xm = 1 ∨ xm = 2 ∨ xm = 3 ∨ xm = 4 ∨ xm = 5 ∨ xm = 6 ∨ xm = 7 ∨ xm = 8 ∨ xm = 9 by omega) with rfl | rfl | rfl | rfl | rfl | rfl | rfl | rfl | rfl
 ·exact first_1 ck L ct F cq ci X cg id xi qty xj xh w h hi Y hg
 ·exact first_2 ck L ct F cq ci X cg id xi qty xj xh w h hi Y hg
 ·exact eK 3 ck L ct F cq ci X cg id xi qty xj xh hj g w (by decide) rfl
 ·exact eK 4 ck L ct F cq ci X cg id xi qty xj xh hj g w (by decide) rfl
 ·exact eK 5 ck L ct F cq ci X cg id xi qty xj xh hj g w (by decide) rfl
 ·exact first_6 ck L ct F cq ci X cg id xi qty xj xh w h hi Y hg
 ·exact first_7 ck L ct F cq ci X cg id xi qty xj xh w h hi Y hg
 ·exact first_8 ck L ct F cq ci X cg id xi qty xj xh w h hi Y hg
 ·exact eK 9 ck L ct F cq ci X cg id xi qty xj xh hj g w (by decide) rfl
theorem broken_any {hj B:Nat} {vl vd va:Value} {g:Gr} {t:Od} {kd n0:Int} {dy l0:List Od} (e:Ev) (w:World) (h:MS hj B w vl vd va g t kd n0 dy l0) (hi:GI g) (hm:MR g t kd dy) (hk:1 ≤ e.kind∧e.kind ≤ 9) (hg:e.cmd.g.size ≤ maxLen):Calls Tryz.prog 37 #[J hj 0,evV e] w fun x w'=>x = .returned (I (zD g e))∧yn w w':=by
 have hsf:=sfl
 rw [← ruleM_eq hk]
 have uo:Hid (ruleM g e = if g.bg = 0 then fstM g.nx g.l e else latM (dueG g) e):=rfl
 have HFI:Hid (g.bg = 0→∀ W,MS hj B W vl vd va g t kd n0 dy l0→Calls Tryz.prog 67 #[J hj 0,evV e] W fun x w'=>x = .returned (I (fstM g.nx g.l e))∧yn W w'):=fun Y W hW=>first_any e W hW hi Y hk hg
 have HLA:=M (fun W (hW:MS hj B W vl vd va g t kd n0 dy l0)=>later_any e W hW hi hm hk)
 generalize ruleM g e = ru at uo ⊢
 generalize fstM g.nx g.l e = fm at uo HFI
 generalize latM (dueG g) e = lm at uo HLA
 obtain ⟨xm,⟨ck,L,ct,F,cq,ci,X,cg⟩,id,xi,qty,xj,xh⟩:=e
 unfold evV at HFI HLA ⊢
 simp only at HFI HLA ⊢
 obtain ⟨xz,HX⟩:=fJ w (yv xm ck L ct F cq ci X cg id xi qty xj xh) 52
 have HM:=M (zv h xz)
 have HB:=M xz
 clear h xz hi hm hk hg
 go_enter Tryz.func37,Tryz.ntmps37
 refine fI fun hR HK=>?_
 go_wp2_with fail
 refine H HK _ _ ?_
 clear HK
 generalize (w.alloc (A (yv xm ck L ct F cq ci X cg id xi qty xj xh).toArray 52)) = W1 at HX HM HB ⊢
 obtain ⟨e0,e1,e2,e3,e4,e5,e6,e7,e8,e9,uy,uk,uW,uA⟩:=yy (H HX)
 have c9:=R (H HM).box 9 rfl
 by_cases h0:g.bg = 0
 ·have b0:(g.bg != 0) = false:=by simpa using h0
  rw [b0] at c9
  have vC:=M (H HFI h0 W1 (H HM))
  rw [if_pos h0] at uo
  clear h0 b0 HFI HLA
  go_wp2_with fail
  refine (H vC).mono ?_
  rintro x w2 ⟨rfl,xJ⟩
  have xu:=M (fH (H HB) xJ)
  clear xJ
  go_wp2_with fail
  go_ret
  exact ⟨by rw [H uo]; rfl,H xu⟩
 ·have b0:(g.bg != 0) = true:=by simpa using h0
  rw [b0] at c9
  have vC:=M (H HLA W1 (H HM))
  rw [if_neg h0] at uo
  clear h0 b0 HFI HLA
  go_wp2_with fail
  refine (H vC).mono ?_
  rintro x w2 ⟨rfl,xJ⟩
  have xu:=M (fH (H HB) xJ)
  clear xJ
  go_wp2_with fail
  go_ret
  exact ⟨by rw [H uo]; rfl,H xu⟩
def TakE (hj B:Nat) (va:Value) (n0:Int) (l0:List Od) (g:Gr) (t:Od) (kd:Int) (dy:List Od) (e:Ev) (w:World) (x:Ending) (w':World):Prop:=x = .returned (.tuple #[])∧Below B w w'∧∃ vS vh,MS hj B w' vS vh va (aQ g e) (tkM g t e) (kdM kd e) n0 (dyM g dy e) l0
theorem take_2 {hj B:Nat} {vl vd va:Value} {g:Gr} {t:Od} {kd n0:Int} {dy l0:List Od} (ck L ct F cq ci:Int) (X:Nat) (cg:ByteArray) (id xi qty xj xh:Int) (w:World) (h:MS hj B w vl vd va g t kd n0 dy l0) (hi:GI g) (hm:MR g t kd dy) (he:okE ⟨2,⟨ck,L,ct,F,cq,ci,X,cg⟩,id,xi,qty,xj,xh⟩ = true) (hr:zD g ⟨2,⟨ck,L,ct,F,cq,ci,X,cg⟩,id,xi,qty,xj,xh⟩ = 0):Calls Tryz.prog 52 #[J hj 0,.agg (yv 2 ck L ct F cq ci X cg id xi qty xj xh).toArray] w fun x w'=>TakE hj B va n0 l0 g t kd dy ⟨2,⟨ck,L,ct,F,cq,ci,X,cg⟩,id,xi,qty,xj,xh⟩ w x w':=by
 have hsf:=sfl
 have hO:=h.lt
 have vV:=h.base
 have qm:Hid (∀ w' vS vh,Below B w w'→MS hj B w' vS vh va (aQ g ⟨2,⟨ck,L,ct,F,cq,ci,X,cg⟩,id,xi,qty,xj,xh⟩) (tkM g t ⟨2,⟨ck,L,ct,F,cq,ci,X,cg⟩,id,xi,qty,xj,xh⟩) (kdM kd ⟨2,⟨ck,L,ct,F,cq,ci,X,cg⟩,id,xi,qty,xj,xh⟩) n0 (dyM g dy ⟨2,⟨ck,L,ct,F,cq,ci,X,cg⟩,id,xi,qty,xj,xh⟩) l0→TakE hj B va n0 l0 g t kd dy ⟨2,⟨ck,L,ct,F,cq,ci,X,cg⟩,id,xi,qty,xj,xh⟩ w (.returned (.tuple #[])) w'):=fun w' vS vh Q E=>⟨rfl,Q,vS,vh,E⟩
 have h0:=rule2 (e:=⟨2,⟨ck,L,ct,F,cq,ci,X,cg⟩,id,xi,qty,xj,xh⟩) rfl hr
 have uh:Hid (aQ g ⟨2,⟨ck,L,ct,F,cq,ci,X,cg⟩,id,xi,qty,xj,xh⟩ = { g with bg:=2 }):=by show _ = _; rw [step2 rfl]; simp only [begG,if_pos h0]
 have ux:Hid (tkM g t ⟨2,⟨ck,L,ct,F,cq,ci,X,cg⟩,id,xi,qty,xj,xh⟩ = t∧kdM kd ⟨2,⟨ck,L,ct,F,cq,ci,X,cg⟩,id,xi,qty,xj,xh⟩ = kd∧dyM g dy ⟨2,⟨ck,L,ct,F,cq,ci,X,cg⟩,id,xi,qty,xj,xh⟩ = dy):=⟨rfl,rfl,rfl⟩
 generalize TakE hj B va n0 l0 g t kd dy ⟨2,⟨ck,L,ct,F,cq,ci,X,cg⟩,id,xi,qty,xj,xh⟩ w = C at qm ⊢
 obtain ⟨xz,HX⟩:=fJ w (yv 2 ck L ct F cq ci X cg id xi qty xj xh) 52
 have HM:=M (zv h xz)
 have HB:=M (xz.mono vV)
 clear h xz hi hm he hr
 go_enter Tryz.func52,Tryz.ntmps52
 refine fI fun hR HK=>?_
 go_wp2_with fail
 refine H HK _ _ ?_
 clear HK
 generalize (w.alloc (A (yv 2 ck L ct F cq ci X cg id xi qty xj xh).toArray 52)) = W1 at HX HM HB ⊢
 have c9:=R (H HM).box 9 rfl
 have q9:=zd (H HM).box 9 (by show 9 < 13; decide)
 have xu:Hid (Below B w (World.setCells W1 hj 9 [.bool true])):=zL (H HB) ya (H HM) 9 _
 have xQ:Hid (MS hj B (World.setCells W1 hj 9 [.bool true]) vl vd va { g with bg:=2 } t kd n0 dy l0):=bQ (H HM) 9 [.bool true] (by simp) rfl rfl (fun h=>absurd (show (2:Int) = 0 from h) (by decide))
 have e0:(World.setCells W1 hj 9 [.bool true]).cell? (U w.heap.size 0) = some (I 2):=R (aS (H HX) (bG hj w.heap.size (by omega) _ 9 W1)) 0 rfl
 simp only [World.setCells] at e0
 go_wp2_with fail
 go_end0
 refine H qm _ vl vd (H xu) ?_
 rw [H uh,(H ux).1,(H ux).2.1,(H ux).2.2]
 exact H xQ
theorem take_5 {hj B:Nat} {vl vd va:Value} {g:Gr} {t:Od} {kd n0:Int} {dy l0:List Od} (ck L ct F cq ci:Int) (X:Nat) (cg:ByteArray) (id xi qty xj xh:Int) (w:World) (h:MS hj B w vl vd va g t kd n0 dy l0) (hi:GI g) (hm:MR g t kd dy) (he:okE ⟨5,⟨ck,L,ct,F,cq,ci,X,cg⟩,id,xi,qty,xj,xh⟩ = true) (hr:zD g ⟨5,⟨ck,L,ct,F,cq,ci,X,cg⟩,id,xi,qty,xj,xh⟩ = 0):Calls Tryz.prog 52 #[J hj 0,.agg (yv 5 ck L ct F cq ci X cg id xi qty xj xh).toArray] w fun x w'=>TakE hj B va n0 l0 g t kd dy ⟨5,⟨ck,L,ct,F,cq,ci,X,cg⟩,id,xi,qty,xj,xh⟩ w x w':=by
 have hsf:=sfl
 have hO:=h.lt
 have vV:=h.base
 have qm:Hid (∀ w' vS vh,Below B w w'→MS hj B w' vS vh va (aQ g ⟨5,⟨ck,L,ct,F,cq,ci,X,cg⟩,id,xi,qty,xj,xh⟩) (tkM g t ⟨5,⟨ck,L,ct,F,cq,ci,X,cg⟩,id,xi,qty,xj,xh⟩) (kdM kd ⟨5,⟨ck,L,ct,F,cq,ci,X,cg⟩,id,xi,qty,xj,xh⟩) n0 (dyM g dy ⟨5,⟨ck,L,ct,F,cq,ci,X,cg⟩,id,xi,qty,xj,xh⟩) l0→TakE hj B va n0 l0 g t kd dy ⟨5,⟨ck,L,ct,F,cq,ci,X,cg⟩,id,xi,qty,xj,xh⟩ w (.returned (.tuple #[])) w'):=fun w' vS vh Q E=>⟨rfl,Q,vS,vh,E⟩
 have h0:=(rule45 (e:=⟨5,⟨ck,L,ct,F,cq,ci,X,cg⟩,id,xi,qty,xj,xh⟩) (.inr rfl) hr).1
 have uh:Hid (aQ g ⟨5,⟨ck,L,ct,F,cq,ci,X,cg⟩,id,xi,qty,xj,xh⟩ = { g with tk:={ g.tk with left:=0 } }):=by show _ = _; rw [step5 rfl]; simp only [begG]; rw [if_neg (by omega)]
 have ux:Hid (tkM g t ⟨5,⟨ck,L,ct,F,cq,ci,X,cg⟩,id,xi,qty,xj,xh⟩ = zOd∧kdM kd ⟨5,⟨ck,L,ct,F,cq,ci,X,cg⟩,id,xi,qty,xj,xh⟩ = kd∧dyM g dy ⟨5,⟨ck,L,ct,F,cq,ci,X,cg⟩,id,xi,qty,xj,xh⟩ = dy):=⟨rfl,rfl,rfl⟩
 have hbn:(g.bg != 0) = true:=by simp [h0]
 have pG:Hid (g.bg ≠ 0):=by show _ ≠ _; omega
 clear h0
 generalize TakE hj B va n0 l0 g t kd dy ⟨5,⟨ck,L,ct,F,cq,ci,X,cg⟩,id,xi,qty,xj,xh⟩ w = C at qm ⊢
 obtain ⟨xz,HX⟩:=fJ w (yv 5 ck L ct F cq ci X cg id xi qty xj xh) 52
 have HM:=M (zv h xz)
 have HB:=M (xz.mono vV)
 clear h xz hi hm he hr
 go_enter Tryz.func52,Tryz.ntmps52
 refine fI fun hR HK=>?_
 go_wp2_with fail
 refine H HK _ _ ?_
 clear HK
 generalize (w.alloc (A (yv 5 ck L ct F cq ci X cg id xi qty xj xh).toArray 52)) = W1 at HX HM HB ⊢
 have c9:=R (H HM).box 9 rfl
 have q9:=zd (H HM).box 9 (by show 9 < 13; decide)
 have xu:Hid (Below B w (World.setCells W1 hj 9 [.bool true])):=zL (H HB) ya (H HM) 9 _
 have xQ:Hid (MS hj B (World.setCells W1 hj 9 [.bool true]) vl vd va g t kd n0 dy l0):=bQ (H HM) 9 [.bool true] (by simp) (by simp [msV,hbn]) rfl (fun h=>absurd h (H pG))
 have e0:(World.setCells W1 hj 9 [.bool true]).cell? (U w.heap.size 0) = some (I 5):=R (aS (H HX) (bG hj w.heap.size (by omega) _ 9 W1)) 0 rfl
 clear hbn HX HM HB
 refine fI fun hR HK=>?_
 go_wp2_with fail
 refine H HK _ _ ?_
 clear HK
 change Code.wp _ _ _ _ (World.setCells W1 hj 9 [.bool true])
 generalize World.setCells W1 hj 9 [.bool true] = cp at xu xQ e0 ⊢
 have c2:=R (H xQ).box 2 rfl
 have q2:=zd (H xQ).box 2 (by show 2 < 13; decide)
 have c3:=R (H xQ).box 3 rfl
 have q3:=zd (H xQ).box 3 (by show 3 < 13; decide)
 have c4:=R (H xQ).box 4 rfl
 have q4:=zd (H xQ).box 4 (by show 4 < 13; decide)
 have c5:=R (H xQ).box 5 rfl
 have q5:=zd (H xQ).box 5 (by show 5 < 13; decide)
 have c6:=R (H xQ).box 6 rfl
 have q6:=zd (H xQ).box 6 (by show 6 < 13; decide)
 have c7:=R (H xQ).box 7 rfl
 have q7:=zd (H xQ).box 7 (by show 7 < 13; decide)
 go_wp2_with fail
 go_end0
 refine H qm _ vl vd (zL (H xu) ya (H xQ) 2 (yw 0 0 0 0 0 ⟨#[]⟩)) ?_
 rw [H uh,(H ux).1,(H ux).2.1,(H ux).2.2]
 exact bQ (H xQ) 2 (yw 0 0 0 0 0 ⟨#[]⟩) (by simp) rfl rfl (fun h=>absurd h (H pG))
end Go.Proofs.YtnphbkgfjanmgaaGreatDoor
