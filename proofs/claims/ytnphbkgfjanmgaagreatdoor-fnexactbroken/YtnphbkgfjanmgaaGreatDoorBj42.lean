/-
  An expiry in a group, by the program: proved by walking the method.
-/
import Derived.Test.YtnphbkgfjanmgaaGreatDoorBj31
set_option linter.unusedVariables false
set_option maxHeartbeats 6400000
set_option maxRecDepth 100000
namespace Go.Proofs.YtnphbkgfjanmgaaGreatDoor
open Go.RowKit
theorem expire_chk {G B r:Nat} {vq:Value} {g:Gr} (e:Ev) (w:World) (h:GS G B r w vq g) (hi:GI g) (he:okE e = true) (hk:e.kind = 9) (hg:e.cmd.g.size ≤ maxLen):Calls Tryz.prog 95 #[J G 0,evV e] w fun x w'=>Chk G B r vq g e w x w':=by
 have hsf:=sfl
 have hG:=h.lt
 have vV:=h.base
 have uo:Hid (zD g e = if dueR g e ≠ 0 then dueR g e else 0):=by show _ = _; simp [zD,hk]
 have uU:Hid (takG g e = ⟨g.nx,hitI g.l (dueG g).id (dueG g).qty,g.bg,g.cm,g.tk⟩):=by show _ = _; rw [takG,step9 hk]
 have vH:Hid (∀ k w',zD g e = k→k ≠ 0→Kp G vq w w'→Chk G B r vq g e w (.panicked (brk k)) w'):=fun k w' Q E h3=>chk_no Q E h3
 have uw:Hid (∀ w' uH,zD g e = 0→Kp G vq w w'→GS G B r w' uH (takG g e)→Chk G B r vq g e w (.returned (.tuple #[])) w'):=fun w' uH Q E h3=>chk_ok Q E h3
 have jy:Hid (∀ W,GS G B r W vq g→Calls Tryz.prog 137 #[J G 0,evV e] W fun x w'=>x = outD (dueR g e) (dueG g)∧yn W w'):=fun W hW=>eJ e W hW hi
 have HR9:Hid (zD g e = 0→g.bg = 8∧∃ o,g.l.find? isDy = some o∧dueG g = ⟨9,o.id,0,o.left,0⟩∧e.id = o.id∧e.qty = o.left):=rule9 hk
 have HI:=M hi
 generalize Chk G B r vq g e w = C at vH uw ⊢
 generalize zD g e = ru at vH uw uo HR9
 generalize takG g e = g' at uU uw
 generalize dueR g e = dr at jy uo
 generalize dueG g = d at jy uU HR9
 obtain ⟨xm,⟨ck,L,ct,F,cq,ci,X,cg⟩,id,xi,qty,xj,xh⟩:=e
 simp only at hk hg
 try simp only at uo uU
 unfold evV at jy
 simp only at jy HR9
 unfold evV
 simp only
 obtain ⟨xz,HX⟩:=fJ w (yv xm ck L ct F cq ci X cg id xi qty xj xh) 52
 have HS:Hid ((w.alloc (A (yv xm ck L ct F cq ci X cg id xi qty xj xh).toArray 52)).heap.size = w.heap.size + 1):=by show _ = _; simp
 have HG:=M (zx h xz)
 have HB:Hid (Kp G vq w (w.alloc (A (yv xm ck L ct F cq ci X cg id xi qty xj xh).toArray 52))):=kp_of xz
 clear h xz hi he hk hg
 go_enter Tryz.func95,Tryz.ntmps95
 refine fI fun hR HK=>?_
 go_wp2_with fail
 refine H HK _ _ ?_
 clear HK
 generalize (w.alloc (A (yv xm ck L ct F cq ci X cg id xi qty xj xh).toArray 52)) = W1 at HS HX HG HB ⊢
 obtain ⟨e0,e1,e2,e3,e4,e5,e6,e7,e8,e9,uy,uk,uW,uA⟩:=yy (H HX)
 go_wp2_with fail
 refine (H jy W1 (H HG)).mono ?_
 rintro x w2 ⟨hx,xJ⟩
 by_cases hs:dr = 0
 case neg =>
  rw [outD_no hs] at hx
  subst hx
  go_wp2_with fail
  exact ⟨rfl,H vH _ _ (by rw [H uo,if_pos hs]) hs (bj (H HB) xJ)⟩
 rw [outD_ok hs] at hx
 subst hx
 have HDZ:=M hs
 have uc:=M (H uo)
 rw [if_neg (not_not_intro hs)] at uc
 clear hs uo
 obtain ⟨dk,di,dt,dq,dp⟩:=d
 unfold duV
 simp only at uc ⊢
 have xM:=fE w2 (A #[I dk,I di,I dt,I dq,I dp] 29)
 have ot:=xJ.trans (xM.mono xJ.size)
 have xH:=M (zg (H HX) ot (by have:=H HS; omega))
 have uh:=M (zx (H HG) ot)
 have xu:=M (bj (H HB) ot)
 have HV2:=M (zq w2 [I dk,I di,I dt,I dq,I dp] 29)
 have HZ2:Hid (w.heap.size < w2.heap.size∧w2.heap.size < (w2.alloc (A #[I dk,I di,I dt,I dq,I dp] 29)).heap.size):=⟨by have:=H HS; have:=xJ.size; omega,by simp⟩
 clear xJ xM ot e0 e1 e2 e3 e4 e5 e6 e7 e8 e9 uy uk uW uA HX HG HB HS
 obtain ⟨h8,o,hf,hd,-⟩:=H HR9 (H uc)
 simp only [Du.mk.injEq] at hd
 obtain ⟨rfl,rfl,rfl,rfl,rfl⟩:=hd
 have kH:=(H HI).good (.inl (by omega))
 obtain ⟨i,hi⟩:=find_at hf
 have uQ:=cD kH.rise hi
 have kJ:=kH.left o (yO hi)
 have jt:=M uQ
 have HLI:=M hi
 have HOL:=M kJ
 clear h8 hf kH hi uQ kJ HR9
 go_wp2_with fail
 generalize (w2.alloc (A #[I 9,I o.id,I 0,I o.left,I 0] 29)) = cp at xH uh xu HV2 HZ2 ⊢
 have xX:Hid (Bx cp.drew w.heap.size (yv xm ck L ct F cq ci X cg id xi qty xj xh)):=zJ (H xH)
 have qk:Hid (GS G B r cp.drew vq g):=zx (H uh) ⟨rfl,rfl,rfl,Nat.le_refl _,fun _ _=>rfl⟩
 have vy:Hid (Kp G vq w cp.drew):=kp_drew (H xu)
 have v1:cp.drew.cell? (U w2.heap.size 1) = some (I o.id):=R (H HV2) 1 rfl
 have v3:cp.drew.cell? (U w2.heap.size 3) = some (I o.left):=R (H HV2) 3 rfl
 refine zE 7 (by kernel_rfl) (by kernel_rfl) ?_
 simp only [yT,List.take_zero,yU,List.drop_zero]
 repeat still_step
 refine wpStill_nil ?_
 go_wp2_with fail
 refine (ez G 1 B g.nx o.id o.left vq g.l i o _ (R (H qk).box 1 rfl) (R (H qk).box 2 rfl) (zd (H qk).box 2 (by show 2 < 16; decide)) (H qk).row (H qk).nq (H qk).lt (H qk).base (yN (H HI).len (by decide)) (H jt) (H HLI) (by have:=H HOL; omega) (Int.le_refl _) (H HOL).2).mono ?_
 rintro e w9 ⟨uH,rfl,aG,kO,aN⟩
 have HG9:=M (gs_took (H qk) aG kO aN)
 have pF:=M (kp_took (H vy) aN)
 clear aG kO aN
 go_wp2_with fail
 go_end0
 refine H uw _ uH (H uc) (H pF) ?_
 rw [H uU]
 simp only [cM (H jt) (H HLI)]
 exact H HG9
theorem cancel_chk {G B r:Nat} {vq:Value} {g:Gr} (e:Ev) (w:World) (h:GS G B r w vq g) (hi:GI g) (he:okE e = true) (hk:e.kind = 6) (hg:e.cmd.g.size ≤ maxLen):Calls Tryz.prog 92 #[J G 0,evV e] w fun x w'=>Chk G B r vq g e w x w':=by
 have hsf:=sfl
 have hG:=h.lt
 have vV:=h.base
 have uo:Hid (zD g e = if aT g e ≠ 0 then aT g e else if e.qty = leftAt g.l e.id then 0 else 7):=by show _ = _; simp [zD,hk]
 have uU:Hid (takG g e = ⟨g.nx,hitI g.l e.id e.qty,g.bg,g.cm,g.tk⟩):=by show _ = _; rw [takG,step6 hk]
 have vH:Hid (∀ k w',zD g e = k→k ≠ 0→Kp G vq w w'→Chk G B r vq g e w (.panicked (brk k)) w'):=fun k w' Q E h3=>chk_no Q E h3
 have uw:Hid (∀ w' uH,zD g e = 0→Kp G vq w w'→GS G B r w' uH (takG g e)→Chk G B r vq g e w (.returned (.tuple #[])) w'):=fun w' uH Q E h3=>chk_ok Q E h3
 have qg:Hid (∀ W,GS G B r W vq g→Calls Tryz.prog 132 #[J G 0,evV e] W fun x w'=>x = outR (aT g e)∧yn W w'):=fun W hW=>start_any e W hW hi (by rw [hk]; decide) hg
 have aA:Hid (aT g e = 0→GoodL g.l∧∃ (k:Nat) (o:Od),plc g.l e.id = k∧g.l[k]? = some o):=fun h0=>⟨hi.good (.inl (by rw [(cN h0).1]; decide)),by have E:=(cN h0).2; simp only [aU,hk] at E; obtain ⟨k,o,a,b,_⟩:=plc_pos (ref_can E); exact ⟨k,o,a,b⟩⟩
 have HI:=M hi
 generalize Chk G B r vq g e w = C at vH uw ⊢
 generalize zD g e = ru at vH uw uo
 generalize takG g e = g' at uU uw
 generalize aT g e = sr at qg aA uo
 obtain ⟨xm,⟨ck,L,ct,F,cq,ci,X,cg⟩,id,xi,qty,xj,xh⟩:=e
 simp only at hk hg
 try simp only at uo uU
 unfold evV at qg
 simp only at qg aA
 unfold evV
 simp only
 obtain ⟨xz,HX⟩:=fJ w (yv xm ck L ct F cq ci X cg id xi qty xj xh) 52
 have HS:Hid ((w.alloc (A (yv xm ck L ct F cq ci X cg id xi qty xj xh).toArray 52)).heap.size = w.heap.size + 1):=by show _ = _; simp
 have HG:=M (zx h xz)
 have HB:Hid (Kp G vq w (w.alloc (A (yv xm ck L ct F cq ci X cg id xi qty xj xh).toArray 52))):=kp_of xz
 clear h xz hi he hk hg
 go_enter Tryz.func92,Tryz.ntmps92
 refine fI fun hR HK=>?_
 go_wp2_with fail
 refine H HK _ _ ?_
 clear HK
 generalize (w.alloc (A (yv xm ck L ct F cq ci X cg id xi qty xj xh).toArray 52)) = W1 at HS HX HG HB ⊢
 obtain ⟨e0,e1,e2,e3,e4,e5,e6,e7,e8,e9,uy,uk,uW,uA⟩:=yy (H HX)
 go_wp2_with fail
 refine (H qg W1 (H HG)).mono ?_
 rintro x w2 ⟨hx,xJ⟩
 have xH:=M (zg (H HX) xJ (by have:=H HS; omega))
 have uh:=M (zx (H HG) xJ)
 have xu:=M (bj (H HB) xJ)
 have hS2:w.heap.size < w2.heap.size:=by have:=H HS; have:=xJ.size; omega
 clear xJ e0 e1 e2 e3 e4 e5 e6 e7 e8 e9 uy uk uW uA
 by_cases hs:sr = 0
 case neg =>
  rw [outR_no hs] at hx
  subst hx
  go_wp2_with fail
  exact ⟨rfl,H vH _ _ (by rw [H uo,if_pos hs]) hs (H xu)⟩
 rw [outR_ok hs] at hx
 subst hx
 have HSR:=M hs
 have uc:=M (H uo)
 rw [if_neg (not_not_intro hs)] at uc
 clear hs uo
 obtain ⟨kH,k,o,uQ,uX⟩:=H aA (H HSR)
 have xD:g.l ≠ []:=by intro h; rw [h] at uX; simp at uX
 have pa:=(yG.1 uX).1
 obtain ⟨gb,cap,rfl,uq,hBg,hgw⟩:=cI (H uh).row xD
 rw [leftAt_at uQ uX] at uc
 have kJ:=kH.left o (yO uX)
 have jk:=(H HI).len
 have vi:Hid (w2.cell? (U gb (k * 6 + 3)) = some (I o.left)):=(row_here (H uh).row (by omega) uX).1 3 _ rfl
 have uR:=M (zK (H uh).row (by omega))
 have jt:=M uQ
 have oE:=M uX
 have HOL:=M kJ
 have hkl':(k:Int) < g.l.length:=by omega
 have pA:(0:Int) ≤ k:=by omega
 have HRU3:=M (H uc)
 clear kH uQ uX xD kJ aA jk uc
 generalize hol2:o.left = ol at HRU3 vi
 have HOE:=M hol2
 clear hol2
 go_wp2_with fail
 refine zk (RWA (fun f=>{ tmps:=#[J G 0,.agg (yv xm ck L ct F cq ci X cg id xi qty xj xh).toArray,Z,J w.heap.size 0,J G 0,.agg (yv xm ck L ct F cq ci X cg id xi qty xj xh).toArray,.tuple #[],f 0,f 1,f 2,f 3,f 4,f 5,f 6,f 7,f 8,f 9,f 10,f 11,f 12,f 13,f 14,f 15,f 16,f 17,f 18,Z,Z,Z,Z,Z,Z,Z,Z],defers:=[] }) (CVw [some (J w.heap.size 11),some (I qty),some (J G 0),some (J G 0),some (J G 1),some (J G 2),some (.slice (some (U gb 0)) g.l.length cap),some (J G 0),some (J G 0),some (J G 1),some (.agg #[I g.nx,.slice (some (U gb 0)) g.l.length cap]),some (J w.heap.size 9),some (I id),some (I k),some (J gb (k * 6)),some (J gb (k * 6 + 3)),some (I ol),some (.bool (qty == ol)),some (.tuple #[])] (fun j=>j = 18→qty = ol)) 18 (fun xn=>xn) w2) (by kernel_rfl) ?_ ?_ ?_
 ·exact ⟨fun _=>Z,rfl,⟨fun j O=>by rw [yI] at O; split at O <;> simp at O,fun _=>⟨rfl,rfl,rfl,Nat.le_refl _,fun _ _=>rfl⟩,fun O=>by rw [yI] at O; split at O <;> simp at O⟩⟩
 ·rintro x fG xn ⟨f,rfl,K⟩ hx xN
  have xo:=zN xN hx (acyc _ (by kernel_rfl))
  obtain ⟨V0,xz,eV⟩:=K.m (xo 18 (by simp))
  have hqe:=(K.c 18 (xo 18 (by simp))).2 rfl
  have HQ:=M (H HRU3)
  rw [if_pos hqe] at HQ
  subst eV
  have xE:=M (zg (H xH) xz hS2)
  have ut:=M (zx (H uh) xz)
  have xG:=M (bj (H xu) xz)
  clear K xo xN hx xz vi uR HRU3
  generalize f 0 = v0,f 1 = v1,f 2 = v2,f 3 = v3,f 4 = v4,f 5 = v5,f 6 = v6,f 7 = v7,f 8 = v8,f 9 = v9,f 10 = v10,f 11 = v11,f 12 = v12,f 13 = v13,f 14 = v14,f 15 = v15,f 16 = v16,f 17 = v17,f 18 = v18
  subst hqe
  dsimp only
  go_wp2_with fail
  have uI:Hid (Bx xn.drew w.heap.size (yv xm ck L ct F cq ci X cg id xi qty xj xh)):=zJ (H xE)
  have uE:Hid (GS G B r xn.drew (.slice (some (U gb 0)) g.l.length cap) g):=zx (H ut) ⟨rfl,rfl,rfl,Nat.le_refl _,fun _ _=>rfl⟩
  have ug:Hid (Kp G (.slice (some (U gb 0)) g.l.length cap) w xn.drew):=kp_drew (H xG)
  have e9:=R (H uI) 9 rfl
  have uk:=R (H uI) 11 rfl
  refine zE 7 (by kernel_rfl) (by kernel_rfl) ?_
  simp only [yT,List.take_zero,yU,List.drop_zero]
  repeat still_step
  refine wpStill_nil ?_
  go_wp2_with fail
  refine (ez G 1 B g.nx id qty _ g.l k o _ (R (H uE).box 1 rfl) (R (H uE).box 2 rfl) (zd (H uE).box 2 (by show 2 < 16; decide)) (H uE).row (H uE).nq (H uE).lt (H uE).base (yN (H HI).len (by decide)) (H jt) (H oE) (by have:=H HOL; have:=H HOE; omega) (by have:=H HOE; omega) (H HOL).2).mono ?_
  rintro e w9 ⟨uH,rfl,aG,kO,aN⟩
  have HG9:=M (gs_took (H uE) aG kO aN)
  have pF:=M (kp_took (H ug) aN)
  clear aG kO aN
  go_wp2_with fail
  go_end0
  refine H uw _ uH (H HQ) (H pF) ?_
  rw [H uU]
  simp only [cM (H jt) (H oE)]
  exact H HG9
 ·rintro x fG xn i op ⟨f,rfl,K⟩ V hx N xq D
  have xt:=M K
  have nw:i < 18→x[18]? = some false:=fun xI=>by
   rcases bB hx (show 18 < 19 by omega) with hq | hw
   ·exact hq
   ·exfalso
    have qZ:=yf V 18 rfl hw 17 rfl
    have Q:=yf V 17 rfl qZ 1 rfl
    have h0:=yf V 1 rfl Q 0 rfl
    have h16:=yf V 17 rfl qZ 16 rfl
    have vQ:=yf V 16 rfl h16 15 rfl
    have oH:=yf V 15 rfl vQ 14 rfl
    have h6:=yf V 14 rfl oH 6 rfl
    have jN:=yf V 14 rfl oH 13 rfl
    have h5:=yf V 6 rfl h6 5 rfl
    have h4:=yf V 5 rfl h5 4 rfl
    have h3:=yf V 4 rfl h4 3 rfl
    have E:=yf V 3 rfl h3 2 rfl
    have uV:=yf V 13 rfl jN 10 rfl
    have uO:=yf V 13 rfl jN 12 rfl
    have h9:=yf V 10 rfl uV 9 rfl
    have h8:=yf V 9 rfl h9 8 rfl
    have h7:=yf V 8 rfl h8 7 rfl
    have uS:=yf V 12 rfl uO 11 rfl
    rcases (by omega:i = 0 ∨ i = 1 ∨ i = 2 ∨ i = 3 ∨ i = 4 ∨ i = 5 ∨ i = 6 ∨ i = 7 ∨ i = 8 ∨ i = 9 ∨ i = 10 ∨ i = 11 ∨ i = 12 ∨ i = 13 ∨ i = 14 ∨ i = 15 ∨ i = 16 ∨ i = 17) with rfl | rfl | rfl | rfl | rfl | rfl | rfl | rfl | rfl | rfl | rfl | rfl | rfl | rfl | rfl | rfl | rfl | rfl
    ·exact absurd (h0.symm.trans xq) (by simp)
    ·exact absurd (Q.symm.trans xq) (by simp)
    ·exact absurd (E.symm.trans xq) (by simp)
    ·exact absurd (h3.symm.trans xq) (by simp)
    ·exact absurd (h4.symm.trans xq) (by simp)
    ·exact absurd (h5.symm.trans xq) (by simp)
    ·exact absurd (h6.symm.trans xq) (by simp)
    ·exact absurd (h7.symm.trans xq) (by simp)
    ·exact absurd (h8.symm.trans xq) (by simp)
    ·exact absurd (h9.symm.trans xq) (by simp)
    ·exact absurd (uV.symm.trans xq) (by simp)
    ·exact absurd (uS.symm.trans xq) (by simp)
    ·exact absurd (uO.symm.trans xq) (by simp)
    ·exact absurd (jN.symm.trans xq) (by simp)
    ·exact absurd (oH.symm.trans xq) (by simp)
    ·exact absurd (vQ.symm.trans xq) (by simp)
    ·exact absurd (h16.symm.trans xq) (by simp)
    ·exact absurd (qZ.symm.trans xq) (by simp)
  have ub:i < 18→yn w2 xn:=fun h=>K.b (nw h)
  have xl:i < 18→∀ (p:Addr) u,w2.cell? p = some u→xn.cell? p = some u:=fun h p u hu=>((ub h).cell (yK w2 _ hu)).trans hu
  match i,N with
  | 0,N =>
   obtain rfl:=yb N
   have CL:=xl (by omega)
   clear D K ub xl nw CL
   rw [if_pos (by rfl)];unfold Oper.wp;go_simp
   exact ⟨upd f 0 (J w.heap.size 11),by simp [upd],zC (H xt) 0 _ ⟨yi rfl,(by intro h; cases h)⟩ (by decide)⟩
  | 1,N =>
   obtain rfl:=yb N
   have g0:=(K.c 0 (ye D 0 rfl)).1 _ rfl
   have CL:=xl (by omega)
   have z:=CL (U w.heap.size 11) _ (R (H xH) 11 rfl)
   clear D K ub xl nw CL
   rw [if_pos (by rfl)];unfold Oper.wp;go_simp
   exact ⟨upd f 1 (I qty),by simp [upd,g0],zC (H xt) 1 _ ⟨yi rfl,(by intro h; cases h)⟩ (by decide)⟩
  | 2,N | 7,N =>
   obtain rfl:=yb N
   have CL:=xl (by omega)
   clear D K ub xl nw CL
   rw [if_pos (by rfl)];unfold Oper.wp;go_simp
   exact ⟨upd f _ (J G 0),by simp [upd],zC (H xt) _ _ ⟨yi rfl,(by intro h; cases h)⟩ (by decide)⟩
  | 3,N =>
   obtain rfl:=yb N
   have g2:=(K.c 2 (ye D 2 rfl)).1 _ rfl
   have CL:=xl (by omega)
   clear D K ub xl nw CL
   rw [if_pos (by rfl)];unfold Oper.wp;go_simp
   exact ⟨upd f 3 (J G 0),by simp [upd,g2],zC (H xt) 3 _ ⟨yi rfl,(by intro h; cases h)⟩ (by decide)⟩
  | 4,N =>
   obtain rfl:=yb N
   have g3:=(K.c 3 (ye D 3 rfl)).1 _ rfl
   have CL:=xl (by omega)
   clear D K ub xl nw CL
   rw [if_pos (by rfl)];unfold Oper.wp;go_simp
   exact ⟨upd f 4 (J G 1),by simp [upd,g3],zC (H xt) 4 _ ⟨yi rfl,(by intro h; cases h)⟩ (by decide)⟩
  | 5,N =>
   obtain rfl:=yb N
   have g4:=(K.c 4 (ye D 4 rfl)).1 _ rfl
   have CL:=xl (by omega)
   clear D K ub xl nw CL
   rw [if_pos (by rfl)];unfold Oper.wp;go_simp
   exact ⟨upd f 5 (J G 2),by simp [upd,g4],zC (H xt) 5 _ ⟨yi rfl,(by intro h; cases h)⟩ (by decide)⟩
  | 6,N =>
   obtain rfl:=yb N
   have g5:=(K.c 5 (ye D 5 rfl)).1 _ rfl
   have CL:=xl (by omega)
   have z:=CL (U G 2) _ (R (H uh).box 2 rfl)
   clear D K ub xl nw CL
   rw [if_pos (by rfl)];unfold Oper.wp;go_simp
   exact ⟨upd f 6 (.slice (some (U gb 0)) g.l.length cap),by simp [upd,g5],zC (H xt) 6 _ ⟨yi rfl,(by intro h; cases h)⟩ (by decide)⟩
  | 8,N =>
   obtain rfl:=yb N
   have g7:=(K.c 7 (ye D 7 rfl)).1 _ rfl
   have CL:=xl (by omega)
   clear D K ub xl nw CL
   rw [if_pos (by rfl)];unfold Oper.wp;go_simp
   exact ⟨upd f 8 (J G 0),by simp [upd,g7],zC (H xt) 8 _ ⟨yi rfl,(by intro h; cases h)⟩ (by decide)⟩
  | 9,N =>
   obtain rfl:=yb N
   have g8:=(K.c 8 (ye D 8 rfl)).1 _ rfl
   have CL:=xl (by omega)
   clear D K ub xl nw CL
   rw [if_pos (by rfl)];unfold Oper.wp;go_simp
   exact ⟨upd f 9 (J G 1),by simp [upd,g8],zC (H xt) 9 _ ⟨yi rfl,(by intro h; cases h)⟩ (by decide)⟩
  | 10,N =>
   obtain rfl:=yb N
   have g9:=(K.c 9 (ye D 9 rfl)).1 _ rfl
   have CL:=xl (by omega)
   have z1:=CL (U G 1) _ (R (H uh).box 1 rfl)
   have z2:=CL (U G 2) _ (R (H uh).box 2 rfl)
   clear D K ub xl nw CL
   rw [if_pos (by rfl)];unfold Oper.wp;go_simp
   exact ⟨upd f 10 (.agg #[I g.nx,.slice (some (U gb 0)) g.l.length cap]),by simp [upd,g9],zC (H xt) 10 _ ⟨yi rfl,(by intro h; cases h)⟩ (by decide)⟩
  | 11,N =>
   obtain rfl:=yb N
   have CL:=xl (by omega)
   clear D K ub xl nw CL
   rw [if_pos (by rfl)];unfold Oper.wp;go_simp
   exact ⟨upd f 11 (J w.heap.size 9),by simp [upd],zC (H xt) 11 _ ⟨yi rfl,(by intro h; cases h)⟩ (by decide)⟩
  | 12,N =>
   obtain rfl:=yb N
   have vE:=(K.c 11 (ye D 11 rfl)).1 _ rfl
   have CL:=xl (by omega)
   have z:=CL (U w.heap.size 9) _ (R (H xH) 9 rfl)
   clear D K ub xl nw CL
   rw [if_pos (by rfl)];unfold Oper.wp;go_simp
   exact ⟨upd f 12 (I id),by simp [upd,vE],zC (H xt) 12 _ ⟨yi rfl,(by intro h; cases h)⟩ (by decide)⟩
  | 13,N =>
   obtain rfl:=yb N
   have qp:=(K.c 10 (ye D 10 rfl)).1 _ rfl
   have xZ:=(K.c 12 (ye D 12 rfl)).1 _ rfl
   have CL:=xl (by omega)
   have hw:=nw (by omega)
   have ql:=M (zh (H uR) (ub (by omega)) ya)
   clear D K ub xl nw CL
   rw [if_pos (by rfl)];unfold Oper.wp;go_simp
   refine (ef g.nx _ g.l id xn (H ql)).mono ?_
   rw [H jt]
   rintro e w4 ⟨rfl,xw⟩
   exact ⟨upd f 13 (I k),by simp [upd,qp,xZ],zC (cQ (H xt) hw xw) 13 _ ⟨yi rfl,(by intro h; cases h)⟩ (by decide)⟩
  | 14,N =>
   obtain rfl:=yb N
   have g6:=(K.c 6 (ye D 6 rfl)).1 _ rfl
   have qJ:=(K.c 13 (ye D 13 rfl)).1 _ rfl
   have CL:=xl (by omega)
   clear D K ub xl nw CL
   rw [if_pos (by rfl)];unfold Oper.wp;go_simp
   exact ⟨upd f 14 (J gb (k * 6)),by simp [upd,g6,qJ],zC (H xt) 14 _ ⟨yi rfl,(by intro h; cases h)⟩ (by decide)⟩
  | 15,N =>
   obtain rfl:=yb N
   have jf:=(K.c 14 (ye D 14 rfl)).1 _ rfl
   have CL:=xl (by omega)
   clear D K ub xl nw CL
   rw [if_pos (by rfl)];unfold Oper.wp;go_simp
   exact ⟨upd f 15 (J gb (k * 6 + 3)),by simp [upd,jf],zC (H xt) 15 _ ⟨yi rfl,(by intro h; cases h)⟩ (by decide)⟩
  | 16,N =>
   obtain rfl:=yb N
   have g15:=(K.c 15 (ye D 15 rfl)).1 _ rfl
   have CL:=xl (by omega)
   have z:=CL (U gb (k * 6 + 3)) _ (H vi)
   clear D K ub xl nw CL
   rw [if_pos (by rfl)];unfold Oper.wp;go_simp
   exact ⟨upd f 16 (I ol),by simp [upd,g15],zC (H xt) 16 _ ⟨yi rfl,(by intro h; cases h)⟩ (by decide)⟩
  | 17,N =>
   obtain rfl:=yb N
   have g1:=(K.c 1 (ye D 1 rfl)).1 _ rfl
   have g16:=(K.c 16 (ye D 16 rfl)).1 _ rfl
   have CL:=xl (by omega)
   clear D K ub xl nw CL
   rw [if_pos (by rfl)];unfold Oper.wp;go_simp
   exact ⟨upd f 17 (.bool (qty == ol)),by simp [upd,g1,g16],zC (H xt) 17 _ ⟨yi rfl,(by intro h; cases h)⟩ (by decide)⟩
  | 18,N =>
   obtain rfl:=yb N
   have g17:=(K.c 17 (ye D 17 rfl)).1 _ rfl
   have vu:=M (bj (H xu) (K.b xq))
   clear D K ub xl nw
   rw [if_pos (by rfl)];unfold Oper.wp;go_simp
   by_cases hqe:qty = ol
   ·have bq:(qty == ol) = true:=by simpa using hqe
    have hd:=bI 7 xn
    rw [← bq] at hd
    refine hd.mono ?_
    rintro e w4 ⟨rfl,rfl⟩
    exact ⟨upd f 18 (.tuple #[]),by simp [upd,g17,bq],rw_lastv (T:=fun xn=>xn) (H xt) xq ⟨yi rfl,fun _=>hqe⟩⟩
   ·have bq:(qty == ol) = false:=by simpa using hqe
    have hd:=bD 7 xn
    rw [← bq] at hd
    refine hd.mono ?_
    rintro e w4 ⟨rfl,rfl⟩
    have HQ:=M (H HRU3)
    rw [if_neg hqe] at HQ
    clear hqe bq
    go_wp2_with fail
    exact ⟨rfl,H vH 7 _ (H HQ) (by decide) (H vu)⟩
  | i + 19,N=>simp at N
end Go.Proofs.YtnphbkgfjanmgaaGreatDoor
