/-
  An order reduced in a group, by the program: proved by walking the method.
-/
import Derived.Test.YtnphbkgfjanmgaaGreatDoorBj31
set_option linter.unusedVariables false
set_option maxHeartbeats 6400000
set_option maxRecDepth 100000
namespace Go.Proofs.YtnphbkgfjanmgaaGreatDoor
open Go.RowKit
theorem reduce_chk {G B r:Nat} {vq:Value} {g:Gr} (e:Ev) (w:World) (h:GS G B r w vq g) (hi:GI g) (he:okE e = true) (hk:e.kind = 7) (hg:e.cmd.g.size ≤ maxLen):Calls Tryz.prog 93 #[J G 0,evV e] w fun x w'=>Chk G B r vq g e w x w':=by
 have hsf:=sfl
 have hG:=h.lt
 have vV:=h.base
 have uo:Hid (zD g e = if aT g e ≠ 0 then aT g e else 0):=by show _ = _; rw [show zD g e = aT g e by simp [zD,hk]]; split <;> simp_all
 have uU:Hid (takG g e = ⟨g.nx,setI g.l e.id e.qty,g.bg,g.cm,g.tk⟩):=by show _ = _; rw [takG,step7 hk]
 have vH:Hid (∀ k w',zD g e = k→k ≠ 0→Kp G vq w w'→Chk G B r vq g e w (.panicked (brk k)) w'):=fun k w' Q E h3=>chk_no Q E h3
 have uw:Hid (∀ w' uH,zD g e = 0→Kp G vq w w'→GS G B r w' uH (takG g e)→Chk G B r vq g e w (.returned (.tuple #[])) w'):=fun w' uH Q E h3=>chk_ok Q E h3
 have qg:Hid (∀ W,GS G B r W vq g→Calls Tryz.prog 132 #[J G 0,evV e] W fun x w'=>x = outR (aT g e)∧yn W w'):=fun W hW=>start_any e W hW hi (by rw [hk]; decide) hg
 have aA:Hid (aT g e = 0→∃ (k:Nat) (o:Od),plc g.l e.id = k∧g.l[k]? = some o):=fun h0=>by have E:=(cN h0).2; simp only [aU,hk] at E; obtain ⟨k,o,a,b,_⟩:=ref_red E; exact ⟨k,o,a,b⟩
 have HI:=M hi
 generalize Chk G B r vq g e w = C at vH uw ⊢
 generalize zD g e = ru at vH uw uo
 generalize takG g e = g' at uU uw
 generalize aT g e = sr at qg aA uo
 obtain ⟨xm,⟨ck,L,ct,F,cq,ci,X,cg⟩,id,xi,qty,xj,xh⟩:=e
 simp only at hk hg
 try simp only at uo uU
 unfold evV at qg
 simp only at qg aA
 unfold evV
 simp only
 obtain ⟨xz,HX⟩:=fJ w (yv xm ck L ct F cq ci X cg id xi qty xj xh) 52
 have HS:Hid ((w.alloc (A (yv xm ck L ct F cq ci X cg id xi qty xj xh).toArray 52)).heap.size = w.heap.size + 1):=by show _ = _; simp
 have HG:=M (zx h xz)
 have HB:Hid (Kp G vq w (w.alloc (A (yv xm ck L ct F cq ci X cg id xi qty xj xh).toArray 52))):=kp_of xz
 clear h xz hi he hk hg
 go_enter Tryz.func93,Tryz.ntmps93
 refine fI fun hR HK=>?_
 go_wp2_with fail
 refine H HK _ _ ?_
 clear HK
 generalize (w.alloc (A (yv xm ck L ct F cq ci X cg id xi qty xj xh).toArray 52)) = W1 at HS HX HG HB ⊢
 obtain ⟨e0,e1,e2,e3,e4,e5,e6,e7,e8,e9,uy,uk,uW,uA⟩:=yy (H HX)
 go_wp2_with fail
 refine (H qg W1 (H HG)).mono ?_
 rintro x w2 ⟨hx,xJ⟩
 have xH:=M (zg (H HX) xJ (by have:=H HS; omega))
 have uh:=M (zx (H HG) xJ)
 have xu:=M (bj (H HB) xJ)
 have hS2:w.heap.size < w2.heap.size:=by have:=H HS; have:=xJ.size; omega
 clear xJ e0 e1 e2 e3 e4 e5 e6 e7 e8 e9 uy uk uW uA
 by_cases hs:sr = 0
 case neg =>
  rw [outR_no hs] at hx
  subst hx
  go_wp2_with fail
  exact ⟨rfl,H vH _ _ (by rw [H uo,if_pos hs]) hs (H xu)⟩
 rw [outR_ok hs] at hx
 subst hx
 have HSR:=M hs
 have uc:=M (H uo)
 rw [if_neg (not_not_intro hs)] at uc
 clear hs uo
 obtain ⟨k,o,uQ,uX⟩:=H aA (H HSR)
 have xD:g.l ≠ []:=by intro h; rw [h] at uX; simp at uX
 have pa:=(yG.1 uX).1
 obtain ⟨gb,cap,rfl,uq,hBg,hgw⟩:=cI (H uh).row xD
 have jk:=(H HI).len
 have uR:=M (zK (H uh).row (by omega))
 have jt:=M uQ
 have oE:=M uX
 have hkl':(k:Int) < g.l.length:=by omega
 have pA:(0:Int) ≤ k:=by omega
 clear uQ uX xD aA jk
 go_wp2_with fail
 refine zk (RWA (fun f=>{ tmps:=#[J G 0,.agg (yv xm ck L ct F cq ci X cg id xi qty xj xh).toArray,Z,J w.heap.size 0,J G 0,.agg (yv xm ck L ct F cq ci X cg id xi qty xj xh).toArray,.tuple #[],f 0,f 1,f 2,f 3,f 4,f 5,f 6,f 7,f 8,f 9,f 10,f 11,f 12,f 13,f 14,f 15],defers:=[] }) (CVw [some (J G 0),some (J G 0),some (J G 1),some (J G 2),some (.slice (some (U gb 0)) g.l.length cap),some (J G 0),some (J G 0),some (J G 1),some (.agg #[I g.nx,.slice (some (U gb 0)) g.l.length cap]),some (J w.heap.size 9),some (I id),some (I k),some (J w.heap.size 11),some (I qty),some (J gb (k * 6)),some (J gb (k * 6 + 3)),none] (fun _=>True)) 16 (fun xn=>xn.setCell (U gb (k * 6 + 3)) (I qty)) w2) (by kernel_rfl) ?_ ?_ ?_
 ·exact ⟨fun _=>Z,rfl,⟨fun j O=>by rw [yI] at O; split at O <;> simp at O,fun _=>⟨rfl,rfl,rfl,Nat.le_refl _,fun _ _=>rfl⟩,fun O=>by rw [yI] at O; split at O <;> simp at O⟩⟩
 ·rintro x fG xn ⟨f,rfl,K⟩ hx xN
  have xo:=zN xN hx (acyc _ (by kernel_rfl))
  obtain ⟨V0,xz,eV⟩:=K.m (xo 16 (by simp))
  have ut:=M (zx (H uh) xz)
  have xG:=M (bj (H xu) xz)
  clear K xo xN hx xz uR
  subst eV
  generalize f 0 = v0,f 1 = v1,f 2 = v2,f 3 = v3,f 4 = v4,f 5 = v5,f 6 = v6,f 7 = v7,f 8 = v8,f 9 = v9,f 10 = v10,f 11 = v11,f 12 = v12,f 13 = v13,f 14 = v14,f 15 = v15
  go_end0
  have HL:=oRow_left (H ut).row rfl (H oE) qty
  refine H uw _ (.slice (some (U gb 0)) g.l.length cap) (H uc) ?_ ?_
  ·exact kp_row (H xG) HL.2 rfl
  ·rw [H uU]
   simp only [setI_at (H jt) (H oE)]
   exact gs_rowset (H ut) HL.1 HL.2 rfl
 ·rintro x fG xn i op ⟨f,rfl,K⟩ V hx N xq D
  have xt:=M K
  have nw:i < 16→x[16]? = some false:=fun xI=>by
   rcases bB hx (show 16 < 17 by omega) with hq | hw
   ·exact hq
   ·exfalso
    have h0:=yf V 16 rfl hw 0 rfl
    have Q:=yf V 16 rfl hw 1 rfl
    have E:=yf V 16 rfl hw 2 rfl
    have h3:=yf V 16 rfl hw 3 rfl
    have h4:=yf V 16 rfl hw 4 rfl
    have h5:=yf V 16 rfl hw 5 rfl
    have h6:=yf V 16 rfl hw 6 rfl
    have h7:=yf V 16 rfl hw 7 rfl
    have h8:=yf V 16 rfl hw 8 rfl
    have h9:=yf V 16 rfl hw 9 rfl
    have uV:=yf V 16 rfl hw 10 rfl
    have uS:=yf V 16 rfl hw 11 rfl
    have uO:=yf V 16 rfl hw 12 rfl
    have jN:=yf V 16 rfl hw 13 rfl
    have vQ:=yf V 16 rfl hw 15 rfl
    have oH:=yf V 15 rfl vQ 14 rfl
    rcases (by omega:i = 0 ∨ i = 1 ∨ i = 2 ∨ i = 3 ∨ i = 4 ∨ i = 5 ∨ i = 6 ∨ i = 7 ∨ i = 8 ∨ i = 9 ∨ i = 10 ∨ i = 11 ∨ i = 12 ∨ i = 13 ∨ i = 14 ∨ i = 15) with rfl | rfl | rfl | rfl | rfl | rfl | rfl | rfl | rfl | rfl | rfl | rfl | rfl | rfl | rfl | rfl
    ·exact absurd (h0.symm.trans xq) (by simp)
    ·exact absurd (Q.symm.trans xq) (by simp)
    ·exact absurd (E.symm.trans xq) (by simp)
    ·exact absurd (h3.symm.trans xq) (by simp)
    ·exact absurd (h4.symm.trans xq) (by simp)
    ·exact absurd (h5.symm.trans xq) (by simp)
    ·exact absurd (h6.symm.trans xq) (by simp)
    ·exact absurd (h7.symm.trans xq) (by simp)
    ·exact absurd (h8.symm.trans xq) (by simp)
    ·exact absurd (h9.symm.trans xq) (by simp)
    ·exact absurd (uV.symm.trans xq) (by simp)
    ·exact absurd (uS.symm.trans xq) (by simp)
    ·exact absurd (uO.symm.trans xq) (by simp)
    ·exact absurd (jN.symm.trans xq) (by simp)
    ·exact absurd (oH.symm.trans xq) (by simp)
    ·exact absurd (vQ.symm.trans xq) (by simp)
  have ub:i < 16→yn w2 xn:=fun h=>K.b (nw h)
  have xl:i < 16→∀ (p:Addr) u,w2.cell? p = some u→xn.cell? p = some u:=fun h p u hu=>((ub h).cell (yK w2 _ hu)).trans hu
  match i,N with
  | 0,N | 5,N =>
   obtain rfl:=yb N
   have CL:=xl (by omega)
   clear D K ub xl nw CL
   rw [if_pos (by rfl)];unfold Oper.wp;go_simp
   exact ⟨upd f _ (J G 0),by simp [upd],zC (H xt) _ _ ⟨yi rfl,trivial⟩ (by decide)⟩
  | 1,N =>
   obtain rfl:=yb N
   have g0:=(K.c 0 (ye D 0 rfl)).1 _ rfl
   have CL:=xl (by omega)
   clear D K ub xl nw CL
   rw [if_pos (by rfl)];unfold Oper.wp;go_simp
   exact ⟨upd f 1 (J G 0),by simp [upd,g0],zC (H xt) 1 _ ⟨yi rfl,trivial⟩ (by decide)⟩
  | 2,N =>
   obtain rfl:=yb N
   have g1:=(K.c 1 (ye D 1 rfl)).1 _ rfl
   have CL:=xl (by omega)
   clear D K ub xl nw CL
   rw [if_pos (by rfl)];unfold Oper.wp;go_simp
   exact ⟨upd f 2 (J G 1),by simp [upd,g1],zC (H xt) 2 _ ⟨yi rfl,trivial⟩ (by decide)⟩
  | 3,N =>
   obtain rfl:=yb N
   have g2:=(K.c 2 (ye D 2 rfl)).1 _ rfl
   have CL:=xl (by omega)
   clear D K ub xl nw CL
   rw [if_pos (by rfl)];unfold Oper.wp;go_simp
   exact ⟨upd f 3 (J G 2),by simp [upd,g2],zC (H xt) 3 _ ⟨yi rfl,trivial⟩ (by decide)⟩
  | 4,N =>
   obtain rfl:=yb N
   have g3:=(K.c 3 (ye D 3 rfl)).1 _ rfl
   have CL:=xl (by omega)
   have z:=CL (U G 2) _ (R (H uh).box 2 rfl)
   clear D K ub xl nw CL
   rw [if_pos (by rfl)];unfold Oper.wp;go_simp
   exact ⟨upd f 4 (.slice (some (U gb 0)) g.l.length cap),by simp [upd,g3],zC (H xt) 4 _ ⟨yi rfl,trivial⟩ (by decide)⟩
  | 6,N =>
   obtain rfl:=yb N
   have g5:=(K.c 5 (ye D 5 rfl)).1 _ rfl
   have CL:=xl (by omega)
   clear D K ub xl nw CL
   rw [if_pos (by rfl)];unfold Oper.wp;go_simp
   exact ⟨upd f 6 (J G 0),by simp [upd,g5],zC (H xt) 6 _ ⟨yi rfl,trivial⟩ (by decide)⟩
  | 7,N =>
   obtain rfl:=yb N
   have g6:=(K.c 6 (ye D 6 rfl)).1 _ rfl
   have CL:=xl (by omega)
   clear D K ub xl nw CL
   rw [if_pos (by rfl)];unfold Oper.wp;go_simp
   exact ⟨upd f 7 (J G 1),by simp [upd,g6],zC (H xt) 7 _ ⟨yi rfl,trivial⟩ (by decide)⟩
  | 8,N =>
   obtain rfl:=yb N
   have g7:=(K.c 7 (ye D 7 rfl)).1 _ rfl
   have CL:=xl (by omega)
   have z1:=CL (U G 1) _ (R (H uh).box 1 rfl)
   have z2:=CL (U G 2) _ (R (H uh).box 2 rfl)
   clear D K ub xl nw CL
   rw [if_pos (by rfl)];unfold Oper.wp;go_simp
   exact ⟨upd f 8 (.agg #[I g.nx,.slice (some (U gb 0)) g.l.length cap]),by simp [upd,g7],zC (H xt) 8 _ ⟨yi rfl,trivial⟩ (by decide)⟩
  | 9,N =>
   obtain rfl:=yb N
   have CL:=xl (by omega)
   clear D K ub xl nw CL
   rw [if_pos (by rfl)];unfold Oper.wp;go_simp
   exact ⟨upd f 9 (J w.heap.size 9),by simp [upd],zC (H xt) 9 _ ⟨yi rfl,trivial⟩ (by decide)⟩
  | 10,N =>
   obtain rfl:=yb N
   have g9:=(K.c 9 (ye D 9 rfl)).1 _ rfl
   have CL:=xl (by omega)
   have z:=CL (U w.heap.size 9) _ (R (H xH) 9 rfl)
   clear D K ub xl nw CL
   rw [if_pos (by rfl)];unfold Oper.wp;go_simp
   exact ⟨upd f 10 (I id),by simp [upd,g9],zC (H xt) 10 _ ⟨yi rfl,trivial⟩ (by decide)⟩
  | 11,N =>
   obtain rfl:=yb N
   have g8:=(K.c 8 (ye D 8 rfl)).1 _ rfl
   have qp:=(K.c 10 (ye D 10 rfl)).1 _ rfl
   have CL:=xl (by omega)
   have hw:=nw (by omega)
   have ql:=M (zh (H uR) (ub (by omega)) ya)
   clear D K ub xl nw CL
   rw [if_pos (by rfl)];unfold Oper.wp;go_simp
   refine (ef g.nx _ g.l id xn (H ql)).mono ?_
   rw [H jt]
   rintro e w4 ⟨rfl,xw⟩
   exact ⟨upd f 11 (I k),by simp [upd,g8,qp],zC (cQ (H xt) hw xw) 11 _ ⟨yi rfl,trivial⟩ (by decide)⟩
  | 12,N =>
   obtain rfl:=yb N
   have CL:=xl (by omega)
   clear D K ub xl nw CL
   rw [if_pos (by rfl)];unfold Oper.wp;go_simp
   exact ⟨upd f 12 (J w.heap.size 11),by simp [upd],zC (H xt) 12 _ ⟨yi rfl,trivial⟩ (by decide)⟩
  | 13,N =>
   obtain rfl:=yb N
   have xZ:=(K.c 12 (ye D 12 rfl)).1 _ rfl
   have CL:=xl (by omega)
   have z:=CL (U w.heap.size 11) _ (R (H xH) 11 rfl)
   clear D K ub xl nw CL
   rw [if_pos (by rfl)];unfold Oper.wp;go_simp
   exact ⟨upd f 13 (I qty),by simp [upd,xZ],zC (H xt) 13 _ ⟨yi rfl,trivial⟩ (by decide)⟩
  | 14,N =>
   obtain rfl:=yb N
   have g4:=(K.c 4 (ye D 4 rfl)).1 _ rfl
   have vE:=(K.c 11 (ye D 11 rfl)).1 _ rfl
   have CL:=xl (by omega)
   clear D K ub xl nw CL
   rw [if_pos (by rfl)];unfold Oper.wp;go_simp
   exact ⟨upd f 14 (J gb (k * 6)),by simp [upd,g4,vE],zC (H xt) 14 _ ⟨yi rfl,trivial⟩ (by decide)⟩
  | 15,N =>
   obtain rfl:=yb N
   have jf:=(K.c 14 (ye D 14 rfl)).1 _ rfl
   have CL:=xl (by omega)
   clear D K ub xl nw CL
   rw [if_pos (by rfl)];unfold Oper.wp;go_simp
   exact ⟨upd f 15 (J gb (k * 6 + 3)),by simp [upd,jf],zC (H xt) 15 _ ⟨yi rfl,trivial⟩ (by decide)⟩
  | 16,N =>
   obtain rfl:=yb N
   have g15:=(K.c 15 (ye D 15 rfl)).1 _ rfl
   have qJ:=(K.c 13 (ye D 13 rfl)).1 _ rfl
   have ut:=M (zx (H uh) (K.b xq))
   have jk:=(H HI).len
   obtain ⟨zz,qq⟩:=row_here (H ut).row (by omega) (H oE)
   have z3:=zz 3 _ rfl
   have q3:=qq 3 (by omega)
   clear zz qq jk
   clear D K ub xl nw
   rw [if_pos (by rfl)];unfold Oper.wp;go_simp
   exact ⟨f,by simp [g15,qJ],rw_last (T:=fun xn=>xn.setCell (U gb (k * 6 + 3)) (I qty)) (H xt) xq (fun j O hx=>⟨fun u hu=>(by subst O; cases hu),trivial⟩)⟩
  | i + 17,N=>simp at N
theorem endDay_chk {G B r:Nat} {vq:Value} {g:Gr} (e:Ev) (w:World) (h:GS G B r w vq g) (hi:GI g) (he:okE e = true) (hk:e.kind = 8) (hg:e.cmd.g.size ≤ maxLen):Calls Tryz.prog 94 #[J G 0,evV e] w fun x w'=>Chk G B r vq g e w x w':=by
 have hsf:=sfl
 have hG:=h.lt
 have vV:=h.base
 have uo:Hid (zD g e = if aT g e ≠ 0 then aT g e else if e.qty = ((g.l.filter isDy).length:Int) then 0 else 7):=by show _ = _; simp [zD,hk]
 have uU:Hid (takG g e = ⟨g.nx,g.l,g.bg,g.cm,g.tk⟩):=by show _ = _; rw [takG,step8 hk]
 have vH:Hid (∀ k w',zD g e = k→k ≠ 0→Kp G vq w w'→Chk G B r vq g e w (.panicked (brk k)) w'):=fun k w' Q E h3=>chk_no Q E h3
 have uw:Hid (∀ w' uH,zD g e = 0→Kp G vq w w'→GS G B r w' uH (takG g e)→Chk G B r vq g e w (.returned (.tuple #[])) w'):=fun w' uH Q E h3=>chk_ok Q E h3
 have qg:Hid (∀ W,GS G B r W vq g→Calls Tryz.prog 132 #[J G 0,evV e] W fun x w'=>x = outR (aT g e)∧yn W w'):=fun W hW=>start_any e W hW hi (by rw [hk]; decide) hg
 have HI:=M hi
 generalize Chk G B r vq g e w = C at vH uw ⊢
 generalize zD g e = ru at vH uw uo
 generalize takG g e = g' at uU uw
 generalize aT g e = sr at qg uo
 obtain ⟨xm,⟨ck,L,ct,F,cq,ci,X,cg⟩,id,xi,qty,xj,xh⟩:=e
 simp only at hk hg
 try simp only at uo uU
 unfold evV at qg
 simp only at qg
 unfold evV
 simp only
 obtain ⟨xz,HX⟩:=fJ w (yv xm ck L ct F cq ci X cg id xi qty xj xh) 52
 have HS:Hid ((w.alloc (A (yv xm ck L ct F cq ci X cg id xi qty xj xh).toArray 52)).heap.size = w.heap.size + 1):=by show _ = _; simp
 have HG:=M (zx h xz)
 have HB:Hid (Kp G vq w (w.alloc (A (yv xm ck L ct F cq ci X cg id xi qty xj xh).toArray 52))):=kp_of xz
 clear h xz hi he hk hg
 go_enter Tryz.func94,Tryz.ntmps94
 refine fI fun hR HK=>?_
 go_wp2_with fail
 refine H HK _ _ ?_
 clear HK
 generalize (w.alloc (A (yv xm ck L ct F cq ci X cg id xi qty xj xh).toArray 52)) = W1 at HS HX HG HB ⊢
 obtain ⟨e0,e1,e2,e3,e4,e5,e6,e7,e8,e9,uy,uk,uW,uA⟩:=yy (H HX)
 go_wp2_with fail
 refine (H qg W1 (H HG)).mono ?_
 rintro x w2 ⟨hx,xJ⟩
 have xH:=M (zg (H HX) xJ (by have:=H HS; omega))
 have uh:=M (zx (H HG) xJ)
 have xu:=M (bj (H HB) xJ)
 have hS2:w.heap.size < w2.heap.size:=by have:=H HS; have:=xJ.size; omega
 clear xJ e0 e1 e2 e3 e4 e5 e6 e7 e8 e9 uy uk uW uA
 by_cases hs:sr = 0
 case neg =>
  rw [outR_no hs] at hx
  subst hx
  go_wp2_with fail
  exact ⟨rfl,H vH _ _ (by rw [H uo,if_pos hs]) hs (H xu)⟩
 rw [outR_ok hs] at hx
 subst hx
 have HSR:=M hs
 have uc:=M (H uo)
 rw [if_neg (not_not_intro hs)] at uc
 clear hs uo
 have jk:=(H HI).len
 obtain ⟨a,cap,rfl,xA,hc⟩:=zK (H uh).row (by omega)
 have xr:∀ (k:Nat) (c:Od),g.l[k]? = some c→∃ b off,a = some (U b off)∧b < w2.heap.size∧w2.rangeAt b (off + k * 6) c.vs:=by
  intro k c hk
  obtain ⟨b,off,Q,E,h3⟩:=hc (by intro h; rw [h] at hk; simp at hk)
  exact ⟨b,off,Q,E,h3 k c hk⟩
 have HC:=M xr
 clear xr hc xA
 have c2:w2.cell? (U G 2) = some (.slice a g.l.length cap):=R (H uh).box 2 rfl
 go_wp2_with fail
 clear c2
 go_loopw [4,16] (fun cv iv wr=>∃ k:Nat,k ≤ g.l.length∧cv = I (((g.l.take k).filter isDy).length:Int)∧iv = I k∧yn w2 wr) (fun _ iv _=>g.l.length - (intOf iv).toNat)
 case atStart=>exact ⟨0,Nat.zero_le _,rfl,rfl,Below.refl _ _⟩
 case round =>
  obtain ⟨k,hk,rfl,rfl,xk⟩:=hrel
  have ua:=M xk
  clear xk
  by_cases xI:k < g.l.length
  ·obtain ⟨c,ur⟩:∃ c,g.l[k]? = some c:=⟨_,yH xI⟩
   have HT:Hid (((g.l.take (k + 1)).filter isDy).length = ((g.l.take k).filter isDy).length + if isDy c = true then 1 else 0):=by
    show _ = _
    rw [List.take_add_one,ur]
    simp [List.filter_cons]
    split <;> simp
   have hcn:((g.l.take k).filter isDy).length ≤ k:=yN (List.length_filter_le _ _) (by simp; omega)
   generalize ((g.l.take k).filter isDy).length = cn at HT hcn ⊢
   obtain ⟨b,off,rfl,Y,V⟩:=H HC k c ur
   obtain ⟨g0,g1,g2,g3,g4,g5⟩:=zA (zc V (H ua) Y)
   have uJ:(k:Int) < g.l.length:=by omega
   have xw:=fE wr (A (yw c.id c.side c.ticks c.left c.life c.tag).toArray 78)
   have xG:=M (fH (H ua) xw)
   clear ur V Y xw
   go_wp2_with fail
   refine (isOfDay_any c (wr.alloc (A (yw c.id c.side c.ticks c.left c.life c.tag).toArray 78))).mono ?_
   rintro e w3 ⟨rfl,xM⟩
   have xL:=M (fH (H xG) xM)
   clear xM g0 g1 g2 g3 g4 g5
   have hwr:IntKind.i64.wrap ((cn:Int) + 1) = (cn:Int) + 1:=by rw [IntKind.wrap_i64]; omega
   by_cases uj:c.life = 1
   ·have Y:(c.life == 1) = true:=by simpa using uj
    have ux:Hid (((g.l.take (k + 1)).filter isDy).length = cn + 1):=by show _ = _; rw [H HT,if_pos (by simpa [isDy] using uj)]
    clear uj HT
    go_wp2_with fail
    go_roundw
    case rel=>exact ⟨k + 1,by omega,by rw [H ux]; rfl,by go_num,H xL⟩
    case measure=>simp [intOf]; omega
   ·have Y:(c.life == 1) = false:=by simpa using uj
    have ux:Hid (((g.l.take (k + 1)).filter isDy).length = cn):=by show _ = _; rw [H HT,if_neg (by simpa [isDy] using uj)]; rfl
    clear uj HT
    go_wp2_with fail
    go_roundw
    case rel=>exact ⟨k + 1,by omega,by rw [H ux],by go_num,H xL⟩
    case measure=>simp [intOf]; omega
  ·have oN:k = g.l.length:=by omega
   subst oN
   rw [List.take_length]
   generalize hcn:(g.l.filter isDy).length = cn at uc
   clear hcn
   have xE:=M (zg (H xH) (H ua) hS2)
   have ut:=M (zx (H uh) (H ua))
   have xG:=M (bj (H xu) (H ua))
   have uk:=R (H xE) 11 rfl
   by_cases hq:qty = (cn:Int)
   case neg =>
    have b0:(qty == (cn:Int)) = false:=by simpa using hq
    have HQ:=M (H uc)
    rw [if_neg hq] at HQ
    clear hq
    go_wp2_with fail
    refine (bD 7 _).mono ?_
    rintro e w6 ⟨rfl,rfl⟩
    go_wp2_with fail
    exact ⟨rfl,H vH 7 _ (H HQ) (by decide) (H xG)⟩
   have b0:(qty == (cn:Int)) = true:=by simpa using hq
   have HQ:=M (H uc)
   rw [if_pos hq] at HQ
   clear hq
   go_wp2_with fail
   refine (bI 7 _).mono ?_
   rintro e w6 ⟨rfl,rfl⟩
   go_wp2_with fail
   go_end0
   refine H uw _ (.slice a g.l.length cap) (H HQ) (H xG) ?_
   rw [H uU]
   exact H ut
theorem drop_chk {G B r:Nat} {vq:Value} {g:Gr} (e:Ev) (w:World) (h:GS G B r w vq g) (hi:GI g) (he:okE e = true) (hk:e.kind = 5) (hg:e.cmd.g.size ≤ maxLen):Calls Tryz.prog 91 #[J G 0,evV e] w fun x w'=>Chk G B r vq g e w x w':=by
 have hsf:=sfl
 have hG:=h.lt
 have vV:=h.base
 have uo:Hid (zD g e = if dueR g e ≠ 0 then dueR g e else if aW e (dueG g) = true then 0 else 13):=by show _ = _; simp [zD,hk]
 have uU:Hid (takG g e = ⟨g.nx,g.l,g.bg,g.cm,{ g.tk with left:=0 }⟩):=by show _ = _; rw [takG,step5 hk]
 have vH:Hid (∀ k w',zD g e = k→k ≠ 0→Kp G vq w w'→Chk G B r vq g e w (.panicked (brk k)) w'):=fun k w' Q E h3=>chk_no Q E h3
 have uw:Hid (∀ w' uH,zD g e = 0→Kp G vq w w'→GS G B r w' uH (takG g e)→Chk G B r vq g e w (.returned (.tuple #[])) w'):=fun w' uH Q E h3=>chk_ok Q E h3
 have jy:Hid (∀ W,GS G B r W vq g→Calls Tryz.prog 137 #[J G 0,evV e] W fun x w'=>x = outD (dueR g e) (dueG g)∧yn W w'):=fun W hW=>eJ e W hW hi
 have pI:Hid (∀ W,Calls Tryz.prog 139 #[evV e,duV (dueG g)] W fun r w'=>r = .returned (.bool (aW e (dueG g)))∧yn W w'):=fun W=>isJust_any e (dueG g) W
 have HR45:Hid (zD g e = 0→g.bg = 1∧g.tk.left ≠ 0):=rule45 (by omega)
 have HI:=M hi
 generalize Chk G B r vq g e w = C at vH uw ⊢
 generalize zD g e = ru at vH uw uo HR45
 generalize takG g e = g' at uU uw
 generalize dueR g e = dr at jy uo
 generalize aW e (dueG g) = jb at pI uo
 generalize dueG g = d at jy pI
 obtain ⟨xm,⟨ck,L,ct,F,cq,ci,X,cg⟩,id,xi,qty,xj,xh⟩:=e
 simp only at hk hg
 try simp only at uo uU
 obtain ⟨dk,di,dt,dq,dp⟩:=d
 unfold evV at jy pI
 unfold duV at pI
 simp only at jy pI
 unfold evV
 simp only
 obtain ⟨xz,HX⟩:=fJ w (yv xm ck L ct F cq ci X cg id xi qty xj xh) 52
 have HS:Hid ((w.alloc (A (yv xm ck L ct F cq ci X cg id xi qty xj xh).toArray 52)).heap.size = w.heap.size + 1):=by show _ = _; simp
 have HG:=M (zx h xz)
 have HB:Hid (Kp G vq w (w.alloc (A (yv xm ck L ct F cq ci X cg id xi qty xj xh).toArray 52))):=kp_of xz
 clear h xz hi he hk hg
 go_enter Tryz.func91,Tryz.ntmps91
 refine fI fun hR HK=>?_
 go_wp2_with fail
 refine H HK _ _ ?_
 clear HK
 generalize (w.alloc (A (yv xm ck L ct F cq ci X cg id xi qty xj xh).toArray 52)) = W1 at HS HX HG HB ⊢
 go_wp2_with fail
 refine zk (RWA (fun f=>{ tmps:=#[J G 0,.agg (yv xm ck L ct F cq ci X cg id xi qty xj xh).toArray,Z,J w.heap.size 0,f 0,f 1,f 2,f 3,f 4,f 5,Z,Z,Z,Z],defers:=[] }) (CVw [some (.agg (yv xm ck L ct F cq ci X cg id xi qty xj xh).toArray),some (J G 0),some (.agg (yv xm ck L ct F cq ci X cg id xi qty xj xh).toArray),some (.agg #[I dk,I di,I dt,I dq,I dp]),some (.bool jb),some (.tuple #[])] (fun j=>(j = 3→dr = 0)∧(j = 5→jb = true))) 5 (fun xn=>xn) W1) (by kernel_rfl) ?_ ?_ ?_
 ·exact ⟨fun _=>Z,rfl,⟨fun j O=>by rw [yI] at O; split at O <;> simp at O,fun _=>⟨rfl,rfl,rfl,Nat.le_refl _,fun _ _=>rfl⟩,fun O=>by rw [yI] at O; split at O <;> simp at O⟩⟩
 ·rintro x fG xn ⟨f,rfl,K⟩ hx xN
  have xo:=zN xN hx (acyc _ (by kernel_rfl))
  obtain ⟨V0,xz,eV⟩:=K.m (xo 5 (by simp))
  have ja:=(K.c 3 (xo 3 (by simp))).2.1 rfl
  have hjb:=(K.c 5 (xo 5 (by simp))).2.2 rfl
  have HQ:=M (H uo)
  rw [if_neg (not_not_intro ja),if_pos hjb] at HQ
  subst eV
  have ut:=M (zx (H HG) xz)
  have xG:=M (bj (H HB) xz)
  clear K xo xN hx xz ja hjb uo jy pI HX HS HG HB
  dsimp only
  generalize f 0 = v0,f 1 = v1,f 2 = v2,f 3 = v3,f 4 = v4,f 5 = v5
  have c13:=R (H ut).box 13 rfl
  have q13:=zd (H ut).box 13 (by show 13 < 16; decide)
  go_wp2_with fail
  go_end0
  refine H uw _ vq (H HQ) (kp_set (H xG) 13 _) ?_
  rw [H uU]
  exact gs_set (H ut) 13 _ (by decide) rfl rfl
 ·rintro x fG xn i op ⟨f,rfl,K⟩ V hx N xq D
  have xt:=M K
  have nw:i < 5→x[5]? = some false:=fun xI=>by
   rcases bB hx (show 5 < 6 by omega) with hq | hw
   ·exact hq
   ·exfalso
    have h4:=yf V 5 rfl hw 4 rfl
    have h0:=yf V 4 rfl h4 0 rfl
    have h3:=yf V 4 rfl h4 3 rfl
    have Q:=yf V 3 rfl h3 1 rfl
    have E:=yf V 3 rfl h3 2 rfl
    rcases (by omega:i = 0 ∨ i = 1 ∨ i = 2 ∨ i = 3 ∨ i = 4) with rfl | rfl | rfl | rfl | rfl
    ·exact absurd (h0.symm.trans xq) (by simp)
    ·exact absurd (Q.symm.trans xq) (by simp)
    ·exact absurd (E.symm.trans xq) (by simp)
    ·exact absurd (h3.symm.trans xq) (by simp)
    ·exact absurd (h4.symm.trans xq) (by simp)
  have ub:i < 5→yn W1 xn:=fun h=>K.b (nw h)
  have xl:i < 5→∀ (p:Addr) u,W1.cell? p = some u→xn.cell? p = some u:=fun h p u hu=>((ub h).cell (yK W1 _ hu)).trans hu
  match i,N with
  | 0,N | 2,N =>
   obtain rfl:=yb N
   have CL:=xl (by omega)
   have e0:=CL (U w.heap.size 0) _ (R (H HX) 0 rfl)
   have e1:=CL (U w.heap.size 1) _ (R (H HX) 1 rfl)
   have e2:=CL (U w.heap.size 2) _ (R (H HX) 2 rfl)
   have e3:=CL (U w.heap.size 3) _ (R (H HX) 3 rfl)
   have e4:=CL (U w.heap.size 4) _ (R (H HX) 4 rfl)
   have e5:=CL (U w.heap.size 5) _ (R (H HX) 5 rfl)
   have e6:=CL (U w.heap.size 6) _ (R (H HX) 6 rfl)
   have e7:=CL (U w.heap.size 7) _ (R (H HX) 7 rfl)
   have e8:=CL (U w.heap.size 8) _ (R (H HX) 8 rfl)
   have e9:=CL (U w.heap.size 9) _ (R (H HX) 9 rfl)
   have uy:=CL (U w.heap.size 10) _ (R (H HX) 10 rfl)
   have uk:=CL (U w.heap.size 11) _ (R (H HX) 11 rfl)
   have uW:=CL (U w.heap.size 12) _ (R (H HX) 12 rfl)
   have uA:=CL (U w.heap.size 13) _ (R (H HX) 13 rfl)
   clear D K ub xl nw CL
   rw [if_pos (by rfl)];unfold Oper.wp;go_simp
   exact ⟨upd f _ (.agg (yv xm ck L ct F cq ci X cg id xi qty xj xh).toArray),by simp [upd],zC (H xt) _ _ ⟨yi rfl,⟨fun h=>absurd h (by decide),fun h=>absurd h (by decide)⟩⟩ (by decide)⟩
  | 1,N =>
   obtain rfl:=yb N
   have CL:=xl (by omega)
   clear D K ub xl nw CL
   rw [if_pos (by rfl)];unfold Oper.wp;go_simp
   exact ⟨upd f 1 (J G 0),by simp [upd],zC (H xt) 1 _ ⟨yi rfl,⟨fun h=>absurd h (by decide),fun h=>absurd h (by decide)⟩⟩ (by decide)⟩
  | 3,N =>
   obtain rfl:=yb N
   have g1:=(K.c 1 (ye D 1 rfl)).1 _ rfl
   have g2:=(K.c 2 (ye D 2 rfl)).1 _ rfl
   have CL:=xl (by omega)
   have hw:=nw (by omega)
   have vu:=M (bj (H HB) (ub (by omega)))
   have HGV:=M (zx (H HG) (ub (by omega)))
   clear D K ub xl nw CL
   rw [if_pos (by rfl)];unfold Oper.wp;go_simp
   refine (H jy xn (H HGV)).mono ?_
   rintro y w4 ⟨hy,xw⟩
   by_cases hs:dr = 0
   ·rw [outD_ok hs] at hy
    subst hy
    exact ⟨upd f 3 (.agg #[I dk,I di,I dt,I dq,I dp]),by simp [upd,g1,g2,duV],zC (cQ (H xt) hw xw) 3 _ ⟨yi rfl,fun _=>hs,fun h=>absurd h (by decide)⟩ (by decide)⟩
   ·rw [outD_no hs] at hy
    subst hy
    have HQ:=M (H uo)
    rw [if_pos hs] at HQ
    have jB:=M hs
    have ug:=M (bj (H vu) xw)
    clear hs xw
    go_wp2_with fail
    exact ⟨rfl,H vH _ _ (H HQ) (H jB) (H ug)⟩
  | 4,N =>
   obtain rfl:=yb N
   have g0:=(K.c 0 (ye D 0 rfl)).1 _ rfl
   have g3:=(K.c 3 (ye D 3 rfl)).1 _ rfl
   have CL:=xl (by omega)
   have hw:=nw (by omega)
   clear D K ub xl nw CL
   rw [if_pos (by rfl)];unfold Oper.wp;go_simp
   refine (H pI xn).mono ?_
   rintro y w4 ⟨rfl,xw⟩
   exact ⟨upd f 4 (.bool jb),by simp [upd,g0,g3],zC (cQ (H xt) hw xw) 4 _ ⟨yi rfl,⟨fun h=>absurd h (by decide),fun h=>absurd h (by decide)⟩⟩ (by decide)⟩
  | 5,N =>
   obtain rfl:=yb N
   have g4:=(K.c 4 (ye D 4 rfl)).1 _ rfl
   have vu:=M (bj (H HB) (K.b xq))
   have h4:=D ⟨4,.data⟩ (by simp) rfl
   have h3:=yf V 4 rfl h4 3 rfl
   have ja:=(K.c 3 h3).2.1 rfl
   have HQ:=M (H uo)
   rw [if_neg (not_not_intro ja)] at HQ
   clear D K ub xl nw h4 h3 ja
   rw [if_pos (by rfl)];unfold Oper.wp;go_simp
   by_cases O:jb = true
   ·have hd:=bI 13 xn
    rw [← O] at hd
    refine hd.mono ?_
    rintro e w4 ⟨rfl,rfl⟩
    exact ⟨upd f 5 (.tuple #[]),by simp [upd,g4],rw_lastv (T:=fun xn=>xn) (H xt) xq ⟨yi rfl,fun h=>absurd h (by decide),fun _=>O⟩⟩
   ·have hj2:jb = false:=by simpa using O
    have hd:=bD 13 xn
    rw [← hj2] at hd
    refine hd.mono ?_
    rintro e w4 ⟨rfl,rfl⟩
    rw [if_neg O] at HQ
    clear O hj2 hd
    go_wp2_with fail
    exact ⟨rfl,H vH 13 _ (H HQ) (by decide) (H vu)⟩
  | i + 6,N=>simp at N
end Go.Proofs.YtnphbkgfjanmgaaGreatDoor
