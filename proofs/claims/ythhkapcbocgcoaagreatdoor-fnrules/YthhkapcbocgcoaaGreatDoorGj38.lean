/-
  An order reduced in a group, by the program: proved by walking the method.
-/
import Derived.Test.YthhkapcbocgcoaaGreatDoorGj36
set_option linter.unusedVariables false
set_option maxHeartbeats 6400000
set_option maxRecDepth 100000
namespace Go.Proofs.YthhkapcbocgcoaaGreatDoor
open Go.RowKit
theorem reduce_chk {G B r:Nat} {vq:Value} {g:Gr} (e:Ev) (w:World) (h:GS G B r w vq g) (hi:GI g) (he:okE e = true) (E:e.kind = 7) (hg:e.cmd.g.size ≤ maxLen):Calls Tryz.prog 100 #[I G 0,evV e] w fun x w'=>Chk G B r vq g e w x w':=by
 have hsf:=sfl
 have hG:=h.lt
 have jU:=h.base
 have ux:Hid (zD g e = if zU g e ≠ 0 then zU g e else 0):=by show _ = _; rw [show zD g e = zU g e by simp [zD,E]]; split <;> simp_all
 have uY:Hid (takG g e = ⟨g.nx,setI g.l e.id e.qty,g.bg,g.cm,g.tk⟩):=by show _ = _; rw [takG,step7 E]
 have vn:Hid (∀ k w',zD g e = k→k ≠ 0→Kp G vq w w'→Chk G B r vq g e w (.panicked (brk k)) w'):=fun k w' Q D X=>chk_no Q D X
 have uX:Hid (∀ w' uG,zD g e = 0→Kp G vq w w'→GS G B r w' uG (takG g e)→Chk G B r vq g e w (.returned (.tuple #[])) w'):=fun w' uG Q D X=>chk_ok Q D X
 have qb:Hid (∀ W,GS G B r W vq g→Calls Tryz.prog 148 #[I G 0,evV e] W fun x w'=>x = outR (zU g e)∧yn W w'):=fun W hW=>start_any e W hW hi (by rw [E]; decide) hg
 have HPC:Hid (zU g e = 0→∃ (k:Nat) (o:Od),plc g.l e.id = k∧g.l[k]? = some o):=fun h0=>by have D:=(ej h0).2; simp only [da,E] at D; obtain ⟨k,o,a,b,_⟩:=ref_red D; exact ⟨k,o,a,b⟩
 have HI:=M hi
 generalize Chk G B r vq g e w = C at vn uX ⊢
 generalize zD g e = ru at vn uX ux
 generalize takG g e = g' at uY uX
 generalize zU g e = sr at qb HPC ux
 obtain ⟨xn,⟨ck,cs,ct,cl,cq,ci,cp,cg⟩,id,xl,qty,xm,xk⟩:=e
 simp only at E hg
 try simp only at ux uY
 unfold evV at qb
 simp only at qb HPC
 unfold evV
 simp only
 obtain ⟨xR,HX⟩:=ie w (yv xn ck cs ct cl cq ci cp cg id xl qty xm xk) 37
 have HS:Hid ((w.alloc (O (yv xn ck cs ct cl cq ci cp cg id xl qty xm xk).toArray 37)).heap.size = w.heap.size + 1):=by show _ = _; simp
 have HG:=M (zx h xR)
 have HB:Hid (Kp G vq w (w.alloc (O (yv xn ck cs ct cl cq ci cp cg id xl qty xm xk).toArray 37))):=kp_of xR
 clear h xR hi he E hg
 go_enter Tryz.func100,Tryz.ntmps100
 refine ic fun xh HK=>?_
 go_wp2_with fail
 refine U HK _ _ ?_
 clear HK
 generalize (w.alloc (O (yv xn ck cs ct cl cq ci cp cg id xl qty xm xk).toArray 37)) = W1 at HS HX HG HB ⊢
 obtain ⟨e0,e1,e2,e3,e4,e5,e6,e7,e8,e9,vy,vz,qj,qk⟩:=yz (U HX)
 go_wp2_with fail
 refine (U qb W1 (U HG)).mono ?_
 rintro x w2 ⟨hx,xP⟩
 have xW:=M (zl (U HX) xP (by have:=U HS; omega))
 have uo:=M (zx (U HG) xP)
 have xt:=M (cB (U HB) xP)
 have hS2:w.heap.size < w2.heap.size:=by have:=U HS; have:=xP.size; omega
 clear xP e0 e1 e2 e3 e4 e5 e6 e7 e8 e9 vy vz qj qk
 by_cases hs:sr = 0
 case neg =>
  rw [outR_no hs] at hx
  subst hx
  go_wp2_with fail
  exact ⟨rfl,U vn _ _ (by rw [U ux,if_pos hs]) hs (U xt)⟩
 rw [outR_ok hs] at hx
 subst hx
 have HSR:=M hs
 have uc:=M (U ux)
 rw [if_neg (not_not_intro hs)] at uc
 clear hs ux
 obtain ⟨k,o,vD,kD⟩:=U HPC (U HSR)
 have xC:g.l ≠ []:=by intro h; rw [h] at kD; simp at kD
 have pP:=(yH.1 kD).1
 obtain ⟨gb,cap,rfl,uq,hBg,hgw⟩:=fE (U uo).row xC
 have hln:=(U HI).len
 have qh:=M (zV (U uo).row (by omega))
 have bA:=M vD
 have au:=M kD
 have hkl':(k:Int) < g.l.length:=by omega
 have oG:(0:Int) ≤ k:=by omega
 clear vD kD xC HPC hln
 go_wp2_with fail
 refine zn (RWA (fun f=>{ tmps:=#[I G 0,.agg (yv xn ck cs ct cl cq ci cp cg id xl qty xm xk).toArray,Z,I w.heap.size 0,I G 0,.agg (yv xn ck cs ct cl cq ci cp cg id xl qty xm xk).toArray,.tuple #[],f 0,f 1,f 2,f 3,f 4,f 5,f 6,f 7,f 8,f 9,f 10,f 11,f 12,f 13,f 14,f 15],defers:=[] }) (CVw [some (I G 0),some (I G 0),some (I G 1),some (I G 2),some (.slice (some (J gb 0)) g.l.length cap),some (I G 0),some (I G 0),some (I G 1),some (.agg #[H g.nx,.slice (some (J gb 0)) g.l.length cap]),some (I w.heap.size 9),some (H id),some (H k),some (I w.heap.size 11),some (H qty),some (I gb (k * 6)),some (I gb (k * 6 + 3)),none] (fun _=>True)) 16 (fun V=>V.setCell (J gb (k * 6 + 3)) (H qty)) w2) (by kernel_rfl) ?_ ?_ ?_
 ·exact ⟨fun _=>Z,rfl,⟨fun j hj=>by rw [yJ] at hj; split at hj <;> simp at hj,fun _=>⟨rfl,rfl,rfl,Nat.le_refl _,fun _ _=>rfl⟩,fun hj=>by rw [yJ] at hj; split at hj <;> simp at hj⟩⟩
 ·rintro x hb V ⟨f,rfl,F⟩ hx xN
  have xp:=zX xN hx (acyc _ (by kernel_rfl))
  obtain ⟨V0,xR,eV⟩:=F.m (xp 16 (by simp))
  have uk:=M (zx (U uo) xR)
  have xO:=M (cB (U xt) xR)
  clear F xp xN hx xR qh
  subst eV
  generalize f 0 = v0,f 1 = v1,f 2 = v2,f 3 = v3,f 4 = v4,f 5 = v5,f 6 = v6,f 7 = v7,f 8 = v8,f 9 = v9,f 10 = v10,f 11 = v11,f 12 = v12,f 13 = v13,f 14 = v14,f 15 = v15
  go_end0
  have HL:=oRow_left (U uk).row rfl (U au) qty
  refine U uX _ (.slice (some (J gb 0)) g.l.length cap) (U uc) ?_ ?_
  ·exact kp_row (U xO) HL.2 rfl
  ·rw [U uY]
   simp only [setI_at (U bA) (U au)]
   exact gs_rowset (U uk) HL.1 HL.2 rfl
 ·rintro x hb V i op ⟨f,rfl,F⟩ xo hx Y xu K
  have xA:=M F
  have nw:i < 16→x[16]? = some false:=fun xM=>by
   rcases dm hx (show 16 < 17 by omega) with hq | hw
   ·exact hq
   ·exfalso
    have h0:=yf xo 16 rfl hw 0 rfl
    have Q:=yf xo 16 rfl hw 1 rfl
    have D:=yf xo 16 rfl hw 2 rfl
    have X:=yf xo 16 rfl hw 3 rfl
    have h4:=yf xo 16 rfl hw 4 rfl
    have h5:=yf xo 16 rfl hw 5 rfl
    have h6:=yf xo 16 rfl hw 6 rfl
    have h7:=yf xo 16 rfl hw 7 rfl
    have h8:=yf xo 16 rfl hw 8 rfl
    have h9:=yf xo 16 rfl hw 9 rfl
    have vi:=yf xo 16 rfl hw 10 rfl
    have vK:=yf xo 16 rfl hw 11 rfl
    have vX:=yf xo 16 rfl hw 12 rfl
    have jd:=yf xo 16 rfl hw 13 rfl
    have vT:=yf xo 16 rfl hw 15 rfl
    have oy:=yf xo 15 rfl vT 14 rfl
    rcases (by omega:i = 0 ∨ i = 1 ∨ i = 2 ∨ i = 3 ∨ i = 4 ∨ i = 5 ∨ i = 6 ∨ i = 7 ∨ i = 8 ∨ i = 9 ∨ i = 10 ∨ i = 11 ∨ i = 12 ∨ i = 13 ∨ i = 14 ∨ i = 15) with rfl | rfl | rfl | rfl | rfl | rfl | rfl | rfl | rfl | rfl | rfl | rfl | rfl | rfl | rfl | rfl
    ·exact absurd (h0.symm.trans xu) (by simp)
    ·exact absurd (Q.symm.trans xu) (by simp)
    ·exact absurd (D.symm.trans xu) (by simp)
    ·exact absurd (X.symm.trans xu) (by simp)
    ·exact absurd (h4.symm.trans xu) (by simp)
    ·exact absurd (h5.symm.trans xu) (by simp)
    ·exact absurd (h6.symm.trans xu) (by simp)
    ·exact absurd (h7.symm.trans xu) (by simp)
    ·exact absurd (h8.symm.trans xu) (by simp)
    ·exact absurd (h9.symm.trans xu) (by simp)
    ·exact absurd (vi.symm.trans xu) (by simp)
    ·exact absurd (vK.symm.trans xu) (by simp)
    ·exact absurd (vX.symm.trans xu) (by simp)
    ·exact absurd (jd.symm.trans xu) (by simp)
    ·exact absurd (oy.symm.trans xu) (by simp)
    ·exact absurd (vT.symm.trans xu) (by simp)
  have um:i < 16→yn w2 V:=fun h=>F.b (nw h)
  have xj:i < 16→∀ (p:Addr) u,w2.cell? p = some u→V.cell? p = some u:=fun h p u hu=>((um h).cell (yL w2 _ hu)).trans hu
  match i,Y with
  | 0,Y | 5,Y =>
   obtain rfl:=ya Y
   have CL:=xj (by omega)
   clear K F um xj nw CL
   rw [if_pos (by rfl)];unfold Oper.wp;go_simp
   exact ⟨upd f _ (I G 0),by simp [upd],zI (U xA) _ _ ⟨yi rfl,trivial⟩ (by decide)⟩
  | 1,Y =>
   obtain rfl:=ya Y
   have g0:=(F.c 0 (ye K 0 rfl)).1 _ rfl
   have CL:=xj (by omega)
   clear K F um xj nw CL
   rw [if_pos (by rfl)];unfold Oper.wp;go_simp
   exact ⟨upd f 1 (I G 0),by simp [upd,g0],zI (U xA) 1 _ ⟨yi rfl,trivial⟩ (by decide)⟩
  | 2,Y =>
   obtain rfl:=ya Y
   have g1:=(F.c 1 (ye K 1 rfl)).1 _ rfl
   have CL:=xj (by omega)
   clear K F um xj nw CL
   rw [if_pos (by rfl)];unfold Oper.wp;go_simp
   exact ⟨upd f 2 (I G 1),by simp [upd,g1],zI (U xA) 2 _ ⟨yi rfl,trivial⟩ (by decide)⟩
  | 3,Y =>
   obtain rfl:=ya Y
   have g2:=(F.c 2 (ye K 2 rfl)).1 _ rfl
   have CL:=xj (by omega)
   clear K F um xj nw CL
   rw [if_pos (by rfl)];unfold Oper.wp;go_simp
   exact ⟨upd f 3 (I G 2),by simp [upd,g2],zI (U xA) 3 _ ⟨yi rfl,trivial⟩ (by decide)⟩
  | 4,Y =>
   obtain rfl:=ya Y
   have g3:=(F.c 3 (ye K 3 rfl)).1 _ rfl
   have CL:=xj (by omega)
   have z:=CL (J G 2) _ (zb (U uo).box 2 rfl)
   clear K F um xj nw CL
   rw [if_pos (by rfl)];unfold Oper.wp;go_simp
   exact ⟨upd f 4 (.slice (some (J gb 0)) g.l.length cap),by simp [upd,g3],zI (U xA) 4 _ ⟨yi rfl,trivial⟩ (by decide)⟩
  | 6,Y =>
   obtain rfl:=ya Y
   have g5:=(F.c 5 (ye K 5 rfl)).1 _ rfl
   have CL:=xj (by omega)
   clear K F um xj nw CL
   rw [if_pos (by rfl)];unfold Oper.wp;go_simp
   exact ⟨upd f 6 (I G 0),by simp [upd,g5],zI (U xA) 6 _ ⟨yi rfl,trivial⟩ (by decide)⟩
  | 7,Y =>
   obtain rfl:=ya Y
   have g6:=(F.c 6 (ye K 6 rfl)).1 _ rfl
   have CL:=xj (by omega)
   clear K F um xj nw CL
   rw [if_pos (by rfl)];unfold Oper.wp;go_simp
   exact ⟨upd f 7 (I G 1),by simp [upd,g6],zI (U xA) 7 _ ⟨yi rfl,trivial⟩ (by decide)⟩
  | 8,Y =>
   obtain rfl:=ya Y
   have g7:=(F.c 7 (ye K 7 rfl)).1 _ rfl
   have CL:=xj (by omega)
   have z1:=CL (J G 1) _ (zb (U uo).box 1 rfl)
   have z2:=CL (J G 2) _ (zb (U uo).box 2 rfl)
   clear K F um xj nw CL
   rw [if_pos (by rfl)];unfold Oper.wp;go_simp
   exact ⟨upd f 8 (.agg #[H g.nx,.slice (some (J gb 0)) g.l.length cap]),by simp [upd,g7],zI (U xA) 8 _ ⟨yi rfl,trivial⟩ (by decide)⟩
  | 9,Y =>
   obtain rfl:=ya Y
   have CL:=xj (by omega)
   clear K F um xj nw CL
   rw [if_pos (by rfl)];unfold Oper.wp;go_simp
   exact ⟨upd f 9 (I w.heap.size 9),by simp [upd],zI (U xA) 9 _ ⟨yi rfl,trivial⟩ (by decide)⟩
  | 10,Y =>
   obtain rfl:=ya Y
   have g9:=(F.c 9 (ye K 9 rfl)).1 _ rfl
   have CL:=xj (by omega)
   have z:=CL (J w.heap.size 9) _ (zb (U xW) 9 rfl)
   clear K F um xj nw CL
   rw [if_pos (by rfl)];unfold Oper.wp;go_simp
   exact ⟨upd f 10 (H id),by simp [upd,g9],zI (U xA) 10 _ ⟨yi rfl,trivial⟩ (by decide)⟩
  | 11,Y =>
   obtain rfl:=ya Y
   have g8:=(F.c 8 (ye K 8 rfl)).1 _ rfl
   have qL:=(F.c 10 (ye K 10 rfl)).1 _ rfl
   have CL:=xj (by omega)
   have hw:=nw (by omega)
   have HRV:=M (zh (U qh) (um (by omega)) hU)
   clear K F um xj nw CL
   rw [if_pos (by rfl)];unfold Oper.wp;go_simp
   refine (fR g.nx _ g.l id V (U HRV)).mono ?_
   rw [U bA]
   rintro e w4 ⟨rfl,xy⟩
   exact ⟨upd f 11 (H k),by simp [upd,g8,qL],zI (fo (U xA) hw xy) 11 _ ⟨yi rfl,trivial⟩ (by decide)⟩
  | 12,Y =>
   obtain rfl:=ya Y
   have CL:=xj (by omega)
   clear K F um xj nw CL
   rw [if_pos (by rfl)];unfold Oper.wp;go_simp
   exact ⟨upd f 12 (I w.heap.size 11),by simp [upd],zI (U xA) 12 _ ⟨yi rfl,trivial⟩ (by decide)⟩
  | 13,Y =>
   obtain rfl:=ya Y
   have ud:=(F.c 12 (ye K 12 rfl)).1 _ rfl
   have CL:=xj (by omega)
   have z:=CL (J w.heap.size 11) _ (zb (U xW) 11 rfl)
   clear K F um xj nw CL
   rw [if_pos (by rfl)];unfold Oper.wp;go_simp
   exact ⟨upd f 13 (H qty),by simp [upd,ud],zI (U xA) 13 _ ⟨yi rfl,trivial⟩ (by decide)⟩
  | 14,Y =>
   obtain rfl:=ya Y
   have g4:=(F.c 4 (ye K 4 rfl)).1 _ rfl
   have ql:=(F.c 11 (ye K 11 rfl)).1 _ rfl
   have CL:=xj (by omega)
   clear K F um xj nw CL
   rw [if_pos (by rfl)];unfold Oper.wp;go_simp
   exact ⟨upd f 14 (I gb (k * 6)),by simp [upd,g4,ql],zI (U xA) 14 _ ⟨yi rfl,trivial⟩ (by decide)⟩
  | 15,Y =>
   obtain rfl:=ya Y
   have kR:=(F.c 14 (ye K 14 rfl)).1 _ rfl
   have CL:=xj (by omega)
   clear K F um xj nw CL
   rw [if_pos (by rfl)];unfold Oper.wp;go_simp
   exact ⟨upd f 15 (I gb (k * 6 + 3)),by simp [upd,kR],zI (U xA) 15 _ ⟨yi rfl,trivial⟩ (by decide)⟩
  | 16,Y =>
   obtain rfl:=ya Y
   have g15:=(F.c 15 (ye K 15 rfl)).1 _ rfl
   have kB:=(F.c 13 (ye K 13 rfl)).1 _ rfl
   have uk:=M (zx (U uo) (F.b xu))
   have hln:=(U HI).len
   obtain ⟨zz,qq⟩:=fh (U uk).row (by omega) (U au)
   have z3:=zz 3 _ rfl
   have q3:=qq 3 (by omega)
   clear zz qq hln
   clear K F um xj nw
   rw [if_pos (by rfl)];unfold Oper.wp;go_simp
   exact ⟨f,by simp [g15,kB],rw_last (T:=fun V=>V.setCell (J gb (k * 6 + 3)) (H qty)) (U xA) xu (fun j hj hx=>⟨fun u hu=>(by subst hj; cases hu),trivial⟩)⟩
  | i + 17,Y=>simp at Y
theorem endDay_chk {G B r:Nat} {vq:Value} {g:Gr} (e:Ev) (w:World) (h:GS G B r w vq g) (hi:GI g) (he:okE e = true) (E:e.kind = 8) (hg:e.cmd.g.size ≤ maxLen):Calls Tryz.prog 101 #[I G 0,evV e] w fun x w'=>Chk G B r vq g e w x w':=by
 have hsf:=sfl
 have hG:=h.lt
 have jU:=h.base
 have ux:Hid (zD g e = if zU g e ≠ 0 then zU g e else if e.qty = ((g.l.filter isDy).length:Int) then 0 else 7):=by show _ = _; simp [zD,E]
 have uY:Hid (takG g e = ⟨g.nx,g.l,g.bg,g.cm,g.tk⟩):=by show _ = _; rw [takG,step8 E]
 have vn:Hid (∀ k w',zD g e = k→k ≠ 0→Kp G vq w w'→Chk G B r vq g e w (.panicked (brk k)) w'):=fun k w' Q D X=>chk_no Q D X
 have uX:Hid (∀ w' uG,zD g e = 0→Kp G vq w w'→GS G B r w' uG (takG g e)→Chk G B r vq g e w (.returned (.tuple #[])) w'):=fun w' uG Q D X=>chk_ok Q D X
 have qb:Hid (∀ W,GS G B r W vq g→Calls Tryz.prog 148 #[I G 0,evV e] W fun x w'=>x = outR (zU g e)∧yn W w'):=fun W hW=>start_any e W hW hi (by rw [E]; decide) hg
 have HI:=M hi
 generalize Chk G B r vq g e w = C at vn uX ⊢
 generalize zD g e = ru at vn uX ux
 generalize takG g e = g' at uY uX
 generalize zU g e = sr at qb ux
 obtain ⟨xn,⟨ck,cs,ct,cl,cq,ci,cp,cg⟩,id,xl,qty,xm,xk⟩:=e
 simp only at E hg
 try simp only at ux uY
 unfold evV at qb
 simp only at qb
 unfold evV
 simp only
 obtain ⟨xR,HX⟩:=ie w (yv xn ck cs ct cl cq ci cp cg id xl qty xm xk) 37
 have HS:Hid ((w.alloc (O (yv xn ck cs ct cl cq ci cp cg id xl qty xm xk).toArray 37)).heap.size = w.heap.size + 1):=by show _ = _; simp
 have HG:=M (zx h xR)
 have HB:Hid (Kp G vq w (w.alloc (O (yv xn ck cs ct cl cq ci cp cg id xl qty xm xk).toArray 37))):=kp_of xR
 clear h xR hi he E hg
 go_enter Tryz.func101,Tryz.ntmps101
 refine ic fun xh HK=>?_
 go_wp2_with fail
 refine U HK _ _ ?_
 clear HK
 generalize (w.alloc (O (yv xn ck cs ct cl cq ci cp cg id xl qty xm xk).toArray 37)) = W1 at HS HX HG HB ⊢
 obtain ⟨e0,e1,e2,e3,e4,e5,e6,e7,e8,e9,vy,vz,qj,qk⟩:=yz (U HX)
 go_wp2_with fail
 refine (U qb W1 (U HG)).mono ?_
 rintro x w2 ⟨hx,xP⟩
 have xW:=M (zl (U HX) xP (by have:=U HS; omega))
 have uo:=M (zx (U HG) xP)
 have xt:=M (cB (U HB) xP)
 have hS2:w.heap.size < w2.heap.size:=by have:=U HS; have:=xP.size; omega
 clear xP e0 e1 e2 e3 e4 e5 e6 e7 e8 e9 vy vz qj qk
 by_cases hs:sr = 0
 case neg =>
  rw [outR_no hs] at hx
  subst hx
  go_wp2_with fail
  exact ⟨rfl,U vn _ _ (by rw [U ux,if_pos hs]) hs (U xt)⟩
 rw [outR_ok hs] at hx
 subst hx
 have HSR:=M hs
 have uc:=M (U ux)
 rw [if_neg (not_not_intro hs)] at uc
 clear hs ux
 have hln:=(U HI).len
 obtain ⟨a,cap,rfl,xD,hc⟩:=zV (U uo).row (by omega)
 have xr:∀ (k:Nat) (c:Od),g.l[k]? = some c→∃ b off,a = some (J b off)∧b < w2.heap.size∧w2.rangeAt b (off + k * 6) c.vs:=by
  intro k c E
  obtain ⟨b,off,Q,D,X⟩:=hc (by intro h; rw [h] at E; simp at E)
  exact ⟨b,off,Q,D,X k c E⟩
 have HC:=M xr
 clear xr hc xD
 have c2:w2.cell? (J G 2) = some (.slice a g.l.length cap):=zb (U uo).box 2 rfl
 go_wp2_with fail
 clear c2
 go_loopw [4,16] (fun cv iv wr=>∃ k:Nat,k ≤ g.l.length∧cv = H (((g.l.take k).filter isDy).length:Int)∧iv = H k∧yn w2 wr) (fun _ iv _=>g.l.length - (intOf iv).toNat)
 case atStart=>exact ⟨0,Nat.zero_le _,rfl,rfl,Below.refl _ _⟩
 case round =>
  obtain ⟨k,E,rfl,rfl,xi⟩:=hrel
  have xI:=M xi
  clear xi
  by_cases xM:k < g.l.length
  ·obtain ⟨c,uV⟩:∃ c,g.l[k]? = some c:=⟨_,yI xM⟩
   have HT:Hid (((g.l.take (k + 1)).filter isDy).length = ((g.l.take k).filter isDy).length + if isDy c = true then 1 else 0):=by
    show _ = _
    rw [List.take_add_one,uV]
    simp [List.filter_cons]
    split <;> simp
   have hcn:((g.l.take k).filter isDy).length ≤ k:=yO (List.length_filter_le _ _) (by simp; omega)
   generalize ((g.l.take k).filter isDy).length = cn at HT hcn ⊢
   obtain ⟨b,off,rfl,A,xo⟩:=U HC k c uV
   obtain ⟨g0,g1,g2,g3,g4,g5⟩:=zC (zc xo (U xI) A)
   have vj:(k:Int) < g.l.length:=by omega
   have xy:=gZ wr (O (yw c.id c.side c.ticks c.left c.life c.tag).toArray 65)
   have xO:=M (ia (U xI) xy)
   clear uV xo A xy
   go_wp2_with fail
   refine (isOfDay_any c (wr.alloc (O (yw c.id c.side c.ticks c.left c.life c.tag).toArray 65))).mono ?_
   rintro e w3 ⟨rfl,xQ⟩
   have xG:=M (ia (U xO) xQ)
   clear xQ g0 g1 g2 g3 g4 g5
   have bd:IntKind.i64.wrap ((cn:Int) + 1) = (cn:Int) + 1:=by rw [IntKind.wrap_i64]; omega
   by_cases uN:c.life = 1
   ·have A:(c.life == 1) = true:=by simpa using uN
    have vp:Hid (((g.l.take (k + 1)).filter isDy).length = cn + 1):=by show _ = _; rw [U HT,if_pos (by simpa [isDy] using uN)]
    clear uN HT
    go_wp2_with fail
    go_roundw
    case rel=>exact ⟨k + 1,by omega,by rw [U vp]; rfl,by go_num,U xG⟩
    case measure=>simp [intOf]; omega
   ·have A:(c.life == 1) = false:=by simpa using uN
    have vp:Hid (((g.l.take (k + 1)).filter isDy).length = cn):=by show _ = _; rw [U HT,if_neg (by simpa [isDy] using uN)]; rfl
    clear uN HT
    go_wp2_with fail
    go_roundw
    case rel=>exact ⟨k + 1,by omega,by rw [U vp],by go_num,U xG⟩
    case measure=>simp [intOf]; omega
  ·have bK:k = g.l.length:=by omega
   subst bK
   rw [List.take_length]
   generalize hcn:(g.l.filter isDy).length = cn at uc
   clear hcn
   have xE:=M (zl (U xW) (U xI) hS2)
   have uk:=M (zx (U uo) (U xI))
   have xO:=M (cB (U xt) (U xI))
   have vz:=zb (U xE) 11 rfl
   by_cases hq:qty = (cn:Int)
   case neg =>
    have b0:(qty == (cn:Int)) = false:=by simpa using hq
    have HQ:=M (U uc)
    rw [if_neg hq] at HQ
    clear hq
    go_wp2_with fail
    refine (cG 7 _).mono ?_
    rintro e w6 ⟨rfl,rfl⟩
    go_wp2_with fail
    exact ⟨rfl,U vn 7 _ (U HQ) (by decide) (U xO)⟩
   have b0:(qty == (cn:Int)) = true:=by simpa using hq
   have HQ:=M (U uc)
   rw [if_pos hq] at HQ
   clear hq
   go_wp2_with fail
   refine (cN 7 _).mono ?_
   rintro e w6 ⟨rfl,rfl⟩
   go_wp2_with fail
   go_end0
   refine U uX _ (.slice a g.l.length cap) (U HQ) (U xO) ?_
   rw [U uY]
   exact U uk
theorem drop_chk {G B r:Nat} {vq:Value} {g:Gr} (e:Ev) (w:World) (h:GS G B r w vq g) (hi:GI g) (he:okE e = true) (E:e.kind = 5) (hg:e.cmd.g.size ≤ maxLen):Calls Tryz.prog 98 #[I G 0,evV e] w fun x w'=>Chk G B r vq g e w x w':=by
 have hsf:=sfl
 have hG:=h.lt
 have jU:=h.base
 have ux:Hid (zD g e = if dueR g e ≠ 0 then dueR g e else if cz e (dueG g) = true then 0 else 13):=by show _ = _; simp [zD,E]
 have uY:Hid (takG g e = ⟨g.nx,g.l,g.bg,g.cm,{ g.tk with left:=0 }⟩):=by show _ = _; rw [takG,step5 E]
 have vn:Hid (∀ k w',zD g e = k→k ≠ 0→Kp G vq w w'→Chk G B r vq g e w (.panicked (brk k)) w'):=fun k w' Q D X=>chk_no Q D X
 have uX:Hid (∀ w' uG,zD g e = 0→Kp G vq w w'→GS G B r w' uG (takG g e)→Chk G B r vq g e w (.returned (.tuple #[])) w'):=fun w' uG Q D X=>chk_ok Q D X
 have jF:Hid (∀ W,GS G B r W vq g→Calls Tryz.prog 153 #[I G 0,evV e] W fun x w'=>x = outD (dueR g e) (dueG g)∧yn W w'):=fun W hW=>gz e W hW hi
 have aj:Hid (∀ W,Calls Tryz.prog 155 #[evV e,duV (dueG g)] W fun r w'=>r = .returned (.bool (cz e (dueG g)))∧yn W w'):=fun W=>isJust_any e (dueG g) W
 have HR45:Hid (zD g e = 0→g.bg = 1∧g.tk.left ≠ 0):=rule45 (by omega)
 have HI:=M hi
 generalize Chk G B r vq g e w = C at vn uX ⊢
 generalize zD g e = ru at vn uX ux HR45
 generalize takG g e = g' at uY uX
 generalize dueR g e = dr at jF ux
 generalize cz e (dueG g) = jb at aj ux
 generalize dueG g = d at jF aj
 obtain ⟨xn,⟨ck,cs,ct,cl,cq,ci,cp,cg⟩,id,xl,qty,xm,xk⟩:=e
 simp only at E hg
 try simp only at ux uY
 obtain ⟨dk,di,dt,dq,dp⟩:=d
 unfold evV at jF aj
 unfold duV at aj
 simp only at jF aj
 unfold evV
 simp only
 obtain ⟨xR,HX⟩:=ie w (yv xn ck cs ct cl cq ci cp cg id xl qty xm xk) 37
 have HS:Hid ((w.alloc (O (yv xn ck cs ct cl cq ci cp cg id xl qty xm xk).toArray 37)).heap.size = w.heap.size + 1):=by show _ = _; simp
 have HG:=M (zx h xR)
 have HB:Hid (Kp G vq w (w.alloc (O (yv xn ck cs ct cl cq ci cp cg id xl qty xm xk).toArray 37))):=kp_of xR
 clear h xR hi he E hg
 go_enter Tryz.func98,Tryz.ntmps98
 refine ic fun xh HK=>?_
 go_wp2_with fail
 refine U HK _ _ ?_
 clear HK
 generalize (w.alloc (O (yv xn ck cs ct cl cq ci cp cg id xl qty xm xk).toArray 37)) = W1 at HS HX HG HB ⊢
 go_wp2_with fail
 refine zn (RWA (fun f=>{ tmps:=#[I G 0,.agg (yv xn ck cs ct cl cq ci cp cg id xl qty xm xk).toArray,Z,I w.heap.size 0,f 0,f 1,f 2,f 3,f 4,f 5,Z,Z,Z,Z],defers:=[] }) (CVw [some (.agg (yv xn ck cs ct cl cq ci cp cg id xl qty xm xk).toArray),some (I G 0),some (.agg (yv xn ck cs ct cl cq ci cp cg id xl qty xm xk).toArray),some (.agg #[H dk,H di,H dt,H dq,H dp]),some (.bool jb),some (.tuple #[])] (fun j=>(j = 3→dr = 0)∧(j = 5→jb = true))) 5 (fun V=>V) W1) (by kernel_rfl) ?_ ?_ ?_
 ·exact ⟨fun _=>Z,rfl,⟨fun j hj=>by rw [yJ] at hj; split at hj <;> simp at hj,fun _=>⟨rfl,rfl,rfl,Nat.le_refl _,fun _ _=>rfl⟩,fun hj=>by rw [yJ] at hj; split at hj <;> simp at hj⟩⟩
 ·rintro x hb V ⟨f,rfl,F⟩ hx xN
  have xp:=zX xN hx (acyc _ (by kernel_rfl))
  obtain ⟨V0,xR,eV⟩:=F.m (xp 5 (by simp))
  have vR:=(F.c 3 (xp 3 (by simp))).2.1 rfl
  have hjb:=(F.c 5 (xp 5 (by simp))).2.2 rfl
  have HQ:=M (U ux)
  rw [if_neg (not_not_intro vR),if_pos hjb] at HQ
  subst eV
  have uk:=M (zx (U HG) xR)
  have xO:=M (cB (U HB) xR)
  clear F xp xN hx xR vR hjb ux jF aj HX HS HG HB
  dsimp only
  generalize f 0 = v0,f 1 = v1,f 2 = v2,f 3 = v3,f 4 = v4,f 5 = v5
  have c13:=zb (U uk).box 13 rfl
  have q13:=zd (U uk).box 13 (by show 13 < 16; decide)
  go_wp2_with fail
  go_end0
  refine U uX _ vq (U HQ) (kp_set (U xO) 13 _) ?_
  rw [U uY]
  exact gs_set (U uk) 13 _ (by decide) rfl rfl
 ·rintro x hb V i op ⟨f,rfl,F⟩ xo hx Y xu K
  have xA:=M F
  have nw:i < 5→x[5]? = some false:=fun xM=>by
   rcases dm hx (show 5 < 6 by omega) with hq | hw
   ·exact hq
   ·exfalso
    have h4:=yf xo 5 rfl hw 4 rfl
    have h0:=yf xo 4 rfl h4 0 rfl
    have X:=yf xo 4 rfl h4 3 rfl
    have Q:=yf xo 3 rfl X 1 rfl
    have D:=yf xo 3 rfl X 2 rfl
    rcases (by omega:i = 0 ∨ i = 1 ∨ i = 2 ∨ i = 3 ∨ i = 4) with rfl | rfl | rfl | rfl | rfl
    ·exact absurd (h0.symm.trans xu) (by simp)
    ·exact absurd (Q.symm.trans xu) (by simp)
    ·exact absurd (D.symm.trans xu) (by simp)
    ·exact absurd (X.symm.trans xu) (by simp)
    ·exact absurd (h4.symm.trans xu) (by simp)
  have um:i < 5→yn W1 V:=fun h=>F.b (nw h)
  have xj:i < 5→∀ (p:Addr) u,W1.cell? p = some u→V.cell? p = some u:=fun h p u hu=>((um h).cell (yL W1 _ hu)).trans hu
  match i,Y with
  | 0,Y | 2,Y =>
   obtain rfl:=ya Y
   have CL:=xj (by omega)
   have e0:=CL (J w.heap.size 0) _ (zb (U HX) 0 rfl)
   have e1:=CL (J w.heap.size 1) _ (zb (U HX) 1 rfl)
   have e2:=CL (J w.heap.size 2) _ (zb (U HX) 2 rfl)
   have e3:=CL (J w.heap.size 3) _ (zb (U HX) 3 rfl)
   have e4:=CL (J w.heap.size 4) _ (zb (U HX) 4 rfl)
   have e5:=CL (J w.heap.size 5) _ (zb (U HX) 5 rfl)
   have e6:=CL (J w.heap.size 6) _ (zb (U HX) 6 rfl)
   have e7:=CL (J w.heap.size 7) _ (zb (U HX) 7 rfl)
   have e8:=CL (J w.heap.size 8) _ (zb (U HX) 8 rfl)
   have e9:=CL (J w.heap.size 9) _ (zb (U HX) 9 rfl)
   have vy:=CL (J w.heap.size 10) _ (zb (U HX) 10 rfl)
   have vz:=CL (J w.heap.size 11) _ (zb (U HX) 11 rfl)
   have qj:=CL (J w.heap.size 12) _ (zb (U HX) 12 rfl)
   have qk:=CL (J w.heap.size 13) _ (zb (U HX) 13 rfl)
   clear K F um xj nw CL
   rw [if_pos (by rfl)];unfold Oper.wp;go_simp
   exact ⟨upd f _ (.agg (yv xn ck cs ct cl cq ci cp cg id xl qty xm xk).toArray),by simp [upd],zI (U xA) _ _ ⟨yi rfl,⟨fun h=>absurd h (by decide),fun h=>absurd h (by decide)⟩⟩ (by decide)⟩
  | 1,Y =>
   obtain rfl:=ya Y
   have CL:=xj (by omega)
   clear K F um xj nw CL
   rw [if_pos (by rfl)];unfold Oper.wp;go_simp
   exact ⟨upd f 1 (I G 0),by simp [upd],zI (U xA) 1 _ ⟨yi rfl,⟨fun h=>absurd h (by decide),fun h=>absurd h (by decide)⟩⟩ (by decide)⟩
  | 3,Y =>
   obtain rfl:=ya Y
   have g1:=(F.c 1 (ye K 1 rfl)).1 _ rfl
   have g2:=(F.c 2 (ye K 2 rfl)).1 _ rfl
   have CL:=xj (by omega)
   have hw:=nw (by omega)
   have vk:=M (cB (U HB) (um (by omega)))
   have HGV:=M (zx (U HG) (um (by omega)))
   clear K F um xj nw CL
   rw [if_pos (by rfl)];unfold Oper.wp;go_simp
   refine (U jF V (U HGV)).mono ?_
   rintro y w4 ⟨hy,xy⟩
   by_cases hs:dr = 0
   ·rw [outD_ok hs] at hy
    subst hy
    exact ⟨upd f 3 (.agg #[H dk,H di,H dt,H dq,H dp]),by simp [upd,g1,g2,duV],zI (fo (U xA) hw xy) 3 _ ⟨yi rfl,fun _=>hs,fun h=>absurd h (by decide)⟩ (by decide)⟩
   ·rw [outD_no hs] at hy
    subst hy
    have HQ:=M (U ux)
    rw [if_pos hs] at HQ
    have kg:=M hs
    have uE:=M (cB (U vk) xy)
    clear hs xy
    go_wp2_with fail
    exact ⟨rfl,U vn _ _ (U HQ) (U kg) (U uE)⟩
  | 4,Y =>
   obtain rfl:=ya Y
   have g0:=(F.c 0 (ye K 0 rfl)).1 _ rfl
   have g3:=(F.c 3 (ye K 3 rfl)).1 _ rfl
   have CL:=xj (by omega)
   have hw:=nw (by omega)
   clear K F um xj nw CL
   rw [if_pos (by rfl)];unfold Oper.wp;go_simp
   refine (U aj V).mono ?_
   rintro y w4 ⟨rfl,xy⟩
   exact ⟨upd f 4 (.bool jb),by simp [upd,g0,g3],zI (fo (U xA) hw xy) 4 _ ⟨yi rfl,⟨fun h=>absurd h (by decide),fun h=>absurd h (by decide)⟩⟩ (by decide)⟩
  | 5,Y =>
   obtain rfl:=ya Y
   have g4:=(F.c 4 (ye K 4 rfl)).1 _ rfl
   have vk:=M (cB (U HB) (F.b xu))
   have h4:=K ⟨4,.data⟩ (by simp) rfl
   have X:=yf xo 4 rfl h4 3 rfl
   have vR:=(F.c 3 X).2.1 rfl
   have HQ:=M (U ux)
   rw [if_neg (not_not_intro vR)] at HQ
   clear K F um xj nw h4 X vR
   rw [if_pos (by rfl)];unfold Oper.wp;go_simp
   by_cases hj:jb = true
   ·have hd:=cN 13 V
    rw [← hj] at hd
    refine hd.mono ?_
    rintro e w4 ⟨rfl,rfl⟩
    exact ⟨upd f 5 (.tuple #[]),by simp [upd,g4],rw_lastv (T:=fun V=>V) (U xA) xu ⟨yi rfl,fun h=>absurd h (by decide),fun _=>hj⟩⟩
   ·have hj2:jb = false:=by simpa using hj
    have hd:=cG 13 V
    rw [← hj2] at hd
    refine hd.mono ?_
    rintro e w4 ⟨rfl,rfl⟩
    rw [if_neg hj] at HQ
    clear hj hj2 hd
    go_wp2_with fail
    exact ⟨rfl,U vn 13 _ (U HQ) (by decide) (U vk)⟩
  | i + 6,Y=>simp at Y
def App (B:Nat) (base:World) (vq:Value) (l:List Od) (W:World) (v:Value):Prop:=ORow W B v l∧base.grownBy W vq.ownBlock
structure RA (C:Nat→Value→Prop) (n m:Nat) (p:Addr) (hb:World→Value→Prop) (base:World) (x:List Bool) (f:Nat→Value) (W:World):Prop where
 c:∀ j,x[j]? = some true→C j (f j)
 b:x[n]? = some false→Below base.heap.size base W
 a:x[n]? = some true→x[m]? = some false→hb W (f n)
 z:x[m]? = some true→∃ W0,hb W0 (f n)∧W = W0.setCell p (f n)
section
variable {C:Nat→Value→Prop} {n m:Nat} {p:Addr} {hb:World→Value→Prop} {base W W':World} {x:List Bool} {f:Nat→Value}
theorem dD (h:RA C n m p hb base x f W) (i:Nat) (v:Value) (hv:C i v) (hn:i ≠ n) (hm:i ≠ m):RA C n m p hb base (x.set i true) (upd f i v) W:=by
 refine ⟨zF h.c hv,?_,?_,?_⟩
 ·rw [gq hn]; exact h.b
 ·rw [gq hn,gq hm,zq _ _ (Ne.symm hn)]; exact h.a
 ·rw [gq hm,zq _ _ (Ne.symm hn)]; exact h.z
theorem ra_grow (h:RA C n m p hb base x f W) (hn:x[n]? = some false) (hm:x[m]? = some false) (A:yn W W'):RA C n m p hb base x f W' :=
 ⟨h.c,fun e=>(h.b e).trans (A.mono (h.b e).size),fun e=>(by rw [hn] at e; cases e),fun e=>(by rw [hm] at e; cases e)⟩
theorem ra_app (h:RA C n m p hb base x f W) (hn:x[n]? = some false) (hm:x[m]? = some false) (hnm:n ≠ m) {v:Value} (hv:C n v) (ha:hb W' v):RA C n m p hb base (x.set n true) (upd f n v) W':=by
 refine ⟨zF h.c hv,?_,?_,?_⟩
 ·intro e; rw [gqs hn] at e; cases e
 ·intro _ _; rw [zt]; exact ha
 ·intro e; rw [gq hnm,hm] at e; cases e
theorem ra_store (h:RA C n m p hb base x f W) (hn:x[n]? = some true) (hm:x[m]? = some false) (hnm:n ≠ m) (hc:∀ v,C m v):RA C n m p hb base (x.set m true) f (W.setCell p (f n)):=by
 refine ⟨fun j hj=>?_,?_,?_,fun _=>⟨W,h.a hn hm,rfl⟩⟩
 ·by_cases hjm:j = m
  ·subst hjm; exact hc _
  ·rw [gq (fun e=>hjm e.symm)] at hj; exact h.c j hj
 ·intro e; rw [gq (Ne.symm hnm),hn] at e; cases e
 ·intro _ e; rw [gqs hm] at e; cases e
end
end Go.Proofs.YthhkapcbocgcoaaGreatDoor
