/-
  An order accepted in a group, by the program: proved by walking the method.
-/
import Derived.Test.YtnphbkgfjanmgaaGreatDoorBj31
set_option linter.unusedVariables false
set_option maxHeartbeats 6400000
set_option maxRecDepth 100000
namespace Go.Proofs.YtnphbkgfjanmgaaGreatDoor
open Go.RowKit
theorem accept_chk {G B r:Nat} {vq:Value} {g:Gr} (e:Ev) (w:World) (h:GS G B r w vq g) (hi:GI g) (he:okE e = true) (hk:e.kind = 1) (hg:e.cmd.g.size ≤ maxLen):Calls Tryz.prog 87 #[J G 0,evV e] w fun x w'=>Chk G B r vq g e w x w':=by
 have hsf:=sfl
 have hG:=h.lt
 have vV:=h.base
 have uo:Hid (zD g e = if aT g e ≠ 0 then aT g e else if e.id = g.nx then 0 else 6):=by show _ = _; simp [zD,hk]
 have uU:Hid (takG g e = ⟨g.nx + 1,g.l,g.bg,e.cmd,ordO e.cmd e.id⟩):=by show _ = _; rw [takG,step1 hk]
 have vH:Hid (∀ k w',zD g e = k→k ≠ 0→Kp G vq w w'→Chk G B r vq g e w (.panicked (brk k)) w'):=fun k w' Q E h3=>chk_no Q E h3
 have uw:Hid (∀ w' uH,zD g e = 0→Kp G vq w w'→GS G B r w' uH (takG g e)→Chk G B r vq g e w (.returned (.tuple #[])) w'):=fun w' uH Q E h3=>chk_ok Q E h3
 have qg:Hid (∀ W,GS G B r W vq g→Calls Tryz.prog 132 #[J G 0,evV e] W fun x w'=>x = outR (aT g e)∧yn W w'):=fun W hW=>start_any e W hW hi (by rw [hk]; decide) hg
 have HNX:Hid (aT g e = 0→0 ≤ g.nx∧g.nx ≤ 1000000):=fun h0=>⟨(hi.start (cN h0).1).1,(hi.start (cN h0).1).2.1⟩
 have HI:=M hi
 generalize Chk G B r vq g e w = C at vH uw ⊢
 generalize zD g e = ru at vH uw uo
 generalize takG g e = g' at uU uw
 generalize aT g e = sr at qg HNX uo
 obtain ⟨xm,⟨ck,L,ct,F,cq,ci,X,cg⟩,id,xi,qty,xj,xh⟩:=e
 simp only at hk hg
 try simp only at uo uU
 unfold evV at qg
 simp only at qg
 unfold evV
 simp only
 obtain ⟨xz,HX⟩:=fJ w (yv xm ck L ct F cq ci X cg id xi qty xj xh) 52
 have HS:Hid ((w.alloc (A (yv xm ck L ct F cq ci X cg id xi qty xj xh).toArray 52)).heap.size = w.heap.size + 1):=by show _ = _; simp
 have HG:=M (zx h xz)
 have HB:Hid (Kp G vq w (w.alloc (A (yv xm ck L ct F cq ci X cg id xi qty xj xh).toArray 52))):=kp_of xz
 clear h xz hi he hk hg
 go_enter Tryz.func87,Tryz.ntmps87
 refine fI fun hR HK=>?_
 go_wp2_with fail
 refine H HK _ _ ?_
 clear HK
 generalize (w.alloc (A (yv xm ck L ct F cq ci X cg id xi qty xj xh).toArray 52)) = W1 at HS HX HG HB ⊢
 obtain ⟨e0,e1,e2,e3,e4,e5,e6,e7,e8,e9,uy,uk,uW,uA⟩:=yy (H HX)
 go_wp2_with fail
 refine (H qg W1 (H HG)).mono ?_
 rintro x w2 ⟨hx,xJ⟩
 have xH:=M (zg (H HX) xJ (by have:=H HS; omega))
 have uh:=M (zx (H HG) xJ)
 have xu:=M (bj (H HB) xJ)
 have hS2:w.heap.size < w2.heap.size:=by have:=H HS; have:=xJ.size; omega
 clear xJ e0 e1 e2 e3 e4 e5 e6 e7 e8 e9 uy uk uW uA
 by_cases hs:sr = 0
 case neg =>
  rw [outR_no hs] at hx
  subst hx
  go_wp2_with fail
  exact ⟨rfl,H vH _ _ (by rw [H uo,if_pos hs]) hs (H xu)⟩
 rw [outR_ok hs] at hx
 subst hx
 have HSR:=M hs
 have uc:=M (H uo)
 rw [if_neg (not_not_intro hs)] at uc
 clear hs uo
 have xX:Hid (Bx w2.drew w.heap.size (yv xm ck L ct F cq ci X cg id xi qty xj xh)):=zJ (H xH)
 have qk:Hid (GS G B r w2.drew vq g):=zx (H uh) ⟨rfl,rfl,rfl,Nat.le_refl _,fun _ _=>rfl⟩
 have vy:Hid (Kp G vq w w2.drew):=kp_drew (H xu)
 have e9:=R (H xX) 9 rfl
 have c1:=R (H qk).box 1 rfl
 go_wp2_with fail
 refine zE 8 (by kernel_rfl) (by kernel_rfl) ?_
 simp only [yT,List.take_zero,yU,List.drop_zero]
 repeat still_step
 refine wpStill_nil ?_
 by_cases uj:id = g.nx
 case neg =>
  have b0:(id == g.nx) = false:=by simpa using uj
  have HQ:=M (H uc)
  rw [if_neg uj] at HQ
  clear uj
  go_wp2_with fail
  refine (bD 6 _).mono ?_
  rintro e w6 ⟨rfl,rfl⟩
  go_wp2_with fail
  exact ⟨rfl,H vH 6 _ (H HQ) (by decide) (H vy)⟩
 have b0:(id == g.nx) = true:=by simpa using uj
 have HQ:=M (H uc)
 rw [if_pos uj] at HQ
 clear uj uc
 go_wp2_with fail
 refine (bI 6 _).mono ?_
 rintro e cp ⟨rfl,hX⟩
 rw [← hX] at xX qk vy
 have hS3:w.heap.size < cp.heap.size:=by rw [hX]; exact hS2
 clear hX e9 c1 b0
 have c1:=R (H qk).box 1 rfl
 have q1:=zd (H qk).box 1 (by show 1 < 16; decide)
 have qe:=H HNX (H HSR)
 have hwr:IntKind.i64.wrap (g.nx + 1) = g.nx + 1:=by rw [IntKind.wrap_i64]; omega
 have vi:Hid (GS G B r (cp.setCell (U G 1) (I (g.nx + 1))) vq { g with nx:=g.nx + 1 }):=gs_set (H qk) 1 _ (by decide) rfl rfl
 have xL:=M (kp_set (H vy) 1 (I (g.nx + 1)))
 have uC:Hid (Bx (cp.setCell (U G 1) (I (g.nx + 1))) w.heap.size (yv xm ck L ct F cq ci X cg id xi qty xj xh)):=zP (H xX) (by omega)
 have oJ:w.heap.size < (cp.setCell (U G 1) (I (g.nx + 1))).heap.size:=by simpa [World.setCell] using hS3
 have e1:=R (H uC) 1 rfl
 have e2:=R (H uC) 2 rfl
 have e3:=R (H uC) 3 rfl
 have e4:=R (H uC) 4 rfl
 have e5:=R (H uC) 5 rfl
 have e6:=R (H uC) 6 rfl
 have e7:=R (H uC) 7 rfl
 have e8:=R (H uC) 8 rfl
 have e9:=R (H uC) 9 rfl
 go_wp2_with fail
 refine (fC ⟨ck,L,ct,F,cq,ci,X,cg⟩ _).mono ?_
 rintro e hb ⟨rfl,uf⟩
 have uE:=M (zx (H vi) uf)
 have uI:=M (zg (H uC) uf oJ)
 have ug:=M (bj (H xL) uf)
 have hS5:w.heap.size < hb.heap.size:=yJ oJ uf.size
 clear uf e1 e2 e3 e4 e5 e6 e7 e8 e9 c1 q1 hwr oJ hS3 vi uC xL xX qk vy
 unfold noV
 simp only
 have c4:=R (H uE).box 4 rfl
 have q4:=zd (H uE).box 4 (by show 4 < 16; decide)
 have c5:=R (H uE).box 5 rfl
 have q5:=zd (H uE).box 5 (by show 5 < 16; decide)
 have c6:=R (H uE).box 6 rfl
 have q6:=zd (H uE).box 6 (by show 6 < 16; decide)
 have c7:=R (H uE).box 7 rfl
 have q7:=zd (H uE).box 7 (by show 7 < 16; decide)
 have c8:=R (H uE).box 8 rfl
 have q8:=zd (H uE).box 8 (by show 8 < 16; decide)
 have c9:=R (H uE).box 9 rfl
 have q9:=zd (H uE).box 9 (by show 9 < 16; decide)
 go_wp2_with fail
 change Code.wp _ _ _ _ (World.setCells hb G 4 [I L,I ct,I F,I cq,yj X,yk cg])
 have qF:Hid (GS G B r (World.setCells hb G 4 [I L,I ct,I F,I cq,yj X,yk cg]) vq ⟨g.nx + 1,g.l,g.bg,⟨ck,L,ct,F,cq,ci,X,cg⟩,g.tk⟩):=gs_sets (H uE) 4 _ (by simp) rfl rfl
 have vp:Hid (Bx (World.setCells hb G 4 [I L,I ct,I F,I cq,yj X,yk cg]) w.heap.size (yv xm ck L ct F cq ci X cg id xi qty xj xh)):=aS (H uI) (bG G w.heap.size (by omega) _ 4 hb)
 have qw:=M (kp_sets (H ug) 4 [I L,I ct,I F,I cq,yj X,yk cg])
 have hS6:w.heap.size < (World.setCells hb G 4 [I L,I ct,I F,I cq,yj X,yk cg]).heap.size:=yK _ _ (R (H vp) 0 rfl)
 generalize World.setCells hb G 4 [I L,I ct,I F,I cq,yj X,yk cg] = yl at qF vp qw hS6 ⊢
 clear c4 q4 c5 q5 c6 q6 c7 q7 c8 q8 c9 q9 uE uI ug hS5
 have HOR:=M (fun W=>order_any ⟨ck,L,ct,F,cq,ci,X,cg⟩ id W)
 unfold noV at HOR
 unfold ordO at uU
 simp only at uU HOR
 generalize tk X = tkp at uU HOR
 have hZG:=H qF
 clear hZG
 refine zk (RWA (fun f=>{ tmps:=#[J G 0,.agg (yv xm ck L ct F cq ci X cg id xi qty xj xh).toArray,Z,J w.heap.size 0,J G 0,.agg (yv xm ck L ct F cq ci X cg id xi qty xj xh).toArray,.tuple #[],J w.heap.size 9,I id,J G 0,J G 0,J G 1,J G 1,I g.nx,.bool (id == g.nx),.tuple #[],J G 0,J G 0,J G 1,J G 1,I g.nx,I (g.nx + 1),J G 0,J G 1,J G 1,J G 0,J w.heap.size 1,.agg (yx ck L ct F cq ci X cg).toArray,.agg #[I L,I ct,I F,I cq,yj X,yk cg],J G 0,J G 4,f 0,f 1,f 2,f 3,f 4,f 5,f 6,f 7,f 8,f 9],defers:=[] }) (CVw [some (J G 0),some (J G 0),some (J G 0),some (J G 4),some (.agg #[I L,I ct,I F,I cq,yj X,yk cg]),some (J w.heap.size 9),some (I id),some (.agg (yw id L tkp cq F cg).toArray),some (J G 0),some (J G 10),none] (fun _=>True)) 10 (fun xn=>World.setCells xn G 10 (yw id L tkp cq F cg)) yl) (by kernel_rfl) ?_ ?_ ?_
 ·exact ⟨fun _=>Z,rfl,⟨fun j O=>by rw [yI] at O; split at O <;> simp at O,fun _=>⟨rfl,rfl,rfl,Nat.le_refl _,fun _ _=>rfl⟩,fun O=>by rw [yI] at O; split at O <;> simp at O⟩⟩
 ·rintro x fG xn ⟨f,rfl,K⟩ hx xN
  have xo:=zN xN hx (acyc _ (by kernel_rfl))
  obtain ⟨V0,xz,eV⟩:=K.m (xo 10 (by simp))
  have jz:=M (zx (H qF) xz)
  have qx:=M (bj (H qw) xz)
  clear K xo xN hx xz
  subst eV
  generalize f 0 = v0,f 1 = v1,f 2 = v2,f 3 = v3,f 4 = v4,f 5 = v5,f 6 = v6,f 7 = v7,f 8 = v8,f 9 = v9
  go_end0
  refine H uw _ vq (H HQ) (kp_sets (H qx) 10 _) ?_
  rw [H uU]
  exact gs_sets (H jz) 10 _ (by simp) rfl rfl
 ·rintro x fG xn i op ⟨f,rfl,K⟩ V hx N xq D
  have xt:=M K
  have nw:i < 10→x[10]? = some false:=fun xI=>by
   rcases bB hx (show 10 < 11 by omega) with hq | hw
   ·exact hq
   ·exfalso
    have h0:=yf V 10 rfl hw 0 rfl
    have Q:=yf V 10 rfl hw 1 rfl
    have E:=yf V 10 rfl hw 2 rfl
    have h3:=yf V 10 rfl hw 3 rfl
    have h4:=yf V 10 rfl hw 4 rfl
    have h5:=yf V 10 rfl hw 5 rfl
    have h6:=yf V 10 rfl hw 6 rfl
    have h7:=yf V 10 rfl hw 7 rfl
    have h9:=yf V 10 rfl hw 9 rfl
    have h8:=yf V 9 rfl h9 8 rfl
    rcases (by omega:i = 0 ∨ i = 1 ∨ i = 2 ∨ i = 3 ∨ i = 4 ∨ i = 5 ∨ i = 6 ∨ i = 7 ∨ i = 8 ∨ i = 9) with rfl | rfl | rfl | rfl | rfl | rfl | rfl | rfl | rfl | rfl
    ·exact absurd (h0.symm.trans xq) (by simp)
    ·exact absurd (Q.symm.trans xq) (by simp)
    ·exact absurd (E.symm.trans xq) (by simp)
    ·exact absurd (h3.symm.trans xq) (by simp)
    ·exact absurd (h4.symm.trans xq) (by simp)
    ·exact absurd (h5.symm.trans xq) (by simp)
    ·exact absurd (h6.symm.trans xq) (by simp)
    ·exact absurd (h7.symm.trans xq) (by simp)
    ·exact absurd (h8.symm.trans xq) (by simp)
    ·exact absurd (h9.symm.trans xq) (by simp)
  have ub:i < 10→yn yl xn:=fun h=>K.b (nw h)
  have xl:i < 10→∀ (p:Addr) u,yl.cell? p = some u→xn.cell? p = some u:=fun h p u hu=>((ub h).cell (yK yl _ hu)).trans hu
  match i,N with
  | 0,N | 1,N =>
   obtain rfl:=yb N
   have CL:=xl (by omega)
   clear D K ub xl nw CL
   rw [if_pos (by rfl)];unfold Oper.wp;go_simp
   exact ⟨upd f _ (J G 0),by simp [upd],zC (H xt) _ _ ⟨yi rfl,trivial⟩ (by decide)⟩
  | 2,N =>
   obtain rfl:=yb N
   have g1:=(K.c 1 (ye D 1 rfl)).1 _ rfl
   have CL:=xl (by omega)
   clear D K ub xl nw CL
   rw [if_pos (by rfl)];unfold Oper.wp;go_simp
   exact ⟨upd f 2 (J G 0),by simp [upd,g1],zC (H xt) 2 _ ⟨yi rfl,trivial⟩ (by decide)⟩
  | 3,N =>
   obtain rfl:=yb N
   have g2:=(K.c 2 (ye D 2 rfl)).1 _ rfl
   have CL:=xl (by omega)
   clear D K ub xl nw CL
   rw [if_pos (by rfl)];unfold Oper.wp;go_simp
   exact ⟨upd f 3 (J G 4),by simp [upd,g2],zC (H xt) 3 _ ⟨yi rfl,trivial⟩ (by decide)⟩
  | 4,N =>
   obtain rfl:=yb N
   have g3:=(K.c 3 (ye D 3 rfl)).1 _ rfl
   have CL:=xl (by omega)
   have z4:=CL (U G 4) _ (R (H qF).box 4 rfl)
   have z5:=CL (U G 5) _ (R (H qF).box 5 rfl)
   have z6:=CL (U G 6) _ (R (H qF).box 6 rfl)
   have z7:=CL (U G 7) _ (R (H qF).box 7 rfl)
   have z8:=CL (U G 8) _ (R (H qF).box 8 rfl)
   have z9:=CL (U G 9) _ (R (H qF).box 9 rfl)
   clear D K ub xl nw CL
   rw [if_pos (by rfl)];unfold Oper.wp;go_simp
   exact ⟨upd f 4 (.agg #[I L,I ct,I F,I cq,yj X,yk cg]),by simp [upd,g3],zC (H xt) 4 _ ⟨yi rfl,trivial⟩ (by decide)⟩
  | 5,N =>
   obtain rfl:=yb N
   have CL:=xl (by omega)
   clear D K ub xl nw CL
   rw [if_pos (by rfl)];unfold Oper.wp;go_simp
   exact ⟨upd f 5 (J w.heap.size 9),by simp [upd],zC (H xt) 5 _ ⟨yi rfl,trivial⟩ (by decide)⟩
  | 6,N =>
   obtain rfl:=yb N
   have g5:=(K.c 5 (ye D 5 rfl)).1 _ rfl
   have CL:=xl (by omega)
   have z:=CL (U w.heap.size 9) _ (R (H vp) 9 rfl)
   clear D K ub xl nw CL
   rw [if_pos (by rfl)];unfold Oper.wp;go_simp
   exact ⟨upd f 6 (I id),by simp [upd,g5],zC (H xt) 6 _ ⟨yi rfl,trivial⟩ (by decide)⟩
  | 7,N =>
   obtain rfl:=yb N
   have g4:=(K.c 4 (ye D 4 rfl)).1 _ rfl
   have g6:=(K.c 6 (ye D 6 rfl)).1 _ rfl
   have CL:=xl (by omega)
   have uV:=nw (by omega)
   clear D K ub xl nw CL
   rw [if_pos (by rfl)];unfold Oper.wp;go_simp
   refine (H HOR xn).mono ?_
   rintro e w4 ⟨rfl,xw⟩
   exact ⟨upd f 7 (.agg (yw id L tkp cq F cg).toArray),by simp [upd,g4,g6],zC (cQ (H xt) uV xw) 7 _ ⟨yi rfl,trivial⟩ (by decide)⟩
  | 8,N =>
   obtain rfl:=yb N
   have g0:=(K.c 0 (ye D 0 rfl)).1 _ rfl
   have CL:=xl (by omega)
   clear D K ub xl nw CL
   rw [if_pos (by rfl)];unfold Oper.wp;go_simp
   exact ⟨upd f 8 (J G 0),by simp [upd,g0],zC (H xt) 8 _ ⟨yi rfl,trivial⟩ (by decide)⟩
  | 9,N =>
   obtain rfl:=yb N
   have g8:=(K.c 8 (ye D 8 rfl)).1 _ rfl
   have CL:=xl (by omega)
   clear D K ub xl nw CL
   rw [if_pos (by rfl)];unfold Oper.wp;go_simp
   exact ⟨upd f 9 (J G 10),by simp [upd,g8],zC (H xt) 9 _ ⟨yi rfl,trivial⟩ (by decide)⟩
  | 10,N =>
   obtain rfl:=yb N
   have g9:=(K.c 9 (ye D 9 rfl)).1 _ rfl
   have g7:=(K.c 7 (ye D 7 rfl)).1 _ rfl
   have vn:=K.b xq
   have jz:=M (zx (H qF) vn)
   have kX:=R (H jz).box 10 rfl
   have q10:=zd (H jz).box 10 (by show 10 < 16; decide)
   have oz:=R (H jz).box 11 rfl
   have q11:=zd (H jz).box 11 (by show 11 < 16; decide)
   have oA:=R (H jz).box 12 rfl
   have q12:=zd (H jz).box 12 (by show 12 < 16; decide)
   have oB:=R (H jz).box 13 rfl
   have q13:=zd (H jz).box 13 (by show 13 < 16; decide)
   have z14:=R (H jz).box 14 rfl
   have q14:=zd (H jz).box 14 (by show 14 < 16; decide)
   have z15:=R (H jz).box 15 rfl
   have q15:=zd (H jz).box 15 (by show 15 < 16; decide)
   clear D K ub xl nw vn
   rw [if_pos (by rfl)];unfold Oper.wp;go_simp
   exact ⟨f,by simp [g9,g7],rw_last (T:=fun xn=>World.setCells xn G 10 (yw id L tkp cq F cg)) (H xt) xq (fun j O hx=>⟨fun u hu=>(by subst O; cases hu),trivial⟩)⟩
  | i + 11,N=>simp at N
theorem refuse_chk {G B r:Nat} {vq:Value} {g:Gr} (e:Ev) (w:World) (h:GS G B r w vq g) (hi:GI g) (he:okE e = true) (hk:e.kind = 2) (hg:e.cmd.g.size ≤ maxLen):Calls Tryz.prog 88 #[J G 0,evV e] w fun x w'=>Chk G B r vq g e w x w':=by
 have hsf:=sfl
 have hG:=h.lt
 have vV:=h.base
 have uo:Hid (zD g e = if g.bg ≠ 0 then 3 else if refR g.nx g.l e.cmd ≠ 0∧refR g.nx g.l e.cmd = e.reason then 0 else 4):=by show _ = _; unfold zD; rw [if_neg (by rw [hk]; decide),if_pos hk]
 have uU:Hid (takG g e = ⟨g.nx,g.l,g.bg,g.cm,g.tk⟩):=by show _ = _; rw [takG,step2 hk]
 have vH:Hid (∀ k w',zD g e = k→k ≠ 0→Kp G vq w w'→Chk G B r vq g e w (.panicked (brk k)) w'):=fun k w' Q E h3=>chk_no Q E h3
 have uw:Hid (∀ w' uH,zD g e = 0→Kp G vq w w'→GS G B r w' uH (takG g e)→Chk G B r vq g e w (.returned (.tuple #[])) w'):=fun w' uH Q E h3=>chk_ok Q E h3
 have oa:Hid (e.cmd.g.size ≤ maxLen):=hg
 have HI:=M hi
 generalize Chk G B r vq g e w = C at vH uw ⊢
 generalize zD g e = ru at vH uw uo
 generalize takG g e = g' at uU uw
 obtain ⟨xm,⟨ck,L,ct,F,cq,ci,X,cg⟩,id,xi,qty,xj,xh⟩:=e
 simp only at hk hg
 try simp only at uo uU
 unfold evV
 simp only
 obtain ⟨xz,HX⟩:=fJ w (yv xm ck L ct F cq ci X cg id xi qty xj xh) 52
 have HS:Hid ((w.alloc (A (yv xm ck L ct F cq ci X cg id xi qty xj xh).toArray 52)).heap.size = w.heap.size + 1):=by show _ = _; simp
 have HG:=M (zx h xz)
 have HB:Hid (Kp G vq w (w.alloc (A (yv xm ck L ct F cq ci X cg id xi qty xj xh).toArray 52))):=kp_of xz
 clear h xz hi he hk hg
 go_enter Tryz.func88,Tryz.ntmps88
 refine fI fun hR HK=>?_
 go_wp2_with fail
 refine H HK _ _ ?_
 clear HK
 generalize (w.alloc (A (yv xm ck L ct F cq ci X cg id xi qty xj xh).toArray 52)) = W1 at HS HX HG HB ⊢
 have c3:=R (H HG).box 3 rfl
 by_cases h0:g.bg = 0
 case neg =>
  have b0:(g.bg == 0) = false:=by simpa using h0
  have HQ:=M (H uo)
  rw [if_pos h0] at HQ
  clear h0
  go_wp2_with fail
  refine (bD 3 _).mono ?_
  rintro e w6 ⟨rfl,rfl⟩
  go_wp2_with fail
  exact ⟨rfl,H vH 3 _ (H HQ) (by decide) (H HB)⟩
 have b0:(g.bg == 0) = true:=by simpa using h0
 have qL:=M ((H HI).good (.inl (by omega)))
 have HNX:=M ((H HI).start h0)
 have uc:=M (H uo)
 rw [if_neg (not_not_intro h0)] at uc
 clear h0 uo
 go_wp2_with fail
 refine (bI 3 _).mono ?_
 rintro e w2 ⟨rfl,hw2⟩
 rw [← hw2] at HG HX HB HS
 clear hw2 c3 b0
 have xH:=M (H HX)
 have uh:=M (H HG)
 have xu:=M (H HB)
 have hS2:w.heap.size < w2.heap.size:=by have:=H HS; omega
 clear HX HG HB HS
 have xX:Hid (Bx w2.drew w.heap.size (yv xm ck L ct F cq ci X cg id xi qty xj xh)):=zJ (H xH)
 have qk:Hid (GS G B r w2.drew vq g):=zx (H uh) ⟨rfl,rfl,rfl,Nat.le_refl _,fun _ _=>rfl⟩
 have vy:Hid (Kp G vq w w2.drew):=kp_drew (H xu)
 have e1:=R (H xX) 1 rfl
 have e2:=R (H xX) 2 rfl
 have e3:=R (H xX) 3 rfl
 have e4:=R (H xX) 4 rfl
 have e5:=R (H xX) 5 rfl
 have e6:=R (H xX) 6 rfl
 have e7:=R (H xX) 7 rfl
 have e8:=R (H xX) 8 rfl
 have c1:=R (H qk).box 1 rfl
 have c2:=R (H qk).box 2 rfl
 have uR:=M (zK (H qk).row (yN (H HI).len (by decide)))
 have km:=M (oRow_sl (H qk).row)
 go_wp2_with fail
 refine zE 6 (by kernel_rfl) (by kernel_rfl) ?_
 simp only [yT,List.take_zero,yU,List.drop_zero]
 repeat still_step
 refine wpStill_nil ?_
 clear c1 c2 e1 e2 e3 e4 e5 e6 e7 e8
 go_wp2_with fail
 refine (refusal_any g.nx vq g.l ⟨ck,L,ct,F,cq,ci,X,cg⟩ _ (H uR) (H km) (H qL) (H HNX).1 (H HNX).2.1 (H oa)).mono ?_
 rintro e w5 ⟨rfl,uf⟩
 have uI:=M (zg (H xX) uf hS2)
 have uE:=M (zx (H qk) uf)
 have ug:=M (bj (H vy) uf)
 clear uf uR km
 generalize refR g.nx g.l ⟨ck,L,ct,F,cq,ci,X,cg⟩ = rr at uc ⊢
 have uA:=R (H uI) 13 rfl
 by_cases jO:rr = 0
 case pos =>
  have b0:(rr != 0) = false:=by simpa using jO
  have HQ:=M (H uc)
  rw [if_neg (by simp [jO])] at HQ
  clear jO
  go_wp2_with fail
  refine (bD 4 _).mono ?_
  rintro e w6 ⟨rfl,rfl⟩
  go_wp2_with fail
  exact ⟨rfl,H vH 4 _ (H HQ) (by decide) (H ug)⟩
 have b0:(rr != 0) = true:=by simpa using jO
 by_cases ji:rr = xh
 case neg =>
  have b1:(rr == xh) = false:=by simpa using ji
  have HQ:=M (H uc)
  rw [if_neg (by simp [ji])] at HQ
  clear jO ji
  go_wp2_with fail
  refine (bD 4 _).mono ?_
  rintro e w6 ⟨rfl,rfl⟩
  go_wp2_with fail
  exact ⟨rfl,H vH 4 _ (H HQ) (by decide) (H ug)⟩
 have b1:(rr == xh) = true:=by simpa using ji
 have HQ:=M (H uc)
 rw [if_pos ⟨jO,ji⟩] at HQ
 clear jO ji
 go_wp2_with fail
 refine (bI 4 _).mono ?_
 rintro e w6 ⟨rfl,rfl⟩
 go_wp2_with fail
 go_end0
 refine H uw _ vq (H HQ) (H ug) ?_
 rw [H uU]
 exact H uE
theorem trade_chk {G B r:Nat} {vq:Value} {g:Gr} (e:Ev) (w:World) (h:GS G B r w vq g) (hi:GI g) (he:okE e = true) (hk:e.kind = 3) (hg:e.cmd.g.size ≤ maxLen):Calls Tryz.prog 89 #[J G 0,evV e] w fun x w'=>Chk G B r vq g e w x w':=by
 have hsf:=sfl
 have hG:=h.lt
 have vV:=h.base
 have uo:Hid (zD g e = if dueR g e ≠ 0 then dueR g e else trR (dueG g) e):=by show _ = _; simp [zD,hk]
 have uU:Hid (takG g e = ⟨g.nx,hitI g.l e.other e.qty,g.bg,g.cm,{ g.tk with left:=g.tk.left - e.qty }⟩):=by show _ = _; rw [takG,step3 hk]
 have vH:Hid (∀ k w',zD g e = k→k ≠ 0→Kp G vq w w'→Chk G B r vq g e w (.panicked (brk k)) w'):=fun k w' Q E h3=>chk_no Q E h3
 have uw:Hid (∀ w' uH,zD g e = 0→Kp G vq w w'→GS G B r w' uH (takG g e)→Chk G B r vq g e w (.returned (.tuple #[])) w'):=fun w' uH Q E h3=>chk_ok Q E h3
 have jy:Hid (∀ W,GS G B r W vq g→Calls Tryz.prog 137 #[J G 0,evV e] W fun x w'=>x = outD (dueR g e) (dueG g)∧yn W w'):=fun W hW=>eJ e W hW hi
 have aB:Hid (zD g e = 0→g.bg = 1∧g.tk.left ≠ 0∧∃ o,aV g.l (othS g.cm.s) = some o∧bA g.cm o = true∧e.id = g.tk.id∧e.other = o.id∧e.qty = min g.tk.left o.left∧e.price = o.ticks):=rule3 hk
 have HI:=M hi
 generalize Chk G B r vq g e w = C at vH uw ⊢
 generalize zD g e = ru at vH uw uo aB
 generalize takG g e = g' at uU uw
 generalize dueR g e = dr at jy uo
 generalize dueG g = d at jy uo
 obtain ⟨xm,⟨ck,L,ct,F,cq,ci,X,cg⟩,id,xi,qty,xj,xh⟩:=e
 simp only at hk hg
 try simp only at uo uU
 unfold trR at uo
 unfold evV at jy
 simp only at uo jy aB
 unfold evV
 simp only
 obtain ⟨xz,HX⟩:=fJ w (yv xm ck L ct F cq ci X cg id xi qty xj xh) 52
 have HS:Hid ((w.alloc (A (yv xm ck L ct F cq ci X cg id xi qty xj xh).toArray 52)).heap.size = w.heap.size + 1):=by show _ = _; simp
 have HG:=M (zx h xz)
 have HB:Hid (Kp G vq w (w.alloc (A (yv xm ck L ct F cq ci X cg id xi qty xj xh).toArray 52))):=kp_of xz
 clear h xz hi he hk hg
 go_enter Tryz.func89,Tryz.ntmps89
 refine fI fun hR HK=>?_
 go_wp2_with fail
 refine H HK _ _ ?_
 clear HK
 generalize (w.alloc (A (yv xm ck L ct F cq ci X cg id xi qty xj xh).toArray 52)) = W1 at HS HX HG HB ⊢
 obtain ⟨e0,e1,e2,e3,e4,e5,e6,e7,e8,e9,uy,uk,uW,uA⟩:=yy (H HX)
 go_wp2_with fail
 refine (H jy W1 (H HG)).mono ?_
 rintro x w2 ⟨hx,xJ⟩
 by_cases hs:dr = 0
 case neg =>
  rw [outD_no hs] at hx
  subst hx
  go_wp2_with fail
  exact ⟨rfl,H vH _ _ (by rw [H uo,if_pos hs]) hs (bj (H HB) xJ)⟩
 rw [outD_ok hs] at hx
 subst hx
 have HDZ:=M hs
 have uc:=M (H uo)
 rw [if_neg (not_not_intro hs)] at uc
 clear hs uo
 obtain ⟨dk,di,dt,dq,dp⟩:=d
 unfold duV
 simp only at uc ⊢
 have xM:=fE w2 (A #[I dk,I di,I dt,I dq,I dp] 29)
 have ot:=xJ.trans (xM.mono xJ.size)
 have xH:=M (zg (H HX) ot (by have:=H HS; omega))
 have uh:=M (zx (H HG) ot)
 have xu:=M (bj (H HB) ot)
 have HV2:=M (zq w2 [I dk,I di,I dt,I dq,I dp] 29)
 have HZ2:Hid (w.heap.size < w2.heap.size∧w2.heap.size < (w2.alloc (A #[I dk,I di,I dt,I dq,I dp] 29)).heap.size):=⟨by have:=H HS; have:=xJ.size; omega,by simp⟩
 clear xJ xM ot e0 e1 e2 e3 e4 e5 e6 e7 e8 e9 uy uk uW uA HX HG HB HS
 have HE2:=M (H xH)
 by_cases hk3:dk = 3
 case neg =>
  have b0:(dk == 3) = false:=by simpa using hk3
  have HQ:=M (H uc)
  rw [if_pos (fun h=>hk3 h.1)] at HQ
  clear hk3
  go_wp2_with fail
  refine (bD 9 _).mono ?_
  rintro e w6 ⟨rfl,rfl⟩
  go_wp2_with fail
  exact ⟨rfl,H vH 9 _ (H HQ) (by decide) (H xu)⟩
 have b0:(dk == 3) = true:=by simpa using hk3
 have e9:=R (H HE2) 9 rfl
 by_cases uj:id = di
 case neg =>
  have b1:(id == di) = false:=by simpa using uj
  have HQ:=M (H uc)
  rw [if_pos (fun h=>uj h.2)] at HQ
  clear hk3 uj
  go_wp2_with fail
  refine (bD 9 _).mono ?_
  rintro e w6 ⟨rfl,rfl⟩
  go_wp2_with fail
  exact ⟨rfl,H vH 9 _ (H HQ) (by decide) (H xu)⟩
 have b1:(id == di) = true:=by simpa using uj
 rw [if_neg (not_not_intro ⟨hk3,uj⟩)] at uc
 clear hk3 uj
 go_wp2_with fail
 refine (bI 9 _).mono ?_
 rintro e cp ⟨rfl,hX⟩
 rw [← hX] at xH uh xu HV2 HZ2
 clear hX b0 b1 e9 HE2
 have v0:=R (H HV2) 0 rfl
 have v1:=R (H HV2) 1 rfl
 have v2:=R (H HV2) 2 rfl
 have v3:=R (H HV2) 3 rfl
 have v4:=R (H HV2) 4 rfl
 have uy:=R (H xH) 10 rfl
 have uk:=R (H xH) 11 rfl
 have uW:=R (H xH) 12 rfl
 by_cases uV:xi = dt
 case neg =>
  have b10:(xi == dt) = false:=by simpa using uV
  have HQ:=M (H uc)
  rw [if_pos uV] at HQ
  clear uV
  go_wp2_with fail
  refine (bD 10 _).mono ?_
  rintro e w6 ⟨rfl,rfl⟩
  go_wp2_with fail
  exact ⟨rfl,H vH 10 _ (H HQ) (by decide) (H xu)⟩
 have b10:(xi == dt) = true:=by simpa using uV
 rw [if_neg (not_not_intro uV)] at uc
 clear uV
 go_wp2_with fail
 refine (bI 10 _).mono ?_
 rintro e X10 ⟨rfl,hX⟩
 rw [hX]
 clear hX b10
 by_cases uS:xj = dp
 case neg =>
  have b11:(xj == dp) = false:=by simpa using uS
  have HQ:=M (H uc)
  rw [if_pos uS] at HQ
  clear uS
  go_wp2_with fail
  refine (bD 11 _).mono ?_
  rintro e w6 ⟨rfl,rfl⟩
  go_wp2_with fail
  exact ⟨rfl,H vH 11 _ (H HQ) (by decide) (H xu)⟩
 have b11:(xj == dp) = true:=by simpa using uS
 rw [if_neg (not_not_intro uS)] at uc
 clear uS
 go_wp2_with fail
 refine (bI 11 _).mono ?_
 rintro e X11 ⟨rfl,hX⟩
 rw [hX]
 clear hX b11
 by_cases uO:qty = dq
 case neg =>
  have qz:(qty == dq) = false:=by simpa using uO
  have HQ:=M (H uc)
  rw [if_pos uO] at HQ
  clear uO
  go_wp2_with fail
  refine (bD 12 _).mono ?_
  rintro e w6 ⟨rfl,rfl⟩
  go_wp2_with fail
  exact ⟨rfl,H vH 12 _ (H HQ) (by decide) (H xu)⟩
 have qz:(qty == dq) = true:=by simpa using uO
 rw [if_neg (not_not_intro uO)] at uc
 clear uO
 go_wp2_with fail
 refine (bI 12 _).mono ?_
 rintro e X12 ⟨rfl,hX⟩
 rw [hX]
 clear hX qz
 obtain ⟨Q,E,o,hf,hm,-,pf,hq,-⟩:=H aB (H uc)
 have kH:=(H HI).good (.inr E)
 obtain ⟨vR,_⟩:=dD hf
 obtain ⟨i,hi⟩:=List.getElem?_of_mem vR
 have uQ:plc g.l xi = i:=by rw [pf]; exact cD kH.rise hi
 have kJ:=kH.left o vR
 have jH:=(H HI).l0
 have hl1:=(H HI).l1
 have ah:0 ≤ qty:=by omega
 have oO:qty ≤ o.left:=by omega
 have hwr:IntKind.i64.wrap (g.tk.left - qty) = g.tk.left - qty:=by rw [IntKind.wrap_i64]; omega
 have jt:=M uQ
 have HLI:=M hi
 have HOL:=M kJ
 have HQ01:Hid (0 ≤ qty∧qty ≤ o.left):=⟨ah,oO⟩
 clear Q E hf hm hq pf kH vR hi uQ kJ jH hl1 ah oO aB v0 v1 v2 v3 v4 uy uk uW
 have xX:Hid (Bx cp.drew w.heap.size (yv xm ck L ct F cq ci X cg id xi qty xj xh)):=zJ (H xH)
 have qk:Hid (GS G B r cp.drew vq g):=zx (H uh) ⟨rfl,rfl,rfl,Nat.le_refl _,fun _ _=>rfl⟩
 have vy:Hid (Kp G vq w cp.drew):=kp_drew (H xu)
 have uk:=R (H xX) 11 rfl
 have c13:=R (H qk).box 13 rfl
 have q13:=zd (H qk).box 13 (by show 13 < 16; decide)
 go_wp2_with fail
 refine zE 11 (by kernel_rfl) (by kernel_rfl) ?_
 simp only [yT,List.take_zero,yU,List.drop_zero]
 repeat still_step
 refine wpStill_nil ?_
 have vi:Hid (GS G B r (cp.drew.setCell (U G 13) (I (g.tk.left - qty))) vq { g with tk:={ g.tk with left:=g.tk.left - qty } }):=gs_set (H qk) 13 _ (by decide) rfl rfl
 have xL:=M (kp_set (H vy) 13 (I (g.tk.left - qty)))
 have uC:Hid (Bx (cp.drew.setCell (U G 13) (I (g.tk.left - qty))) w.heap.size (yv xm ck L ct F cq ci X cg id xi qty xj xh)):=zP (H xX) (by omega)
 go_wp2_with fail
 change Code.wp _ _ _ _ (cp.drew.setCell (U G 13) (I (g.tk.left - qty)))
 generalize cp.drew.setCell (U G 13) (I (g.tk.left - qty)) = hb at vi xL uC ⊢
 clear uk c13 q13
 have xE:Hid (Bx hb.drew w.heap.size (yv xm ck L ct F cq ci X cg id xi qty xj xh)):=zJ (H uC)
 have ut:Hid (GS G B r hb.drew vq { g with tk:={ g.tk with left:=g.tk.left - qty } }):=zx (H vi) ⟨rfl,rfl,rfl,Nat.le_refl _,fun _ _=>rfl⟩
 have xG:Hid (Kp G vq w hb.drew):=kp_drew (H xL)
 have uy:=R (H xE) 10 rfl
 have uk:=R (H xE) 11 rfl
 refine zE 7 (by kernel_rfl) (by kernel_rfl) ?_
 simp only [yT,List.take_zero,yU,List.drop_zero]
 repeat still_step
 refine wpStill_nil ?_
 go_wp2_with fail
 refine (ez G 1 B g.nx xi qty vq g.l i o _ (R (H ut).box 1 rfl) (R (H ut).box 2 rfl) (zd (H ut).box 2 (by show 2 < 16; decide)) (H ut).row (H ut).nq (H ut).lt (H ut).base (yN (H HI).len (by decide)) (H jt) (H HLI) (H HQ01).1 (H HQ01).2 (H HOL).2).mono ?_
 rintro e w9 ⟨uH,rfl,aG,kO,aN⟩
 have HG9:=M (gs_took (H ut) aG kO aN)
 have pF:=M (kp_took (H xG) aN)
 clear aG kO aN
 go_wp2_with fail
 go_end0
 refine H uw _ uH (H uc) (H pF) ?_
 rw [H uU]
 simp only [cM (H jt) (H HLI)]
 exact H HG9
end Go.Proofs.YtnphbkgfjanmgaaGreatDoor
