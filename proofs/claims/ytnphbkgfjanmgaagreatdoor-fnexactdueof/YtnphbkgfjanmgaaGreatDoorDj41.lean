/-
  An order accepted in a group, by the program: proved by walking the method.
-/
import Derived.Test.YtnphbkgfjanmgaaGreatDoorDj31
set_option linter.unusedVariables false
set_option maxHeartbeats 6400000
set_option maxRecDepth 100000
namespace Go.Proofs.YtnphbkgfjanmgaaGreatDoor
open Go.RowKit
theorem accept_chk {G B r:Nat} {vq:Value} {g:Gr} (e:Ev) (w:World) (h:GS G B r w vq g) (hi:GI g) (he:okE e = true) (hk:e.kind = 1) (hg:e.cmd.g.size ≤ maxLen):Calls Tryz.prog 87 #[J G 0,evV e] w fun x w'=>Chk G B r vq g e w x w':=by
 have hsf:=sfl
 have hG:=h.lt
 have vW:=h.base
 have uo:Hid (zF g e = if aP g e ≠ 0 then aP g e else if e.id = g.nx then 0 else 6):=by show _ = _; simp [zF,hk]
 have uT:Hid (takG g e = ⟨g.nx + 1,g.l,g.bg,e.cmd,ordO e.cmd e.id⟩):=by show _ = _; rw [takG,step1 hk]
 have vH:Hid (∀ k w',zF g e = k→k ≠ 0→Kp G vq w w'→Chk G B r vq g e w (.panicked (brk k)) w'):=fun k w' N Y h3=>chk_no N Y h3
 have uw:Hid (∀ w' uE,zF g e = 0→Kp G vq w w'→GS G B r w' uE (takG g e)→Chk G B r vq g e w (.returned (.tuple #[])) w'):=fun w' uE N Y h3=>chk_ok N Y h3
 have qg:Hid (∀ W,GS G B r W vq g→Calls Tryz.prog 132 #[J G 0,evV e] W fun x w'=>x = outR (aP g e)∧yp W w'):=fun W hW=>start_any e W hW hi (by rw [hk]; decide) hg
 have HNX:Hid (aP g e = 0→0 ≤ g.nx∧g.nx ≤ 1000000):=fun h0=>⟨(hi.start (cG h0).1).1,(hi.start (cG h0).1).2.1⟩
 have HI:=H hi
 generalize Chk G B r vq g e w = C at vH uw ⊢
 generalize zF g e = ru at vH uw uo
 generalize takG g e = g' at uT uw
 generalize aP g e = sr at qg HNX uo
 obtain ⟨xn,⟨ck,A,ct,F,cq,ci,O,cg⟩,id,xj,qty,xk,xi⟩:=e
 simp only at hk hg
 try simp only at uo uT
 unfold evV at qg
 simp only at qg
 unfold evV
 simp only
 obtain ⟨xz,HX⟩:=fE w (yw xn ck A ct F cq ci O cg id xj qty xk xi) 52
 have HS:Hid ((w.alloc (L (yw xn ck A ct F cq ci O cg id xj qty xk xi).toArray 52)).heap.size = w.heap.size + 1):=by show _ = _; simp
 have HG:=H (zy h xz)
 have HB:Hid (Kp G vq w (w.alloc (L (yw xn ck A ct F cq ci O cg id xj qty xk xi).toArray 52))):=kp_of xz
 clear h xz hi he hk hg
 go_enter Tryz.func87,Tryz.ntmps87
 refine fD fun zb HK=>?_
 go_wp2_with fail
 refine U HK _ _ ?_
 clear HK
 generalize (w.alloc (L (yw xn ck A ct F cq ci O cg id xj qty xk xi).toArray 52)) = W1 at HS HX HG HB ⊢
 obtain ⟨e0,e1,e2,e3,e4,e5,e6,e7,e8,e9,uO,uy,vQ,uQ⟩:=yz (U HX)
 go_wp2_with fail
 refine (U qg W1 (U HG)).mono ?_
 rintro x w2 ⟨hx,xL⟩
 have xI:=H (zf (U HX) xL (by have:=U HS; omega))
 have ug:=H (zy (U HG) xL)
 have xw:=H (ba (U HB) xL)
 have hS2:w.heap.size < w2.heap.size:=by have:=U HS; have:=xL.size; omega
 clear xL e0 e1 e2 e3 e4 e5 e6 e7 e8 e9 uO uy vQ uQ
 by_cases hs:sr = 0
 case neg =>
  rw [outR_no hs] at hx
  subst hx
  go_wp2_with fail
  exact ⟨rfl,U vH _ _ (by rw [U uo,if_pos hs]) hs (U xw)⟩
 rw [outR_ok hs] at hx
 subst hx
 have HSR:=H hs
 have ud:=H (U uo)
 rw [if_neg (not_not_intro hs)] at ud
 clear hs uo
 have xY:Hid (Bx w2.drew w.heap.size (yw xn ck A ct F cq ci O cg id xj qty xk xi)):=zJ (U xI)
 have ql:Hid (GS G B r w2.drew vq g):=zy (U ug) ⟨rfl,rfl,rfl,Nat.le_refl _,fun _ _=>rfl⟩
 have vv:Hid (Kp G vq w w2.drew):=kp_drew (U xw)
 have e9:=K (U xY) 9 rfl
 have c1:=K (U ql).box 1 rfl
 go_wp2_with fail
 refine zE 8 (by kernel_rfl) (by kernel_rfl) ?_
 simp only [yU,List.take_zero,yV,List.drop_zero]
 repeat still_step
 refine wpStill_nil ?_
 by_cases ui:id = g.nx
 case neg =>
  have b0:(id == g.nx) = false:=by simpa using ui
  have HQ:=H (U ud)
  rw [if_neg ui] at HQ
  clear ui
  go_wp2_with fail
  refine (bw 6 _).mono ?_
  rintro e w6 ⟨rfl,rfl⟩
  go_wp2_with fail
  exact ⟨rfl,U vH 6 _ (U HQ) (by decide) (U vv)⟩
 have b0:(id == g.nx) = true:=by simpa using ui
 have HQ:=H (U ud)
 rw [if_pos ui] at HQ
 clear ui ud
 go_wp2_with fail
 refine (bC 6 _).mono ?_
 rintro e xo ⟨rfl,hX⟩
 rw [← hX] at xY ql vv
 have hS3:w.heap.size < xo.heap.size:=by rw [hX]; exact hS2
 clear hX e9 c1 b0
 have c1:=K (U ql).box 1 rfl
 have q1:=zd (U ql).box 1 (by show 1 < 16; decide)
 have qe:=U HNX (U HSR)
 have hwr:IntKind.i64.wrap (g.nx + 1) = g.nx + 1:=by rw [IntKind.wrap_i64]; omega
 have vi:Hid (GS G B r (xo.setCell (Q G 1) (I (g.nx + 1))) vq { g with nx:=g.nx + 1 }):=gs_set (U ql) 1 _ (by decide) rfl rfl
 have xN:=H (kp_set (U vv) 1 (I (g.nx + 1)))
 have uP:Hid (Bx (xo.setCell (Q G 1) (I (g.nx + 1))) w.heap.size (yw xn ck A ct F cq ci O cg id xj qty xk xi)):=zP (U xY) (by omega)
 have oF:w.heap.size < (xo.setCell (Q G 1) (I (g.nx + 1))).heap.size:=by simpa [World.setCell] using hS3
 have e1:=K (U uP) 1 rfl
 have e2:=K (U uP) 2 rfl
 have e3:=K (U uP) 3 rfl
 have e4:=K (U uP) 4 rfl
 have e5:=K (U uP) 5 rfl
 have e6:=K (U uP) 6 rfl
 have e7:=K (U uP) 7 rfl
 have e8:=K (U uP) 8 rfl
 have e9:=K (U uP) 9 rfl
 go_wp2_with fail
 refine (ft ⟨ck,A,ct,F,cq,ci,O,cg⟩ _).mono ?_
 rintro e h2 ⟨rfl,uh⟩
 have uC:=H (zy (U vi) uh)
 have uU:=H (zf (U uP) uh oF)
 have uj:=H (ba (U xN) uh)
 have hS5:w.heap.size < h2.heap.size:=yK oF uh.size
 clear uh e1 e2 e3 e4 e5 e6 e7 e8 e9 c1 q1 hwr oF hS3 vi uP xN xY ql vv
 unfold noV
 simp only
 have c4:=K (U uC).box 4 rfl
 have q4:=zd (U uC).box 4 (by show 4 < 16; decide)
 have c5:=K (U uC).box 5 rfl
 have q5:=zd (U uC).box 5 (by show 5 < 16; decide)
 have c6:=K (U uC).box 6 rfl
 have q6:=zd (U uC).box 6 (by show 6 < 16; decide)
 have c7:=K (U uC).box 7 rfl
 have q7:=zd (U uC).box 7 (by show 7 < 16; decide)
 have c8:=K (U uC).box 8 rfl
 have q8:=zd (U uC).box 8 (by show 8 < 16; decide)
 have c9:=K (U uC).box 9 rfl
 have q9:=zd (U uC).box 9 (by show 9 < 16; decide)
 go_wp2_with fail
 change Code.wp _ _ _ _ (World.setCells h2 G 4 [I A,I ct,I F,I cq,yk O,yl cg])
 have qD:Hid (GS G B r (World.setCells h2 G 4 [I A,I ct,I F,I cq,yk O,yl cg]) vq ⟨g.nx + 1,g.l,g.bg,⟨ck,A,ct,F,cq,ci,O,cg⟩,g.tk⟩):=gs_sets (U uC) 4 _ (by simp) rfl rfl
 have vw:Hid (Bx (World.setCells h2 G 4 [I A,I ct,I F,I cq,yk O,yl cg]) w.heap.size (yw xn ck A ct F cq ci O cg id xj qty xk xi)):=aO (U uU) (bA G w.heap.size (by omega) _ 4 h2)
 have qA:=H (kp_sets (U uj) 4 [I A,I ct,I F,I cq,yk O,yl cg])
 have hS6:w.heap.size < (World.setCells h2 G 4 [I A,I ct,I F,I cq,yk O,yl cg]).heap.size:=yL _ _ (K (U vw) 0 rfl)
 generalize World.setCells h2 G 4 [I A,I ct,I F,I cq,yk O,yl cg] = ho at qD vw qA hS6 ⊢
 clear c4 q4 c5 q5 c6 q6 c7 q7 c8 q8 c9 q9 uC uU uj hS5
 have HOR:=H (fun W=>order_any ⟨ck,A,ct,F,cq,ci,O,cg⟩ id W)
 unfold noV at HOR
 unfold ordO at uT
 simp only at uT HOR
 generalize tk O = tkp at uT HOR
 have hZG:=U qD
 clear hZG
 refine zm (RWA (fun f=>{ tmps:=#[J G 0,.agg (yw xn ck A ct F cq ci O cg id xj qty xk xi).toArray,M,J w.heap.size 0,J G 0,.agg (yw xn ck A ct F cq ci O cg id xj qty xk xi).toArray,.tuple #[],J w.heap.size 9,I id,J G 0,J G 0,J G 1,J G 1,I g.nx,.bool (id == g.nx),.tuple #[],J G 0,J G 0,J G 1,J G 1,I g.nx,I (g.nx + 1),J G 0,J G 1,J G 1,J G 0,J w.heap.size 1,.agg (yy ck A ct F cq ci O cg).toArray,.agg #[I A,I ct,I F,I cq,yk O,yl cg],J G 0,J G 4,f 0,f 1,f 2,f 3,f 4,f 5,f 6,f 7,f 8,f 9],defers:=[] }) (CVw [some (J G 0),some (J G 0),some (J G 0),some (J G 4),some (.agg #[I A,I ct,I F,I cq,yk O,yl cg]),some (J w.heap.size 9),some (I id),some (.agg (yx id A tkp cq F cg).toArray),some (J G 0),some (J G 10),none] (fun _=>True)) 10 (fun hj=>World.setCells hj G 10 (yx id A tkp cq F cg)) ho) (by kernel_rfl) ?_ ?_ ?_
 ·exact ⟨fun _=>M,rfl,⟨fun j V=>by rw [yJ] at V; split at V <;> simp at V,fun _=>⟨rfl,rfl,rfl,Nat.le_refl _,fun _ _=>rfl⟩,fun V=>by rw [yJ] at V; split at V <;> simp at V⟩⟩
 ·rintro x cs hj ⟨f,rfl,R⟩ hx xO
  have xq:=zN xO hx (acyc _ (by kernel_rfl))
  obtain ⟨V0,xz,eV⟩:=R.m (xq 10 (by simp))
  have jz:=H (zy (U qD) xz)
  have qV:=H (ba (U qA) xz)
  clear R xq xO hx xz
  subst eV
  generalize f 0 = v0,f 1 = v1,f 2 = v2,f 3 = v3,f 4 = v4,f 5 = v5,f 6 = v6,f 7 = v7,f 8 = v8,f 9 = v9
  go_end0
  refine U uw _ vq (U HQ) (kp_sets (U qV) 10 _) ?_
  rw [U uT]
  exact gs_sets (U jz) 10 _ (by simp) rfl rfl
 ·rintro x cs hj i op ⟨f,rfl,R⟩ X hx Z xr D
  have xu:=H R
  have nw:i < 10→x[10]? = some false:=fun xJ=>by
   rcases br hx (show 10 < 11 by omega) with hq | hw
   ·exact hq
   ·exfalso
    have h0:=yh X 10 rfl hw 0 rfl
    have N:=yh X 10 rfl hw 1 rfl
    have Y:=yh X 10 rfl hw 2 rfl
    have h3:=yh X 10 rfl hw 3 rfl
    have h4:=yh X 10 rfl hw 4 rfl
    have h5:=yh X 10 rfl hw 5 rfl
    have h6:=yh X 10 rfl hw 6 rfl
    have h7:=yh X 10 rfl hw 7 rfl
    have h9:=yh X 10 rfl hw 9 rfl
    have h8:=yh X 9 rfl h9 8 rfl
    rcases (by omega:i = 0 ∨ i = 1 ∨ i = 2 ∨ i = 3 ∨ i = 4 ∨ i = 5 ∨ i = 6 ∨ i = 7 ∨ i = 8 ∨ i = 9) with rfl | rfl | rfl | rfl | rfl | rfl | rfl | rfl | rfl | rfl
    ·exact absurd (h0.symm.trans xr) (by simp)
    ·exact absurd (N.symm.trans xr) (by simp)
    ·exact absurd (Y.symm.trans xr) (by simp)
    ·exact absurd (h3.symm.trans xr) (by simp)
    ·exact absurd (h4.symm.trans xr) (by simp)
    ·exact absurd (h5.symm.trans xr) (by simp)
    ·exact absurd (h6.symm.trans xr) (by simp)
    ·exact absurd (h7.symm.trans xr) (by simp)
    ·exact absurd (h8.symm.trans xr) (by simp)
    ·exact absurd (h9.symm.trans xr) (by simp)
  have uc:i < 10→yp ho hj:=fun h=>R.b (nw h)
  have xm:i < 10→∀ (p:Addr) u,ho.cell? p = some u→hj.cell? p = some u:=fun h p u hu=>((uc h).cell (yL ho _ hu)).trans hu
  match i,Z with
  | 0,Z | 1,Z =>
   obtain rfl:=yc Z
   have CL:=xm (by omega)
   clear D R uc xm nw CL
   rw [if_pos (by rfl)];unfold Oper.wp;go_simp
   exact ⟨upd f _ (J G 0),by simp [upd],zD (U xu) _ _ ⟨yj rfl,trivial⟩ (by decide)⟩
  | 2,Z =>
   obtain rfl:=yc Z
   have g1:=(R.c 1 (yf D 1 rfl)).1 _ rfl
   have CL:=xm (by omega)
   clear D R uc xm nw CL
   rw [if_pos (by rfl)];unfold Oper.wp;go_simp
   exact ⟨upd f 2 (J G 0),by simp [upd,g1],zD (U xu) 2 _ ⟨yj rfl,trivial⟩ (by decide)⟩
  | 3,Z =>
   obtain rfl:=yc Z
   have g2:=(R.c 2 (yf D 2 rfl)).1 _ rfl
   have CL:=xm (by omega)
   clear D R uc xm nw CL
   rw [if_pos (by rfl)];unfold Oper.wp;go_simp
   exact ⟨upd f 3 (J G 4),by simp [upd,g2],zD (U xu) 3 _ ⟨yj rfl,trivial⟩ (by decide)⟩
  | 4,Z =>
   obtain rfl:=yc Z
   have g3:=(R.c 3 (yf D 3 rfl)).1 _ rfl
   have CL:=xm (by omega)
   have z4:=CL (Q G 4) _ (K (U qD).box 4 rfl)
   have z5:=CL (Q G 5) _ (K (U qD).box 5 rfl)
   have z6:=CL (Q G 6) _ (K (U qD).box 6 rfl)
   have z7:=CL (Q G 7) _ (K (U qD).box 7 rfl)
   have z8:=CL (Q G 8) _ (K (U qD).box 8 rfl)
   have z9:=CL (Q G 9) _ (K (U qD).box 9 rfl)
   clear D R uc xm nw CL
   rw [if_pos (by rfl)];unfold Oper.wp;go_simp
   exact ⟨upd f 4 (.agg #[I A,I ct,I F,I cq,yk O,yl cg]),by simp [upd,g3],zD (U xu) 4 _ ⟨yj rfl,trivial⟩ (by decide)⟩
  | 5,Z =>
   obtain rfl:=yc Z
   have CL:=xm (by omega)
   clear D R uc xm nw CL
   rw [if_pos (by rfl)];unfold Oper.wp;go_simp
   exact ⟨upd f 5 (J w.heap.size 9),by simp [upd],zD (U xu) 5 _ ⟨yj rfl,trivial⟩ (by decide)⟩
  | 6,Z =>
   obtain rfl:=yc Z
   have g5:=(R.c 5 (yf D 5 rfl)).1 _ rfl
   have CL:=xm (by omega)
   have z:=CL (Q w.heap.size 9) _ (K (U vw) 9 rfl)
   clear D R uc xm nw CL
   rw [if_pos (by rfl)];unfold Oper.wp;go_simp
   exact ⟨upd f 6 (I id),by simp [upd,g5],zD (U xu) 6 _ ⟨yj rfl,trivial⟩ (by decide)⟩
  | 7,Z =>
   obtain rfl:=yc Z
   have g4:=(R.c 4 (yf D 4 rfl)).1 _ rfl
   have g6:=(R.c 6 (yf D 6 rfl)).1 _ rfl
   have CL:=xm (by omega)
   have uV:=nw (by omega)
   clear D R uc xm nw CL
   rw [if_pos (by rfl)];unfold Oper.wp;go_simp
   refine (U HOR hj).mono ?_
   rintro e w4 ⟨rfl,xy⟩
   exact ⟨upd f 7 (.agg (yx id A tkp cq F cg).toArray),by simp [upd,g4,g6],zD (cJ (U xu) uV xy) 7 _ ⟨yj rfl,trivial⟩ (by decide)⟩
  | 8,Z =>
   obtain rfl:=yc Z
   have g0:=(R.c 0 (yf D 0 rfl)).1 _ rfl
   have CL:=xm (by omega)
   clear D R uc xm nw CL
   rw [if_pos (by rfl)];unfold Oper.wp;go_simp
   exact ⟨upd f 8 (J G 0),by simp [upd,g0],zD (U xu) 8 _ ⟨yj rfl,trivial⟩ (by decide)⟩
  | 9,Z =>
   obtain rfl:=yc Z
   have g8:=(R.c 8 (yf D 8 rfl)).1 _ rfl
   have CL:=xm (by omega)
   clear D R uc xm nw CL
   rw [if_pos (by rfl)];unfold Oper.wp;go_simp
   exact ⟨upd f 9 (J G 10),by simp [upd,g8],zD (U xu) 9 _ ⟨yj rfl,trivial⟩ (by decide)⟩
  | 10,Z =>
   obtain rfl:=yc Z
   have g9:=(R.c 9 (yf D 9 rfl)).1 _ rfl
   have g7:=(R.c 7 (yf D 7 rfl)).1 _ rfl
   have vj:=R.b xr
   have jz:=H (zy (U qD) vj)
   have kU:=K (U jz).box 10 rfl
   have q10:=zd (U jz).box 10 (by show 10 < 16; decide)
   have ow:=K (U jz).box 11 rfl
   have q11:=zd (U jz).box 11 (by show 11 < 16; decide)
   have ox:=K (U jz).box 12 rfl
   have q12:=zd (U jz).box 12 (by show 12 < 16; decide)
   have oy:=K (U jz).box 13 rfl
   have q13:=zd (U jz).box 13 (by show 13 < 16; decide)
   have z14:=K (U jz).box 14 rfl
   have q14:=zd (U jz).box 14 (by show 14 < 16; decide)
   have z15:=K (U jz).box 15 rfl
   have q15:=zd (U jz).box 15 (by show 15 < 16; decide)
   clear D R uc xm nw vj
   rw [if_pos (by rfl)];unfold Oper.wp;go_simp
   exact ⟨f,by simp [g9,g7],rw_last (T:=fun hj=>World.setCells hj G 10 (yx id A tkp cq F cg)) (U xu) xr (fun j V hx=>⟨fun u hu=>(by subst V; cases hu),trivial⟩)⟩
  | i + 11,Z=>simp at Z
theorem refuse_chk {G B r:Nat} {vq:Value} {g:Gr} (e:Ev) (w:World) (h:GS G B r w vq g) (hi:GI g) (he:okE e = true) (hk:e.kind = 2) (hg:e.cmd.g.size ≤ maxLen):Calls Tryz.prog 88 #[J G 0,evV e] w fun x w'=>Chk G B r vq g e w x w':=by
 have hsf:=sfl
 have hG:=h.lt
 have vW:=h.base
 have uo:Hid (zF g e = if g.bg ≠ 0 then 3 else if refR g.nx g.l e.cmd ≠ 0∧refR g.nx g.l e.cmd = e.reason then 0 else 4):=by show _ = _; unfold zF; rw [if_neg (by rw [hk]; decide),if_pos hk]
 have uT:Hid (takG g e = ⟨g.nx,g.l,g.bg,g.cm,g.tk⟩):=by show _ = _; rw [takG,step2 hk]
 have vH:Hid (∀ k w',zF g e = k→k ≠ 0→Kp G vq w w'→Chk G B r vq g e w (.panicked (brk k)) w'):=fun k w' N Y h3=>chk_no N Y h3
 have uw:Hid (∀ w' uE,zF g e = 0→Kp G vq w w'→GS G B r w' uE (takG g e)→Chk G B r vq g e w (.returned (.tuple #[])) w'):=fun w' uE N Y h3=>chk_ok N Y h3
 have kX:Hid (e.cmd.g.size ≤ maxLen):=hg
 have HI:=H hi
 generalize Chk G B r vq g e w = C at vH uw ⊢
 generalize zF g e = ru at vH uw uo
 generalize takG g e = g' at uT uw
 obtain ⟨xn,⟨ck,A,ct,F,cq,ci,O,cg⟩,id,xj,qty,xk,xi⟩:=e
 simp only at hk hg
 try simp only at uo uT
 unfold evV
 simp only
 obtain ⟨xz,HX⟩:=fE w (yw xn ck A ct F cq ci O cg id xj qty xk xi) 52
 have HS:Hid ((w.alloc (L (yw xn ck A ct F cq ci O cg id xj qty xk xi).toArray 52)).heap.size = w.heap.size + 1):=by show _ = _; simp
 have HG:=H (zy h xz)
 have HB:Hid (Kp G vq w (w.alloc (L (yw xn ck A ct F cq ci O cg id xj qty xk xi).toArray 52))):=kp_of xz
 clear h xz hi he hk hg
 go_enter Tryz.func88,Tryz.ntmps88
 refine fD fun zb HK=>?_
 go_wp2_with fail
 refine U HK _ _ ?_
 clear HK
 generalize (w.alloc (L (yw xn ck A ct F cq ci O cg id xj qty xk xi).toArray 52)) = W1 at HS HX HG HB ⊢
 have c3:=K (U HG).box 3 rfl
 by_cases h0:g.bg = 0
 case neg =>
  have b0:(g.bg == 0) = false:=by simpa using h0
  have HQ:=H (U uo)
  rw [if_pos h0] at HQ
  clear h0
  go_wp2_with fail
  refine (bw 3 _).mono ?_
  rintro e w6 ⟨rfl,rfl⟩
  go_wp2_with fail
  exact ⟨rfl,U vH 3 _ (U HQ) (by decide) (U HB)⟩
 have b0:(g.bg == 0) = true:=by simpa using h0
 have qK:=H ((U HI).good (.inl (by omega)))
 have HNX:=H ((U HI).start h0)
 have ud:=H (U uo)
 rw [if_neg (not_not_intro h0)] at ud
 clear h0 uo
 go_wp2_with fail
 refine (bC 3 _).mono ?_
 rintro e w2 ⟨rfl,hw2⟩
 rw [← hw2] at HG HX HB HS
 clear hw2 c3 b0
 have xI:=H (U HX)
 have ug:=H (U HG)
 have xw:=H (U HB)
 have hS2:w.heap.size < w2.heap.size:=by have:=U HS; omega
 clear HX HG HB HS
 have xY:Hid (Bx w2.drew w.heap.size (yw xn ck A ct F cq ci O cg id xj qty xk xi)):=zJ (U xI)
 have ql:Hid (GS G B r w2.drew vq g):=zy (U ug) ⟨rfl,rfl,rfl,Nat.le_refl _,fun _ _=>rfl⟩
 have vv:Hid (Kp G vq w w2.drew):=kp_drew (U xw)
 have e1:=K (U xY) 1 rfl
 have e2:=K (U xY) 2 rfl
 have e3:=K (U xY) 3 rfl
 have e4:=K (U xY) 4 rfl
 have e5:=K (U xY) 5 rfl
 have e6:=K (U xY) 6 rfl
 have e7:=K (U xY) 7 rfl
 have e8:=K (U xY) 8 rfl
 have c1:=K (U ql).box 1 rfl
 have c2:=K (U ql).box 2 rfl
 have uN:=H (zK (U ql).row (yO (U HI).len (by decide)))
 have km:=H (oRow_sl (U ql).row)
 go_wp2_with fail
 refine zE 6 (by kernel_rfl) (by kernel_rfl) ?_
 simp only [yU,List.take_zero,yV,List.drop_zero]
 repeat still_step
 refine wpStill_nil ?_
 clear c1 c2 e1 e2 e3 e4 e5 e6 e7 e8
 go_wp2_with fail
 refine (refusal_any g.nx vq g.l ⟨ck,A,ct,F,cq,ci,O,cg⟩ _ (U uN) (U km) (U qK) (U HNX).1 (U HNX).2.1 (U kX)).mono ?_
 rintro e w5 ⟨rfl,uh⟩
 have uU:=H (zf (U xY) uh hS2)
 have uC:=H (zy (U ql) uh)
 have uj:=H (ba (U vv) uh)
 clear uh uN km
 generalize refR g.nx g.l ⟨ck,A,ct,F,cq,ci,O,cg⟩ = rr at ud ⊢
 have uQ:=K (U uU) 13 rfl
 by_cases jO:rr = 0
 case pos =>
  have b0:(rr != 0) = false:=by simpa using jO
  have HQ:=H (U ud)
  rw [if_neg (by simp [jO])] at HQ
  clear jO
  go_wp2_with fail
  refine (bw 4 _).mono ?_
  rintro e w6 ⟨rfl,rfl⟩
  go_wp2_with fail
  exact ⟨rfl,U vH 4 _ (U HQ) (by decide) (U uj)⟩
 have b0:(rr != 0) = true:=by simpa using jO
 by_cases jg:rr = xi
 case neg =>
  have b1:(rr == xi) = false:=by simpa using jg
  have HQ:=H (U ud)
  rw [if_neg (by simp [jg])] at HQ
  clear jO jg
  go_wp2_with fail
  refine (bw 4 _).mono ?_
  rintro e w6 ⟨rfl,rfl⟩
  go_wp2_with fail
  exact ⟨rfl,U vH 4 _ (U HQ) (by decide) (U uj)⟩
 have b1:(rr == xi) = true:=by simpa using jg
 have HQ:=H (U ud)
 rw [if_pos ⟨jO,jg⟩] at HQ
 clear jO jg
 go_wp2_with fail
 refine (bC 4 _).mono ?_
 rintro e w6 ⟨rfl,rfl⟩
 go_wp2_with fail
 go_end0
 refine U uw _ vq (U HQ) (U uj) ?_
 rw [U uT]
 exact U uC
theorem trade_chk {G B r:Nat} {vq:Value} {g:Gr} (e:Ev) (w:World) (h:GS G B r w vq g) (hi:GI g) (he:okE e = true) (hk:e.kind = 3) (hg:e.cmd.g.size ≤ maxLen):Calls Tryz.prog 89 #[J G 0,evV e] w fun x w'=>Chk G B r vq g e w x w':=by
 have hsf:=sfl
 have hG:=h.lt
 have vW:=h.base
 have uo:Hid (zF g e = if dueR g e ≠ 0 then dueR g e else trR (dueG g) e):=by show _ = _; simp [zF,hk]
 have uT:Hid (takG g e = ⟨g.nx,hitI g.l e.other e.qty,g.bg,g.cm,{ g.tk with left:=g.tk.left - e.qty }⟩):=by show _ = _; rw [takG,step3 hk]
 have vH:Hid (∀ k w',zF g e = k→k ≠ 0→Kp G vq w w'→Chk G B r vq g e w (.panicked (brk k)) w'):=fun k w' N Y h3=>chk_no N Y h3
 have uw:Hid (∀ w' uE,zF g e = 0→Kp G vq w w'→GS G B r w' uE (takG g e)→Chk G B r vq g e w (.returned (.tuple #[])) w'):=fun w' uE N Y h3=>chk_ok N Y h3
 have jx:Hid (∀ W,GS G B r W vq g→Calls Tryz.prog 137 #[J G 0,evV e] W fun x w'=>x = outD (dueR g e) (dueG g)∧yp W w'):=fun W hW=>eE e W hW hi
 have ax:Hid (zF g e = 0→g.bg = 1∧g.tk.left ≠ 0∧∃ o,aR g.l (othS g.cm.s) = some o∧bp g.cm o = true∧e.id = g.tk.id∧e.other = o.id∧e.qty = min g.tk.left o.left∧e.price = o.ticks):=rule3 hk
 have HI:=H hi
 generalize Chk G B r vq g e w = C at vH uw ⊢
 generalize zF g e = ru at vH uw uo ax
 generalize takG g e = g' at uT uw
 generalize dueR g e = dr at jx uo
 generalize dueG g = d at jx uo
 obtain ⟨xn,⟨ck,A,ct,F,cq,ci,O,cg⟩,id,xj,qty,xk,xi⟩:=e
 simp only at hk hg
 try simp only at uo uT
 unfold trR at uo
 unfold evV at jx
 simp only at uo jx ax
 unfold evV
 simp only
 obtain ⟨xz,HX⟩:=fE w (yw xn ck A ct F cq ci O cg id xj qty xk xi) 52
 have HS:Hid ((w.alloc (L (yw xn ck A ct F cq ci O cg id xj qty xk xi).toArray 52)).heap.size = w.heap.size + 1):=by show _ = _; simp
 have HG:=H (zy h xz)
 have HB:Hid (Kp G vq w (w.alloc (L (yw xn ck A ct F cq ci O cg id xj qty xk xi).toArray 52))):=kp_of xz
 clear h xz hi he hk hg
 go_enter Tryz.func89,Tryz.ntmps89
 refine fD fun zb HK=>?_
 go_wp2_with fail
 refine U HK _ _ ?_
 clear HK
 generalize (w.alloc (L (yw xn ck A ct F cq ci O cg id xj qty xk xi).toArray 52)) = W1 at HS HX HG HB ⊢
 obtain ⟨e0,e1,e2,e3,e4,e5,e6,e7,e8,e9,uO,uy,vQ,uQ⟩:=yz (U HX)
 go_wp2_with fail
 refine (U jx W1 (U HG)).mono ?_
 rintro x w2 ⟨hx,xL⟩
 by_cases hs:dr = 0
 case neg =>
  rw [outD_no hs] at hx
  subst hx
  go_wp2_with fail
  exact ⟨rfl,U vH _ _ (by rw [U uo,if_pos hs]) hs (ba (U HB) xL)⟩
 rw [outD_ok hs] at hx
 subst hx
 have HDZ:=H hs
 have ud:=H (U uo)
 rw [if_neg (not_not_intro hs)] at ud
 clear hs uo
 obtain ⟨dk,di,dt,dq,dp⟩:=d
 unfold duV
 simp only at ud ⊢
 have xQ:=fw w2 (L #[I dk,I di,I dt,I dq,I dp] 29)
 have oj:=xL.trans (xQ.mono xL.size)
 have xI:=H (zf (U HX) oj (by have:=U HS; omega))
 have ug:=H (zy (U HG) oj)
 have xw:=H (ba (U HB) oj)
 have HV2:=H (zq w2 [I dk,I di,I dt,I dq,I dp] 29)
 have HZ2:Hid (w.heap.size < w2.heap.size∧w2.heap.size < (w2.alloc (L #[I dk,I di,I dt,I dq,I dp] 29)).heap.size):=⟨by have:=U HS; have:=xL.size; omega,by simp⟩
 clear xL xQ oj e0 e1 e2 e3 e4 e5 e6 e7 e8 e9 uO uy vQ uQ HX HG HB HS
 have HE2:=H (U xI)
 by_cases hk3:dk = 3
 case neg =>
  have b0:(dk == 3) = false:=by simpa using hk3
  have HQ:=H (U ud)
  rw [if_pos (fun h=>hk3 h.1)] at HQ
  clear hk3
  go_wp2_with fail
  refine (bw 9 _).mono ?_
  rintro e w6 ⟨rfl,rfl⟩
  go_wp2_with fail
  exact ⟨rfl,U vH 9 _ (U HQ) (by decide) (U xw)⟩
 have b0:(dk == 3) = true:=by simpa using hk3
 have e9:=K (U HE2) 9 rfl
 by_cases ui:id = di
 case neg =>
  have b1:(id == di) = false:=by simpa using ui
  have HQ:=H (U ud)
  rw [if_pos (fun h=>ui h.2)] at HQ
  clear hk3 ui
  go_wp2_with fail
  refine (bw 9 _).mono ?_
  rintro e w6 ⟨rfl,rfl⟩
  go_wp2_with fail
  exact ⟨rfl,U vH 9 _ (U HQ) (by decide) (U xw)⟩
 have b1:(id == di) = true:=by simpa using ui
 rw [if_neg (not_not_intro ⟨hk3,ui⟩)] at ud
 clear hk3 ui
 go_wp2_with fail
 refine (bC 9 _).mono ?_
 rintro e xo ⟨rfl,hX⟩
 rw [← hX] at xI ug xw HV2 HZ2
 clear hX b0 b1 e9 HE2
 have v0:=K (U HV2) 0 rfl
 have v1:=K (U HV2) 1 rfl
 have v2:=K (U HV2) 2 rfl
 have v3:=K (U HV2) 3 rfl
 have v4:=K (U HV2) 4 rfl
 have uO:=K (U xI) 10 rfl
 have uy:=K (U xI) 11 rfl
 have vQ:=K (U xI) 12 rfl
 by_cases uV:xj = dt
 case neg =>
  have b10:(xj == dt) = false:=by simpa using uV
  have HQ:=H (U ud)
  rw [if_pos uV] at HQ
  clear uV
  go_wp2_with fail
  refine (bw 10 _).mono ?_
  rintro e w6 ⟨rfl,rfl⟩
  go_wp2_with fail
  exact ⟨rfl,U vH 10 _ (U HQ) (by decide) (U xw)⟩
 have b10:(xj == dt) = true:=by simpa using uV
 rw [if_neg (not_not_intro uV)] at ud
 clear uV
 go_wp2_with fail
 refine (bC 10 _).mono ?_
 rintro e X10 ⟨rfl,hX⟩
 rw [hX]
 clear hX b10
 by_cases uR:xk = dp
 case neg =>
  have b11:(xk == dp) = false:=by simpa using uR
  have HQ:=H (U ud)
  rw [if_pos uR] at HQ
  clear uR
  go_wp2_with fail
  refine (bw 11 _).mono ?_
  rintro e w6 ⟨rfl,rfl⟩
  go_wp2_with fail
  exact ⟨rfl,U vH 11 _ (U HQ) (by decide) (U xw)⟩
 have b11:(xk == dp) = true:=by simpa using uR
 rw [if_neg (not_not_intro uR)] at ud
 clear uR
 go_wp2_with fail
 refine (bC 11 _).mono ?_
 rintro e X11 ⟨rfl,hX⟩
 rw [hX]
 clear hX b11
 by_cases uK:qty = dq
 case neg =>
  have qv:(qty == dq) = false:=by simpa using uK
  have HQ:=H (U ud)
  rw [if_pos uK] at HQ
  clear uK
  go_wp2_with fail
  refine (bw 12 _).mono ?_
  rintro e w6 ⟨rfl,rfl⟩
  go_wp2_with fail
  exact ⟨rfl,U vH 12 _ (U HQ) (by decide) (U xw)⟩
 have qv:(qty == dq) = true:=by simpa using uK
 rw [if_neg (not_not_intro uK)] at ud
 clear uK
 go_wp2_with fail
 refine (bC 12 _).mono ?_
 rintro e X12 ⟨rfl,hX⟩
 rw [hX]
 clear hX qv
 obtain ⟨N,Y,o,hf,hm,-,oZ,hq,-⟩:=U ax (U ud)
 have kD:=(U HI).good (.inr Y)
 obtain ⟨vS,_⟩:=dj hf
 obtain ⟨i,hi⟩:=List.getElem?_of_mem vS
 have uM:plc g.l xj = i:=by rw [oZ]; exact co kD.rise hi
 have kG:=kD.left o vS
 have jH:=(U HI).l0
 have hl1:=(U HI).l1
 have pZ:0 ≤ qty:=by omega
 have oK:qty ≤ o.left:=by omega
 have hwr:IntKind.i64.wrap (g.tk.left - qty) = g.tk.left - qty:=by rw [IntKind.wrap_i64]; omega
 have jr:=H uM
 have HLI:=H hi
 have HOL:=H kG
 have HQ01:Hid (0 ≤ qty∧qty ≤ o.left):=⟨pZ,oK⟩
 clear N Y hf hm hq oZ kD vS hi uM kG jH hl1 pZ oK ax v0 v1 v2 v3 v4 uO uy vQ
 have xY:Hid (Bx xo.drew w.heap.size (yw xn ck A ct F cq ci O cg id xj qty xk xi)):=zJ (U xI)
 have ql:Hid (GS G B r xo.drew vq g):=zy (U ug) ⟨rfl,rfl,rfl,Nat.le_refl _,fun _ _=>rfl⟩
 have vv:Hid (Kp G vq w xo.drew):=kp_drew (U xw)
 have uy:=K (U xY) 11 rfl
 have c13:=K (U ql).box 13 rfl
 have q13:=zd (U ql).box 13 (by show 13 < 16; decide)
 go_wp2_with fail
 refine zE 11 (by kernel_rfl) (by kernel_rfl) ?_
 simp only [yU,List.take_zero,yV,List.drop_zero]
 repeat still_step
 refine wpStill_nil ?_
 have vi:Hid (GS G B r (xo.drew.setCell (Q G 13) (I (g.tk.left - qty))) vq { g with tk:={ g.tk with left:=g.tk.left - qty } }):=gs_set (U ql) 13 _ (by decide) rfl rfl
 have xN:=H (kp_set (U vv) 13 (I (g.tk.left - qty)))
 have uP:Hid (Bx (xo.drew.setCell (Q G 13) (I (g.tk.left - qty))) w.heap.size (yw xn ck A ct F cq ci O cg id xj qty xk xi)):=zP (U xY) (by omega)
 go_wp2_with fail
 change Code.wp _ _ _ _ (xo.drew.setCell (Q G 13) (I (g.tk.left - qty)))
 generalize xo.drew.setCell (Q G 13) (I (g.tk.left - qty)) = h2 at vi xN uP ⊢
 clear uy c13 q13
 have xG:Hid (Bx h2.drew w.heap.size (yw xn ck A ct F cq ci O cg id xj qty xk xi)):=zJ (U uP)
 have ut:Hid (GS G B r h2.drew vq { g with tk:={ g.tk with left:=g.tk.left - qty } }):=zy (U vi) ⟨rfl,rfl,rfl,Nat.le_refl _,fun _ _=>rfl⟩
 have xH:Hid (Kp G vq w h2.drew):=kp_drew (U xN)
 have uO:=K (U xG) 10 rfl
 have uy:=K (U xG) 11 rfl
 refine zE 7 (by kernel_rfl) (by kernel_rfl) ?_
 simp only [yU,List.take_zero,yV,List.drop_zero]
 repeat still_step
 refine wpStill_nil ?_
 go_wp2_with fail
 refine (et G 1 B g.nx xj qty vq g.l i o _ (K (U ut).box 1 rfl) (K (U ut).box 2 rfl) (zd (U ut).box 2 (by show 2 < 16; decide)) (U ut).row (U ut).nq (U ut).lt (U ut).base (yO (U HI).len (by decide)) (U jr) (U HLI) (U HQ01).1 (U HQ01).2 (U HOL).2).mono ?_
 rintro e w9 ⟨uE,rfl,aC,kL,aK⟩
 have HG9:=H (gs_took (U ut) aC kL aK)
 have pB:=H (kp_took (U xH) aK)
 clear aC kL aK
 go_wp2_with fail
 go_end0
 refine U uw _ uE (U ud) (U pB) ?_
 rw [U uT]
 simp only [cF (U jr) (U HLI)]
 exact U HG9
end Go.Proofs.YtnphbkgfjanmgaaGreatDoor
