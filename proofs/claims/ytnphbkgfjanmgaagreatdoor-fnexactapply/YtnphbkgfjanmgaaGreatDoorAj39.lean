/-
  An order accepted in a group, by the program: proved by walking the method.
-/
import Derived.Test.YtnphbkgfjanmgaaGreatDoorAj29
set_option linter.unusedVariables false
set_option maxHeartbeats 6400000
set_option maxRecDepth 100000
namespace Go.Proofs.YtnphbkgfjanmgaaGreatDoor
open Go.RowKit
theorem accept_chk {G B r:Nat} {vq:Value} {g:Gr} (e:Ev) (w:World) (h:GS G B r w vq g) (hi:GI g) (he:okE e = true) (hk:e.kind = 1) (hg:e.cmd.g.size ≤ maxLen):Calls Tryz.prog 87 #[J G 0,evV e] w fun x w'=>Chk G B r vq g e w x w':=by
 have hsf:=sfl
 have hG:=h.lt
 have qe:=h.base
 have ur:Hid (zG g e = if bz g e ≠ 0 then bz g e else if e.id = g.nx then 0 else 6):=by show _ = _; simp [zG,hk]
 have uW:Hid (takG g e = ⟨g.nx + 1,g.l,g.bg,e.cmd,ordO e.cmd e.id⟩):=by show _ = _; rw [takG,step1 hk]
 have vJ:Hid (∀ k w',zG g e = k→k ≠ 0→Kp G vq w w'→Chk G B r vq g e w (.panicked (brk k)) w'):=fun k w' N Y h3=>chk_no N Y h3
 have uy:Hid (∀ w' uH,zG g e = 0→Kp G vq w w'→GS G B r w' uH (takG g e)→Chk G B r vq g e w (.returned (.tuple #[])) w'):=fun w' uH N Y h3=>chk_ok N Y h3
 have qp:Hid (∀ W,GS G B r W vq g→Calls Tryz.prog 132 #[J G 0,evV e] W fun x w'=>x = outR (bz g e)∧yp W w'):=fun W hW=>start_any e W hW hi (by rw [hk]; decide) hg
 have HNX:Hid (bz g e = 0→0 ≤ g.nx∧g.nx ≤ 1000000):=fun h0=>⟨(hi.start (dC h0).1).1,(hi.start (dC h0).1).2.1⟩
 have HI:=H hi
 generalize Chk G B r vq g e w = C at vJ uy ⊢
 generalize zG g e = ru at vJ uy ur
 generalize takG g e = g' at uW uy
 generalize bz g e = sr at qp HNX ur
 obtain ⟨xn,⟨ck,L,ct,V,cq,ci,O,cg⟩,id,xj,qty,xk,xi⟩:=e
 simp only at hk hg
 try simp only at ur uW
 unfold evV at qp
 simp only at qp
 unfold evV
 simp only
 obtain ⟨xC,HX⟩:=gw w (yw xn ck L ct V cq ci O cg id xj qty xk xi) 52
 have HS:Hid ((w.alloc (A (yw xn ck L ct V cq ci O cg id xj qty xk xi).toArray 52)).heap.size = w.heap.size + 1):=by show _ = _; simp
 have HG:=H (zA h xC)
 have HB:Hid (Kp G vq w (w.alloc (A (yw xn ck L ct V cq ci O cg id xj qty xk xi).toArray 52))):=kp_of xC
 clear h xC hi he hk hg
 go_enter Tryz.func87,Tryz.ntmps87
 refine gv fun hR HK=>?_
 go_wp2_with fail
 refine U HK _ _ ?_
 clear HK
 generalize (w.alloc (A (yw xn ck L ct V cq ci O cg id xj qty xk xi).toArray 52)) = W1 at HS HX HG HB ⊢
 obtain ⟨e0,e1,e2,e3,e4,e5,e6,e7,e8,e9,uR,uA,vV,uT⟩:=yz (U HX)
 go_wp2_with fail
 refine (U qp W1 (U HG)).mono ?_
 rintro x w2 ⟨hx,xK⟩
 have xJ:=H (zf (U HX) xK (by have:=U HS; omega))
 have uh:=H (zA (U HG) xK)
 have xw:=H (bL (U HB) xK)
 have hS2:w.heap.size < w2.heap.size:=by have:=U HS; have:=xK.size; omega
 clear xK e0 e1 e2 e3 e4 e5 e6 e7 e8 e9 uR uA vV uT
 by_cases hs:sr = 0
 case neg =>
  rw [outR_no hs] at hx
  subst hx
  go_wp2_with fail
  exact ⟨rfl,U vJ _ _ (by rw [U ur,if_pos hs]) hs (U xw)⟩
 rw [outR_ok hs] at hx
 subst hx
 have HSR:=H hs
 have ue:=H (U ur)
 rw [if_neg (not_not_intro hs)] at ue
 clear hs ur
 have xV:Hid (Bx w2.drew w.heap.size (yw xn ck L ct V cq ci O cg id xj qty xk xi)):=zK (U xJ)
 have qw:Hid (GS G B r w2.drew vq g):=zA (U uh) ⟨rfl,rfl,rfl,Nat.le_refl _,fun _ _=>rfl⟩
 have vu:Hid (Kp G vq w w2.drew):=kp_drew (U xw)
 have e9:=R (U xV) 9 rfl
 have c1:=R (U qw).box 1 rfl
 go_wp2_with fail
 refine zF 8 (by kernel_rfl) (by kernel_rfl) ?_
 simp only [yU,List.take_zero,yV,List.drop_zero]
 repeat still_step
 refine wpStill_nil ?_
 by_cases uj:id = g.nx
 case neg =>
  have b0:(id == g.nx) = false:=by simpa using uj
  have HQ:=H (U ue)
  rw [if_neg uj] at HQ
  clear uj
  go_wp2_with fail
  refine (bU 6 _).mono ?_
  rintro e w6 ⟨rfl,rfl⟩
  go_wp2_with fail
  exact ⟨rfl,U vJ 6 _ (U HQ) (by decide) (U vu)⟩
 have b0:(id == g.nx) = true:=by simpa using uj
 have HQ:=H (U ue)
 rw [if_pos uj] at HQ
 clear uj ue
 go_wp2_with fail
 refine (co 6 _).mono ?_
 rintro e hj ⟨rfl,hX⟩
 rw [← hX] at xV qw vu
 have hS3:w.heap.size < hj.heap.size:=by rw [hX]; exact hS2
 clear hX e9 c1 b0
 have c1:=R (U qw).box 1 rfl
 have q1:=zd (U qw).box 1 (by show 1 < 16; decide)
 have ql:=U HNX (U HSR)
 have hwr:IntKind.i64.wrap (g.nx + 1) = g.nx + 1:=by rw [IntKind.wrap_i64]; omega
 have vn:Hid (GS G B r (hj.setCell (D G 1) (I (g.nx + 1))) vq { g with nx:=g.nx + 1 }):=gs_set (U qw) 1 _ (by decide) rfl rfl
 have xN:=H (kp_set (U vu) 1 (I (g.nx + 1)))
 have uS:Hid (Bx (hj.setCell (D G 1) (I (g.nx + 1))) w.heap.size (yw xn ck L ct V cq ci O cg id xj qty xk xi)):=zR (U xV) (by omega)
 have oV:w.heap.size < (hj.setCell (D G 1) (I (g.nx + 1))).heap.size:=by simpa [World.setCell] using hS3
 have e1:=R (U uS) 1 rfl
 have e2:=R (U uS) 2 rfl
 have e3:=R (U uS) 3 rfl
 have e4:=R (U uS) 4 rfl
 have e5:=R (U uS) 5 rfl
 have e6:=R (U uS) 6 rfl
 have e7:=R (U uS) 7 rfl
 have e8:=R (U uS) 8 rfl
 have e9:=R (U uS) 9 rfl
 go_wp2_with fail
 refine (gl ⟨ck,L,ct,V,cq,ci,O,cg⟩ _).mono ?_
 rintro e h2 ⟨rfl,ui⟩
 have uC:=H (zA (U vn) ui)
 have uX:=H (zf (U uS) ui oV)
 have uk:=H (bL (U xN) ui)
 have hS5:w.heap.size < h2.heap.size:=yK oV ui.size
 clear ui e1 e2 e3 e4 e5 e6 e7 e8 e9 c1 q1 hwr oV hS3 vn uS xN xV qw vu
 unfold noV
 simp only
 have c4:=R (U uC).box 4 rfl
 have q4:=zd (U uC).box 4 (by show 4 < 16; decide)
 have c5:=R (U uC).box 5 rfl
 have q5:=zd (U uC).box 5 (by show 5 < 16; decide)
 have c6:=R (U uC).box 6 rfl
 have q6:=zd (U uC).box 6 (by show 6 < 16; decide)
 have c7:=R (U uC).box 7 rfl
 have q7:=zd (U uC).box 7 (by show 7 < 16; decide)
 have c8:=R (U uC).box 8 rfl
 have q8:=zd (U uC).box 8 (by show 8 < 16; decide)
 have c9:=R (U uC).box 9 rfl
 have q9:=zd (U uC).box 9 (by show 9 < 16; decide)
 go_wp2_with fail
 change Code.wp _ _ _ _ (World.setCells h2 G 4 [I L,I ct,I V,I cq,yk O,yl cg])
 have qK:Hid (GS G B r (World.setCells h2 G 4 [I L,I ct,I V,I cq,yk O,yl cg]) vq ⟨g.nx + 1,g.l,g.bg,⟨ck,L,ct,V,cq,ci,O,cg⟩,g.tk⟩):=gs_sets (U uC) 4 _ (by simp) rfl rfl
 have vA:Hid (Bx (World.setCells h2 G 4 [I L,I ct,I V,I cq,yk O,yl cg]) w.heap.size (yw xn ck L ct V cq ci O cg id xj qty xk xi)):=bx (U uX) (bY G w.heap.size (by omega) _ 4 h2)
 have qH:=H (kp_sets (U uk) 4 [I L,I ct,I V,I cq,yk O,yl cg])
 have hS6:w.heap.size < (World.setCells h2 G 4 [I L,I ct,I V,I cq,yk O,yl cg]).heap.size:=yL _ _ (R (U vA) 0 rfl)
 generalize World.setCells h2 G 4 [I L,I ct,I V,I cq,yk O,yl cg] = ho at qK vA qH hS6 ⊢
 clear c4 q4 c5 q5 c6 q6 c7 q7 c8 q8 c9 q9 uC uX uk hS5
 have HOR:=H (fun W=>order_any ⟨ck,L,ct,V,cq,ci,O,cg⟩ id W)
 unfold noV at HOR
 unfold ordO at uW
 simp only at uW HOR
 generalize tk O = tkp at uW HOR
 have hZG:=U qK
 clear hZG
 refine zn (RWA (fun f=>{ tmps:=#[J G 0,.agg (yw xn ck L ct V cq ci O cg id xj qty xk xi).toArray,M,J w.heap.size 0,J G 0,.agg (yw xn ck L ct V cq ci O cg id xj qty xk xi).toArray,.tuple #[],J w.heap.size 9,I id,J G 0,J G 0,J G 1,J G 1,I g.nx,.bool (id == g.nx),.tuple #[],J G 0,J G 0,J G 1,J G 1,I g.nx,I (g.nx + 1),J G 0,J G 1,J G 1,J G 0,J w.heap.size 1,.agg (yy ck L ct V cq ci O cg).toArray,.agg #[I L,I ct,I V,I cq,yk O,yl cg],J G 0,J G 4,f 0,f 1,f 2,f 3,f 4,f 5,f 6,f 7,f 8,f 9],defers:=[] }) (CVw [some (J G 0),some (J G 0),some (J G 0),some (J G 4),some (.agg #[I L,I ct,I V,I cq,yk O,yl cg]),some (J w.heap.size 9),some (I id),some (.agg (yx id L tkp cq V cg).toArray),some (J G 0),some (J G 10),none] (fun _=>True)) 10 (fun cl=>World.setCells cl G 10 (yx id L tkp cq V cg)) ho) (by kernel_rfl) ?_ ?_ ?_
 ·exact ⟨fun _=>M,rfl,⟨fun j X=>by rw [yJ] at X; split at X <;> simp at X,fun _=>⟨rfl,rfl,rfl,Nat.le_refl _,fun _ _=>rfl⟩,fun X=>by rw [yJ] at X; split at X <;> simp at X⟩⟩
 ·rintro x gs cl ⟨f,rfl,K⟩ hx xO
  have xq:=zP xO hx (acyc _ (by kernel_rfl))
  obtain ⟨V0,xC,eV⟩:=K.m (xq 10 (by simp))
  have jK:=H (zA (U qK) xC)
  have jg:=H (bL (U qH) xC)
  clear K xq xO hx xC
  subst eV
  generalize f 0 = v0,f 1 = v1,f 2 = v2,f 3 = v3,f 4 = v4,f 5 = v5,f 6 = v6,f 7 = v7,f 8 = v8,f 9 = v9
  go_end0
  refine U uy _ vq (U HQ) (kp_sets (U jg) 10 _) ?_
  rw [U uW]
  exact gs_sets (U jK) 10 _ (by simp) rfl rfl
 ·rintro x gs cl i op ⟨f,rfl,K⟩ F hx Z xt E
  have xu:=H K
  have nw:i < 10→x[10]? = some false:=fun xI=>by
   rcases bS hx (show 10 < 11 by omega) with hq | hw
   ·exact hq
   ·exfalso
    have h0:=yh F 10 rfl hw 0 rfl
    have N:=yh F 10 rfl hw 1 rfl
    have Y:=yh F 10 rfl hw 2 rfl
    have h3:=yh F 10 rfl hw 3 rfl
    have h4:=yh F 10 rfl hw 4 rfl
    have h5:=yh F 10 rfl hw 5 rfl
    have h6:=yh F 10 rfl hw 6 rfl
    have h7:=yh F 10 rfl hw 7 rfl
    have h9:=yh F 10 rfl hw 9 rfl
    have h8:=yh F 9 rfl h9 8 rfl
    rcases (by omega:i = 0 ∨ i = 1 ∨ i = 2 ∨ i = 3 ∨ i = 4 ∨ i = 5 ∨ i = 6 ∨ i = 7 ∨ i = 8 ∨ i = 9) with rfl | rfl | rfl | rfl | rfl | rfl | rfl | rfl | rfl | rfl
    ·exact absurd (h0.symm.trans xt) (by simp)
    ·exact absurd (N.symm.trans xt) (by simp)
    ·exact absurd (Y.symm.trans xt) (by simp)
    ·exact absurd (h3.symm.trans xt) (by simp)
    ·exact absurd (h4.symm.trans xt) (by simp)
    ·exact absurd (h5.symm.trans xt) (by simp)
    ·exact absurd (h6.symm.trans xt) (by simp)
    ·exact absurd (h7.symm.trans xt) (by simp)
    ·exact absurd (h8.symm.trans xt) (by simp)
    ·exact absurd (h9.symm.trans xt) (by simp)
  have ud:i < 10→yp ho cl:=fun h=>K.b (nw h)
  have xm:i < 10→∀ (p:Addr) u,ho.cell? p = some u→cl.cell? p = some u:=fun h p u hu=>((ud h).cell (yL ho _ hu)).trans hu
  match i,Z with
  | 0,Z | 1,Z =>
   obtain rfl:=yc Z
   have CL:=xm (by omega)
   clear E K ud xm nw CL
   rw [if_pos (by rfl)];unfold Oper.wp;go_simp
   exact ⟨upd f _ (J G 0),by simp [upd],zE (U xu) _ _ ⟨yj rfl,trivial⟩ (by decide)⟩
  | 2,Z =>
   obtain rfl:=yc Z
   have g1:=(K.c 1 (yf E 1 rfl)).1 _ rfl
   have CL:=xm (by omega)
   clear E K ud xm nw CL
   rw [if_pos (by rfl)];unfold Oper.wp;go_simp
   exact ⟨upd f 2 (J G 0),by simp [upd,g1],zE (U xu) 2 _ ⟨yj rfl,trivial⟩ (by decide)⟩
  | 3,Z =>
   obtain rfl:=yc Z
   have g2:=(K.c 2 (yf E 2 rfl)).1 _ rfl
   have CL:=xm (by omega)
   clear E K ud xm nw CL
   rw [if_pos (by rfl)];unfold Oper.wp;go_simp
   exact ⟨upd f 3 (J G 4),by simp [upd,g2],zE (U xu) 3 _ ⟨yj rfl,trivial⟩ (by decide)⟩
  | 4,Z =>
   obtain rfl:=yc Z
   have g3:=(K.c 3 (yf E 3 rfl)).1 _ rfl
   have CL:=xm (by omega)
   have z4:=CL (D G 4) _ (R (U qK).box 4 rfl)
   have z5:=CL (D G 5) _ (R (U qK).box 5 rfl)
   have z6:=CL (D G 6) _ (R (U qK).box 6 rfl)
   have z7:=CL (D G 7) _ (R (U qK).box 7 rfl)
   have z8:=CL (D G 8) _ (R (U qK).box 8 rfl)
   have z9:=CL (D G 9) _ (R (U qK).box 9 rfl)
   clear E K ud xm nw CL
   rw [if_pos (by rfl)];unfold Oper.wp;go_simp
   exact ⟨upd f 4 (.agg #[I L,I ct,I V,I cq,yk O,yl cg]),by simp [upd,g3],zE (U xu) 4 _ ⟨yj rfl,trivial⟩ (by decide)⟩
  | 5,Z =>
   obtain rfl:=yc Z
   have CL:=xm (by omega)
   clear E K ud xm nw CL
   rw [if_pos (by rfl)];unfold Oper.wp;go_simp
   exact ⟨upd f 5 (J w.heap.size 9),by simp [upd],zE (U xu) 5 _ ⟨yj rfl,trivial⟩ (by decide)⟩
  | 6,Z =>
   obtain rfl:=yc Z
   have g5:=(K.c 5 (yf E 5 rfl)).1 _ rfl
   have CL:=xm (by omega)
   have z:=CL (D w.heap.size 9) _ (R (U vA) 9 rfl)
   clear E K ud xm nw CL
   rw [if_pos (by rfl)];unfold Oper.wp;go_simp
   exact ⟨upd f 6 (I id),by simp [upd,g5],zE (U xu) 6 _ ⟨yj rfl,trivial⟩ (by decide)⟩
  | 7,Z =>
   obtain rfl:=yc Z
   have g4:=(K.c 4 (yf E 4 rfl)).1 _ rfl
   have g6:=(K.c 6 (yf E 6 rfl)).1 _ rfl
   have CL:=xm (by omega)
   have uY:=nw (by omega)
   clear E K ud xm nw CL
   rw [if_pos (by rfl)];unfold Oper.wp;go_simp
   refine (U HOR cl).mono ?_
   rintro e w4 ⟨rfl,xy⟩
   exact ⟨upd f 7 (.agg (yx id L tkp cq V cg).toArray),by simp [upd,g4,g6],zE (dF (U xu) uY xy) 7 _ ⟨yj rfl,trivial⟩ (by decide)⟩
  | 8,Z =>
   obtain rfl:=yc Z
   have g0:=(K.c 0 (yf E 0 rfl)).1 _ rfl
   have CL:=xm (by omega)
   clear E K ud xm nw CL
   rw [if_pos (by rfl)];unfold Oper.wp;go_simp
   exact ⟨upd f 8 (J G 0),by simp [upd,g0],zE (U xu) 8 _ ⟨yj rfl,trivial⟩ (by decide)⟩
  | 9,Z =>
   obtain rfl:=yc Z
   have g8:=(K.c 8 (yf E 8 rfl)).1 _ rfl
   have CL:=xm (by omega)
   clear E K ud xm nw CL
   rw [if_pos (by rfl)];unfold Oper.wp;go_simp
   exact ⟨upd f 9 (J G 10),by simp [upd,g8],zE (U xu) 9 _ ⟨yj rfl,trivial⟩ (by decide)⟩
  | 10,Z =>
   obtain rfl:=yc Z
   have g9:=(K.c 9 (yf E 9 rfl)).1 _ rfl
   have g7:=(K.c 7 (yf E 7 rfl)).1 _ rfl
   have vo:=K.b xt
   have jK:=H (zA (U qK) vo)
   have oq:=R (U jK).box 10 rfl
   have q10:=zd (U jK).box 10 (by show 10 < 16; decide)
   have oM:=R (U jK).box 11 rfl
   have q11:=zd (U jK).box 11 (by show 11 < 16; decide)
   have oN:=R (U jK).box 12 rfl
   have q12:=zd (U jK).box 12 (by show 12 < 16; decide)
   have oO:=R (U jK).box 13 rfl
   have q13:=zd (U jK).box 13 (by show 13 < 16; decide)
   have z14:=R (U jK).box 14 rfl
   have q14:=zd (U jK).box 14 (by show 14 < 16; decide)
   have z15:=R (U jK).box 15 rfl
   have q15:=zd (U jK).box 15 (by show 15 < 16; decide)
   clear E K ud xm nw vo
   rw [if_pos (by rfl)];unfold Oper.wp;go_simp
   exact ⟨f,by simp [g9,g7],rw_last (T:=fun cl=>World.setCells cl G 10 (yx id L tkp cq V cg)) (U xu) xt (fun j X hx=>⟨fun u hu=>(by subst X; cases hu),trivial⟩)⟩
  | i + 11,Z=>simp at Z
theorem refuse_chk {G B r:Nat} {vq:Value} {g:Gr} (e:Ev) (w:World) (h:GS G B r w vq g) (hi:GI g) (he:okE e = true) (hk:e.kind = 2) (hg:e.cmd.g.size ≤ maxLen):Calls Tryz.prog 88 #[J G 0,evV e] w fun x w'=>Chk G B r vq g e w x w':=by
 have hsf:=sfl
 have hG:=h.lt
 have qe:=h.base
 have ur:Hid (zG g e = if g.bg ≠ 0 then 3 else if refR g.nx g.l e.cmd ≠ 0∧refR g.nx g.l e.cmd = e.reason then 0 else 4):=by show _ = _; unfold zG; rw [if_neg (by rw [hk]; decide),if_pos hk]
 have uW:Hid (takG g e = ⟨g.nx,g.l,g.bg,g.cm,g.tk⟩):=by show _ = _; rw [takG,step2 hk]
 have vJ:Hid (∀ k w',zG g e = k→k ≠ 0→Kp G vq w w'→Chk G B r vq g e w (.panicked (brk k)) w'):=fun k w' N Y h3=>chk_no N Y h3
 have uy:Hid (∀ w' uH,zG g e = 0→Kp G vq w w'→GS G B r w' uH (takG g e)→Chk G B r vq g e w (.returned (.tuple #[])) w'):=fun w' uH N Y h3=>chk_ok N Y h3
 have ow:Hid (e.cmd.g.size ≤ maxLen):=hg
 have HI:=H hi
 generalize Chk G B r vq g e w = C at vJ uy ⊢
 generalize zG g e = ru at vJ uy ur
 generalize takG g e = g' at uW uy
 obtain ⟨xn,⟨ck,L,ct,V,cq,ci,O,cg⟩,id,xj,qty,xk,xi⟩:=e
 simp only at hk hg
 try simp only at ur uW
 unfold evV
 simp only
 obtain ⟨xC,HX⟩:=gw w (yw xn ck L ct V cq ci O cg id xj qty xk xi) 52
 have HS:Hid ((w.alloc (A (yw xn ck L ct V cq ci O cg id xj qty xk xi).toArray 52)).heap.size = w.heap.size + 1):=by show _ = _; simp
 have HG:=H (zA h xC)
 have HB:Hid (Kp G vq w (w.alloc (A (yw xn ck L ct V cq ci O cg id xj qty xk xi).toArray 52))):=kp_of xC
 clear h xC hi he hk hg
 go_enter Tryz.func88,Tryz.ntmps88
 refine gv fun hR HK=>?_
 go_wp2_with fail
 refine U HK _ _ ?_
 clear HK
 generalize (w.alloc (A (yw xn ck L ct V cq ci O cg id xj qty xk xi).toArray 52)) = W1 at HS HX HG HB ⊢
 have c3:=R (U HG).box 3 rfl
 by_cases h0:g.bg = 0
 case neg =>
  have b0:(g.bg == 0) = false:=by simpa using h0
  have HQ:=H (U ur)
  rw [if_pos h0] at HQ
  clear h0
  go_wp2_with fail
  refine (bU 3 _).mono ?_
  rintro e w6 ⟨rfl,rfl⟩
  go_wp2_with fail
  exact ⟨rfl,U vJ 3 _ (U HQ) (by decide) (U HB)⟩
 have b0:(g.bg == 0) = true:=by simpa using h0
 have qR:=H ((U HI).good (.inl (by omega)))
 have HNX:=H ((U HI).start h0)
 have ue:=H (U ur)
 rw [if_neg (not_not_intro h0)] at ue
 clear h0 ur
 go_wp2_with fail
 refine (co 3 _).mono ?_
 rintro e w2 ⟨rfl,hw2⟩
 rw [← hw2] at HG HX HB HS
 clear hw2 c3 b0
 have xJ:=H (U HX)
 have uh:=H (U HG)
 have xw:=H (U HB)
 have hS2:w.heap.size < w2.heap.size:=by have:=U HS; omega
 clear HX HG HB HS
 have xV:Hid (Bx w2.drew w.heap.size (yw xn ck L ct V cq ci O cg id xj qty xk xi)):=zK (U xJ)
 have qw:Hid (GS G B r w2.drew vq g):=zA (U uh) ⟨rfl,rfl,rfl,Nat.le_refl _,fun _ _=>rfl⟩
 have vu:Hid (Kp G vq w w2.drew):=kp_drew (U xw)
 have e1:=R (U xV) 1 rfl
 have e2:=R (U xV) 2 rfl
 have e3:=R (U xV) 3 rfl
 have e4:=R (U xV) 4 rfl
 have e5:=R (U xV) 5 rfl
 have e6:=R (U xV) 6 rfl
 have e7:=R (U xV) 7 rfl
 have e8:=R (U xV) 8 rfl
 have c1:=R (U qw).box 1 rfl
 have c2:=R (U qw).box 2 rfl
 have uQ:=H (zI (U qw).row (yO (U HI).len (by decide)))
 have kE:=H (oRow_sl (U qw).row)
 go_wp2_with fail
 refine zF 6 (by kernel_rfl) (by kernel_rfl) ?_
 simp only [yU,List.take_zero,yV,List.drop_zero]
 repeat still_step
 refine wpStill_nil ?_
 clear c1 c2 e1 e2 e3 e4 e5 e6 e7 e8
 go_wp2_with fail
 refine (refusal_any g.nx vq g.l ⟨ck,L,ct,V,cq,ci,O,cg⟩ _ (U uQ) (U kE) (U qR) (U HNX).1 (U HNX).2.1 (U ow)).mono ?_
 rintro e w5 ⟨rfl,ui⟩
 have uX:=H (zf (U xV) ui hS2)
 have uC:=H (zA (U qw) ui)
 have uk:=H (bL (U vu) ui)
 clear ui uQ kE
 generalize refR g.nx g.l ⟨ck,L,ct,V,cq,ci,O,cg⟩ = rr at ue ⊢
 have uT:=R (U uX) 13 rfl
 by_cases jZ:rr = 0
 case pos =>
  have b0:(rr != 0) = false:=by simpa using jZ
  have HQ:=H (U ue)
  rw [if_neg (by simp [jZ])] at HQ
  clear jZ
  go_wp2_with fail
  refine (bU 4 _).mono ?_
  rintro e w6 ⟨rfl,rfl⟩
  go_wp2_with fail
  exact ⟨rfl,U vJ 4 _ (U HQ) (by decide) (U uk)⟩
 have b0:(rr != 0) = true:=by simpa using jZ
 by_cases jq:rr = xi
 case neg =>
  have b1:(rr == xi) = false:=by simpa using jq
  have HQ:=H (U ue)
  rw [if_neg (by simp [jq])] at HQ
  clear jZ jq
  go_wp2_with fail
  refine (bU 4 _).mono ?_
  rintro e w6 ⟨rfl,rfl⟩
  go_wp2_with fail
  exact ⟨rfl,U vJ 4 _ (U HQ) (by decide) (U uk)⟩
 have b1:(rr == xi) = true:=by simpa using jq
 have HQ:=H (U ue)
 rw [if_pos ⟨jZ,jq⟩] at HQ
 clear jZ jq
 go_wp2_with fail
 refine (co 4 _).mono ?_
 rintro e w6 ⟨rfl,rfl⟩
 go_wp2_with fail
 go_end0
 refine U uy _ vq (U HQ) (U uk) ?_
 rw [U uW]
 exact U uC
theorem trade_chk {G B r:Nat} {vq:Value} {g:Gr} (e:Ev) (w:World) (h:GS G B r w vq g) (hi:GI g) (he:okE e = true) (hk:e.kind = 3) (hg:e.cmd.g.size ≤ maxLen):Calls Tryz.prog 89 #[J G 0,evV e] w fun x w'=>Chk G B r vq g e w x w':=by
 have hsf:=sfl
 have hG:=h.lt
 have qe:=h.base
 have ur:Hid (zG g e = if dueR g e ≠ 0 then dueR g e else trR (dueG g) e):=by show _ = _; simp [zG,hk]
 have uW:Hid (takG g e = ⟨g.nx,hitI g.l e.other e.qty,g.bg,g.cm,{ g.tk with left:=g.tk.left - e.qty }⟩):=by show _ = _; rw [takG,step3 hk]
 have vJ:Hid (∀ k w',zG g e = k→k ≠ 0→Kp G vq w w'→Chk G B r vq g e w (.panicked (brk k)) w'):=fun k w' N Y h3=>chk_no N Y h3
 have uy:Hid (∀ w' uH,zG g e = 0→Kp G vq w w'→GS G B r w' uH (takG g e)→Chk G B r vq g e w (.returned (.tuple #[])) w'):=fun w' uH N Y h3=>chk_ok N Y h3
 have jJ:Hid (∀ W,GS G B r W vq g→Calls Tryz.prog 137 #[J G 0,evV e] W fun x w'=>x = outD (dueR g e) (dueG g)∧yp W w'):=fun W hW=>fH e W hW hi
 have aT:Hid (zG g e = 0→g.bg = 1∧g.tk.left ≠ 0∧∃ o,bB g.l (othS g.cm.s) = some o∧bR g.cm o = true∧e.id = g.tk.id∧e.other = o.id∧e.qty = min g.tk.left o.left∧e.price = o.ticks):=rule3 hk
 have HI:=H hi
 generalize Chk G B r vq g e w = C at vJ uy ⊢
 generalize zG g e = ru at vJ uy ur aT
 generalize takG g e = g' at uW uy
 generalize dueR g e = dr at jJ ur
 generalize dueG g = d at jJ ur
 obtain ⟨xn,⟨ck,L,ct,V,cq,ci,O,cg⟩,id,xj,qty,xk,xi⟩:=e
 simp only at hk hg
 try simp only at ur uW
 unfold trR at ur
 unfold evV at jJ
 simp only at ur jJ aT
 unfold evV
 simp only
 obtain ⟨xC,HX⟩:=gw w (yw xn ck L ct V cq ci O cg id xj qty xk xi) 52
 have HS:Hid ((w.alloc (A (yw xn ck L ct V cq ci O cg id xj qty xk xi).toArray 52)).heap.size = w.heap.size + 1):=by show _ = _; simp
 have HG:=H (zA h xC)
 have HB:Hid (Kp G vq w (w.alloc (A (yw xn ck L ct V cq ci O cg id xj qty xk xi).toArray 52))):=kp_of xC
 clear h xC hi he hk hg
 go_enter Tryz.func89,Tryz.ntmps89
 refine gv fun hR HK=>?_
 go_wp2_with fail
 refine U HK _ _ ?_
 clear HK
 generalize (w.alloc (A (yw xn ck L ct V cq ci O cg id xj qty xk xi).toArray 52)) = W1 at HS HX HG HB ⊢
 obtain ⟨e0,e1,e2,e3,e4,e5,e6,e7,e8,e9,uR,uA,vV,uT⟩:=yz (U HX)
 go_wp2_with fail
 refine (U jJ W1 (U HG)).mono ?_
 rintro x w2 ⟨hx,xK⟩
 by_cases hs:dr = 0
 case neg =>
  rw [outD_no hs] at hx
  subst hx
  go_wp2_with fail
  exact ⟨rfl,U vJ _ _ (by rw [U ur,if_pos hs]) hs (bL (U HB) xK)⟩
 rw [outD_ok hs] at hx
 subst hx
 have HDZ:=H hs
 have ue:=H (U ur)
 rw [if_neg (not_not_intro hs)] at ue
 clear hs ur
 obtain ⟨dk,di,dt,dq,dp⟩:=d
 unfold duV
 simp only at ue ⊢
 have xQ:=gp w2 (A #[I dk,I di,I dt,I dq,I dp] 29)
 have oE:=xK.trans (xQ.mono xK.size)
 have xJ:=H (zf (U HX) oE (by have:=U HS; omega))
 have uh:=H (zA (U HG) oE)
 have xw:=H (bL (U HB) oE)
 have HV2:=H (zq w2 [I dk,I di,I dt,I dq,I dp] 29)
 have HZ2:Hid (w.heap.size < w2.heap.size∧w2.heap.size < (w2.alloc (A #[I dk,I di,I dt,I dq,I dp] 29)).heap.size):=⟨by have:=U HS; have:=xK.size; omega,by simp⟩
 clear xK xQ oE e0 e1 e2 e3 e4 e5 e6 e7 e8 e9 uR uA vV uT HX HG HB HS
 have HE2:=H (U xJ)
 by_cases hk3:dk = 3
 case neg =>
  have b0:(dk == 3) = false:=by simpa using hk3
  have HQ:=H (U ue)
  rw [if_pos (fun h=>hk3 h.1)] at HQ
  clear hk3
  go_wp2_with fail
  refine (bU 9 _).mono ?_
  rintro e w6 ⟨rfl,rfl⟩
  go_wp2_with fail
  exact ⟨rfl,U vJ 9 _ (U HQ) (by decide) (U xw)⟩
 have b0:(dk == 3) = true:=by simpa using hk3
 have e9:=R (U HE2) 9 rfl
 by_cases uj:id = di
 case neg =>
  have b1:(id == di) = false:=by simpa using uj
  have HQ:=H (U ue)
  rw [if_pos (fun h=>uj h.2)] at HQ
  clear hk3 uj
  go_wp2_with fail
  refine (bU 9 _).mono ?_
  rintro e w6 ⟨rfl,rfl⟩
  go_wp2_with fail
  exact ⟨rfl,U vJ 9 _ (U HQ) (by decide) (U xw)⟩
 have b1:(id == di) = true:=by simpa using uj
 rw [if_neg (not_not_intro ⟨hk3,uj⟩)] at ue
 clear hk3 uj
 go_wp2_with fail
 refine (co 9 _).mono ?_
 rintro e hj ⟨rfl,hX⟩
 rw [← hX] at xJ uh xw HV2 HZ2
 clear hX b0 b1 e9 HE2
 have v0:=R (U HV2) 0 rfl
 have v1:=R (U HV2) 1 rfl
 have v2:=R (U HV2) 2 rfl
 have v3:=R (U HV2) 3 rfl
 have v4:=R (U HV2) 4 rfl
 have uR:=R (U xJ) 10 rfl
 have uA:=R (U xJ) 11 rfl
 have vV:=R (U xJ) 12 rfl
 by_cases uY:xj = dt
 case neg =>
  have b10:(xj == dt) = false:=by simpa using uY
  have HQ:=H (U ue)
  rw [if_pos uY] at HQ
  clear uY
  go_wp2_with fail
  refine (bU 10 _).mono ?_
  rintro e w6 ⟨rfl,rfl⟩
  go_wp2_with fail
  exact ⟨rfl,U vJ 10 _ (U HQ) (by decide) (U xw)⟩
 have b10:(xj == dt) = true:=by simpa using uY
 rw [if_neg (not_not_intro uY)] at ue
 clear uY
 go_wp2_with fail
 refine (co 10 _).mono ?_
 rintro e X10 ⟨rfl,hX⟩
 rw [hX]
 clear hX b10
 by_cases uU:xk = dp
 case neg =>
  have b11:(xk == dp) = false:=by simpa using uU
  have HQ:=H (U ue)
  rw [if_pos uU] at HQ
  clear uU
  go_wp2_with fail
  refine (bU 11 _).mono ?_
  rintro e w6 ⟨rfl,rfl⟩
  go_wp2_with fail
  exact ⟨rfl,U vJ 11 _ (U HQ) (by decide) (U xw)⟩
 have b11:(xk == dp) = true:=by simpa using uU
 rw [if_neg (not_not_intro uU)] at ue
 clear uU
 go_wp2_with fail
 refine (co 11 _).mono ?_
 rintro e X11 ⟨rfl,hX⟩
 rw [hX]
 clear hX b11
 by_cases uN:qty = dq
 case neg =>
  have qC:(qty == dq) = false:=by simpa using uN
  have HQ:=H (U ue)
  rw [if_pos uN] at HQ
  clear uN
  go_wp2_with fail
  refine (bU 12 _).mono ?_
  rintro e w6 ⟨rfl,rfl⟩
  go_wp2_with fail
  exact ⟨rfl,U vJ 12 _ (U HQ) (by decide) (U xw)⟩
 have qC:(qty == dq) = true:=by simpa using uN
 rw [if_neg (not_not_intro uN)] at ue
 clear uN
 go_wp2_with fail
 refine (co 12 _).mono ?_
 rintro e X12 ⟨rfl,hX⟩
 rw [hX]
 clear hX qC
 obtain ⟨N,Y,o,hf,hm,-,pw,hq,-⟩:=U aT (U ue)
 have kU:=(U HI).good (.inr Y)
 obtain ⟨vX,_⟩:=ec hf
 obtain ⟨i,hi⟩:=List.getElem?_of_mem vX
 have uP:plc g.l xj = i:=by rw [pw]; exact dc kU.rise hi
 have kW:=kU.left o vX
 have jS:=(U HI).l0
 have hl1:=(U HI).l1
 have aG:0 ≤ qty:=by omega
 have pe:qty ≤ o.left:=by omega
 have hwr:IntKind.i64.wrap (g.tk.left - qty) = g.tk.left - qty:=by rw [IntKind.wrap_i64]; omega
 have jC:=H uP
 have HLI:=H hi
 have HOL:=H kW
 have HQ01:Hid (0 ≤ qty∧qty ≤ o.left):=⟨aG,pe⟩
 clear N Y hf hm hq pw kU vX hi uP kW jS hl1 aG pe aT v0 v1 v2 v3 v4 uR uA vV
 have xV:Hid (Bx hj.drew w.heap.size (yw xn ck L ct V cq ci O cg id xj qty xk xi)):=zK (U xJ)
 have qw:Hid (GS G B r hj.drew vq g):=zA (U uh) ⟨rfl,rfl,rfl,Nat.le_refl _,fun _ _=>rfl⟩
 have vu:Hid (Kp G vq w hj.drew):=kp_drew (U xw)
 have uA:=R (U xV) 11 rfl
 have c13:=R (U qw).box 13 rfl
 have q13:=zd (U qw).box 13 (by show 13 < 16; decide)
 go_wp2_with fail
 refine zF 11 (by kernel_rfl) (by kernel_rfl) ?_
 simp only [yU,List.take_zero,yV,List.drop_zero]
 repeat still_step
 refine wpStill_nil ?_
 have vn:Hid (GS G B r (hj.drew.setCell (D G 13) (I (g.tk.left - qty))) vq { g with tk:={ g.tk with left:=g.tk.left - qty } }):=gs_set (U qw) 13 _ (by decide) rfl rfl
 have xN:=H (kp_set (U vu) 13 (I (g.tk.left - qty)))
 have uS:Hid (Bx (hj.drew.setCell (D G 13) (I (g.tk.left - qty))) w.heap.size (yw xn ck L ct V cq ci O cg id xj qty xk xi)):=zR (U xV) (by omega)
 go_wp2_with fail
 change Code.wp _ _ _ _ (hj.drew.setCell (D G 13) (I (g.tk.left - qty)))
 generalize hj.drew.setCell (D G 13) (I (g.tk.left - qty)) = h2 at vn xN uS ⊢
 clear uA c13 q13
 have xG:Hid (Bx h2.drew w.heap.size (yw xn ck L ct V cq ci O cg id xj qty xk xi)):=zK (U uS)
 have uw:Hid (GS G B r h2.drew vq { g with tk:={ g.tk with left:=g.tk.left - qty } }):=zA (U vn) ⟨rfl,rfl,rfl,Nat.le_refl _,fun _ _=>rfl⟩
 have xH:Hid (Kp G vq w h2.drew):=kp_drew (U xN)
 have uR:=R (U xG) 10 rfl
 have uA:=R (U xG) 11 rfl
 refine zF 7 (by kernel_rfl) (by kernel_rfl) ?_
 simp only [yU,List.take_zero,yV,List.drop_zero]
 repeat still_step
 refine wpStill_nil ?_
 go_wp2_with fail
 refine (fo G 1 B g.nx xj qty vq g.l i o _ (R (U uw).box 1 rfl) (R (U uw).box 2 rfl) (zd (U uw).box 2 (by show 2 < 16; decide)) (U uw).row (U uw).nq (U uw).lt (U uw).base (yO (U HI).len (by decide)) (U jC) (U HLI) (U HQ01).1 (U HQ01).2 (U HOL).2).mono ?_
 rintro e w9 ⟨uH,rfl,aY,oe,bj⟩
 have HG9:=H (gs_took (U uw) aY oe bj)
 have pT:=H (kp_took (U xH) bj)
 clear aY oe bj
 go_wp2_with fail
 go_end0
 refine U uy _ uH (U ue) (U pT) ?_
 rw [U uW]
 simp only [dx (U jC) (U HLI)]
 exact U HG9
end Go.Proofs.YtnphbkgfjanmgaaGreatDoor
