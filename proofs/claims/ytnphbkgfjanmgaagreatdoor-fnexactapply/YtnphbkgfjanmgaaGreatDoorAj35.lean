/-
  An order accepted, by the model: proved by walking the method.
-/
import Derived.Test.YtnphbkgfjanmgaaGreatDoorAj34
set_option linter.unusedVariables false
set_option maxHeartbeats 6400000
set_option maxRecDepth 100000
namespace Go.Proofs.YtnphbkgfjanmgaaGreatDoor
open Go.RowKit
theorem take_1 {cp B:Nat} {vl vd va:Value} {g:Gr} {t:Od} {kd n0:Int} {dy l0:List Od} (ck L ct V cq ci:Int) (O:Nat) (cg:ByteArray) (id xj qty xk xi:Int) (w:World) (h:MS cp B w vl vd va g t kd n0 dy l0) (hi:GI g) (hm:MR g t kd dy) (he:okE ⟨1,⟨ck,L,ct,V,cq,ci,O,cg⟩,id,xj,qty,xk,xi⟩ = true) (hr:zG g ⟨1,⟨ck,L,ct,V,cq,ci,O,cg⟩,id,xj,qty,xk,xi⟩ = 0):Calls Tryz.prog 52 #[J cp 0,.agg (yw 1 ck L ct V cq ci O cg id xj qty xk xi).toArray] w fun x w'=>TakE cp B va n0 l0 g t kd dy ⟨1,⟨ck,L,ct,V,cq,ci,O,cg⟩,id,xj,qty,xk,xi⟩ w x w':=by
 have hsf:=sfl
 have hO:=h.lt
 have qe:=h.base
 have qM:Hid (∀ w' vY vk,Below B w w'→MS cp B w' vY vk va (br g ⟨1,⟨ck,L,ct,V,cq,ci,O,cg⟩,id,xj,qty,xk,xi⟩) (tkM g t ⟨1,⟨ck,L,ct,V,cq,ci,O,cg⟩,id,xj,qty,xk,xi⟩) (kdM kd ⟨1,⟨ck,L,ct,V,cq,ci,O,cg⟩,id,xj,qty,xk,xi⟩) n0 (dyM g dy ⟨1,⟨ck,L,ct,V,cq,ci,O,cg⟩,id,xj,qty,xk,xi⟩) l0→TakE cp B va n0 l0 g t kd dy ⟨1,⟨ck,L,ct,V,cq,ci,O,cg⟩,id,xj,qty,xk,xi⟩ w (.returned (.tuple #[])) w'):=fun w' vY vk N Y=>⟨rfl,N,vY,vk,Y⟩
 obtain ⟨h0,-,uj⟩:=rule1 (e:=⟨1,⟨ck,L,ct,V,cq,ci,O,cg⟩,id,xj,qty,xk,xi⟩) rfl hr
 have ql:=hi.start h0
 have hwr:IntKind.i64.wrap (g.nx + 1) = g.nx + 1:=by rw [IntKind.wrap_i64]; omega
 have uh:Hid (br g ⟨1,⟨ck,L,ct,V,cq,ci,O,cg⟩,id,xj,qty,xk,xi⟩ = ⟨g.nx + 1,g.l,1,⟨ck,L,ct,V,cq,ci,O,cg⟩,ordO ⟨ck,L,ct,V,cq,ci,O,cg⟩ id⟩):=by show _ = _; rw [step1 rfl]; simp only [begG,if_pos h0]
 have uz:Hid (tkM g t ⟨1,⟨ck,L,ct,V,cq,ci,O,cg⟩,id,xj,qty,xk,xi⟩ = ⟨g.nx,L,tkS O,cq,V,cg⟩∧kdM kd ⟨1,⟨ck,L,ct,V,cq,ci,O,cg⟩,id,xj,qty,xk,xi⟩ = ct∧dyM g dy ⟨1,⟨ck,L,ct,V,cq,ci,O,cg⟩,id,xj,qty,xk,xi⟩ = dy):=⟨rfl,rfl,rfl⟩
 have HN0:Hid (n0 = g.nx):=(h.eqn h0).1
 obtain ⟨aa,ac,hva,-,-⟩:=h.ahd
 have aV:=H (fun W=>l04Taker_any n0 aa l0.length ac ⟨ck,L,ct,V,cq,ci,O,cg⟩ W)
 rw [← hva] at aV
 unfold cmV at aV
 simp only at aV
 rw [U HN0] at aV
 generalize tkS O = tp at aV uz
 clear h0 uj ql hva
 generalize TakE cp B va n0 l0 g t kd dy ⟨1,⟨ck,L,ct,V,cq,ci,O,cg⟩,id,xj,qty,xk,xi⟩ w = C at qM ⊢
 obtain ⟨xC,HX⟩:=gw w (yw 1 ck L ct V cq ci O cg id xj qty xk xi) 52
 have HM:=H (zx h xC)
 have HB:=H (xC.mono qe)
 clear h xC hi hm he hr
 go_enter Tryz.func52,Tryz.ntmps52
 refine gv fun hR HK=>?_
 go_wp2_with fail
 refine U HK _ _ ?_
 clear HK
 generalize (w.alloc (A (yw 1 ck L ct V cq ci O cg id xj qty xk xi).toArray 52)) = W1 at HX HM HB ⊢
 have c9:=R (U HM).box 9 rfl
 have q9:=zd (U HM).box 9 (by show 9 < 13; decide)
 have xw:Hid (Below B w (World.setCells W1 cp 9 [.bool true])):=zN (U HB) yb (U HM) 9 _
 have xR:Hid (MS cp B (World.setCells W1 cp 9 [.bool true]) vl vd va { g with bg:=1 } t kd n0 dy l0):=cE (U HM) 9 [.bool true] (by simp) rfl rfl (fun h=>absurd (show (1:Int) = 0 from h) (by decide))
 have xJ:Hid (Bx (World.setCells W1 cp 9 [.bool true]) w.heap.size (yw 1 ck L ct V cq ci O cg id xj qty xk xi)):=bx (U HX) (bY cp w.heap.size (by omega) _ 9 W1)
 clear HX HM HB
 refine gv fun hR HK=>?_
 go_wp2_with fail
 refine U HK _ _ ?_
 clear HK
 change Code.wp _ _ _ _ (World.setCells W1 cp 9 [.bool true])
 generalize World.setCells W1 cp 9 [.bool true] = hj at xw xR xJ ⊢
 have hSX:w.heap.size < hj.heap.size:=yL _ _ (R (U xJ) 0 rfl)
 have HC11:Hid (hj.cell? (D cp 11) = some (I g.nx)):=by
  have:=R (U xR).box 11 rfl
  rw [U HN0] at this
  exact this
 have e0:=R (U xJ) 0 rfl
 clear c9 q9
 go_wp2_with fail
 refine zn (RWA (fun f=>{ tmps:=#[J cp 0,.agg (yw 1 ck L ct V cq ci O cg id xj qty xk xi).toArray,M,J w.heap.size 0,M,J cp 0,J cp 0,J cp 9,J w.heap.size 0,I 1,.bool true,.bool true,f 0,f 1,f 2,f 3,f 4,f 5,f 6,f 7,f 8,f 9,M,M,M,M,M,M,M,M,M,M,M,M,M,M,M,M,M,M,M,M,M,M,M,M,M,M,M,M,M,M,M,M,M,M,M,M,M,M,M,M,M,M,M,M,M,M,M,M,M,M,M,M,M,M,M,M,M,M,M,M,M,M,M,M,M,M,M,M,M,M,M,M,M,M,M,M,M,M,M,M,M,M,M,M,M,M,M,M,M,M,M,M,M,M,M,M,M,M,M,M,M,M,M,M,M,M,M,M,M,M,M,M,M,M,M,M,M,M,M,M,M,M,M,M,M,M,M,M,M,M,M,M,M,M,M,M,M,M,M,M,M,M,M,M,M,M,M,M,M,M,M,M,M,M,M,M,M,M,M,M,M,M,M],defers:=[] }) (CVw [some (J cp 0),some (J cp 0),some (J cp 0),some (J cp 11),some (.agg #[I g.nx,va]),some (J w.heap.size 1),some (.agg (yy ck L ct V cq ci O cg).toArray),some (.agg (yx g.nx L tp cq V cg).toArray),some (J cp 0),some (J cp 2),none] (fun _=>True)) 10 (fun cl=>World.setCells cl cp 2 (yx g.nx L tp cq V cg)) hj) (by kernel_rfl) ?_ ?_ ?_
 ·exact ⟨fun _=>M,rfl,⟨fun j X=>by rw [yJ] at X; split at X <;> simp at X,fun _=>⟨rfl,rfl,rfl,Nat.le_refl _,fun _ _=>rfl⟩,fun X=>by rw [yJ] at X; split at X <;> simp at X⟩⟩
 ·rintro x gs cl ⟨f,rfl,K⟩ hx xO
  have xq:=zP xO hx (acyc _ (by kernel_rfl))
  obtain ⟨V0,xC,eV⟩:=K.m (xq 10 (by simp))
  have qk:=H (zx (U xR) xC)
  have xG:=H (zf (U xJ) xC hSX)
  have xH:=H ((U xw).trans (xC.mono (U xR).base))
  clear K xq xO hx xC
  subst eV
  dsimp only
  generalize f 0 = v0,f 1 = v1,f 2 = v2,f 3 = v3,f 4 = v4,f 5 = v5,f 6 = v6,f 7 = v7,f 8 = v8,f 9 = v9
  have vB:Hid (MS cp B (World.setCells V0 cp 2 (yx g.nx L tp cq V cg)) vl vd va { g with bg:=1 } ⟨g.nx,L,tp,cq,V,cg⟩ kd n0 dy l0):=cE (U qk) 2 (yx g.nx L tp cq V cg) (by simp) rfl rfl (fun h=>absurd (show (1:Int) = 0 from h) (by decide))
  have uX:Hid (Bx (World.setCells V0 cp 2 (yx g.nx L tp cq V cg)) w.heap.size (yw 1 ck L ct V cq ci O cg id xj qty xk xi)):=bx (U xG) (bY cp w.heap.size (by omega) _ 2 V0)
  have uk:=H (zN (U xH) yb (U qk) 2 (yx g.nx L tp cq V cg))
  generalize World.setCells V0 cp 2 (yx g.nx L tp cq V cg) = h2 at vB uX uk ⊢
  have e3:=R (U uX) 3 rfl
  have c8:=R (U vB).box 8 rfl
  have q8:=zd (U vB).box 8 (by show 8 < 13; decide)
  have HM6:Hid (MS cp B (h2.setCell (D cp 8) (I ct)) vl vd va { g with bg:=1 } ⟨g.nx,L,tp,cq,V,cg⟩ ct n0 dy l0):=cE (U vB) 8 [I ct] (by simp) rfl rfl (fun h=>absurd (show (1:Int) = 0 from h) (by decide))
  have qH:Hid (Below B w (h2.setCell (D cp 8) (I ct))):=zN (U uk) yb (U vB) 8 [I ct]
  have c0:=R (U HM6).box 0 rfl
  have q0:=zd (U HM6).box 0 (by show 0 < 13; decide)
  go_wp2_with fail
  go_end0
  refine U qM _ vl vd (zN (U qH) yb (U HM6) 0 [I (g.nx + 1)]) ?_
  rw [U uh,(U uz).1,(U uz).2.1,(U uz).2.2]
  exact cE (U HM6) 0 [I (g.nx + 1)] (by simp) rfl rfl (fun h=>absurd (show (1:Int) = 0 from h) (by decide))
 ·rintro x gs cl i op ⟨f,rfl,K⟩ F hx Z xt E
  have xu:=H K
  have nw:i < 10→x[10]? = some false:=fun xI=>by
   rcases bS hx (show 10 < 11 by omega) with hq | hw
   ·exact hq
   ·exfalso
    have h0:=yh F 10 rfl hw 0 rfl
    have N:=yh F 10 rfl hw 1 rfl
    have Y:=yh F 10 rfl hw 2 rfl
    have h3:=yh F 10 rfl hw 3 rfl
    have h4:=yh F 10 rfl hw 4 rfl
    have h5:=yh F 10 rfl hw 5 rfl
    have h6:=yh F 10 rfl hw 6 rfl
    have h7:=yh F 10 rfl hw 7 rfl
    have h9:=yh F 10 rfl hw 9 rfl
    have h8:=yh F 9 rfl h9 8 rfl
    rcases (by omega:i = 0 ∨ i = 1 ∨ i = 2 ∨ i = 3 ∨ i = 4 ∨ i = 5 ∨ i = 6 ∨ i = 7 ∨ i = 8 ∨ i = 9) with rfl | rfl | rfl | rfl | rfl | rfl | rfl | rfl | rfl | rfl
    ·exact absurd (h0.symm.trans xt) (by simp)
    ·exact absurd (N.symm.trans xt) (by simp)
    ·exact absurd (Y.symm.trans xt) (by simp)
    ·exact absurd (h3.symm.trans xt) (by simp)
    ·exact absurd (h4.symm.trans xt) (by simp)
    ·exact absurd (h5.symm.trans xt) (by simp)
    ·exact absurd (h6.symm.trans xt) (by simp)
    ·exact absurd (h7.symm.trans xt) (by simp)
    ·exact absurd (h8.symm.trans xt) (by simp)
    ·exact absurd (h9.symm.trans xt) (by simp)
  have ud:i < 10→yp hj cl:=fun h=>K.b (nw h)
  have xm:i < 10→∀ (p:Addr) u,hj.cell? p = some u→cl.cell? p = some u:=fun h p u hu=>((ud h).cell (yL hj _ hu)).trans hu
  match i,Z with
  | 0,Z | 1,Z =>
   obtain rfl:=yc Z
   have CL:=xm (by omega)
   clear E K ud xm nw CL
   rw [if_pos (by rfl)];unfold Oper.wp;go_simp
   exact ⟨upd f _ (J cp 0),by simp [upd],zE (U xu) _ _ ⟨yj rfl,trivial⟩ (by decide)⟩
  | 2,Z =>
   obtain rfl:=yc Z
   have g1:=(K.c 1 (yf E 1 rfl)).1 _ rfl
   have CL:=xm (by omega)
   clear E K ud xm nw CL
   rw [if_pos (by rfl)];unfold Oper.wp;go_simp
   exact ⟨upd f 2 (J cp 0),by simp [upd,g1],zE (U xu) 2 _ ⟨yj rfl,trivial⟩ (by decide)⟩
  | 3,Z =>
   obtain rfl:=yc Z
   have g2:=(K.c 2 (yf E 2 rfl)).1 _ rfl
   have CL:=xm (by omega)
   clear E K ud xm nw CL
   rw [if_pos (by rfl)];unfold Oper.wp;go_simp
   exact ⟨upd f 3 (J cp 11),by simp [upd,g2],zE (U xu) 3 _ ⟨yj rfl,trivial⟩ (by decide)⟩
  | 4,Z =>
   obtain rfl:=yc Z
   have g3:=(K.c 3 (yf E 3 rfl)).1 _ rfl
   have CL:=xm (by omega)
   have z1:=CL (D cp 11) _ (U HC11)
   have z2:=CL (D cp 12) _ (R (U xR).box 12 rfl)
   clear E K ud xm nw CL
   rw [if_pos (by rfl)];unfold Oper.wp;go_simp
   exact ⟨upd f 4 (.agg #[I g.nx,va]),by simp [upd,g3],zE (U xu) 4 _ ⟨yj rfl,trivial⟩ (by decide)⟩
  | 5,Z =>
   obtain rfl:=yc Z
   have CL:=xm (by omega)
   clear E K ud xm nw CL
   rw [if_pos (by rfl)];unfold Oper.wp;go_simp
   exact ⟨upd f 5 (J w.heap.size 1),by simp [upd],zE (U xu) 5 _ ⟨yj rfl,trivial⟩ (by decide)⟩
  | 6,Z =>
   obtain rfl:=yc Z
   have g5:=(K.c 5 (yf E 5 rfl)).1 _ rfl
   have CL:=xm (by omega)
   have e1:=CL (D w.heap.size 1) _ (R (U xJ) 1 rfl)
   have e2:=CL (D w.heap.size 2) _ (R (U xJ) 2 rfl)
   have e3:=CL (D w.heap.size 3) _ (R (U xJ) 3 rfl)
   have e4:=CL (D w.heap.size 4) _ (R (U xJ) 4 rfl)
   have e5:=CL (D w.heap.size 5) _ (R (U xJ) 5 rfl)
   have e6:=CL (D w.heap.size 6) _ (R (U xJ) 6 rfl)
   have e7:=CL (D w.heap.size 7) _ (R (U xJ) 7 rfl)
   have e8:=CL (D w.heap.size 8) _ (R (U xJ) 8 rfl)
   clear E K ud xm nw CL
   rw [if_pos (by rfl)];unfold Oper.wp;go_simp
   exact ⟨upd f 6 (.agg (yy ck L ct V cq ci O cg).toArray),by simp [upd,g5],zE (U xu) 6 _ ⟨yj rfl,trivial⟩ (by decide)⟩
  | 7,Z =>
   obtain rfl:=yc Z
   have g4:=(K.c 4 (yf E 4 rfl)).1 _ rfl
   have g6:=(K.c 6 (yf E 6 rfl)).1 _ rfl
   have CL:=xm (by omega)
   have hw:=nw (by omega)
   clear E K ud xm nw CL
   rw [if_pos (by rfl)];unfold Oper.wp;go_simp
   refine (U aV cl).mono ?_
   rintro e w4 ⟨rfl,xy⟩
   exact ⟨upd f 7 (.agg (yx g.nx L tp cq V cg).toArray),by simp [upd,g4,g6],zE (dF (U xu) hw xy) 7 _ ⟨yj rfl,trivial⟩ (by decide)⟩
  | 8,Z =>
   obtain rfl:=yc Z
   have g0:=(K.c 0 (yf E 0 rfl)).1 _ rfl
   have CL:=xm (by omega)
   clear E K ud xm nw CL
   rw [if_pos (by rfl)];unfold Oper.wp;go_simp
   exact ⟨upd f 8 (J cp 0),by simp [upd,g0],zE (U xu) 8 _ ⟨yj rfl,trivial⟩ (by decide)⟩
  | 9,Z =>
   obtain rfl:=yc Z
   have g8:=(K.c 8 (yf E 8 rfl)).1 _ rfl
   have CL:=xm (by omega)
   clear E K ud xm nw CL
   rw [if_pos (by rfl)];unfold Oper.wp;go_simp
   exact ⟨upd f 9 (J cp 2),by simp [upd,g8],zE (U xu) 9 _ ⟨yj rfl,trivial⟩ (by decide)⟩
  | 10,Z =>
   obtain rfl:=yc Z
   have g9:=(K.c 9 (yf E 9 rfl)).1 _ rfl
   have g7:=(K.c 7 (yf E 7 rfl)).1 _ rfl
   have vK:=H (zx (U xR) (K.b xt))
   have z2:=R (U vK).box 2 rfl
   have q2:=zd (U vK).box 2 (by show 2 < 13; decide)
   have z3:=R (U vK).box 3 rfl
   have q3:=zd (U vK).box 3 (by show 3 < 13; decide)
   have z4:=R (U vK).box 4 rfl
   have q4:=zd (U vK).box 4 (by show 4 < 13; decide)
   have z5:=R (U vK).box 5 rfl
   have q5:=zd (U vK).box 5 (by show 5 < 13; decide)
   have z6:=R (U vK).box 6 rfl
   have q6:=zd (U vK).box 6 (by show 6 < 13; decide)
   have z7:=R (U vK).box 7 rfl
   have q7:=zd (U vK).box 7 (by show 7 < 13; decide)
   clear E K ud xm nw
   rw [if_pos (by rfl)];unfold Oper.wp;go_simp
   exact ⟨f,by simp [g9,g7],rw_last (T:=fun cl=>World.setCells cl cp 2 (yx g.nx L tp cq V cg)) (U xu) xt (fun j X hx=>⟨fun u hu=>(by subst X; cases hu),trivial⟩)⟩
  | i + 11,Z=>simp at Z
theorem rd_gr {W W':World} {l:List Od} {v:Value} {b:Nat} (h:RdR Od.vs 6 W v l) (hg:W.grownBy W' (some b)) (hn:l ≠ []→∀ b' off n c,v = .slice (some (D b' off)) n c→b' ≠ b):RdR Od.vs 6 W' v l:=by
 obtain ⟨a,cap,rfl,hl,hc⟩:=h
 refine ⟨a,cap,rfl,hl,fun xA=>?_⟩
 obtain ⟨b',off,rfl,Q,F⟩:=hc xA
 have kq:=hg.block b' Q (by simpa using hn xA b' off _ _ rfl)
 refine ⟨b',off,rfl,yK Q hg.size,fun j c X i u hi=>?_⟩
 rw [yR (a:=(D b' (off + j * 6 + i))) kq]
 exact F j c X i u hi
theorem ms_rowset {cp B gb:Nat} {W W':World} {vl vd va:Value} {g:Gr} {t:Od} {kd n0:Int} {dy l0 l':List Od} (h:MS cp B W vl vd va { g with bg:=7 } t kd n0 dy l0) (hv:vl.ownBlock = some gb) (Z:ORow W' B vl l') (hg:W.grownBy W' (some gb)) (hdy:dy = []) (hB:B ≤ gb):MS cp B W' vl vd va { g with l:=l',bg:=7 } t kd n0 dy l0:=by
 have nO:some cp ≠ some gb:=by rw [← hv]; exact h.nl
 subst hdy
 obtain ⟨xF,hc⟩:=h.typ
 refine ⟨bx h.box (hg.block cp h.lt nO),Z,rd_gr h.days hg (fun xA=>absurd rfl xA),rd_gr h.ahd hg (fun xA b' off n c e=>by have:=h.na xA b' off n c e; omega),h.sla,⟨xF,(hg.block cp h.lt nO).trans hc⟩,h.hO,fun h9=>absurd (show (7:Int) = 0 from h9) (by decide),fun xA=>absurd rfl xA,h.na⟩
theorem take_7 {cp B:Nat} {vl vd va:Value} {g:Gr} {t:Od} {kd n0:Int} {dy l0:List Od} (ck L ct V cq ci:Int) (O:Nat) (cg:ByteArray) (id xj qty xk xi:Int) (w:World) (h:MS cp B w vl vd va g t kd n0 dy l0) (hi:GI g) (hm:MR g t kd dy) (he:okE ⟨7,⟨ck,L,ct,V,cq,ci,O,cg⟩,id,xj,qty,xk,xi⟩ = true) (hr:zG g ⟨7,⟨ck,L,ct,V,cq,ci,O,cg⟩,id,xj,qty,xk,xi⟩ = 0):Calls Tryz.prog 52 #[J cp 0,.agg (yw 7 ck L ct V cq ci O cg id xj qty xk xi).toArray] w fun x w'=>TakE cp B va n0 l0 g t kd dy ⟨7,⟨ck,L,ct,V,cq,ci,O,cg⟩,id,xj,qty,xk,xi⟩ w x w':=by
 have hsf:=sfl
 have hO:=h.lt
 have qe:=h.base
 have qM:Hid (∀ w' vY vk,Below B w w'→MS cp B w' vY vk va (br g ⟨7,⟨ck,L,ct,V,cq,ci,O,cg⟩,id,xj,qty,xk,xi⟩) (tkM g t ⟨7,⟨ck,L,ct,V,cq,ci,O,cg⟩,id,xj,qty,xk,xi⟩) (kdM kd ⟨7,⟨ck,L,ct,V,cq,ci,O,cg⟩,id,xj,qty,xk,xi⟩) n0 (dyM g dy ⟨7,⟨ck,L,ct,V,cq,ci,O,cg⟩,id,xj,qty,xk,xi⟩) l0→TakE cp B va n0 l0 g t kd dy ⟨7,⟨ck,L,ct,V,cq,ci,O,cg⟩,id,xj,qty,xk,xi⟩ w (.returned (.tuple #[])) w'):=fun w' vY vk N Y=>⟨rfl,N,vY,vk,Y⟩
 obtain ⟨h0,k,o,uP,vf,-,-,-⟩:=rule7 (e:=⟨7,⟨ck,L,ct,V,cq,ci,O,cg⟩,id,xj,qty,xk,xi⟩) rfl hr
 simp only at uP
 have hdy:dy = []:=by rw [hm.dy,if_neg (by omega)]
 have uh:Hid (br g ⟨7,⟨ck,L,ct,V,cq,ci,O,cg⟩,id,xj,qty,xk,xi⟩ = { g with l:=g.l.set k { o with left:=qty },bg:=7 }):=by show _ = _; rw [step7 rfl]; simp only [begG,if_pos h0,setI_at uP vf]
 have uz:Hid (tkM g t ⟨7,⟨ck,L,ct,V,cq,ci,O,cg⟩,id,xj,qty,xk,xi⟩ = t∧kdM kd ⟨7,⟨ck,L,ct,V,cq,ci,O,cg⟩,id,xj,qty,xk,xi⟩ = kd∧dyM g dy ⟨7,⟨ck,L,ct,V,cq,ci,O,cg⟩,id,xj,qty,xk,xi⟩ = dy):=⟨rfl,rfl,rfl⟩
 have xA:g.l ≠ []:=by intro h; rw [h] at vf; simp at vf
 have pt:=(yH.1 vf).1
 obtain ⟨gb,cap,rfl,ut,hBg,hgw⟩:=du h.row xA
 have jt:=hi.len
 have HDY:=H hdy
 have jC:=H uP
 have oQ:=H vf
 have hkl':(k:Int) < g.l.length:=by omega
 have jQ:(0:Int) ≤ k:=by omega
 clear h0 uP vf xA hdy
 generalize TakE cp B va n0 l0 g t kd dy ⟨7,⟨ck,L,ct,V,cq,ci,O,cg⟩,id,xj,qty,xk,xi⟩ w = C at qM ⊢
 obtain ⟨xC,HX⟩:=gw w (yw 7 ck L ct V cq ci O cg id xj qty xk xi) 52
 have HM:=H (zx h xC)
 have HB:=H (xC.mono qe)
 clear h xC hi hm he hr
 go_enter Tryz.func52,Tryz.ntmps52
 refine gv fun hR HK=>?_
 go_wp2_with fail
 refine U HK _ _ ?_
 clear HK
 generalize (w.alloc (A (yw 7 ck L ct V cq ci O cg id xj qty xk xi).toArray 52)) = W1 at HX HM HB ⊢
 have c9:=R (U HM).box 9 rfl
 have q9:=zd (U HM).box 9 (by show 9 < 13; decide)
 have xw:Hid (Below B w (World.setCells W1 cp 9 [.bool true])):=zN (U HB) yb (U HM) 9 _
 have xR:Hid (MS cp B (World.setCells W1 cp 9 [.bool true]) (.slice (some (D gb 0)) g.l.length cap) vd va { g with bg:=7 } t kd n0 dy l0):=cE (U HM) 9 [.bool true] (by simp) rfl rfl (fun h=>absurd (show (7:Int) = 0 from h) (by decide))
 have xJ:Hid (Bx (World.setCells W1 cp 9 [.bool true]) w.heap.size (yw 7 ck L ct V cq ci O cg id xj qty xk xi)):=bx (U HX) (bY cp w.heap.size (by omega) _ 9 W1)
 clear HX HM HB
 refine gv fun hR HK=>?_
 go_wp2_with fail
 refine U HK _ _ ?_
 clear HK
 change Code.wp _ _ _ _ (World.setCells W1 cp 9 [.bool true])
 generalize World.setCells W1 cp 9 [.bool true] = hj at xw xR xJ ⊢
 have hSX:w.heap.size < hj.heap.size:=yL _ _ (R (U xJ) 0 rfl)
 have uQ:Hid (RdR Od.vs 6 hj (.slice (some (D gb 0)) g.l.length cap) g.l):=zI (U xR).row (yO jt (by decide))
 have e0:=R (U xJ) 0 rfl
 clear c9 q9
 go_wp2_with fail
 refine zn (RWA (fun f=>{ tmps:=#[J cp 0,.agg (yw 7 ck L ct V cq ci O cg id xj qty xk xi).toArray,M,J w.heap.size 0,M,J cp 0,J cp 0,J cp 9,J w.heap.size 0,I 7,.bool false,.bool false,M,M,M,M,M,M,M,M,M,M,M,M,M,M,M,M,M,M,M,M,M,M,M,.bool false,.bool false,M,M,M,M,M,M,M,M,M,M,M,M,M,M,M,M,M,M,M,M,M,M,M,M,M,M,.bool false,.bool false,M,M,M,M,M,M,M,M,M,M,M,M,M,M,M,M,M,M,M,.bool false,.bool false,M,M,M,M,.bool false,.bool false,M,M,M,M,M,M,M,M,M,M,M,M,M,M,M,.bool true,.bool true,f 0,f 1,f 2,f 3,f 4,f 5,f 6,f 7,f 8,f 9,f 10,f 11,f 12,f 13,f 14,M,M,M,M,M,M,M,M,M,M,M,M,M,M,M,M,M,M,M,M,M,M,M,M,M,M,M,M,M,M,M,M,M,M,M,M,M,M,M,M,M,M,M,M,M,M,M,M,M,M,M,M,M,M,M,M,M,M,M,M,M],defers:=[] }) (CVw [some (J cp 0),some (J cp 0),some (J cp 1),some (.slice (some (D gb 0)) g.l.length cap),some (J cp 0),some (J cp 0),some (J cp 1),some (.slice (some (D gb 0)) g.l.length cap),some (J w.heap.size 9),some (I id),some (I k),some (J w.heap.size 11),some (I qty),some (J gb (k * 6)),some (J gb (k * 6 + 3)),none] (fun _=>True)) 15 (fun cl=>cl.setCell (D gb (k * 6 + 3)) (I qty)) hj) (by kernel_rfl) ?_ ?_ ?_
 ·exact ⟨fun _=>M,rfl,⟨fun j X=>by rw [yJ] at X; split at X <;> simp at X,fun _=>⟨rfl,rfl,rfl,Nat.le_refl _,fun _ _=>rfl⟩,fun X=>by rw [yJ] at X; split at X <;> simp at X⟩⟩
 ·rintro x gs cl ⟨f,rfl,K⟩ hx xO
  have xq:=zP xO hx (acyc _ (by kernel_rfl))
  obtain ⟨V0,xC,eV⟩:=K.m (xq 15 (by simp))
  have qk:=H (zx (U xR) xC)
  have xH:=H ((U xw).trans (xC.mono (U xR).base))
  clear K xq xO hx xC
  subst eV
  dsimp only
  generalize f 0 = v0,f 1 = v1,f 2 = v2,f 3 = v3,f 4 = v4,f 5 = v5,f 6 = v6,f 7 = v7,f 8 = v8,f 9 = v9,f 10 = v10,f 11 = v11,f 12 = v12,f 13 = v13,f 14 = v14
  go_end0
  have HL:=oRow_left (U qk).row rfl (U oQ) qty
  refine U qM _ (.slice (some (D gb 0)) g.l.length cap) vd (below_tookR (U xH) HL.2 hBg qe) ?_
  rw [U uh,(U uz).1,(U uz).2.1,(U uz).2.2]
  exact ms_rowset (U qk) rfl HL.1 HL.2 (U HDY) hBg
 ·rintro x gs cl i op ⟨f,rfl,K⟩ F hx Z xt E
  have xu:=H K
  have nw:i < 15→x[15]? = some false:=fun xI=>by
   rcases bS hx (show 15 < 16 by omega) with hq | hw
   ·exact hq
   ·exfalso
    have h0:=yh F 15 rfl hw 0 rfl
    have N:=yh F 15 rfl hw 1 rfl
    have Y:=yh F 15 rfl hw 2 rfl
    have h3:=yh F 15 rfl hw 3 rfl
    have h4:=yh F 15 rfl hw 4 rfl
    have h5:=yh F 15 rfl hw 5 rfl
    have h6:=yh F 15 rfl hw 6 rfl
    have h7:=yh F 15 rfl hw 7 rfl
    have h8:=yh F 15 rfl hw 8 rfl
    have h9:=yh F 15 rfl hw 9 rfl
    have uY:=yh F 15 rfl hw 10 rfl
    have uU:=yh F 15 rfl hw 11 rfl
    have uN:=yh F 15 rfl hw 12 rfl
    have oT:=yh F 15 rfl hw 14 rfl
    have jY:=yh F 14 rfl oT 13 rfl
    rcases (by omega:i = 0 ∨ i = 1 ∨ i = 2 ∨ i = 3 ∨ i = 4 ∨ i = 5 ∨ i = 6 ∨ i = 7 ∨ i = 8 ∨ i = 9 ∨ i = 10 ∨ i = 11 ∨ i = 12 ∨ i = 13 ∨ i = 14) with rfl | rfl | rfl | rfl | rfl | rfl | rfl | rfl | rfl | rfl | rfl | rfl | rfl | rfl | rfl
    ·exact absurd (h0.symm.trans xt) (by simp)
    ·exact absurd (N.symm.trans xt) (by simp)
    ·exact absurd (Y.symm.trans xt) (by simp)
    ·exact absurd (h3.symm.trans xt) (by simp)
    ·exact absurd (h4.symm.trans xt) (by simp)
    ·exact absurd (h5.symm.trans xt) (by simp)
    ·exact absurd (h6.symm.trans xt) (by simp)
    ·exact absurd (h7.symm.trans xt) (by simp)
    ·exact absurd (h8.symm.trans xt) (by simp)
    ·exact absurd (h9.symm.trans xt) (by simp)
    ·exact absurd (uY.symm.trans xt) (by simp)
    ·exact absurd (uU.symm.trans xt) (by simp)
    ·exact absurd (uN.symm.trans xt) (by simp)
    ·exact absurd (jY.symm.trans xt) (by simp)
    ·exact absurd (oT.symm.trans xt) (by simp)
  have ud:i < 15→yp hj cl:=fun h=>K.b (nw h)
  have xm:i < 15→∀ (p:Addr) u,hj.cell? p = some u→cl.cell? p = some u:=fun h p u hu=>((ud h).cell (yL hj _ hu)).trans hu
  match i,Z with
  | 0,Z | 4,Z =>
   obtain rfl:=yc Z
   have CL:=xm (by omega)
   clear E K ud xm nw CL
   rw [if_pos (by rfl)];unfold Oper.wp;go_simp
   exact ⟨upd f _ (J cp 0),by simp [upd],zE (U xu) _ _ ⟨yj rfl,trivial⟩ (by decide)⟩
  | 1,Z =>
   obtain rfl:=yc Z
   have g0:=(K.c 0 (yf E 0 rfl)).1 _ rfl
   have CL:=xm (by omega)
   clear E K ud xm nw CL
   rw [if_pos (by rfl)];unfold Oper.wp;go_simp
   exact ⟨upd f 1 (J cp 0),by simp [upd,g0],zE (U xu) 1 _ ⟨yj rfl,trivial⟩ (by decide)⟩
  | 2,Z =>
   obtain rfl:=yc Z
   have g1:=(K.c 1 (yf E 1 rfl)).1 _ rfl
   have CL:=xm (by omega)
   clear E K ud xm nw CL
   rw [if_pos (by rfl)];unfold Oper.wp;go_simp
   exact ⟨upd f 2 (J cp 1),by simp [upd,g1],zE (U xu) 2 _ ⟨yj rfl,trivial⟩ (by decide)⟩
  | 3,Z =>
   obtain rfl:=yc Z
   have g2:=(K.c 2 (yf E 2 rfl)).1 _ rfl
   have CL:=xm (by omega)
   have z:=CL (D cp 1) _ (R (U xR).box 1 rfl)
   clear E K ud xm nw CL
   rw [if_pos (by rfl)];unfold Oper.wp;go_simp
   exact ⟨upd f 3 (.slice (some (D gb 0)) g.l.length cap),by simp [upd,g2],zE (U xu) 3 _ ⟨yj rfl,trivial⟩ (by decide)⟩
  | 5,Z =>
   obtain rfl:=yc Z
   have g4:=(K.c 4 (yf E 4 rfl)).1 _ rfl
   have CL:=xm (by omega)
   clear E K ud xm nw CL
   rw [if_pos (by rfl)];unfold Oper.wp;go_simp
   exact ⟨upd f 5 (J cp 0),by simp [upd,g4],zE (U xu) 5 _ ⟨yj rfl,trivial⟩ (by decide)⟩
  | 6,Z =>
   obtain rfl:=yc Z
   have g5:=(K.c 5 (yf E 5 rfl)).1 _ rfl
   have CL:=xm (by omega)
   clear E K ud xm nw CL
   rw [if_pos (by rfl)];unfold Oper.wp;go_simp
   exact ⟨upd f 6 (J cp 1),by simp [upd,g5],zE (U xu) 6 _ ⟨yj rfl,trivial⟩ (by decide)⟩
  | 7,Z =>
   obtain rfl:=yc Z
   have g6:=(K.c 6 (yf E 6 rfl)).1 _ rfl
   have CL:=xm (by omega)
   have z:=CL (D cp 1) _ (R (U xR).box 1 rfl)
   clear E K ud xm nw CL
   rw [if_pos (by rfl)];unfold Oper.wp;go_simp
   exact ⟨upd f 7 (.slice (some (D gb 0)) g.l.length cap),by simp [upd,g6],zE (U xu) 7 _ ⟨yj rfl,trivial⟩ (by decide)⟩
  | 8,Z =>
   obtain rfl:=yc Z
   have CL:=xm (by omega)
   clear E K ud xm nw CL
   rw [if_pos (by rfl)];unfold Oper.wp;go_simp
   exact ⟨upd f 8 (J w.heap.size 9),by simp [upd],zE (U xu) 8 _ ⟨yj rfl,trivial⟩ (by decide)⟩
  | 9,Z =>
   obtain rfl:=yc Z
   have g8:=(K.c 8 (yf E 8 rfl)).1 _ rfl
   have CL:=xm (by omega)
   have z:=CL (D w.heap.size 9) _ (R (U xJ) 9 rfl)
   clear E K ud xm nw CL
   rw [if_pos (by rfl)];unfold Oper.wp;go_simp
   exact ⟨upd f 9 (I id),by simp [upd,g8],zE (U xu) 9 _ ⟨yj rfl,trivial⟩ (by decide)⟩
  | 10,Z =>
   obtain rfl:=yc Z
   have g7:=(K.c 7 (yf E 7 rfl)).1 _ rfl
   have g9:=(K.c 9 (yf E 9 rfl)).1 _ rfl
   have CL:=xm (by omega)
   have hw:=nw (by omega)
   have qJ:=H (zi (U uQ) (ud (by omega)) yb)
   clear E K ud xm nw CL
   rw [if_pos (by rfl)];unfold Oper.wp;go_simp
   refine (dW _ g.l id cl (U qJ)).mono ?_
   rw [U jC]
   rintro e w4 ⟨rfl,xy⟩
   exact ⟨upd f 10 (I k),by simp [upd,g7,g9],zE (dF (U xu) hw xy) 10 _ ⟨yj rfl,trivial⟩ (by decide)⟩
  | 11,Z =>
   obtain rfl:=yc Z
   have CL:=xm (by omega)
   clear E K ud xm nw CL
   rw [if_pos (by rfl)];unfold Oper.wp;go_simp
   exact ⟨upd f 11 (J w.heap.size 11),by simp [upd],zE (U xu) 11 _ ⟨yj rfl,trivial⟩ (by decide)⟩
  | 12,Z =>
   obtain rfl:=yc Z
   have vI:=(K.c 11 (yf E 11 rfl)).1 _ rfl
   have CL:=xm (by omega)
   have z:=CL (D w.heap.size 11) _ (R (U xJ) 11 rfl)
   clear E K ud xm nw CL
   rw [if_pos (by rfl)];unfold Oper.wp;go_simp
   exact ⟨upd f 12 (I qty),by simp [upd,vI],zE (U xu) 12 _ ⟨yj rfl,trivial⟩ (by decide)⟩
  | 13,Z =>
   obtain rfl:=yc Z
   have g3:=(K.c 3 (yf E 3 rfl)).1 _ rfl
   have qy:=(K.c 10 (yf E 10 rfl)).1 _ rfl
   have CL:=xm (by omega)
   clear E K ud xm nw CL
   rw [if_pos (by rfl)];unfold Oper.wp;go_simp
   exact ⟨upd f 13 (J gb (k * 6)),by simp [upd,g3,qy],zE (U xu) 13 _ ⟨yj rfl,trivial⟩ (by decide)⟩
  | 14,Z =>
   obtain rfl:=yc Z
   have qP:=(K.c 13 (yf E 13 rfl)).1 _ rfl
   have CL:=xm (by omega)
   clear E K ud xm nw CL
   rw [if_pos (by rfl)];unfold Oper.wp;go_simp
   exact ⟨upd f 14 (J gb (k * 6 + 3)),by simp [upd,qP],zE (U xu) 14 _ ⟨yj rfl,trivial⟩ (by decide)⟩
  | 15,Z =>
   obtain rfl:=yc Z
   have jo:=(K.c 14 (yf E 14 rfl)).1 _ rfl
   have ua:=(K.c 12 (yf E 12 rfl)).1 _ rfl
   have vK:=H (zx (U xR) (K.b xt))
   obtain ⟨zz,qq⟩:=row_here (U vK).row (yO jt (by decide)) (U oQ)
   have z3:=zz 3 _ rfl
   have q3:=qq 3 (by omega)
   clear zz qq
   clear E K ud xm nw
   rw [if_pos (by rfl)];unfold Oper.wp;go_simp
   exact ⟨f,by simp [jo,ua],rw_last (T:=fun cl=>cl.setCell (D gb (k * 6 + 3)) (I qty)) (U xu) xt (fun j X hx=>⟨fun u hu=>(by subst X; cases hu),trivial⟩)⟩
  | i + 16,Z=>simp at Z
def C7o (b off n cap i:Nat):Nat→Value→Prop
 | 1,v=>v = .slice (some (D b off)) n cap
 | 2,v=>v = I i
 | 3,v=>v = .slice (some (D b off)) i cap
 | 5,v=>v = .slice (some (D b off)) n cap
 | 6,v=>v = I i
 | 7,v=>v = I ((i:Int) + 1)
 | 8,v=>∃ ad c,v = .slice (some ad) (n - (i + 1)) c∧(i + 1 < n→ad = (D b (off + (i + 1) * 6)))
 | _,_=>True
theorem l04Drop_any (b off cap:Nat) (l:List Od) (i:Nat) (w:World) (hc:∀ j c,l[j]? = some c→w.rangeAt b (off + j * 6) c.vs) (Q:b < w.heap.size) (hil:i < l.length) (ut:l.length ≤ cap) (hn:l.length ≤ 1000) :
  Calls Tryz.prog 79 #[.slice (some (D b off)) l.length cap,I i] w fun e w'=>∃ v',e = .returned v'∧ORow w' w.heap.size v' (l.take i ++ l.drop (i + 1))∧yp w w':=by
 obtain ⟨i0,vC,uK,uL,uZ⟩:=info_parts Tryz.infoOrder
 have HC:=H hc
 clear hc
 have hicp:i ≤ cap:=by omega
 have hi1:i + 1 ≤ l.length:=by omega
 have hi1':(i:Int) + 1 ≤ l.length:=by omega
 have vE:(i:Int) < l.length:=by omega
 have hige:(0:Int) ≤ i:=by omega
 have hlcp:(l.length:Int) ≤ cap:=by omega
 have h0i:(0:Int) ≤ (i:Int) + 1:=by omega
 go_enter Tryz.func79,Tryz.ntmps79
 go_wp2_with fail
 refine eu (R7A (.slice none 0 0) w (C7o b off l.length cap i) (l.take i) (l.take i ++ l.drop (i + 1)) (fun f=>{ tmps:=#[.slice (some (D b off)) l.length cap,I i,M,M,f 10,f 0,f 1,f 2,f 3,f 4,f 5,f 6,f 7,f 8,f 9],defers:=[] })) (by kernel_rfl) ?_ ?_ ?_
 ·exact ⟨fun j=>if j = 10 then .slice none 0 0 else M,rfl,⟨⟨rfl,rfl,rfl,Nat.le_refl _,fun _ _=>rfl⟩,fun j X=>by rw [yJ] at X; split at X <;> simp at X,fun _=>rfl,by simp,by simp,by simp,by simp,by simp,by simp,by simp⟩⟩
 ·rintro x gs cl ⟨f,rfl,K⟩ hx xO
  have xq:=zP xO hx (acyc _ (by kernel_rfl))
  have k9:x[9]? = some true:=xq 9 (by simp)
  have k10:x[10]? = some true:=xq 10 (by simp)
  have HO9:=H (K.m9 k9)
  have uR:f 10 = f 9:=K.m10 k10
  have xE:=H K.bel
  simp only [uR]
  generalize f 9 = v9 at HO9 ⊢
  clear K xq k9 k10 uR xO hx
  go_wp2_with fail
  go_ret
  exact ⟨_,rfl,U HO9,U xE⟩
 ·rintro x gs cl i' o' ⟨f,rfl,K⟩ hx Z xt E
  have qL:=H K
  match i',Z with
  | 0,Z =>
   obtain rfl:=yc Z
   clear K E
   rw [if_pos (by rfl)];unfold Oper.wp;go_simp
   exact ⟨upd f 0 (.slice (some (D cl.heap.size 0)) 0 0),by simp [upd],r7_0 (U qL) xt (fun _=>trivial)⟩
  | 1,Z =>
   obtain rfl:=yc Z
   clear K E
   rw [if_pos (by rfl)];unfold Oper.wp;go_simp
   exact ⟨upd f 1 (.slice (some (D b off)) l.length cap),by simp [upd],cB (U qL) 1 _ rfl (by decide) (by decide) (by decide) (by decide)⟩
  | 2,Z =>
   obtain rfl:=yc Z
   clear K E
   rw [if_pos (by rfl)];unfold Oper.wp;go_simp
   exact ⟨upd f 2 (I i),by simp [upd],cB (U qL) 2 _ rfl (by decide) (by decide) (by decide) (by decide)⟩
  | 3,Z =>
   obtain rfl:=yc Z
   have g1:C7o b off l.length cap i 1 (f 1):=K.c 1 (yf E 1 rfl)
   have g2:C7o b off l.length cap i 2 (f 2):=K.c 2 (yf E 2 rfl)
   simp only [C7o] at g1 g2
   clear K E
   rw [if_pos (by rfl)];unfold Oper.wp;go_simp
   exact ⟨upd f 3 (.slice (some (D b off)) i cap),by simp [upd,g1,g2],cB (U qL) 3 _ rfl (by decide) (by decide) (by decide) (by decide)⟩
  | 4,Z =>
   obtain rfl:=yc Z
   have g3:C7o b off l.length cap i 3 (f 3):=K.c 3 (yf E 3 rfl)
   have k0:x[0]? = some true:=E ⟨0,.data⟩ (by simp) rfl
   have HCV:Hid (∀ j c,l[j]? = some c→cl.rangeAt b (off + j * 6) c.vs):=fun j c X=>zc (U HC j c X) K.bel Q
   simp only [C7o] at g3
   clear K E
   rw [if_pos (by rfl)]
   refine wp_append_own cl (.tmp 5) (.tmp 8) 32 rfl w.heap.size 78 i0 _ 6 56 Tryz.underlying32 vC uK uL uZ rfl (by decide) (f 0) 0 [] rfl ((U qL).m0 k0 xt) (D b off) i cap ((l.take i).flatMap Od.vs) g3 (by rw [bJ Od.len,List.length_take]; congr 1; omega) (by simpa using ef (W:=cl) (g:=b) (off:=off) (l:=l) (U HCV) 0 i) (cX _) (by unfold maxLen; omega) (by omega) (U qL).bel.size ?_
   intro v' w' xS um _
   refine ⟨upd f 4 v',rfl,r7_4 (U qL) k0 xt (fun _=>trivial) ?_ um⟩
   have xz:(l.take i).length = 0 + i:=by rw [List.length_take]; omega
   show w'.ownsRow _ _ _ _ (l.take i).length _
   rw [xz]; simpa using xS
  | 5,Z =>
   obtain rfl:=yc Z
   clear K E
   rw [if_pos (by rfl)];unfold Oper.wp;go_simp
   exact ⟨upd f 5 (.slice (some (D b off)) l.length cap),by simp [upd],cB (U qL) 5 _ rfl (by decide) (by decide) (by decide) (by decide)⟩
  | 6,Z =>
   obtain rfl:=yc Z
   clear K E
   rw [if_pos (by rfl)];unfold Oper.wp;go_simp
   exact ⟨upd f 6 (I i),by simp [upd],cB (U qL) 6 _ rfl (by decide) (by decide) (by decide) (by decide)⟩
  | 7,Z =>
   obtain rfl:=yc Z
   have g6:C7o b off l.length cap i 6 (f 6):=K.c 6 (yf E 6 rfl)
   simp only [C7o] at g6
   have hwr:IntKind.i64.wrap ((i:Int) + 1) = (i:Int) + 1:=by rw [IntKind.wrap_i64]; omega
   clear K E
   rw [if_pos (by rfl)];unfold Oper.wp;go_simp
   exact ⟨upd f 7 (I ((i:Int) + 1)),by simp [upd,g6],cB (U qL) 7 _ rfl (by decide) (by decide) (by decide) (by decide)⟩
  | 8,Z =>
   obtain rfl:=yc Z
   have g5:C7o b off l.length cap i 5 (f 5):=K.c 5 (yf E 5 rfl)
   have g7:C7o b off l.length cap i 7 (f 7):=K.c 7 (yf E 7 rfl)
   simp only [C7o] at g5 g7
   clear K E
   by_cases hcp:cap = i + 1
   ·subst hcp
    rw [if_pos (by rfl)];unfold Oper.wp;go_simp
    exact ⟨upd f 8 (.slice (some (D b off)) (l.length - (i + 1)) 0),by simp [upd,g5,g7]; omega,cB (U qL) 8 _ ⟨_,_,rfl,fun h=>by omega⟩ (by decide) (by decide) (by decide) (by decide)⟩
   ·rw [if_pos (by rfl)];unfold Oper.wp;go_simp
    exact ⟨upd f 8 (.slice (some (D b (off + (i + 1) * 6))) (l.length - (i + 1)) (cap - (i + 1))),by simp [upd,g5,g7],cB (U qL) 8 _ ⟨_,_,rfl,fun h=>rfl⟩ (by decide) (by decide) (by decide) (by decide)⟩
  | 9,Z =>
   obtain rfl:=yc Z
   have g8:C7o b off l.length cap i 8 (f 8):=K.c 8 (yf E 8 rfl)
   have k4:x[4]? = some true:=E ⟨4,.data⟩ (by simp) rfl
   have HCV:Hid (∀ j c,l[j]? = some c→cl.rangeAt b (off + j * 6) c.vs):=fun j c X=>zc (U HC j c X) K.bel Q
   obtain ⟨ad8,c8,g8,had⟩:=g8
   clear K E
   have hsrc8:∀ j u,((l.drop (i + 1)).flatMap Od.vs)[j]? = some u→cl.cell? (ad8.add j) = some u:=by
    intro j u hu
    by_cases xI:i + 1 < l.length
    ·rw [had xI]
     have:=ef (W:=cl) (g:=b) (off:=off) (l:=l) (U HCV) (i + 1) (l.length - (i + 1)) j u (by rw [xa (by simp)]; exact hu)
     simpa using this
    ·rw [xb (by omega)] at hu; simp at hu
   rw [if_pos (by rfl)]
   refine wp_append_own cl (.tmp 9) (.tmp 13) 32 rfl w.heap.size 78 i0 _ 6 56 Tryz.underlying32 vC uK uL uZ rfl (by decide) (f 4) (l.take i).length ((l.take i).flatMap Od.vs) rfl ((U qL).m4 k4 xt) ad8 (l.length - (i + 1)) c8 ((l.drop (i + 1)).flatMap Od.vs) g8 (by rw [bJ Od.len,List.length_drop]) hsrc8 (cX _) (by unfold maxLen; rw [List.length_take]; omega) (by rw [List.length_take]; omega) (U qL).bel.size ?_
   intro v' w' xS um _
   refine ⟨upd f 9 v',rfl,r7_9 (U qL) k4 xt (fun _=>trivial) ?_ um⟩
   show w'.ownsRow _ _ _ _ (l.take i ++ l.drop (i + 1)).length _
   rw [yQ,List.length_drop,List.flatMap_append]
   exact xS
  | 10,Z =>
   obtain rfl:=yc Z
   have hA:∀ j,j < 10→x[j]? = some true:=fun j X=>E ⟨j,.phase⟩ (by
    match j,X with
    | 0,_=>simp
    | 1,_=>simp
    | 2,_=>simp
    | 3,_=>simp
    | 4,_=>simp
    | 5,_=>simp
    | 6,_=>simp
    | 7,_=>simp
    | 8,_=>simp
    | 9,_=>simp
    | n + 10,h=>omega) rfl
   clear K E
   rw [if_pos (by rfl)];unfold Oper.wp;go_simp
   exact ⟨upd f 10 (f 9),by simp [upd],r7_10 (U qL) hA xt (fun _=>trivial)⟩
  | n + 11,Z=>simp at Z
def App (B:Nat) (base:World) (vq:Value) (l:List Od) (W:World) (v:Value):Prop:=ORow W B v l∧base.grownBy W vq.ownBlock
structure RA (C:Nat→Value→Prop) (n m:Nat) (p:Addr) (gs:World→Value→Prop) (base:World) (x:List Bool) (f:Nat→Value) (W:World):Prop where
 c:∀ j,x[j]? = some true→C j (f j)
 b:x[n]? = some false→Below base.heap.size base W
 a:x[n]? = some true→x[m]? = some false→gs W (f n)
 z:x[m]? = some true→∃ W0,gs W0 (f n)∧W = W0.setCell p (f n)
def RAA (xo:(Nat→Value)→Act) (C:Nat→Value→Prop) (n m:Nat) (p:Addr) (gs:World→Value→Prop) (base:World) (x:List Bool) (a:Act) (W:World):Prop:=∃ f,a = xo f∧RA C n m p gs base x f W
section
variable {C:Nat→Value→Prop} {n m:Nat} {p:Addr} {gs:World→Value→Prop} {base W W':World} {x:List Bool} {f:Nat→Value}
theorem bw (h:RA C n m p gs base x f W) (i:Nat) (v:Value) (hv:C i v) (hn:i ≠ n) (hm:i ≠ m):RA C n m p gs base (x.set i true) (upd f i v) W:=by
 refine ⟨zD h.c hv,?_,?_,?_⟩
 ·rw [gq hn]; exact h.b
 ·rw [gq hn,gq hm,zk _ _ (Ne.symm hn)]; exact h.a
 ·rw [gq hm,zk _ _ (Ne.symm hn)]; exact h.z
theorem ra_grow (h:RA C n m p gs base x f W) (hn:x[n]? = some false) (hm:x[m]? = some false) (Q:yp W W'):RA C n m p gs base x f W' :=
 ⟨h.c,fun e=>(h.b e).trans (Q.mono (h.b e).size),fun e=>(by rw [hn] at e; cases e),fun e=>(by rw [hm] at e; cases e)⟩
theorem ra_app (h:RA C n m p gs base x f W) (hn:x[n]? = some false) (hm:x[m]? = some false) (hnm:n ≠ m) {v:Value} (hv:C n v) (ha:gs W' v):RA C n m p gs base (x.set n true) (upd f n v) W':=by
 refine ⟨zD h.c hv,?_,?_,?_⟩
 ·intro e; rw [gqs hn] at e; cases e
 ·intro _ _; rw [zt]; exact ha
 ·intro e; rw [gq hnm,hm] at e; cases e
theorem ra_store (h:RA C n m p gs base x f W) (hn:x[n]? = some true) (hm:x[m]? = some false) (hnm:n ≠ m) (hc:∀ v,C m v):RA C n m p gs base (x.set m true) f (W.setCell p (f n)):=by
 refine ⟨fun j X=>?_,?_,?_,fun _=>⟨W,h.a hn hm,rfl⟩⟩
 ·by_cases hjm:j = m
  ·subst hjm; exact hc _
  ·rw [gq (fun e=>hjm e.symm)] at X; exact h.c j X
 ·intro e; rw [gq (Ne.symm hnm),hn] at e; cases e
 ·intro _ e; rw [gqs hm] at e; cases e
end
end Go.Proofs.YtnphbkgfjanmgaaGreatDoor
