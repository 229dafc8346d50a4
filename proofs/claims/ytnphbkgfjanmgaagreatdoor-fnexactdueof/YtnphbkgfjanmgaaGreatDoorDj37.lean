/-
  An order accepted, by the model: proved by walking the method.
-/
import Derived.Test.YtnphbkgfjanmgaaGreatDoorDj36
set_option linter.unusedVariables false
set_option maxHeartbeats 6400000
set_option maxRecDepth 100000
namespace Go.Proofs.YtnphbkgfjanmgaaGreatDoor
open Go.RowKit
theorem take_1 {cp B:Nat} {vl vd va:Value} {g:Gr} {t:Od} {kd n0:Int} {dy l0:List Od} (ck A ct F cq ci:Int) (O:Nat) (cg:ByteArray) (id xj qty xk xi:Int) (w:World) (h:MS cp B w vl vd va g t kd n0 dy l0) (hi:GI g) (hm:MR g t kd dy) (he:okE ⟨1,⟨ck,A,ct,F,cq,ci,O,cg⟩,id,xj,qty,xk,xi⟩ = true) (hr:zF g ⟨1,⟨ck,A,ct,F,cq,ci,O,cg⟩,id,xj,qty,xk,xi⟩ = 0):Calls Tryz.prog 52 #[J cp 0,.agg (yw 1 ck A ct F cq ci O cg id xj qty xk xi).toArray] w fun x w'=>TakE cp B va n0 l0 g t kd dy ⟨1,⟨ck,A,ct,F,cq,ci,O,cg⟩,id,xj,qty,xk,xi⟩ w x w':=by
 have hsf:=sfl
 have hO:=h.lt
 have vW:=h.base
 have qF:Hid (∀ w' vT vh,Below B w w'→MS cp B w' vT vh va (aM g ⟨1,⟨ck,A,ct,F,cq,ci,O,cg⟩,id,xj,qty,xk,xi⟩) (tkM g t ⟨1,⟨ck,A,ct,F,cq,ci,O,cg⟩,id,xj,qty,xk,xi⟩) (kdM kd ⟨1,⟨ck,A,ct,F,cq,ci,O,cg⟩,id,xj,qty,xk,xi⟩) n0 (dyM g dy ⟨1,⟨ck,A,ct,F,cq,ci,O,cg⟩,id,xj,qty,xk,xi⟩) l0→TakE cp B va n0 l0 g t kd dy ⟨1,⟨ck,A,ct,F,cq,ci,O,cg⟩,id,xj,qty,xk,xi⟩ w (.returned (.tuple #[])) w'):=fun w' vT vh N Y=>⟨rfl,N,vT,vh,Y⟩
 obtain ⟨h0,-,ui⟩:=rule1 (e:=⟨1,⟨ck,A,ct,F,cq,ci,O,cg⟩,id,xj,qty,xk,xi⟩) rfl hr
 have qe:=hi.start h0
 have hwr:IntKind.i64.wrap (g.nx + 1) = g.nx + 1:=by rw [IntKind.wrap_i64]; omega
 have ug:Hid (aM g ⟨1,⟨ck,A,ct,F,cq,ci,O,cg⟩,id,xj,qty,xk,xi⟩ = ⟨g.nx + 1,g.l,1,⟨ck,A,ct,F,cq,ci,O,cg⟩,ordO ⟨ck,A,ct,F,cq,ci,O,cg⟩ id⟩):=by show _ = _; rw [step1 rfl]; simp only [begG,if_pos h0]
 have ux:Hid (tkM g t ⟨1,⟨ck,A,ct,F,cq,ci,O,cg⟩,id,xj,qty,xk,xi⟩ = ⟨g.nx,A,tkS O,cq,F,cg⟩∧kdM kd ⟨1,⟨ck,A,ct,F,cq,ci,O,cg⟩,id,xj,qty,xk,xi⟩ = ct∧dyM g dy ⟨1,⟨ck,A,ct,F,cq,ci,O,cg⟩,id,xj,qty,xk,xi⟩ = dy):=⟨rfl,rfl,rfl⟩
 have HN0:Hid (n0 = g.nx):=(h.eqn h0).1
 obtain ⟨aa,ac,hva,-,-⟩:=h.ahd
 have az:=H (fun W=>l04Taker_any n0 aa l0.length ac ⟨ck,A,ct,F,cq,ci,O,cg⟩ W)
 rw [← hva] at az
 unfold cmV at az
 simp only at az
 rw [U HN0] at az
 generalize tkS O = tp at az ux
 clear h0 ui qe hva
 generalize TakE cp B va n0 l0 g t kd dy ⟨1,⟨ck,A,ct,F,cq,ci,O,cg⟩,id,xj,qty,xk,xi⟩ w = C at qF ⊢
 obtain ⟨xz,HX⟩:=fE w (yw 1 ck A ct F cq ci O cg id xj qty xk xi) 52
 have HM:=H (zv h xz)
 have HB:=H (xz.mono vW)
 clear h xz hi hm he hr
 go_enter Tryz.func52,Tryz.ntmps52
 refine fD fun zb HK=>?_
 go_wp2_with fail
 refine U HK _ _ ?_
 clear HK
 generalize (w.alloc (L (yw 1 ck A ct F cq ci O cg id xj qty xk xi).toArray 52)) = W1 at HX HM HB ⊢
 have c9:=K (U HM).box 9 rfl
 have q9:=zd (U HM).box 9 (by show 9 < 13; decide)
 have xw:Hid (Below B w (World.setCells W1 cp 9 [.bool true])):=zL (U HB) yb (U HM) 9 _
 have xR:Hid (MS cp B (World.setCells W1 cp 9 [.bool true]) vl vd va { g with bg:=1 } t kd n0 dy l0):=bK (U HM) 9 [.bool true] (by simp) rfl rfl (fun h=>absurd (show (1:Int) = 0 from h) (by decide))
 have xI:Hid (Bx (World.setCells W1 cp 9 [.bool true]) w.heap.size (yw 1 ck A ct F cq ci O cg id xj qty xk xi)):=aO (U HX) (bA cp w.heap.size (by omega) _ 9 W1)
 clear HX HM HB
 refine fD fun zb HK=>?_
 go_wp2_with fail
 refine U HK _ _ ?_
 clear HK
 change Code.wp _ _ _ _ (World.setCells W1 cp 9 [.bool true])
 generalize World.setCells W1 cp 9 [.bool true] = xo at xw xR xI ⊢
 have hSX:w.heap.size < xo.heap.size:=yL _ _ (K (U xI) 0 rfl)
 have HC11:Hid (xo.cell? (Q cp 11) = some (I g.nx)):=by
  have:=K (U xR).box 11 rfl
  rw [U HN0] at this
  exact this
 have e0:=K (U xI) 0 rfl
 clear c9 q9
 go_wp2_with fail
 refine zm (RWA (fun f=>{ tmps:=#[J cp 0,.agg (yw 1 ck A ct F cq ci O cg id xj qty xk xi).toArray,M,J w.heap.size 0,M,J cp 0,J cp 0,J cp 9,J w.heap.size 0,I 1,.bool true,.bool true,f 0,f 1,f 2,f 3,f 4,f 5,f 6,f 7,f 8,f 9,M,M,M,M,M,M,M,M,M,M,M,M,M,M,M,M,M,M,M,M,M,M,M,M,M,M,M,M,M,M,M,M,M,M,M,M,M,M,M,M,M,M,M,M,M,M,M,M,M,M,M,M,M,M,M,M,M,M,M,M,M,M,M,M,M,M,M,M,M,M,M,M,M,M,M,M,M,M,M,M,M,M,M,M,M,M,M,M,M,M,M,M,M,M,M,M,M,M,M,M,M,M,M,M,M,M,M,M,M,M,M,M,M,M,M,M,M,M,M,M,M,M,M,M,M,M,M,M,M,M,M,M,M,M,M,M,M,M,M,M,M,M,M,M,M,M,M,M,M,M,M,M,M,M,M,M,M,M,M,M,M,M,M],defers:=[] }) (CVw [some (J cp 0),some (J cp 0),some (J cp 0),some (J cp 11),some (.agg #[I g.nx,va]),some (J w.heap.size 1),some (.agg (yy ck A ct F cq ci O cg).toArray),some (.agg (yx g.nx A tp cq F cg).toArray),some (J cp 0),some (J cp 2),none] (fun _=>True)) 10 (fun hj=>World.setCells hj cp 2 (yx g.nx A tp cq F cg)) xo) (by kernel_rfl) ?_ ?_ ?_
 ·exact ⟨fun _=>M,rfl,⟨fun j V=>by rw [yJ] at V; split at V <;> simp at V,fun _=>⟨rfl,rfl,rfl,Nat.le_refl _,fun _ _=>rfl⟩,fun V=>by rw [yJ] at V; split at V <;> simp at V⟩⟩
 ·rintro x cs hj ⟨f,rfl,R⟩ hx xO
  have xq:=zN xO hx (acyc _ (by kernel_rfl))
  obtain ⟨V0,xz,eV⟩:=R.m (xq 10 (by simp))
  have qd:=H (zv (U xR) xz)
  have xG:=H (zf (U xI) xz hSX)
  have xH:=H ((U xw).trans (xz.mono (U xR).base))
  clear R xq xO hx xz
  subst eV
  dsimp only
  generalize f 0 = v0,f 1 = v1,f 2 = v2,f 3 = v3,f 4 = v4,f 5 = v5,f 6 = v6,f 7 = v7,f 8 = v8,f 9 = v9
  have vy:Hid (MS cp B (World.setCells V0 cp 2 (yx g.nx A tp cq F cg)) vl vd va { g with bg:=1 } ⟨g.nx,A,tp,cq,F,cg⟩ kd n0 dy l0):=bK (U qd) 2 (yx g.nx A tp cq F cg) (by simp) rfl rfl (fun h=>absurd (show (1:Int) = 0 from h) (by decide))
  have uU:Hid (Bx (World.setCells V0 cp 2 (yx g.nx A tp cq F cg)) w.heap.size (yw 1 ck A ct F cq ci O cg id xj qty xk xi)):=aO (U xG) (bA cp w.heap.size (by omega) _ 2 V0)
  have uj:=H (zL (U xH) yb (U qd) 2 (yx g.nx A tp cq F cg))
  generalize World.setCells V0 cp 2 (yx g.nx A tp cq F cg) = h2 at vy uU uj ⊢
  have e3:=K (U uU) 3 rfl
  have c8:=K (U vy).box 8 rfl
  have q8:=zd (U vy).box 8 (by show 8 < 13; decide)
  have HM6:Hid (MS cp B (h2.setCell (Q cp 8) (I ct)) vl vd va { g with bg:=1 } ⟨g.nx,A,tp,cq,F,cg⟩ ct n0 dy l0):=bK (U vy) 8 [I ct] (by simp) rfl rfl (fun h=>absurd (show (1:Int) = 0 from h) (by decide))
  have qA:Hid (Below B w (h2.setCell (Q cp 8) (I ct))):=zL (U uj) yb (U vy) 8 [I ct]
  have c0:=K (U HM6).box 0 rfl
  have q0:=zd (U HM6).box 0 (by show 0 < 13; decide)
  go_wp2_with fail
  go_end0
  refine U qF _ vl vd (zL (U qA) yb (U HM6) 0 [I (g.nx + 1)]) ?_
  rw [U ug,(U ux).1,(U ux).2.1,(U ux).2.2]
  exact bK (U HM6) 0 [I (g.nx + 1)] (by simp) rfl rfl (fun h=>absurd (show (1:Int) = 0 from h) (by decide))
 ·rintro x cs hj i op ⟨f,rfl,R⟩ X hx Z xr D
  have xu:=H R
  have nw:i < 10→x[10]? = some false:=fun xJ=>by
   rcases br hx (show 10 < 11 by omega) with hq | hw
   ·exact hq
   ·exfalso
    have h0:=yh X 10 rfl hw 0 rfl
    have N:=yh X 10 rfl hw 1 rfl
    have Y:=yh X 10 rfl hw 2 rfl
    have h3:=yh X 10 rfl hw 3 rfl
    have h4:=yh X 10 rfl hw 4 rfl
    have h5:=yh X 10 rfl hw 5 rfl
    have h6:=yh X 10 rfl hw 6 rfl
    have h7:=yh X 10 rfl hw 7 rfl
    have h9:=yh X 10 rfl hw 9 rfl
    have h8:=yh X 9 rfl h9 8 rfl
    rcases (by omega:i = 0 ∨ i = 1 ∨ i = 2 ∨ i = 3 ∨ i = 4 ∨ i = 5 ∨ i = 6 ∨ i = 7 ∨ i = 8 ∨ i = 9) with rfl | rfl | rfl | rfl | rfl | rfl | rfl | rfl | rfl | rfl
    ·exact absurd (h0.symm.trans xr) (by simp)
    ·exact absurd (N.symm.trans xr) (by simp)
    ·exact absurd (Y.symm.trans xr) (by simp)
    ·exact absurd (h3.symm.trans xr) (by simp)
    ·exact absurd (h4.symm.trans xr) (by simp)
    ·exact absurd (h5.symm.trans xr) (by simp)
    ·exact absurd (h6.symm.trans xr) (by simp)
    ·exact absurd (h7.symm.trans xr) (by simp)
    ·exact absurd (h8.symm.trans xr) (by simp)
    ·exact absurd (h9.symm.trans xr) (by simp)
  have uc:i < 10→yp xo hj:=fun h=>R.b (nw h)
  have xm:i < 10→∀ (p:Addr) u,xo.cell? p = some u→hj.cell? p = some u:=fun h p u hu=>((uc h).cell (yL xo _ hu)).trans hu
  match i,Z with
  | 0,Z | 1,Z =>
   obtain rfl:=yc Z
   have CL:=xm (by omega)
   clear D R uc xm nw CL
   rw [if_pos (by rfl)];unfold Oper.wp;go_simp
   exact ⟨upd f _ (J cp 0),by simp [upd],zD (U xu) _ _ ⟨yj rfl,trivial⟩ (by decide)⟩
  | 2,Z =>
   obtain rfl:=yc Z
   have g1:=(R.c 1 (yf D 1 rfl)).1 _ rfl
   have CL:=xm (by omega)
   clear D R uc xm nw CL
   rw [if_pos (by rfl)];unfold Oper.wp;go_simp
   exact ⟨upd f 2 (J cp 0),by simp [upd,g1],zD (U xu) 2 _ ⟨yj rfl,trivial⟩ (by decide)⟩
  | 3,Z =>
   obtain rfl:=yc Z
   have g2:=(R.c 2 (yf D 2 rfl)).1 _ rfl
   have CL:=xm (by omega)
   clear D R uc xm nw CL
   rw [if_pos (by rfl)];unfold Oper.wp;go_simp
   exact ⟨upd f 3 (J cp 11),by simp [upd,g2],zD (U xu) 3 _ ⟨yj rfl,trivial⟩ (by decide)⟩
  | 4,Z =>
   obtain rfl:=yc Z
   have g3:=(R.c 3 (yf D 3 rfl)).1 _ rfl
   have CL:=xm (by omega)
   have z1:=CL (Q cp 11) _ (U HC11)
   have z2:=CL (Q cp 12) _ (K (U xR).box 12 rfl)
   clear D R uc xm nw CL
   rw [if_pos (by rfl)];unfold Oper.wp;go_simp
   exact ⟨upd f 4 (.agg #[I g.nx,va]),by simp [upd,g3],zD (U xu) 4 _ ⟨yj rfl,trivial⟩ (by decide)⟩
  | 5,Z =>
   obtain rfl:=yc Z
   have CL:=xm (by omega)
   clear D R uc xm nw CL
   rw [if_pos (by rfl)];unfold Oper.wp;go_simp
   exact ⟨upd f 5 (J w.heap.size 1),by simp [upd],zD (U xu) 5 _ ⟨yj rfl,trivial⟩ (by decide)⟩
  | 6,Z =>
   obtain rfl:=yc Z
   have g5:=(R.c 5 (yf D 5 rfl)).1 _ rfl
   have CL:=xm (by omega)
   have e1:=CL (Q w.heap.size 1) _ (K (U xI) 1 rfl)
   have e2:=CL (Q w.heap.size 2) _ (K (U xI) 2 rfl)
   have e3:=CL (Q w.heap.size 3) _ (K (U xI) 3 rfl)
   have e4:=CL (Q w.heap.size 4) _ (K (U xI) 4 rfl)
   have e5:=CL (Q w.heap.size 5) _ (K (U xI) 5 rfl)
   have e6:=CL (Q w.heap.size 6) _ (K (U xI) 6 rfl)
   have e7:=CL (Q w.heap.size 7) _ (K (U xI) 7 rfl)
   have e8:=CL (Q w.heap.size 8) _ (K (U xI) 8 rfl)
   clear D R uc xm nw CL
   rw [if_pos (by rfl)];unfold Oper.wp;go_simp
   exact ⟨upd f 6 (.agg (yy ck A ct F cq ci O cg).toArray),by simp [upd,g5],zD (U xu) 6 _ ⟨yj rfl,trivial⟩ (by decide)⟩
  | 7,Z =>
   obtain rfl:=yc Z
   have g4:=(R.c 4 (yf D 4 rfl)).1 _ rfl
   have g6:=(R.c 6 (yf D 6 rfl)).1 _ rfl
   have CL:=xm (by omega)
   have hw:=nw (by omega)
   clear D R uc xm nw CL
   rw [if_pos (by rfl)];unfold Oper.wp;go_simp
   refine (U az hj).mono ?_
   rintro e w4 ⟨rfl,xy⟩
   exact ⟨upd f 7 (.agg (yx g.nx A tp cq F cg).toArray),by simp [upd,g4,g6],zD (cJ (U xu) hw xy) 7 _ ⟨yj rfl,trivial⟩ (by decide)⟩
  | 8,Z =>
   obtain rfl:=yc Z
   have g0:=(R.c 0 (yf D 0 rfl)).1 _ rfl
   have CL:=xm (by omega)
   clear D R uc xm nw CL
   rw [if_pos (by rfl)];unfold Oper.wp;go_simp
   exact ⟨upd f 8 (J cp 0),by simp [upd,g0],zD (U xu) 8 _ ⟨yj rfl,trivial⟩ (by decide)⟩
  | 9,Z =>
   obtain rfl:=yc Z
   have g8:=(R.c 8 (yf D 8 rfl)).1 _ rfl
   have CL:=xm (by omega)
   clear D R uc xm nw CL
   rw [if_pos (by rfl)];unfold Oper.wp;go_simp
   exact ⟨upd f 9 (J cp 2),by simp [upd,g8],zD (U xu) 9 _ ⟨yj rfl,trivial⟩ (by decide)⟩
  | 10,Z =>
   obtain rfl:=yc Z
   have g9:=(R.c 9 (yf D 9 rfl)).1 _ rfl
   have g7:=(R.c 7 (yf D 7 rfl)).1 _ rfl
   have vI:=H (zv (U xR) (R.b xr))
   have z2:=K (U vI).box 2 rfl
   have q2:=zd (U vI).box 2 (by show 2 < 13; decide)
   have z3:=K (U vI).box 3 rfl
   have q3:=zd (U vI).box 3 (by show 3 < 13; decide)
   have z4:=K (U vI).box 4 rfl
   have q4:=zd (U vI).box 4 (by show 4 < 13; decide)
   have z5:=K (U vI).box 5 rfl
   have q5:=zd (U vI).box 5 (by show 5 < 13; decide)
   have z6:=K (U vI).box 6 rfl
   have q6:=zd (U vI).box 6 (by show 6 < 13; decide)
   have z7:=K (U vI).box 7 rfl
   have q7:=zd (U vI).box 7 (by show 7 < 13; decide)
   clear D R uc xm nw
   rw [if_pos (by rfl)];unfold Oper.wp;go_simp
   exact ⟨f,by simp [g9,g7],rw_last (T:=fun hj=>World.setCells hj cp 2 (yx g.nx A tp cq F cg)) (U xu) xr (fun j V hx=>⟨fun u hu=>(by subst V; cases hu),trivial⟩)⟩
  | i + 11,Z=>simp at Z
theorem rd_gr {W W':World} {l:List Od} {v:Value} {b:Nat} (h:RdR Od.vs 6 W v l) (hg:W.grownBy W' (some b)) (hn:l ≠ []→∀ b' off n c,v = .slice (some (Q b' off)) n c→b' ≠ b):RdR Od.vs 6 W' v l:=by
 obtain ⟨a,cap,rfl,hl,hc⟩:=h
 refine ⟨a,cap,rfl,hl,fun xD=>?_⟩
 obtain ⟨b',off,rfl,E,X⟩:=hc xD
 have kc:=hg.block b' E (by simpa using hn xD b' off _ _ rfl)
 refine ⟨b',off,rfl,yK E hg.size,fun j c V i u hi=>?_⟩
 rw [yR (a:=(Q b' (off + j * 6 + i))) kc]
 exact X j c V i u hi
theorem ms_rowset {cp B gb:Nat} {W W':World} {vl vd va:Value} {g:Gr} {t:Od} {kd n0:Int} {dy l0 l':List Od} (h:MS cp B W vl vd va { g with bg:=7 } t kd n0 dy l0) (hv:vl.ownBlock = some gb) (Z:ORow W' B vl l') (hg:W.grownBy W' (some gb)) (hdy:dy = []) (hB:B ≤ gb):MS cp B W' vl vd va { g with l:=l',bg:=7 } t kd n0 dy l0:=by
 have nO:some cp ≠ some gb:=by rw [← hv]; exact h.nl
 subst hdy
 obtain ⟨xF,hc⟩:=h.typ
 refine ⟨aO h.box (hg.block cp h.lt nO),Z,rd_gr h.days hg (fun xD=>absurd rfl xD),rd_gr h.ahd hg (fun xD b' off n c e=>by have:=h.na xD b' off n c e; omega),h.sla,⟨xF,(hg.block cp h.lt nO).trans hc⟩,h.hO,fun h9=>absurd (show (7:Int) = 0 from h9) (by decide),fun xD=>absurd rfl xD,h.na⟩
theorem take_7 {cp B:Nat} {vl vd va:Value} {g:Gr} {t:Od} {kd n0:Int} {dy l0:List Od} (ck A ct F cq ci:Int) (O:Nat) (cg:ByteArray) (id xj qty xk xi:Int) (w:World) (h:MS cp B w vl vd va g t kd n0 dy l0) (hi:GI g) (hm:MR g t kd dy) (he:okE ⟨7,⟨ck,A,ct,F,cq,ci,O,cg⟩,id,xj,qty,xk,xi⟩ = true) (hr:zF g ⟨7,⟨ck,A,ct,F,cq,ci,O,cg⟩,id,xj,qty,xk,xi⟩ = 0):Calls Tryz.prog 52 #[J cp 0,.agg (yw 7 ck A ct F cq ci O cg id xj qty xk xi).toArray] w fun x w'=>TakE cp B va n0 l0 g t kd dy ⟨7,⟨ck,A,ct,F,cq,ci,O,cg⟩,id,xj,qty,xk,xi⟩ w x w':=by
 have hsf:=sfl
 have hO:=h.lt
 have vW:=h.base
 have qF:Hid (∀ w' vT vh,Below B w w'→MS cp B w' vT vh va (aM g ⟨7,⟨ck,A,ct,F,cq,ci,O,cg⟩,id,xj,qty,xk,xi⟩) (tkM g t ⟨7,⟨ck,A,ct,F,cq,ci,O,cg⟩,id,xj,qty,xk,xi⟩) (kdM kd ⟨7,⟨ck,A,ct,F,cq,ci,O,cg⟩,id,xj,qty,xk,xi⟩) n0 (dyM g dy ⟨7,⟨ck,A,ct,F,cq,ci,O,cg⟩,id,xj,qty,xk,xi⟩) l0→TakE cp B va n0 l0 g t kd dy ⟨7,⟨ck,A,ct,F,cq,ci,O,cg⟩,id,xj,qty,xk,xi⟩ w (.returned (.tuple #[])) w'):=fun w' vT vh N Y=>⟨rfl,N,vT,vh,Y⟩
 obtain ⟨h0,k,o,uM,uX,-,-,-⟩:=rule7 (e:=⟨7,⟨ck,A,ct,F,cq,ci,O,cg⟩,id,xj,qty,xk,xi⟩) rfl hr
 simp only at uM
 have hdy:dy = []:=by rw [hm.dy,if_neg (by omega)]
 have ug:Hid (aM g ⟨7,⟨ck,A,ct,F,cq,ci,O,cg⟩,id,xj,qty,xk,xi⟩ = { g with l:=g.l.set k { o with left:=qty },bg:=7 }):=by show _ = _; rw [step7 rfl]; simp only [begG,if_pos h0,setI_at uM uX]
 have ux:Hid (tkM g t ⟨7,⟨ck,A,ct,F,cq,ci,O,cg⟩,id,xj,qty,xk,xi⟩ = t∧kdM kd ⟨7,⟨ck,A,ct,F,cq,ci,O,cg⟩,id,xj,qty,xk,xi⟩ = kd∧dyM g dy ⟨7,⟨ck,A,ct,F,cq,ci,O,cg⟩,id,xj,qty,xk,xi⟩ = dy):=⟨rfl,rfl,rfl⟩
 have xD:g.l ≠ []:=by intro h; rw [h] at uX; simp at uX
 have oW:=(yH.1 uX).1
 obtain ⟨gb,cap,rfl,uq,hBg,hgw⟩:=cB h.row xD
 have jh:=hi.len
 have HDY:=H hdy
 have jr:=H uM
 have oA:=H uX
 have hkl':(k:Int) < g.l.length:=by omega
 have pw:(0:Int) ≤ k:=by omega
 clear h0 uM uX xD hdy
 generalize TakE cp B va n0 l0 g t kd dy ⟨7,⟨ck,A,ct,F,cq,ci,O,cg⟩,id,xj,qty,xk,xi⟩ w = C at qF ⊢
 obtain ⟨xz,HX⟩:=fE w (yw 7 ck A ct F cq ci O cg id xj qty xk xi) 52
 have HM:=H (zv h xz)
 have HB:=H (xz.mono vW)
 clear h xz hi hm he hr
 go_enter Tryz.func52,Tryz.ntmps52
 refine fD fun zb HK=>?_
 go_wp2_with fail
 refine U HK _ _ ?_
 clear HK
 generalize (w.alloc (L (yw 7 ck A ct F cq ci O cg id xj qty xk xi).toArray 52)) = W1 at HX HM HB ⊢
 have c9:=K (U HM).box 9 rfl
 have q9:=zd (U HM).box 9 (by show 9 < 13; decide)
 have xw:Hid (Below B w (World.setCells W1 cp 9 [.bool true])):=zL (U HB) yb (U HM) 9 _
 have xR:Hid (MS cp B (World.setCells W1 cp 9 [.bool true]) (.slice (some (Q gb 0)) g.l.length cap) vd va { g with bg:=7 } t kd n0 dy l0):=bK (U HM) 9 [.bool true] (by simp) rfl rfl (fun h=>absurd (show (7:Int) = 0 from h) (by decide))
 have xI:Hid (Bx (World.setCells W1 cp 9 [.bool true]) w.heap.size (yw 7 ck A ct F cq ci O cg id xj qty xk xi)):=aO (U HX) (bA cp w.heap.size (by omega) _ 9 W1)
 clear HX HM HB
 refine fD fun zb HK=>?_
 go_wp2_with fail
 refine U HK _ _ ?_
 clear HK
 change Code.wp _ _ _ _ (World.setCells W1 cp 9 [.bool true])
 generalize World.setCells W1 cp 9 [.bool true] = xo at xw xR xI ⊢
 have hSX:w.heap.size < xo.heap.size:=yL _ _ (K (U xI) 0 rfl)
 have uN:Hid (RdR Od.vs 6 xo (.slice (some (Q gb 0)) g.l.length cap) g.l):=zK (U xR).row (yO jh (by decide))
 have e0:=K (U xI) 0 rfl
 clear c9 q9
 go_wp2_with fail
 refine zm (RWA (fun f=>{ tmps:=#[J cp 0,.agg (yw 7 ck A ct F cq ci O cg id xj qty xk xi).toArray,M,J w.heap.size 0,M,J cp 0,J cp 0,J cp 9,J w.heap.size 0,I 7,.bool false,.bool false,M,M,M,M,M,M,M,M,M,M,M,M,M,M,M,M,M,M,M,M,M,M,M,.bool false,.bool false,M,M,M,M,M,M,M,M,M,M,M,M,M,M,M,M,M,M,M,M,M,M,M,M,M,M,.bool false,.bool false,M,M,M,M,M,M,M,M,M,M,M,M,M,M,M,M,M,M,M,.bool false,.bool false,M,M,M,M,.bool false,.bool false,M,M,M,M,M,M,M,M,M,M,M,M,M,M,M,.bool true,.bool true,f 0,f 1,f 2,f 3,f 4,f 5,f 6,f 7,f 8,f 9,f 10,f 11,f 12,f 13,f 14,M,M,M,M,M,M,M,M,M,M,M,M,M,M,M,M,M,M,M,M,M,M,M,M,M,M,M,M,M,M,M,M,M,M,M,M,M,M,M,M,M,M,M,M,M,M,M,M,M,M,M,M,M,M,M,M,M,M,M,M,M],defers:=[] }) (CVw [some (J cp 0),some (J cp 0),some (J cp 1),some (.slice (some (Q gb 0)) g.l.length cap),some (J cp 0),some (J cp 0),some (J cp 1),some (.slice (some (Q gb 0)) g.l.length cap),some (J w.heap.size 9),some (I id),some (I k),some (J w.heap.size 11),some (I qty),some (J gb (k * 6)),some (J gb (k * 6 + 3)),none] (fun _=>True)) 15 (fun hj=>hj.setCell (Q gb (k * 6 + 3)) (I qty)) xo) (by kernel_rfl) ?_ ?_ ?_
 ·exact ⟨fun _=>M,rfl,⟨fun j V=>by rw [yJ] at V; split at V <;> simp at V,fun _=>⟨rfl,rfl,rfl,Nat.le_refl _,fun _ _=>rfl⟩,fun V=>by rw [yJ] at V; split at V <;> simp at V⟩⟩
 ·rintro x cs hj ⟨f,rfl,R⟩ hx xO
  have xq:=zN xO hx (acyc _ (by kernel_rfl))
  obtain ⟨V0,xz,eV⟩:=R.m (xq 15 (by simp))
  have qd:=H (zv (U xR) xz)
  have xH:=H ((U xw).trans (xz.mono (U xR).base))
  clear R xq xO hx xz
  subst eV
  dsimp only
  generalize f 0 = v0,f 1 = v1,f 2 = v2,f 3 = v3,f 4 = v4,f 5 = v5,f 6 = v6,f 7 = v7,f 8 = v8,f 9 = v9,f 10 = v10,f 11 = v11,f 12 = v12,f 13 = v13,f 14 = v14
  go_end0
  have HL:=oRow_left (U qd).row rfl (U oA) qty
  refine U qF _ (.slice (some (Q gb 0)) g.l.length cap) vd (below_tookR (U xH) HL.2 hBg vW) ?_
  rw [U ug,(U ux).1,(U ux).2.1,(U ux).2.2]
  exact ms_rowset (U qd) rfl HL.1 HL.2 (U HDY) hBg
 ·rintro x cs hj i op ⟨f,rfl,R⟩ X hx Z xr D
  have xu:=H R
  have nw:i < 15→x[15]? = some false:=fun xJ=>by
   rcases br hx (show 15 < 16 by omega) with hq | hw
   ·exact hq
   ·exfalso
    have h0:=yh X 15 rfl hw 0 rfl
    have N:=yh X 15 rfl hw 1 rfl
    have Y:=yh X 15 rfl hw 2 rfl
    have h3:=yh X 15 rfl hw 3 rfl
    have h4:=yh X 15 rfl hw 4 rfl
    have h5:=yh X 15 rfl hw 5 rfl
    have h6:=yh X 15 rfl hw 6 rfl
    have h7:=yh X 15 rfl hw 7 rfl
    have h8:=yh X 15 rfl hw 8 rfl
    have h9:=yh X 15 rfl hw 9 rfl
    have uV:=yh X 15 rfl hw 10 rfl
    have uR:=yh X 15 rfl hw 11 rfl
    have uK:=yh X 15 rfl hw 12 rfl
    have oD:=yh X 15 rfl hw 14 rfl
    have jN:=yh X 14 rfl oD 13 rfl
    rcases (by omega:i = 0 ∨ i = 1 ∨ i = 2 ∨ i = 3 ∨ i = 4 ∨ i = 5 ∨ i = 6 ∨ i = 7 ∨ i = 8 ∨ i = 9 ∨ i = 10 ∨ i = 11 ∨ i = 12 ∨ i = 13 ∨ i = 14) with rfl | rfl | rfl | rfl | rfl | rfl | rfl | rfl | rfl | rfl | rfl | rfl | rfl | rfl | rfl
    ·exact absurd (h0.symm.trans xr) (by simp)
    ·exact absurd (N.symm.trans xr) (by simp)
    ·exact absurd (Y.symm.trans xr) (by simp)
    ·exact absurd (h3.symm.trans xr) (by simp)
    ·exact absurd (h4.symm.trans xr) (by simp)
    ·exact absurd (h5.symm.trans xr) (by simp)
    ·exact absurd (h6.symm.trans xr) (by simp)
    ·exact absurd (h7.symm.trans xr) (by simp)
    ·exact absurd (h8.symm.trans xr) (by simp)
    ·exact absurd (h9.symm.trans xr) (by simp)
    ·exact absurd (uV.symm.trans xr) (by simp)
    ·exact absurd (uR.symm.trans xr) (by simp)
    ·exact absurd (uK.symm.trans xr) (by simp)
    ·exact absurd (jN.symm.trans xr) (by simp)
    ·exact absurd (oD.symm.trans xr) (by simp)
  have uc:i < 15→yp xo hj:=fun h=>R.b (nw h)
  have xm:i < 15→∀ (p:Addr) u,xo.cell? p = some u→hj.cell? p = some u:=fun h p u hu=>((uc h).cell (yL xo _ hu)).trans hu
  match i,Z with
  | 0,Z | 4,Z =>
   obtain rfl:=yc Z
   have CL:=xm (by omega)
   clear D R uc xm nw CL
   rw [if_pos (by rfl)];unfold Oper.wp;go_simp
   exact ⟨upd f _ (J cp 0),by simp [upd],zD (U xu) _ _ ⟨yj rfl,trivial⟩ (by decide)⟩
  | 1,Z =>
   obtain rfl:=yc Z
   have g0:=(R.c 0 (yf D 0 rfl)).1 _ rfl
   have CL:=xm (by omega)
   clear D R uc xm nw CL
   rw [if_pos (by rfl)];unfold Oper.wp;go_simp
   exact ⟨upd f 1 (J cp 0),by simp [upd,g0],zD (U xu) 1 _ ⟨yj rfl,trivial⟩ (by decide)⟩
  | 2,Z =>
   obtain rfl:=yc Z
   have g1:=(R.c 1 (yf D 1 rfl)).1 _ rfl
   have CL:=xm (by omega)
   clear D R uc xm nw CL
   rw [if_pos (by rfl)];unfold Oper.wp;go_simp
   exact ⟨upd f 2 (J cp 1),by simp [upd,g1],zD (U xu) 2 _ ⟨yj rfl,trivial⟩ (by decide)⟩
  | 3,Z =>
   obtain rfl:=yc Z
   have g2:=(R.c 2 (yf D 2 rfl)).1 _ rfl
   have CL:=xm (by omega)
   have z:=CL (Q cp 1) _ (K (U xR).box 1 rfl)
   clear D R uc xm nw CL
   rw [if_pos (by rfl)];unfold Oper.wp;go_simp
   exact ⟨upd f 3 (.slice (some (Q gb 0)) g.l.length cap),by simp [upd,g2],zD (U xu) 3 _ ⟨yj rfl,trivial⟩ (by decide)⟩
  | 5,Z =>
   obtain rfl:=yc Z
   have g4:=(R.c 4 (yf D 4 rfl)).1 _ rfl
   have CL:=xm (by omega)
   clear D R uc xm nw CL
   rw [if_pos (by rfl)];unfold Oper.wp;go_simp
   exact ⟨upd f 5 (J cp 0),by simp [upd,g4],zD (U xu) 5 _ ⟨yj rfl,trivial⟩ (by decide)⟩
  | 6,Z =>
   obtain rfl:=yc Z
   have g5:=(R.c 5 (yf D 5 rfl)).1 _ rfl
   have CL:=xm (by omega)
   clear D R uc xm nw CL
   rw [if_pos (by rfl)];unfold Oper.wp;go_simp
   exact ⟨upd f 6 (J cp 1),by simp [upd,g5],zD (U xu) 6 _ ⟨yj rfl,trivial⟩ (by decide)⟩
  | 7,Z =>
   obtain rfl:=yc Z
   have g6:=(R.c 6 (yf D 6 rfl)).1 _ rfl
   have CL:=xm (by omega)
   have z:=CL (Q cp 1) _ (K (U xR).box 1 rfl)
   clear D R uc xm nw CL
   rw [if_pos (by rfl)];unfold Oper.wp;go_simp
   exact ⟨upd f 7 (.slice (some (Q gb 0)) g.l.length cap),by simp [upd,g6],zD (U xu) 7 _ ⟨yj rfl,trivial⟩ (by decide)⟩
  | 8,Z =>
   obtain rfl:=yc Z
   have CL:=xm (by omega)
   clear D R uc xm nw CL
   rw [if_pos (by rfl)];unfold Oper.wp;go_simp
   exact ⟨upd f 8 (J w.heap.size 9),by simp [upd],zD (U xu) 8 _ ⟨yj rfl,trivial⟩ (by decide)⟩
  | 9,Z =>
   obtain rfl:=yc Z
   have g8:=(R.c 8 (yf D 8 rfl)).1 _ rfl
   have CL:=xm (by omega)
   have z:=CL (Q w.heap.size 9) _ (K (U xI) 9 rfl)
   clear D R uc xm nw CL
   rw [if_pos (by rfl)];unfold Oper.wp;go_simp
   exact ⟨upd f 9 (I id),by simp [upd,g8],zD (U xu) 9 _ ⟨yj rfl,trivial⟩ (by decide)⟩
  | 10,Z =>
   obtain rfl:=yc Z
   have g7:=(R.c 7 (yf D 7 rfl)).1 _ rfl
   have g9:=(R.c 9 (yf D 9 rfl)).1 _ rfl
   have CL:=xm (by omega)
   have hw:=nw (by omega)
   have qC:=H (zh (U uN) (uc (by omega)) yb)
   clear D R uc xm nw CL
   rw [if_pos (by rfl)];unfold Oper.wp;go_simp
   refine (cX _ g.l id hj (U qC)).mono ?_
   rw [U jr]
   rintro e w4 ⟨rfl,xy⟩
   exact ⟨upd f 10 (I k),by simp [upd,g7,g9],zD (cJ (U xu) hw xy) 10 _ ⟨yj rfl,trivial⟩ (by decide)⟩
  | 11,Z =>
   obtain rfl:=yc Z
   have CL:=xm (by omega)
   clear D R uc xm nw CL
   rw [if_pos (by rfl)];unfold Oper.wp;go_simp
   exact ⟨upd f 11 (J w.heap.size 11),by simp [upd],zD (U xu) 11 _ ⟨yj rfl,trivial⟩ (by decide)⟩
  | 12,Z =>
   obtain rfl:=yc Z
   have vE:=(R.c 11 (yf D 11 rfl)).1 _ rfl
   have CL:=xm (by omega)
   have z:=CL (Q w.heap.size 11) _ (K (U xI) 11 rfl)
   clear D R uc xm nw CL
   rw [if_pos (by rfl)];unfold Oper.wp;go_simp
   exact ⟨upd f 12 (I qty),by simp [upd,vE],zD (U xu) 12 _ ⟨yj rfl,trivial⟩ (by decide)⟩
  | 13,Z =>
   obtain rfl:=yc Z
   have g3:=(R.c 3 (yf D 3 rfl)).1 _ rfl
   have qn:=(R.c 10 (yf D 10 rfl)).1 _ rfl
   have CL:=xm (by omega)
   clear D R uc xm nw CL
   rw [if_pos (by rfl)];unfold Oper.wp;go_simp
   exact ⟨upd f 13 (J gb (k * 6)),by simp [upd,g3,qn],zD (U xu) 13 _ ⟨yj rfl,trivial⟩ (by decide)⟩
  | 14,Z =>
   obtain rfl:=yc Z
   have qI:=(R.c 13 (yf D 13 rfl)).1 _ rfl
   have CL:=xm (by omega)
   clear D R uc xm nw CL
   rw [if_pos (by rfl)];unfold Oper.wp;go_simp
   exact ⟨upd f 14 (J gb (k * 6 + 3)),by simp [upd,qI],zD (U xu) 14 _ ⟨yj rfl,trivial⟩ (by decide)⟩
  | 15,Z =>
   obtain rfl:=yc Z
   have je:=(R.c 14 (yf D 14 rfl)).1 _ rfl
   have ua:=(R.c 12 (yf D 12 rfl)).1 _ rfl
   have vI:=H (zv (U xR) (R.b xr))
   obtain ⟨zz,qq⟩:=row_here (U vI).row (yO jh (by decide)) (U oA)
   have z3:=zz 3 _ rfl
   have q3:=qq 3 (by omega)
   clear zz qq
   clear D R uc xm nw
   rw [if_pos (by rfl)];unfold Oper.wp;go_simp
   exact ⟨f,by simp [je,ua],rw_last (T:=fun hj=>hj.setCell (Q gb (k * 6 + 3)) (I qty)) (U xu) xr (fun j V hx=>⟨fun u hu=>(by subst V; cases hu),trivial⟩)⟩
  | i + 16,Z=>simp at Z
def C7o (b off n cap i:Nat):Nat→Value→Prop
 | 1,v=>v = .slice (some (Q b off)) n cap
 | 2,v=>v = I i
 | 3,v=>v = .slice (some (Q b off)) i cap
 | 5,v=>v = .slice (some (Q b off)) n cap
 | 6,v=>v = I i
 | 7,v=>v = I ((i:Int) + 1)
 | 8,v=>∃ ad c,v = .slice (some ad) (n - (i + 1)) c∧(i + 1 < n→ad = (Q b (off + (i + 1) * 6)))
 | _,_=>True
theorem l04Drop_any (b off cap:Nat) (l:List Od) (i:Nat) (w:World) (hc:∀ j c,l[j]? = some c→w.rangeAt b (off + j * 6) c.vs) (E:b < w.heap.size) (hil:i < l.length) (uq:l.length ≤ cap) (hn:l.length ≤ 1000) :
  Calls Tryz.prog 79 #[.slice (some (Q b off)) l.length cap,I i] w fun e w'=>∃ v',e = .returned v'∧ORow w' w.heap.size v' (l.take i ++ l.drop (i + 1))∧yp w w':=by
 obtain ⟨i0,vA,uH,uI,uW⟩:=info_parts Tryz.infoOrder
 have HC:=H hc
 clear hc
 have hicp:i ≤ cap:=by omega
 have hi1:i + 1 ≤ l.length:=by omega
 have hi1':(i:Int) + 1 ≤ l.length:=by omega
 have qa:(i:Int) < l.length:=by omega
 have hige:(0:Int) ≤ i:=by omega
 have hlcp:(l.length:Int) ≤ cap:=by omega
 have h0i:(0:Int) ≤ (i:Int) + 1:=by omega
 go_enter Tryz.func79,Tryz.ntmps79
 go_wp2_with fail
 refine dI (R7A (.slice none 0 0) w (C7o b off l.length cap i) (l.take i) (l.take i ++ l.drop (i + 1)) (fun f=>{ tmps:=#[.slice (some (Q b off)) l.length cap,I i,M,M,f 10,f 0,f 1,f 2,f 3,f 4,f 5,f 6,f 7,f 8,f 9],defers:=[] })) (by kernel_rfl) ?_ ?_ ?_
 ·exact ⟨fun j=>if j = 10 then .slice none 0 0 else M,rfl,⟨⟨rfl,rfl,rfl,Nat.le_refl _,fun _ _=>rfl⟩,fun j V=>by rw [yJ] at V; split at V <;> simp at V,fun _=>rfl,by simp,by simp,by simp,by simp,by simp,by simp,by simp⟩⟩
 ·rintro x cs hj ⟨f,rfl,R⟩ hx xO
  have xq:=zN xO hx (acyc _ (by kernel_rfl))
  have k9:x[9]? = some true:=xq 9 (by simp)
  have k10:x[10]? = some true:=xq 10 (by simp)
  have HO9:=H (R.m9 k9)
  have uO:f 10 = f 9:=R.m10 k10
  have xE:=H R.bel
  simp only [uO]
  generalize f 9 = v9 at HO9 ⊢
  clear R xq k9 k10 uO xO hx
  go_wp2_with fail
  go_ret
  exact ⟨_,rfl,U HO9,U xE⟩
 ·rintro x cs hj i' o' ⟨f,rfl,R⟩ hx Z xr D
  have qE:=H R
  match i',Z with
  | 0,Z =>
   obtain rfl:=yc Z
   clear R D
   rw [if_pos (by rfl)];unfold Oper.wp;go_simp
   exact ⟨upd f 0 (.slice (some (Q hj.heap.size 0)) 0 0),by simp [upd],r7_0 (U qE) xr (fun _=>trivial)⟩
  | 1,Z =>
   obtain rfl:=yc Z
   clear R D
   rw [if_pos (by rfl)];unfold Oper.wp;go_simp
   exact ⟨upd f 1 (.slice (some (Q b off)) l.length cap),by simp [upd],bH (U qE) 1 _ rfl (by decide) (by decide) (by decide) (by decide)⟩
  | 2,Z =>
   obtain rfl:=yc Z
   clear R D
   rw [if_pos (by rfl)];unfold Oper.wp;go_simp
   exact ⟨upd f 2 (I i),by simp [upd],bH (U qE) 2 _ rfl (by decide) (by decide) (by decide) (by decide)⟩
  | 3,Z =>
   obtain rfl:=yc Z
   have g1:C7o b off l.length cap i 1 (f 1):=R.c 1 (yf D 1 rfl)
   have g2:C7o b off l.length cap i 2 (f 2):=R.c 2 (yf D 2 rfl)
   simp only [C7o] at g1 g2
   clear R D
   rw [if_pos (by rfl)];unfold Oper.wp;go_simp
   exact ⟨upd f 3 (.slice (some (Q b off)) i cap),by simp [upd,g1,g2],bH (U qE) 3 _ rfl (by decide) (by decide) (by decide) (by decide)⟩
  | 4,Z =>
   obtain rfl:=yc Z
   have g3:C7o b off l.length cap i 3 (f 3):=R.c 3 (yf D 3 rfl)
   have k0:x[0]? = some true:=D ⟨0,.data⟩ (by simp) rfl
   have HCV:Hid (∀ j c,l[j]? = some c→hj.rangeAt b (off + j * 6) c.vs):=fun j c V=>zc (U HC j c V) R.bel E
   simp only [C7o] at g3
   clear R D
   rw [if_pos (by rfl)]
   refine wp_append_own hj (.tmp 5) (.tmp 8) 32 rfl w.heap.size 78 i0 _ 6 56 Tryz.underlying32 vA uH uI uW rfl (by decide) (f 0) 0 [] rfl ((U qE).m0 k0 xr) (Q b off) i cap ((l.take i).flatMap Od.vs) g3 (by rw [zZ Od.len,List.length_take]; congr 1; omega) (by simpa using dv (W:=hj) (g:=b) (off:=off) (l:=l) (U HCV) 0 i) (bZ _) (by unfold maxLen; omega) (by omega) (U qE).bel.size ?_
   intro v' w' xS vG _
   refine ⟨upd f 4 v',rfl,r7_4 (U qE) k0 xr (fun _=>trivial) ?_ vG⟩
   have xA:(l.take i).length = 0 + i:=by rw [List.length_take]; omega
   show w'.ownsRow _ _ _ _ (l.take i).length _
   rw [xA]; simpa using xS
  | 5,Z =>
   obtain rfl:=yc Z
   clear R D
   rw [if_pos (by rfl)];unfold Oper.wp;go_simp
   exact ⟨upd f 5 (.slice (some (Q b off)) l.length cap),by simp [upd],bH (U qE) 5 _ rfl (by decide) (by decide) (by decide) (by decide)⟩
  | 6,Z =>
   obtain rfl:=yc Z
   clear R D
   rw [if_pos (by rfl)];unfold Oper.wp;go_simp
   exact ⟨upd f 6 (I i),by simp [upd],bH (U qE) 6 _ rfl (by decide) (by decide) (by decide) (by decide)⟩
  | 7,Z =>
   obtain rfl:=yc Z
   have g6:C7o b off l.length cap i 6 (f 6):=R.c 6 (yf D 6 rfl)
   simp only [C7o] at g6
   have hwr:IntKind.i64.wrap ((i:Int) + 1) = (i:Int) + 1:=by rw [IntKind.wrap_i64]; omega
   clear R D
   rw [if_pos (by rfl)];unfold Oper.wp;go_simp
   exact ⟨upd f 7 (I ((i:Int) + 1)),by simp [upd,g6],bH (U qE) 7 _ rfl (by decide) (by decide) (by decide) (by decide)⟩
  | 8,Z =>
   obtain rfl:=yc Z
   have g5:C7o b off l.length cap i 5 (f 5):=R.c 5 (yf D 5 rfl)
   have g7:C7o b off l.length cap i 7 (f 7):=R.c 7 (yf D 7 rfl)
   simp only [C7o] at g5 g7
   clear R D
   by_cases hcp:cap = i + 1
   ·subst hcp
    rw [if_pos (by rfl)];unfold Oper.wp;go_simp
    exact ⟨upd f 8 (.slice (some (Q b off)) (l.length - (i + 1)) 0),by simp [upd,g5,g7]; omega,bH (U qE) 8 _ ⟨_,_,rfl,fun h=>by omega⟩ (by decide) (by decide) (by decide) (by decide)⟩
   ·rw [if_pos (by rfl)];unfold Oper.wp;go_simp
    exact ⟨upd f 8 (.slice (some (Q b (off + (i + 1) * 6))) (l.length - (i + 1)) (cap - (i + 1))),by simp [upd,g5,g7],bH (U qE) 8 _ ⟨_,_,rfl,fun h=>rfl⟩ (by decide) (by decide) (by decide) (by decide)⟩
  | 9,Z =>
   obtain rfl:=yc Z
   have g8:C7o b off l.length cap i 8 (f 8):=R.c 8 (yf D 8 rfl)
   have k4:x[4]? = some true:=D ⟨4,.data⟩ (by simp) rfl
   have HCV:Hid (∀ j c,l[j]? = some c→hj.rangeAt b (off + j * 6) c.vs):=fun j c V=>zc (U HC j c V) R.bel E
   obtain ⟨ad8,c8,g8,had⟩:=g8
   clear R D
   have hsrc8:∀ j u,((l.drop (i + 1)).flatMap Od.vs)[j]? = some u→hj.cell? (ad8.add j) = some u:=by
    intro j u hu
    by_cases xJ:i + 1 < l.length
    ·rw [had xJ]
     have:=dv (W:=hj) (g:=b) (off:=off) (l:=l) (U HCV) (i + 1) (l.length - (i + 1)) j u (by rw [xa (by simp)]; exact hu)
     simpa using this
    ·rw [xb (by omega)] at hu; simp at hu
   rw [if_pos (by rfl)]
   refine wp_append_own hj (.tmp 9) (.tmp 13) 32 rfl w.heap.size 78 i0 _ 6 56 Tryz.underlying32 vA uH uI uW rfl (by decide) (f 4) (l.take i).length ((l.take i).flatMap Od.vs) rfl ((U qE).m4 k4 xr) ad8 (l.length - (i + 1)) c8 ((l.drop (i + 1)).flatMap Od.vs) g8 (by rw [zZ Od.len,List.length_drop]) hsrc8 (bZ _) (by unfold maxLen; rw [List.length_take]; omega) (by rw [List.length_take]; omega) (U qE).bel.size ?_
   intro v' w' xS vG _
   refine ⟨upd f 9 v',rfl,r7_9 (U qE) k4 xr (fun _=>trivial) ?_ vG⟩
   show w'.ownsRow _ _ _ _ (l.take i ++ l.drop (i + 1)).length _
   rw [yQ,List.length_drop,List.flatMap_append]
   exact xS
  | 10,Z =>
   obtain rfl:=yc Z
   have hA:∀ j,j < 10→x[j]? = some true:=fun j V=>D ⟨j,.phase⟩ (by
    match j,V with
    | 0,_=>simp
    | 1,_=>simp
    | 2,_=>simp
    | 3,_=>simp
    | 4,_=>simp
    | 5,_=>simp
    | 6,_=>simp
    | 7,_=>simp
    | 8,_=>simp
    | 9,_=>simp
    | n + 10,h=>omega) rfl
   clear R D
   rw [if_pos (by rfl)];unfold Oper.wp;go_simp
   exact ⟨upd f 10 (f 9),by simp [upd],r7_10 (U qE) hA xr (fun _=>trivial)⟩
  | n + 11,Z=>simp at Z
def App (B:Nat) (base:World) (vq:Value) (l:List Od) (W:World) (v:Value):Prop:=ORow W B v l∧base.grownBy W vq.ownBlock
structure RA (C:Nat→Value→Prop) (n m:Nat) (p:Addr) (cs:World→Value→Prop) (base:World) (x:List Bool) (f:Nat→Value) (W:World):Prop where
 c:∀ j,x[j]? = some true→C j (f j)
 b:x[n]? = some false→Below base.heap.size base W
 a:x[n]? = some true→x[m]? = some false→cs W (f n)
 z:x[m]? = some true→∃ W0,cs W0 (f n)∧W = W0.setCell p (f n)
def RAA (cl:(Nat→Value)→Act) (C:Nat→Value→Prop) (n m:Nat) (p:Addr) (cs:World→Value→Prop) (base:World) (x:List Bool) (a:Act) (W:World):Prop:=∃ f,a = cl f∧RA C n m p cs base x f W
section
variable {C:Nat→Value→Prop} {n m:Nat} {p:Addr} {cs:World→Value→Prop} {base W W':World} {x:List Bool} {f:Nat→Value}
theorem zX (h:RA C n m p cs base x f W) (i:Nat) (v:Value) (hv:C i v) (hn:i ≠ n) (hm:i ≠ m):RA C n m p cs base (x.set i true) (upd f i v) W:=by
 refine ⟨zC h.c hv,?_,?_,?_⟩
 ·rw [gq hn]; exact h.b
 ·rw [gq hn,gq hm,zk _ _ (Ne.symm hn)]; exact h.a
 ·rw [gq hm,zk _ _ (Ne.symm hn)]; exact h.z
theorem ra_grow (h:RA C n m p cs base x f W) (hn:x[n]? = some false) (hm:x[m]? = some false) (E:yp W W'):RA C n m p cs base x f W' :=
 ⟨h.c,fun e=>(h.b e).trans (E.mono (h.b e).size),fun e=>(by rw [hn] at e; cases e),fun e=>(by rw [hm] at e; cases e)⟩
theorem ra_app (h:RA C n m p cs base x f W) (hn:x[n]? = some false) (hm:x[m]? = some false) (hnm:n ≠ m) {v:Value} (hv:C n v) (ha:cs W' v):RA C n m p cs base (x.set n true) (upd f n v) W':=by
 refine ⟨zC h.c hv,?_,?_,?_⟩
 ·intro e; rw [gqs hn] at e; cases e
 ·intro _ _; rw [zr]; exact ha
 ·intro e; rw [gq hnm,hm] at e; cases e
theorem ra_store (h:RA C n m p cs base x f W) (hn:x[n]? = some true) (hm:x[m]? = some false) (hnm:n ≠ m) (hc:∀ v,C m v):RA C n m p cs base (x.set m true) f (W.setCell p (f n)):=by
 refine ⟨fun j V=>?_,?_,?_,fun _=>⟨W,h.a hn hm,rfl⟩⟩
 ·by_cases hjm:j = m
  ·subst hjm; exact hc _
  ·rw [gq (fun e=>hjm e.symm)] at V; exact h.c j V
 ·intro e; rw [gq (Ne.symm hnm),hn] at e; cases e
 ·intro _ e; rw [gqs hm] at e; cases e
end
end Go.Proofs.YtnphbkgfjanmgaaGreatDoor
