/-
  An order accepted, by the model: proved by walking the method.
-/
import Derived.Test.YtnphbkgfjanmgaaGreatDoorBj36
set_option linter.unusedVariables false
set_option maxHeartbeats 6400000
set_option maxRecDepth 100000
namespace Go.Proofs.YtnphbkgfjanmgaaGreatDoor
open Go.RowKit
theorem take_1 {hj B:Nat} {vl vd va:Value} {g:Gr} {t:Od} {kd n0:Int} {dy l0:List Od} (ck L ct F cq ci:Int) (X:Nat) (cg:ByteArray) (id xi qty xj xh:Int) (w:World) (h:MS hj B w vl vd va g t kd n0 dy l0) (hi:GI g) (hm:MR g t kd dy) (he:okE ⟨1,⟨ck,L,ct,F,cq,ci,X,cg⟩,id,xi,qty,xj,xh⟩ = true) (hr:zD g ⟨1,⟨ck,L,ct,F,cq,ci,X,cg⟩,id,xi,qty,xj,xh⟩ = 0):Calls Tryz.prog 52 #[J hj 0,.agg (yv 1 ck L ct F cq ci X cg id xi qty xj xh).toArray] w fun x w'=>TakE hj B va n0 l0 g t kd dy ⟨1,⟨ck,L,ct,F,cq,ci,X,cg⟩,id,xi,qty,xj,xh⟩ w x w':=by
 have hsf:=sfl
 have hO:=h.lt
 have vV:=h.base
 have qm:Hid (∀ w' vS vh,Below B w w'→MS hj B w' vS vh va (aQ g ⟨1,⟨ck,L,ct,F,cq,ci,X,cg⟩,id,xi,qty,xj,xh⟩) (tkM g t ⟨1,⟨ck,L,ct,F,cq,ci,X,cg⟩,id,xi,qty,xj,xh⟩) (kdM kd ⟨1,⟨ck,L,ct,F,cq,ci,X,cg⟩,id,xi,qty,xj,xh⟩) n0 (dyM g dy ⟨1,⟨ck,L,ct,F,cq,ci,X,cg⟩,id,xi,qty,xj,xh⟩) l0→TakE hj B va n0 l0 g t kd dy ⟨1,⟨ck,L,ct,F,cq,ci,X,cg⟩,id,xi,qty,xj,xh⟩ w (.returned (.tuple #[])) w'):=fun w' vS vh Q E=>⟨rfl,Q,vS,vh,E⟩
 obtain ⟨h0,-,uj⟩:=rule1 (e:=⟨1,⟨ck,L,ct,F,cq,ci,X,cg⟩,id,xi,qty,xj,xh⟩) rfl hr
 have qe:=hi.start h0
 have hwr:IntKind.i64.wrap (g.nx + 1) = g.nx + 1:=by rw [IntKind.wrap_i64]; omega
 have uh:Hid (aQ g ⟨1,⟨ck,L,ct,F,cq,ci,X,cg⟩,id,xi,qty,xj,xh⟩ = ⟨g.nx + 1,g.l,1,⟨ck,L,ct,F,cq,ci,X,cg⟩,ordO ⟨ck,L,ct,F,cq,ci,X,cg⟩ id⟩):=by show _ = _; rw [step1 rfl]; simp only [begG,if_pos h0]
 have ux:Hid (tkM g t ⟨1,⟨ck,L,ct,F,cq,ci,X,cg⟩,id,xi,qty,xj,xh⟩ = ⟨g.nx,L,tkS X,cq,F,cg⟩∧kdM kd ⟨1,⟨ck,L,ct,F,cq,ci,X,cg⟩,id,xi,qty,xj,xh⟩ = ct∧dyM g dy ⟨1,⟨ck,L,ct,F,cq,ci,X,cg⟩,id,xi,qty,xj,xh⟩ = dy):=⟨rfl,rfl,rfl⟩
 have HN0:Hid (n0 = g.nx):=(h.eqn h0).1
 obtain ⟨aa,ac,hva,-,-⟩:=h.ahd
 have aD:=M (fun W=>l04Taker_any n0 aa l0.length ac ⟨ck,L,ct,F,cq,ci,X,cg⟩ W)
 rw [← hva] at aD
 unfold cmV at aD
 simp only at aD
 rw [H HN0] at aD
 generalize tkS X = tp at aD ux
 clear h0 uj qe hva
 generalize TakE hj B va n0 l0 g t kd dy ⟨1,⟨ck,L,ct,F,cq,ci,X,cg⟩,id,xi,qty,xj,xh⟩ w = C at qm ⊢
 obtain ⟨xz,HX⟩:=fJ w (yv 1 ck L ct F cq ci X cg id xi qty xj xh) 52
 have HM:=M (zv h xz)
 have HB:=M (xz.mono vV)
 clear h xz hi hm he hr
 go_enter Tryz.func52,Tryz.ntmps52
 refine fI fun hR HK=>?_
 go_wp2_with fail
 refine H HK _ _ ?_
 clear HK
 generalize (w.alloc (A (yv 1 ck L ct F cq ci X cg id xi qty xj xh).toArray 52)) = W1 at HX HM HB ⊢
 have c9:=R (H HM).box 9 rfl
 have q9:=zd (H HM).box 9 (by show 9 < 13; decide)
 have xu:Hid (Below B w (World.setCells W1 hj 9 [.bool true])):=zL (H HB) ya (H HM) 9 _
 have xQ:Hid (MS hj B (World.setCells W1 hj 9 [.bool true]) vl vd va { g with bg:=1 } t kd n0 dy l0):=bQ (H HM) 9 [.bool true] (by simp) rfl rfl (fun h=>absurd (show (1:Int) = 0 from h) (by decide))
 have xH:Hid (Bx (World.setCells W1 hj 9 [.bool true]) w.heap.size (yv 1 ck L ct F cq ci X cg id xi qty xj xh)):=aS (H HX) (bG hj w.heap.size (by omega) _ 9 W1)
 clear HX HM HB
 refine fI fun hR HK=>?_
 go_wp2_with fail
 refine H HK _ _ ?_
 clear HK
 change Code.wp _ _ _ _ (World.setCells W1 hj 9 [.bool true])
 generalize World.setCells W1 hj 9 [.bool true] = cp at xu xQ xH ⊢
 have hSX:w.heap.size < cp.heap.size:=yK _ _ (R (H xH) 0 rfl)
 have HC11:Hid (cp.cell? (U hj 11) = some (I g.nx)):=by
  have:=R (H xQ).box 11 rfl
  rw [H HN0] at this
  exact this
 have e0:=R (H xH) 0 rfl
 clear c9 q9
 go_wp2_with fail
 refine zk (RWA (fun f=>{ tmps:=#[J hj 0,.agg (yv 1 ck L ct F cq ci X cg id xi qty xj xh).toArray,Z,J w.heap.size 0,Z,J hj 0,J hj 0,J hj 9,J w.heap.size 0,I 1,.bool true,.bool true,f 0,f 1,f 2,f 3,f 4,f 5,f 6,f 7,f 8,f 9,Z,Z,Z,Z,Z,Z,Z,Z,Z,Z,Z,Z,Z,Z,Z,Z,Z,Z,Z,Z,Z,Z,Z,Z,Z,Z,Z,Z,Z,Z,Z,Z,Z,Z,Z,Z,Z,Z,Z,Z,Z,Z,Z,Z,Z,Z,Z,Z,Z,Z,Z,Z,Z,Z,Z,Z,Z,Z,Z,Z,Z,Z,Z,Z,Z,Z,Z,Z,Z,Z,Z,Z,Z,Z,Z,Z,Z,Z,Z,Z,Z,Z,Z,Z,Z,Z,Z,Z,Z,Z,Z,Z,Z,Z,Z,Z,Z,Z,Z,Z,Z,Z,Z,Z,Z,Z,Z,Z,Z,Z,Z,Z,Z,Z,Z,Z,Z,Z,Z,Z,Z,Z,Z,Z,Z,Z,Z,Z,Z,Z,Z,Z,Z,Z,Z,Z,Z,Z,Z,Z,Z,Z,Z,Z,Z,Z,Z,Z,Z,Z,Z,Z,Z,Z,Z,Z,Z,Z,Z,Z,Z,Z,Z],defers:=[] }) (CVw [some (J hj 0),some (J hj 0),some (J hj 0),some (J hj 11),some (.agg #[I g.nx,va]),some (J w.heap.size 1),some (.agg (yx ck L ct F cq ci X cg).toArray),some (.agg (yw g.nx L tp cq F cg).toArray),some (J hj 0),some (J hj 2),none] (fun _=>True)) 10 (fun xn=>World.setCells xn hj 2 (yw g.nx L tp cq F cg)) cp) (by kernel_rfl) ?_ ?_ ?_
 ·exact ⟨fun _=>Z,rfl,⟨fun j O=>by rw [yI] at O; split at O <;> simp at O,fun _=>⟨rfl,rfl,rfl,Nat.le_refl _,fun _ _=>rfl⟩,fun O=>by rw [yI] at O; split at O <;> simp at O⟩⟩
 ·rintro x fG xn ⟨f,rfl,K⟩ hx xN
  have xo:=zN xN hx (acyc _ (by kernel_rfl))
  obtain ⟨V0,xz,eV⟩:=K.m (xo 10 (by simp))
  have qd:=M (zv (H xQ) xz)
  have xE:=M (zg (H xH) xz hSX)
  have xG:=M ((H xu).trans (xz.mono (H xQ).base))
  clear K xo xN hx xz
  subst eV
  dsimp only
  generalize f 0 = v0,f 1 = v1,f 2 = v2,f 3 = v3,f 4 = v4,f 5 = v5,f 6 = v6,f 7 = v7,f 8 = v8,f 9 = v9
  have vz:Hid (MS hj B (World.setCells V0 hj 2 (yw g.nx L tp cq F cg)) vl vd va { g with bg:=1 } ⟨g.nx,L,tp,cq,F,cg⟩ kd n0 dy l0):=bQ (H qd) 2 (yw g.nx L tp cq F cg) (by simp) rfl rfl (fun h=>absurd (show (1:Int) = 0 from h) (by decide))
  have uI:Hid (Bx (World.setCells V0 hj 2 (yw g.nx L tp cq F cg)) w.heap.size (yv 1 ck L ct F cq ci X cg id xi qty xj xh)):=aS (H xE) (bG hj w.heap.size (by omega) _ 2 V0)
  have ug:=M (zL (H xG) ya (H qd) 2 (yw g.nx L tp cq F cg))
  generalize World.setCells V0 hj 2 (yw g.nx L tp cq F cg) = hb at vz uI ug ⊢
  have e3:=R (H uI) 3 rfl
  have c8:=R (H vz).box 8 rfl
  have q8:=zd (H vz).box 8 (by show 8 < 13; decide)
  have HM6:Hid (MS hj B (hb.setCell (U hj 8) (I ct)) vl vd va { g with bg:=1 } ⟨g.nx,L,tp,cq,F,cg⟩ ct n0 dy l0):=bQ (H vz) 8 [I ct] (by simp) rfl rfl (fun h=>absurd (show (1:Int) = 0 from h) (by decide))
  have qw:Hid (Below B w (hb.setCell (U hj 8) (I ct))):=zL (H ug) ya (H vz) 8 [I ct]
  have c0:=R (H HM6).box 0 rfl
  have q0:=zd (H HM6).box 0 (by show 0 < 13; decide)
  go_wp2_with fail
  go_end0
  refine H qm _ vl vd (zL (H qw) ya (H HM6) 0 [I (g.nx + 1)]) ?_
  rw [H uh,(H ux).1,(H ux).2.1,(H ux).2.2]
  exact bQ (H HM6) 0 [I (g.nx + 1)] (by simp) rfl rfl (fun h=>absurd (show (1:Int) = 0 from h) (by decide))
 ·rintro x fG xn i op ⟨f,rfl,K⟩ V hx N xq D
  have xt:=M K
  have nw:i < 10→x[10]? = some false:=fun xI=>by
   rcases bB hx (show 10 < 11 by omega) with hq | hw
   ·exact hq
   ·exfalso
    have h0:=yf V 10 rfl hw 0 rfl
    have Q:=yf V 10 rfl hw 1 rfl
    have E:=yf V 10 rfl hw 2 rfl
    have h3:=yf V 10 rfl hw 3 rfl
    have h4:=yf V 10 rfl hw 4 rfl
    have h5:=yf V 10 rfl hw 5 rfl
    have h6:=yf V 10 rfl hw 6 rfl
    have h7:=yf V 10 rfl hw 7 rfl
    have h9:=yf V 10 rfl hw 9 rfl
    have h8:=yf V 9 rfl h9 8 rfl
    rcases (by omega:i = 0 ∨ i = 1 ∨ i = 2 ∨ i = 3 ∨ i = 4 ∨ i = 5 ∨ i = 6 ∨ i = 7 ∨ i = 8 ∨ i = 9) with rfl | rfl | rfl | rfl | rfl | rfl | rfl | rfl | rfl | rfl
    ·exact absurd (h0.symm.trans xq) (by simp)
    ·exact absurd (Q.symm.trans xq) (by simp)
    ·exact absurd (E.symm.trans xq) (by simp)
    ·exact absurd (h3.symm.trans xq) (by simp)
    ·exact absurd (h4.symm.trans xq) (by simp)
    ·exact absurd (h5.symm.trans xq) (by simp)
    ·exact absurd (h6.symm.trans xq) (by simp)
    ·exact absurd (h7.symm.trans xq) (by simp)
    ·exact absurd (h8.symm.trans xq) (by simp)
    ·exact absurd (h9.symm.trans xq) (by simp)
  have ub:i < 10→yn cp xn:=fun h=>K.b (nw h)
  have xl:i < 10→∀ (p:Addr) u,cp.cell? p = some u→xn.cell? p = some u:=fun h p u hu=>((ub h).cell (yK cp _ hu)).trans hu
  match i,N with
  | 0,N | 1,N =>
   obtain rfl:=yb N
   have CL:=xl (by omega)
   clear D K ub xl nw CL
   rw [if_pos (by rfl)];unfold Oper.wp;go_simp
   exact ⟨upd f _ (J hj 0),by simp [upd],zC (H xt) _ _ ⟨yi rfl,trivial⟩ (by decide)⟩
  | 2,N =>
   obtain rfl:=yb N
   have g1:=(K.c 1 (ye D 1 rfl)).1 _ rfl
   have CL:=xl (by omega)
   clear D K ub xl nw CL
   rw [if_pos (by rfl)];unfold Oper.wp;go_simp
   exact ⟨upd f 2 (J hj 0),by simp [upd,g1],zC (H xt) 2 _ ⟨yi rfl,trivial⟩ (by decide)⟩
  | 3,N =>
   obtain rfl:=yb N
   have g2:=(K.c 2 (ye D 2 rfl)).1 _ rfl
   have CL:=xl (by omega)
   clear D K ub xl nw CL
   rw [if_pos (by rfl)];unfold Oper.wp;go_simp
   exact ⟨upd f 3 (J hj 11),by simp [upd,g2],zC (H xt) 3 _ ⟨yi rfl,trivial⟩ (by decide)⟩
  | 4,N =>
   obtain rfl:=yb N
   have g3:=(K.c 3 (ye D 3 rfl)).1 _ rfl
   have CL:=xl (by omega)
   have z1:=CL (U hj 11) _ (H HC11)
   have z2:=CL (U hj 12) _ (R (H xQ).box 12 rfl)
   clear D K ub xl nw CL
   rw [if_pos (by rfl)];unfold Oper.wp;go_simp
   exact ⟨upd f 4 (.agg #[I g.nx,va]),by simp [upd,g3],zC (H xt) 4 _ ⟨yi rfl,trivial⟩ (by decide)⟩
  | 5,N =>
   obtain rfl:=yb N
   have CL:=xl (by omega)
   clear D K ub xl nw CL
   rw [if_pos (by rfl)];unfold Oper.wp;go_simp
   exact ⟨upd f 5 (J w.heap.size 1),by simp [upd],zC (H xt) 5 _ ⟨yi rfl,trivial⟩ (by decide)⟩
  | 6,N =>
   obtain rfl:=yb N
   have g5:=(K.c 5 (ye D 5 rfl)).1 _ rfl
   have CL:=xl (by omega)
   have e1:=CL (U w.heap.size 1) _ (R (H xH) 1 rfl)
   have e2:=CL (U w.heap.size 2) _ (R (H xH) 2 rfl)
   have e3:=CL (U w.heap.size 3) _ (R (H xH) 3 rfl)
   have e4:=CL (U w.heap.size 4) _ (R (H xH) 4 rfl)
   have e5:=CL (U w.heap.size 5) _ (R (H xH) 5 rfl)
   have e6:=CL (U w.heap.size 6) _ (R (H xH) 6 rfl)
   have e7:=CL (U w.heap.size 7) _ (R (H xH) 7 rfl)
   have e8:=CL (U w.heap.size 8) _ (R (H xH) 8 rfl)
   clear D K ub xl nw CL
   rw [if_pos (by rfl)];unfold Oper.wp;go_simp
   exact ⟨upd f 6 (.agg (yx ck L ct F cq ci X cg).toArray),by simp [upd,g5],zC (H xt) 6 _ ⟨yi rfl,trivial⟩ (by decide)⟩
  | 7,N =>
   obtain rfl:=yb N
   have g4:=(K.c 4 (ye D 4 rfl)).1 _ rfl
   have g6:=(K.c 6 (ye D 6 rfl)).1 _ rfl
   have CL:=xl (by omega)
   have hw:=nw (by omega)
   clear D K ub xl nw CL
   rw [if_pos (by rfl)];unfold Oper.wp;go_simp
   refine (H aD xn).mono ?_
   rintro e w4 ⟨rfl,xw⟩
   exact ⟨upd f 7 (.agg (yw g.nx L tp cq F cg).toArray),by simp [upd,g4,g6],zC (cQ (H xt) hw xw) 7 _ ⟨yi rfl,trivial⟩ (by decide)⟩
  | 8,N =>
   obtain rfl:=yb N
   have g0:=(K.c 0 (ye D 0 rfl)).1 _ rfl
   have CL:=xl (by omega)
   clear D K ub xl nw CL
   rw [if_pos (by rfl)];unfold Oper.wp;go_simp
   exact ⟨upd f 8 (J hj 0),by simp [upd,g0],zC (H xt) 8 _ ⟨yi rfl,trivial⟩ (by decide)⟩
  | 9,N =>
   obtain rfl:=yb N
   have g8:=(K.c 8 (ye D 8 rfl)).1 _ rfl
   have CL:=xl (by omega)
   clear D K ub xl nw CL
   rw [if_pos (by rfl)];unfold Oper.wp;go_simp
   exact ⟨upd f 9 (J hj 2),by simp [upd,g8],zC (H xt) 9 _ ⟨yi rfl,trivial⟩ (by decide)⟩
  | 10,N =>
   obtain rfl:=yb N
   have g9:=(K.c 9 (ye D 9 rfl)).1 _ rfl
   have g7:=(K.c 7 (ye D 7 rfl)).1 _ rfl
   have vI:=M (zv (H xQ) (K.b xq))
   have z2:=R (H vI).box 2 rfl
   have q2:=zd (H vI).box 2 (by show 2 < 13; decide)
   have z3:=R (H vI).box 3 rfl
   have q3:=zd (H vI).box 3 (by show 3 < 13; decide)
   have z4:=R (H vI).box 4 rfl
   have q4:=zd (H vI).box 4 (by show 4 < 13; decide)
   have z5:=R (H vI).box 5 rfl
   have q5:=zd (H vI).box 5 (by show 5 < 13; decide)
   have z6:=R (H vI).box 6 rfl
   have q6:=zd (H vI).box 6 (by show 6 < 13; decide)
   have z7:=R (H vI).box 7 rfl
   have q7:=zd (H vI).box 7 (by show 7 < 13; decide)
   clear D K ub xl nw
   rw [if_pos (by rfl)];unfold Oper.wp;go_simp
   exact ⟨f,by simp [g9,g7],rw_last (T:=fun xn=>World.setCells xn hj 2 (yw g.nx L tp cq F cg)) (H xt) xq (fun j O hx=>⟨fun u hu=>(by subst O; cases hu),trivial⟩)⟩
  | i + 11,N=>simp at N
theorem rd_gr {W W':World} {l:List Od} {v:Value} {b:Nat} (h:RdR Od.vs 6 W v l) (hg:W.grownBy W' (some b)) (hn:l ≠ []→∀ b' off n c,v = .slice (some (U b' off)) n c→b' ≠ b):RdR Od.vs 6 W' v l:=by
 obtain ⟨a,cap,rfl,hl,hc⟩:=h
 refine ⟨a,cap,rfl,hl,fun xD=>?_⟩
 obtain ⟨b',off,rfl,Y,V⟩:=hc xD
 have kc:=hg.block b' Y (by simpa using hn xD b' off _ _ rfl)
 refine ⟨b',off,rfl,yJ Y hg.size,fun j c O i u hi=>?_⟩
 rw [yQ (a:=(U b' (off + j * 6 + i))) kc]
 exact V j c O i u hi
theorem ms_rowset {hj B gb:Nat} {W W':World} {vl vd va:Value} {g:Gr} {t:Od} {kd n0:Int} {dy l0 l':List Od} (h:MS hj B W vl vd va { g with bg:=7 } t kd n0 dy l0) (hv:vl.ownBlock = some gb) (N:ORow W' B vl l') (hg:W.grownBy W' (some gb)) (hdy:dy = []) (hB:B ≤ gb):MS hj B W' vl vd va { g with l:=l',bg:=7 } t kd n0 dy l0:=by
 have nO:some hj ≠ some gb:=by rw [← hv]; exact h.nl
 subst hdy
 obtain ⟨xF,hc⟩:=h.typ
 refine ⟨aS h.box (hg.block hj h.lt nO),N,rd_gr h.days hg (fun xD=>absurd rfl xD),rd_gr h.ahd hg (fun xD b' off n c e=>by have:=h.na xD b' off n c e; omega),h.sla,⟨xF,(hg.block hj h.lt nO).trans hc⟩,h.hO,fun h9=>absurd (show (7:Int) = 0 from h9) (by decide),fun xD=>absurd rfl xD,h.na⟩
theorem take_7 {hj B:Nat} {vl vd va:Value} {g:Gr} {t:Od} {kd n0:Int} {dy l0:List Od} (ck L ct F cq ci:Int) (X:Nat) (cg:ByteArray) (id xi qty xj xh:Int) (w:World) (h:MS hj B w vl vd va g t kd n0 dy l0) (hi:GI g) (hm:MR g t kd dy) (he:okE ⟨7,⟨ck,L,ct,F,cq,ci,X,cg⟩,id,xi,qty,xj,xh⟩ = true) (hr:zD g ⟨7,⟨ck,L,ct,F,cq,ci,X,cg⟩,id,xi,qty,xj,xh⟩ = 0):Calls Tryz.prog 52 #[J hj 0,.agg (yv 7 ck L ct F cq ci X cg id xi qty xj xh).toArray] w fun x w'=>TakE hj B va n0 l0 g t kd dy ⟨7,⟨ck,L,ct,F,cq,ci,X,cg⟩,id,xi,qty,xj,xh⟩ w x w':=by
 have hsf:=sfl
 have hO:=h.lt
 have vV:=h.base
 have qm:Hid (∀ w' vS vh,Below B w w'→MS hj B w' vS vh va (aQ g ⟨7,⟨ck,L,ct,F,cq,ci,X,cg⟩,id,xi,qty,xj,xh⟩) (tkM g t ⟨7,⟨ck,L,ct,F,cq,ci,X,cg⟩,id,xi,qty,xj,xh⟩) (kdM kd ⟨7,⟨ck,L,ct,F,cq,ci,X,cg⟩,id,xi,qty,xj,xh⟩) n0 (dyM g dy ⟨7,⟨ck,L,ct,F,cq,ci,X,cg⟩,id,xi,qty,xj,xh⟩) l0→TakE hj B va n0 l0 g t kd dy ⟨7,⟨ck,L,ct,F,cq,ci,X,cg⟩,id,xi,qty,xj,xh⟩ w (.returned (.tuple #[])) w'):=fun w' vS vh Q E=>⟨rfl,Q,vS,vh,E⟩
 obtain ⟨h0,k,o,uQ,uX,-,-,-⟩:=rule7 (e:=⟨7,⟨ck,L,ct,F,cq,ci,X,cg⟩,id,xi,qty,xj,xh⟩) rfl hr
 simp only at uQ
 have hdy:dy = []:=by rw [hm.dy,if_neg (by omega)]
 have uh:Hid (aQ g ⟨7,⟨ck,L,ct,F,cq,ci,X,cg⟩,id,xi,qty,xj,xh⟩ = { g with l:=g.l.set k { o with left:=qty },bg:=7 }):=by show _ = _; rw [step7 rfl]; simp only [begG,if_pos h0,setI_at uQ uX]
 have ux:Hid (tkM g t ⟨7,⟨ck,L,ct,F,cq,ci,X,cg⟩,id,xi,qty,xj,xh⟩ = t∧kdM kd ⟨7,⟨ck,L,ct,F,cq,ci,X,cg⟩,id,xi,qty,xj,xh⟩ = kd∧dyM g dy ⟨7,⟨ck,L,ct,F,cq,ci,X,cg⟩,id,xi,qty,xj,xh⟩ = dy):=⟨rfl,rfl,rfl⟩
 have xD:g.l ≠ []:=by intro h; rw [h] at uX; simp at uX
 have pa:=(yG.1 uX).1
 obtain ⟨gb,cap,rfl,uq,hBg,hgw⟩:=cI h.row xD
 have jk:=hi.len
 have HDY:=M hdy
 have jt:=M uQ
 have oE:=M uX
 have hkl':(k:Int) < g.l.length:=by omega
 have pA:(0:Int) ≤ k:=by omega
 clear h0 uQ uX xD hdy
 generalize TakE hj B va n0 l0 g t kd dy ⟨7,⟨ck,L,ct,F,cq,ci,X,cg⟩,id,xi,qty,xj,xh⟩ w = C at qm ⊢
 obtain ⟨xz,HX⟩:=fJ w (yv 7 ck L ct F cq ci X cg id xi qty xj xh) 52
 have HM:=M (zv h xz)
 have HB:=M (xz.mono vV)
 clear h xz hi hm he hr
 go_enter Tryz.func52,Tryz.ntmps52
 refine fI fun hR HK=>?_
 go_wp2_with fail
 refine H HK _ _ ?_
 clear HK
 generalize (w.alloc (A (yv 7 ck L ct F cq ci X cg id xi qty xj xh).toArray 52)) = W1 at HX HM HB ⊢
 have c9:=R (H HM).box 9 rfl
 have q9:=zd (H HM).box 9 (by show 9 < 13; decide)
 have xu:Hid (Below B w (World.setCells W1 hj 9 [.bool true])):=zL (H HB) ya (H HM) 9 _
 have xQ:Hid (MS hj B (World.setCells W1 hj 9 [.bool true]) (.slice (some (U gb 0)) g.l.length cap) vd va { g with bg:=7 } t kd n0 dy l0):=bQ (H HM) 9 [.bool true] (by simp) rfl rfl (fun h=>absurd (show (7:Int) = 0 from h) (by decide))
 have xH:Hid (Bx (World.setCells W1 hj 9 [.bool true]) w.heap.size (yv 7 ck L ct F cq ci X cg id xi qty xj xh)):=aS (H HX) (bG hj w.heap.size (by omega) _ 9 W1)
 clear HX HM HB
 refine fI fun hR HK=>?_
 go_wp2_with fail
 refine H HK _ _ ?_
 clear HK
 change Code.wp _ _ _ _ (World.setCells W1 hj 9 [.bool true])
 generalize World.setCells W1 hj 9 [.bool true] = cp at xu xQ xH ⊢
 have hSX:w.heap.size < cp.heap.size:=yK _ _ (R (H xH) 0 rfl)
 have uR:Hid (RdR Od.vs 6 cp (.slice (some (U gb 0)) g.l.length cap) g.l):=zK (H xQ).row (yN jk (by decide))
 have e0:=R (H xH) 0 rfl
 clear c9 q9
 go_wp2_with fail
 refine zk (RWA (fun f=>{ tmps:=#[J hj 0,.agg (yv 7 ck L ct F cq ci X cg id xi qty xj xh).toArray,Z,J w.heap.size 0,Z,J hj 0,J hj 0,J hj 9,J w.heap.size 0,I 7,.bool false,.bool false,Z,Z,Z,Z,Z,Z,Z,Z,Z,Z,Z,Z,Z,Z,Z,Z,Z,Z,Z,Z,Z,Z,Z,.bool false,.bool false,Z,Z,Z,Z,Z,Z,Z,Z,Z,Z,Z,Z,Z,Z,Z,Z,Z,Z,Z,Z,Z,Z,Z,Z,Z,Z,.bool false,.bool false,Z,Z,Z,Z,Z,Z,Z,Z,Z,Z,Z,Z,Z,Z,Z,Z,Z,Z,Z,.bool false,.bool false,Z,Z,Z,Z,.bool false,.bool false,Z,Z,Z,Z,Z,Z,Z,Z,Z,Z,Z,Z,Z,Z,Z,.bool true,.bool true,f 0,f 1,f 2,f 3,f 4,f 5,f 6,f 7,f 8,f 9,f 10,f 11,f 12,f 13,f 14,Z,Z,Z,Z,Z,Z,Z,Z,Z,Z,Z,Z,Z,Z,Z,Z,Z,Z,Z,Z,Z,Z,Z,Z,Z,Z,Z,Z,Z,Z,Z,Z,Z,Z,Z,Z,Z,Z,Z,Z,Z,Z,Z,Z,Z,Z,Z,Z,Z,Z,Z,Z,Z,Z,Z,Z,Z,Z,Z,Z,Z],defers:=[] }) (CVw [some (J hj 0),some (J hj 0),some (J hj 1),some (.slice (some (U gb 0)) g.l.length cap),some (J hj 0),some (J hj 0),some (J hj 1),some (.slice (some (U gb 0)) g.l.length cap),some (J w.heap.size 9),some (I id),some (I k),some (J w.heap.size 11),some (I qty),some (J gb (k * 6)),some (J gb (k * 6 + 3)),none] (fun _=>True)) 15 (fun xn=>xn.setCell (U gb (k * 6 + 3)) (I qty)) cp) (by kernel_rfl) ?_ ?_ ?_
 ·exact ⟨fun _=>Z,rfl,⟨fun j O=>by rw [yI] at O; split at O <;> simp at O,fun _=>⟨rfl,rfl,rfl,Nat.le_refl _,fun _ _=>rfl⟩,fun O=>by rw [yI] at O; split at O <;> simp at O⟩⟩
 ·rintro x fG xn ⟨f,rfl,K⟩ hx xN
  have xo:=zN xN hx (acyc _ (by kernel_rfl))
  obtain ⟨V0,xz,eV⟩:=K.m (xo 15 (by simp))
  have qd:=M (zv (H xQ) xz)
  have xG:=M ((H xu).trans (xz.mono (H xQ).base))
  clear K xo xN hx xz
  subst eV
  dsimp only
  generalize f 0 = v0,f 1 = v1,f 2 = v2,f 3 = v3,f 4 = v4,f 5 = v5,f 6 = v6,f 7 = v7,f 8 = v8,f 9 = v9,f 10 = v10,f 11 = v11,f 12 = v12,f 13 = v13,f 14 = v14
  go_end0
  have HL:=oRow_left (H qd).row rfl (H oE) qty
  refine H qm _ (.slice (some (U gb 0)) g.l.length cap) vd (below_tookR (H xG) HL.2 hBg vV) ?_
  rw [H uh,(H ux).1,(H ux).2.1,(H ux).2.2]
  exact ms_rowset (H qd) rfl HL.1 HL.2 (H HDY) hBg
 ·rintro x fG xn i op ⟨f,rfl,K⟩ V hx N xq D
  have xt:=M K
  have nw:i < 15→x[15]? = some false:=fun xI=>by
   rcases bB hx (show 15 < 16 by omega) with hq | hw
   ·exact hq
   ·exfalso
    have h0:=yf V 15 rfl hw 0 rfl
    have Q:=yf V 15 rfl hw 1 rfl
    have E:=yf V 15 rfl hw 2 rfl
    have h3:=yf V 15 rfl hw 3 rfl
    have h4:=yf V 15 rfl hw 4 rfl
    have h5:=yf V 15 rfl hw 5 rfl
    have h6:=yf V 15 rfl hw 6 rfl
    have h7:=yf V 15 rfl hw 7 rfl
    have h8:=yf V 15 rfl hw 8 rfl
    have h9:=yf V 15 rfl hw 9 rfl
    have uV:=yf V 15 rfl hw 10 rfl
    have uS:=yf V 15 rfl hw 11 rfl
    have uO:=yf V 15 rfl hw 12 rfl
    have oH:=yf V 15 rfl hw 14 rfl
    have jN:=yf V 14 rfl oH 13 rfl
    rcases (by omega:i = 0 ∨ i = 1 ∨ i = 2 ∨ i = 3 ∨ i = 4 ∨ i = 5 ∨ i = 6 ∨ i = 7 ∨ i = 8 ∨ i = 9 ∨ i = 10 ∨ i = 11 ∨ i = 12 ∨ i = 13 ∨ i = 14) with rfl | rfl | rfl | rfl | rfl | rfl | rfl | rfl | rfl | rfl | rfl | rfl | rfl | rfl | rfl
    ·exact absurd (h0.symm.trans xq) (by simp)
    ·exact absurd (Q.symm.trans xq) (by simp)
    ·exact absurd (E.symm.trans xq) (by simp)
    ·exact absurd (h3.symm.trans xq) (by simp)
    ·exact absurd (h4.symm.trans xq) (by simp)
    ·exact absurd (h5.symm.trans xq) (by simp)
    ·exact absurd (h6.symm.trans xq) (by simp)
    ·exact absurd (h7.symm.trans xq) (by simp)
    ·exact absurd (h8.symm.trans xq) (by simp)
    ·exact absurd (h9.symm.trans xq) (by simp)
    ·exact absurd (uV.symm.trans xq) (by simp)
    ·exact absurd (uS.symm.trans xq) (by simp)
    ·exact absurd (uO.symm.trans xq) (by simp)
    ·exact absurd (jN.symm.trans xq) (by simp)
    ·exact absurd (oH.symm.trans xq) (by simp)
  have ub:i < 15→yn cp xn:=fun h=>K.b (nw h)
  have xl:i < 15→∀ (p:Addr) u,cp.cell? p = some u→xn.cell? p = some u:=fun h p u hu=>((ub h).cell (yK cp _ hu)).trans hu
  match i,N with
  | 0,N | 4,N =>
   obtain rfl:=yb N
   have CL:=xl (by omega)
   clear D K ub xl nw CL
   rw [if_pos (by rfl)];unfold Oper.wp;go_simp
   exact ⟨upd f _ (J hj 0),by simp [upd],zC (H xt) _ _ ⟨yi rfl,trivial⟩ (by decide)⟩
  | 1,N =>
   obtain rfl:=yb N
   have g0:=(K.c 0 (ye D 0 rfl)).1 _ rfl
   have CL:=xl (by omega)
   clear D K ub xl nw CL
   rw [if_pos (by rfl)];unfold Oper.wp;go_simp
   exact ⟨upd f 1 (J hj 0),by simp [upd,g0],zC (H xt) 1 _ ⟨yi rfl,trivial⟩ (by decide)⟩
  | 2,N =>
   obtain rfl:=yb N
   have g1:=(K.c 1 (ye D 1 rfl)).1 _ rfl
   have CL:=xl (by omega)
   clear D K ub xl nw CL
   rw [if_pos (by rfl)];unfold Oper.wp;go_simp
   exact ⟨upd f 2 (J hj 1),by simp [upd,g1],zC (H xt) 2 _ ⟨yi rfl,trivial⟩ (by decide)⟩
  | 3,N =>
   obtain rfl:=yb N
   have g2:=(K.c 2 (ye D 2 rfl)).1 _ rfl
   have CL:=xl (by omega)
   have z:=CL (U hj 1) _ (R (H xQ).box 1 rfl)
   clear D K ub xl nw CL
   rw [if_pos (by rfl)];unfold Oper.wp;go_simp
   exact ⟨upd f 3 (.slice (some (U gb 0)) g.l.length cap),by simp [upd,g2],zC (H xt) 3 _ ⟨yi rfl,trivial⟩ (by decide)⟩
  | 5,N =>
   obtain rfl:=yb N
   have g4:=(K.c 4 (ye D 4 rfl)).1 _ rfl
   have CL:=xl (by omega)
   clear D K ub xl nw CL
   rw [if_pos (by rfl)];unfold Oper.wp;go_simp
   exact ⟨upd f 5 (J hj 0),by simp [upd,g4],zC (H xt) 5 _ ⟨yi rfl,trivial⟩ (by decide)⟩
  | 6,N =>
   obtain rfl:=yb N
   have g5:=(K.c 5 (ye D 5 rfl)).1 _ rfl
   have CL:=xl (by omega)
   clear D K ub xl nw CL
   rw [if_pos (by rfl)];unfold Oper.wp;go_simp
   exact ⟨upd f 6 (J hj 1),by simp [upd,g5],zC (H xt) 6 _ ⟨yi rfl,trivial⟩ (by decide)⟩
  | 7,N =>
   obtain rfl:=yb N
   have g6:=(K.c 6 (ye D 6 rfl)).1 _ rfl
   have CL:=xl (by omega)
   have z:=CL (U hj 1) _ (R (H xQ).box 1 rfl)
   clear D K ub xl nw CL
   rw [if_pos (by rfl)];unfold Oper.wp;go_simp
   exact ⟨upd f 7 (.slice (some (U gb 0)) g.l.length cap),by simp [upd,g6],zC (H xt) 7 _ ⟨yi rfl,trivial⟩ (by decide)⟩
  | 8,N =>
   obtain rfl:=yb N
   have CL:=xl (by omega)
   clear D K ub xl nw CL
   rw [if_pos (by rfl)];unfold Oper.wp;go_simp
   exact ⟨upd f 8 (J w.heap.size 9),by simp [upd],zC (H xt) 8 _ ⟨yi rfl,trivial⟩ (by decide)⟩
  | 9,N =>
   obtain rfl:=yb N
   have g8:=(K.c 8 (ye D 8 rfl)).1 _ rfl
   have CL:=xl (by omega)
   have z:=CL (U w.heap.size 9) _ (R (H xH) 9 rfl)
   clear D K ub xl nw CL
   rw [if_pos (by rfl)];unfold Oper.wp;go_simp
   exact ⟨upd f 9 (I id),by simp [upd,g8],zC (H xt) 9 _ ⟨yi rfl,trivial⟩ (by decide)⟩
  | 10,N =>
   obtain rfl:=yb N
   have g7:=(K.c 7 (ye D 7 rfl)).1 _ rfl
   have g9:=(K.c 9 (ye D 9 rfl)).1 _ rfl
   have CL:=xl (by omega)
   have hw:=nw (by omega)
   have ql:=M (zh (H uR) (ub (by omega)) ya)
   clear D K ub xl nw CL
   rw [if_pos (by rfl)];unfold Oper.wp;go_simp
   refine (du _ g.l id xn (H ql)).mono ?_
   rw [H jt]
   rintro e w4 ⟨rfl,xw⟩
   exact ⟨upd f 10 (I k),by simp [upd,g7,g9],zC (cQ (H xt) hw xw) 10 _ ⟨yi rfl,trivial⟩ (by decide)⟩
  | 11,N =>
   obtain rfl:=yb N
   have CL:=xl (by omega)
   clear D K ub xl nw CL
   rw [if_pos (by rfl)];unfold Oper.wp;go_simp
   exact ⟨upd f 11 (J w.heap.size 11),by simp [upd],zC (H xt) 11 _ ⟨yi rfl,trivial⟩ (by decide)⟩
  | 12,N =>
   obtain rfl:=yb N
   have vE:=(K.c 11 (ye D 11 rfl)).1 _ rfl
   have CL:=xl (by omega)
   have z:=CL (U w.heap.size 11) _ (R (H xH) 11 rfl)
   clear D K ub xl nw CL
   rw [if_pos (by rfl)];unfold Oper.wp;go_simp
   exact ⟨upd f 12 (I qty),by simp [upd,vE],zC (H xt) 12 _ ⟨yi rfl,trivial⟩ (by decide)⟩
  | 13,N =>
   obtain rfl:=yb N
   have g3:=(K.c 3 (ye D 3 rfl)).1 _ rfl
   have qp:=(K.c 10 (ye D 10 rfl)).1 _ rfl
   have CL:=xl (by omega)
   clear D K ub xl nw CL
   rw [if_pos (by rfl)];unfold Oper.wp;go_simp
   exact ⟨upd f 13 (J gb (k * 6)),by simp [upd,g3,qp],zC (H xt) 13 _ ⟨yi rfl,trivial⟩ (by decide)⟩
  | 14,N =>
   obtain rfl:=yb N
   have qJ:=(K.c 13 (ye D 13 rfl)).1 _ rfl
   have CL:=xl (by omega)
   clear D K ub xl nw CL
   rw [if_pos (by rfl)];unfold Oper.wp;go_simp
   exact ⟨upd f 14 (J gb (k * 6 + 3)),by simp [upd,qJ],zC (H xt) 14 _ ⟨yi rfl,trivial⟩ (by decide)⟩
  | 15,N =>
   obtain rfl:=yb N
   have jf:=(K.c 14 (ye D 14 rfl)).1 _ rfl
   have xZ:=(K.c 12 (ye D 12 rfl)).1 _ rfl
   have vI:=M (zv (H xQ) (K.b xq))
   obtain ⟨zz,qq⟩:=row_here (H vI).row (yN jk (by decide)) (H oE)
   have z3:=zz 3 _ rfl
   have q3:=qq 3 (by omega)
   clear zz qq
   clear D K ub xl nw
   rw [if_pos (by rfl)];unfold Oper.wp;go_simp
   exact ⟨f,by simp [jf,xZ],rw_last (T:=fun xn=>xn.setCell (U gb (k * 6 + 3)) (I qty)) (H xt) xq (fun j O hx=>⟨fun u hu=>(by subst O; cases hu),trivial⟩)⟩
  | i + 16,N=>simp at N
def C7o (b off n cap i:Nat):Nat→Value→Prop
 | 1,v=>v = .slice (some (U b off)) n cap
 | 2,v=>v = I i
 | 3,v=>v = .slice (some (U b off)) i cap
 | 5,v=>v = .slice (some (U b off)) n cap
 | 6,v=>v = I i
 | 7,v=>v = I ((i:Int) + 1)
 | 8,v=>∃ ad c,v = .slice (some ad) (n - (i + 1)) c∧(i + 1 < n→ad = (U b (off + (i + 1) * 6)))
 | _,_=>True
theorem l04Drop_any (b off cap:Nat) (l:List Od) (i:Nat) (w:World) (hc:∀ j c,l[j]? = some c→w.rangeAt b (off + j * 6) c.vs) (Y:b < w.heap.size) (hil:i < l.length) (uq:l.length ≤ cap) (hn:l.length ≤ 1000) :
  Calls Tryz.prog 79 #[.slice (some (U b off)) l.length cap,I i] w fun e w'=>∃ v',e = .returned v'∧ORow w' w.heap.size v' (l.take i ++ l.drop (i + 1))∧yn w w':=by
 obtain ⟨i0,vA,uL,uM,uF⟩:=info_parts Tryz.infoOrder
 have HC:=M hc
 clear hc
 have hicp:i ≤ cap:=by omega
 have hi1:i + 1 ≤ l.length:=by omega
 have hi1':(i:Int) + 1 ≤ l.length:=by omega
 have qa:(i:Int) < l.length:=by omega
 have hige:(0:Int) ≤ i:=by omega
 have hlcp:(l.length:Int) ≤ cap:=by omega
 have h0i:(0:Int) ≤ (i:Int) + 1:=by omega
 go_enter Tryz.func79,Tryz.ntmps79
 go_wp2_with fail
 refine dN (R7A (.slice none 0 0) w (C7o b off l.length cap i) (l.take i) (l.take i ++ l.drop (i + 1)) (fun f=>{ tmps:=#[.slice (some (U b off)) l.length cap,I i,Z,Z,f 10,f 0,f 1,f 2,f 3,f 4,f 5,f 6,f 7,f 8,f 9],defers:=[] })) (by kernel_rfl) ?_ ?_ ?_
 ·exact ⟨fun j=>if j = 10 then .slice none 0 0 else Z,rfl,⟨⟨rfl,rfl,rfl,Nat.le_refl _,fun _ _=>rfl⟩,fun j O=>by rw [yI] at O; split at O <;> simp at O,fun _=>rfl,by simp,by simp,by simp,by simp,by simp,by simp,by simp⟩⟩
 ·rintro x fG xn ⟨f,rfl,K⟩ hx xN
  have xo:=zN xN hx (acyc _ (by kernel_rfl))
  have k9:x[9]? = some true:=xo 9 (by simp)
  have k10:x[10]? = some true:=xo 10 (by simp)
  have HO9:=M (K.m9 k9)
  have uy:f 10 = f 9:=K.m10 k10
  have xy:=M K.bel
  simp only [uy]
  generalize f 9 = v9 at HO9 ⊢
  clear K xo k9 k10 uy xN hx
  go_wp2_with fail
  go_ret
  exact ⟨_,rfl,H HO9,H xy⟩
 ·rintro x fG xn i' o' ⟨f,rfl,K⟩ hx N xq D
  have qG:=M K
  match i',N with
  | 0,N =>
   obtain rfl:=yb N
   clear K D
   rw [if_pos (by rfl)];unfold Oper.wp;go_simp
   exact ⟨upd f 0 (.slice (some (U xn.heap.size 0)) 0 0),by simp [upd],r7_0 (H qG) xq (fun _=>trivial)⟩
  | 1,N =>
   obtain rfl:=yb N
   clear K D
   rw [if_pos (by rfl)];unfold Oper.wp;go_simp
   exact ⟨upd f 1 (.slice (some (U b off)) l.length cap),by simp [upd],bN (H qG) 1 _ rfl (by decide) (by decide) (by decide) (by decide)⟩
  | 2,N =>
   obtain rfl:=yb N
   clear K D
   rw [if_pos (by rfl)];unfold Oper.wp;go_simp
   exact ⟨upd f 2 (I i),by simp [upd],bN (H qG) 2 _ rfl (by decide) (by decide) (by decide) (by decide)⟩
  | 3,N =>
   obtain rfl:=yb N
   have g1:C7o b off l.length cap i 1 (f 1):=K.c 1 (ye D 1 rfl)
   have g2:C7o b off l.length cap i 2 (f 2):=K.c 2 (ye D 2 rfl)
   simp only [C7o] at g1 g2
   clear K D
   rw [if_pos (by rfl)];unfold Oper.wp;go_simp
   exact ⟨upd f 3 (.slice (some (U b off)) i cap),by simp [upd,g1,g2],bN (H qG) 3 _ rfl (by decide) (by decide) (by decide) (by decide)⟩
  | 4,N =>
   obtain rfl:=yb N
   have g3:C7o b off l.length cap i 3 (f 3):=K.c 3 (ye D 3 rfl)
   have k0:x[0]? = some true:=D ⟨0,.data⟩ (by simp) rfl
   have HCV:Hid (∀ j c,l[j]? = some c→xn.rangeAt b (off + j * 6) c.vs):=fun j c O=>zc (H HC j c O) K.bel Y
   simp only [C7o] at g3
   clear K D
   rw [if_pos (by rfl)]
   refine wp_append_own xn (.tmp 5) (.tmp 8) 32 rfl w.heap.size 78 i0 _ 6 56 Tryz.underlying32 vA uL uM uF rfl (by decide) (f 0) 0 [] rfl ((H qG).m0 k0 xq) (U b off) i cap ((l.take i).flatMap Od.vs) g3 (by rw [zZ Od.len,List.length_take]; congr 1; omega) (by simpa using dF (W:=xn) (g:=b) (off:=off) (l:=l) (H HCV) 0 i) (cz _) (by unfold maxLen; omega) (by omega) (H qG).bel.size ?_
   intro v' w' xR vG _
   refine ⟨upd f 4 v',rfl,r7_4 (H qG) k0 xq (fun _=>trivial) ?_ vG⟩
   have xA:(l.take i).length = 0 + i:=by rw [List.length_take]; omega
   show w'.ownsRow _ _ _ _ (l.take i).length _
   rw [xA]; simpa using xR
  | 5,N =>
   obtain rfl:=yb N
   clear K D
   rw [if_pos (by rfl)];unfold Oper.wp;go_simp
   exact ⟨upd f 5 (.slice (some (U b off)) l.length cap),by simp [upd],bN (H qG) 5 _ rfl (by decide) (by decide) (by decide) (by decide)⟩
  | 6,N =>
   obtain rfl:=yb N
   clear K D
   rw [if_pos (by rfl)];unfold Oper.wp;go_simp
   exact ⟨upd f 6 (I i),by simp [upd],bN (H qG) 6 _ rfl (by decide) (by decide) (by decide) (by decide)⟩
  | 7,N =>
   obtain rfl:=yb N
   have g6:C7o b off l.length cap i 6 (f 6):=K.c 6 (ye D 6 rfl)
   simp only [C7o] at g6
   have hwr:IntKind.i64.wrap ((i:Int) + 1) = (i:Int) + 1:=by rw [IntKind.wrap_i64]; omega
   clear K D
   rw [if_pos (by rfl)];unfold Oper.wp;go_simp
   exact ⟨upd f 7 (I ((i:Int) + 1)),by simp [upd,g6],bN (H qG) 7 _ rfl (by decide) (by decide) (by decide) (by decide)⟩
  | 8,N =>
   obtain rfl:=yb N
   have g5:C7o b off l.length cap i 5 (f 5):=K.c 5 (ye D 5 rfl)
   have g7:C7o b off l.length cap i 7 (f 7):=K.c 7 (ye D 7 rfl)
   simp only [C7o] at g5 g7
   clear K D
   by_cases hcp:cap = i + 1
   ·subst hcp
    rw [if_pos (by rfl)];unfold Oper.wp;go_simp
    exact ⟨upd f 8 (.slice (some (U b off)) (l.length - (i + 1)) 0),by simp [upd,g5,g7]; omega,bN (H qG) 8 _ ⟨_,_,rfl,fun h=>by omega⟩ (by decide) (by decide) (by decide) (by decide)⟩
   ·rw [if_pos (by rfl)];unfold Oper.wp;go_simp
    exact ⟨upd f 8 (.slice (some (U b (off + (i + 1) * 6))) (l.length - (i + 1)) (cap - (i + 1))),by simp [upd,g5,g7],bN (H qG) 8 _ ⟨_,_,rfl,fun h=>rfl⟩ (by decide) (by decide) (by decide) (by decide)⟩
  | 9,N =>
   obtain rfl:=yb N
   have g8:C7o b off l.length cap i 8 (f 8):=K.c 8 (ye D 8 rfl)
   have k4:x[4]? = some true:=D ⟨4,.data⟩ (by simp) rfl
   have HCV:Hid (∀ j c,l[j]? = some c→xn.rangeAt b (off + j * 6) c.vs):=fun j c O=>zc (H HC j c O) K.bel Y
   obtain ⟨ad8,c8,g8,had⟩:=g8
   clear K D
   have hsrc8:∀ j u,((l.drop (i + 1)).flatMap Od.vs)[j]? = some u→xn.cell? (ad8.add j) = some u:=by
    intro j u hu
    by_cases xI:i + 1 < l.length
    ·rw [had xI]
     have:=dF (W:=xn) (g:=b) (off:=off) (l:=l) (H HCV) (i + 1) (l.length - (i + 1)) j u (by rw [yZ (by simp)]; exact hu)
     simpa using this
    ·rw [xa (by omega)] at hu; simp at hu
   rw [if_pos (by rfl)]
   refine wp_append_own xn (.tmp 9) (.tmp 13) 32 rfl w.heap.size 78 i0 _ 6 56 Tryz.underlying32 vA uL uM uF rfl (by decide) (f 4) (l.take i).length ((l.take i).flatMap Od.vs) rfl ((H qG).m4 k4 xq) ad8 (l.length - (i + 1)) c8 ((l.drop (i + 1)).flatMap Od.vs) g8 (by rw [zZ Od.len,List.length_drop]) hsrc8 (cz _) (by unfold maxLen; rw [List.length_take]; omega) (by rw [List.length_take]; omega) (H qG).bel.size ?_
   intro v' w' xR vG _
   refine ⟨upd f 9 v',rfl,r7_9 (H qG) k4 xq (fun _=>trivial) ?_ vG⟩
   show w'.ownsRow _ _ _ _ (l.take i ++ l.drop (i + 1)).length _
   rw [yP,List.length_drop,List.flatMap_append]
   exact xR
  | 10,N =>
   obtain rfl:=yb N
   have hA:∀ j,j < 10→x[j]? = some true:=fun j O=>D ⟨j,.phase⟩ (by
    match j,O with
    | 0,_=>simp
    | 1,_=>simp
    | 2,_=>simp
    | 3,_=>simp
    | 4,_=>simp
    | 5,_=>simp
    | 6,_=>simp
    | 7,_=>simp
    | 8,_=>simp
    | 9,_=>simp
    | n + 10,h=>omega) rfl
   clear K D
   rw [if_pos (by rfl)];unfold Oper.wp;go_simp
   exact ⟨upd f 10 (f 9),by simp [upd],r7_10 (H qG) hA xq (fun _=>trivial)⟩
  | n + 11,N=>simp at N
def App (B:Nat) (base:World) (vq:Value) (l:List Od) (W:World) (v:Value):Prop:=ORow W B v l∧base.grownBy W vq.ownBlock
structure RA (C:Nat→Value→Prop) (n m:Nat) (p:Addr) (fG:World→Value→Prop) (base:World) (x:List Bool) (f:Nat→Value) (W:World):Prop where
 c:∀ j,x[j]? = some true→C j (f j)
 b:x[n]? = some false→Below base.heap.size base W
 a:x[n]? = some true→x[m]? = some false→fG W (f n)
 z:x[m]? = some true→∃ W0,fG W0 (f n)∧W = W0.setCell p (f n)
def RAA (cl:(Nat→Value)→Act) (C:Nat→Value→Prop) (n m:Nat) (p:Addr) (fG:World→Value→Prop) (base:World) (x:List Bool) (a:Act) (W:World):Prop:=∃ f,a = cl f∧RA C n m p fG base x f W
section
variable {C:Nat→Value→Prop} {n m:Nat} {p:Addr} {fG:World→Value→Prop} {base W W':World} {x:List Bool} {f:Nat→Value}
theorem zX (h:RA C n m p fG base x f W) (i:Nat) (v:Value) (hv:C i v) (hn:i ≠ n) (hm:i ≠ m):RA C n m p fG base (x.set i true) (upd f i v) W:=by
 refine ⟨zB h.c hv,?_,?_,?_⟩
 ·rw [gq hn]; exact h.b
 ·rw [gq hn,gq hm,zl _ _ (Ne.symm hn)]; exact h.a
 ·rw [gq hm,zl _ _ (Ne.symm hn)]; exact h.z
theorem ra_grow (h:RA C n m p fG base x f W) (hn:x[n]? = some false) (hm:x[m]? = some false) (Y:yn W W'):RA C n m p fG base x f W' :=
 ⟨h.c,fun e=>(h.b e).trans (Y.mono (h.b e).size),fun e=>(by rw [hn] at e; cases e),fun e=>(by rw [hm] at e; cases e)⟩
theorem ra_app (h:RA C n m p fG base x f W) (hn:x[n]? = some false) (hm:x[m]? = some false) (hnm:n ≠ m) {v:Value} (hv:C n v) (ha:fG W' v):RA C n m p fG base (x.set n true) (upd f n v) W':=by
 refine ⟨zB h.c hv,?_,?_,?_⟩
 ·intro e; rw [gqs hn] at e; cases e
 ·intro _ _; rw [zr]; exact ha
 ·intro e; rw [gq hnm,hm] at e; cases e
theorem ra_store (h:RA C n m p fG base x f W) (hn:x[n]? = some true) (hm:x[m]? = some false) (hnm:n ≠ m) (hc:∀ v,C m v):RA C n m p fG base (x.set m true) f (W.setCell p (f n)):=by
 refine ⟨fun j O=>?_,?_,?_,fun _=>⟨W,h.a hn hm,rfl⟩⟩
 ·by_cases hjm:j = m
  ·subst hjm; exact hc _
  ·rw [gq (fun e=>hjm e.symm)] at O; exact h.c j O
 ·intro e; rw [gq (Ne.symm hnm),hn] at e; cases e
 ·intro _ e; rw [gqs hm] at e; cases e
end
end Go.Proofs.YtnphbkgfjanmgaaGreatDoor
