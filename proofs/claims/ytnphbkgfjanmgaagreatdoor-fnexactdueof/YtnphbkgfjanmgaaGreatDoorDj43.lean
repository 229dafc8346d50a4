/-
  An order reduced in a group, by the program: proved by walking the method.
-/
import Derived.Test.YtnphbkgfjanmgaaGreatDoorDj31
set_option linter.unusedVariables false
set_option maxHeartbeats 6400000
set_option maxRecDepth 100000
namespace Go.Proofs.YtnphbkgfjanmgaaGreatDoor
open Go.RowKit
theorem reduce_chk {G B r:Nat} {vq:Value} {g:Gr} (e:Ev) (w:World) (h:GS G B r w vq g) (hi:GI g) (he:okE e = true) (hk:e.kind = 7) (hg:e.cmd.g.size ≤ maxLen):Calls Tryz.prog 93 #[J G 0,evV e] w fun x w'=>Chk G B r vq g e w x w':=by
 have hsf:=sfl
 have hG:=h.lt
 have vW:=h.base
 have uo:Hid (zF g e = if aP g e ≠ 0 then aP g e else 0):=by show _ = _; rw [show zF g e = aP g e by simp [zF,hk]]; split <;> simp_all
 have uT:Hid (takG g e = ⟨g.nx,setI g.l e.id e.qty,g.bg,g.cm,g.tk⟩):=by show _ = _; rw [takG,step7 hk]
 have vH:Hid (∀ k w',zF g e = k→k ≠ 0→Kp G vq w w'→Chk G B r vq g e w (.panicked (brk k)) w'):=fun k w' N Y h3=>chk_no N Y h3
 have uw:Hid (∀ w' uE,zF g e = 0→Kp G vq w w'→GS G B r w' uE (takG g e)→Chk G B r vq g e w (.returned (.tuple #[])) w'):=fun w' uE N Y h3=>chk_ok N Y h3
 have qg:Hid (∀ W,GS G B r W vq g→Calls Tryz.prog 132 #[J G 0,evV e] W fun x w'=>x = outR (aP g e)∧yp W w'):=fun W hW=>start_any e W hW hi (by rw [hk]; decide) hg
 have aw:Hid (aP g e = 0→∃ (k:Nat) (o:Od),plc g.l e.id = k∧g.l[k]? = some o):=fun h0=>by have Y:=(cG h0).2; simp only [aQ,hk] at Y; obtain ⟨k,o,a,b,_⟩:=ref_red Y; exact ⟨k,o,a,b⟩
 have HI:=H hi
 generalize Chk G B r vq g e w = C at vH uw ⊢
 generalize zF g e = ru at vH uw uo
 generalize takG g e = g' at uT uw
 generalize aP g e = sr at qg aw uo
 obtain ⟨xn,⟨ck,A,ct,F,cq,ci,O,cg⟩,id,xj,qty,xk,xi⟩:=e
 simp only at hk hg
 try simp only at uo uT
 unfold evV at qg
 simp only at qg aw
 unfold evV
 simp only
 obtain ⟨xz,HX⟩:=fE w (yw xn ck A ct F cq ci O cg id xj qty xk xi) 52
 have HS:Hid ((w.alloc (L (yw xn ck A ct F cq ci O cg id xj qty xk xi).toArray 52)).heap.size = w.heap.size + 1):=by show _ = _; simp
 have HG:=H (zy h xz)
 have HB:Hid (Kp G vq w (w.alloc (L (yw xn ck A ct F cq ci O cg id xj qty xk xi).toArray 52))):=kp_of xz
 clear h xz hi he hk hg
 go_enter Tryz.func93,Tryz.ntmps93
 refine fD fun zb HK=>?_
 go_wp2_with fail
 refine U HK _ _ ?_
 clear HK
 generalize (w.alloc (L (yw xn ck A ct F cq ci O cg id xj qty xk xi).toArray 52)) = W1 at HS HX HG HB ⊢
 obtain ⟨e0,e1,e2,e3,e4,e5,e6,e7,e8,e9,uO,uy,vQ,uQ⟩:=yz (U HX)
 go_wp2_with fail
 refine (U qg W1 (U HG)).mono ?_
 rintro x w2 ⟨hx,xL⟩
 have xI:=H (zf (U HX) xL (by have:=U HS; omega))
 have ug:=H (zy (U HG) xL)
 have xw:=H (ba (U HB) xL)
 have hS2:w.heap.size < w2.heap.size:=by have:=U HS; have:=xL.size; omega
 clear xL e0 e1 e2 e3 e4 e5 e6 e7 e8 e9 uO uy vQ uQ
 by_cases hs:sr = 0
 case neg =>
  rw [outR_no hs] at hx
  subst hx
  go_wp2_with fail
  exact ⟨rfl,U vH _ _ (by rw [U uo,if_pos hs]) hs (U xw)⟩
 rw [outR_ok hs] at hx
 subst hx
 have HSR:=H hs
 have ud:=H (U uo)
 rw [if_neg (not_not_intro hs)] at ud
 clear hs uo
 obtain ⟨k,o,uM,uX⟩:=U aw (U HSR)
 have xD:g.l ≠ []:=by intro h; rw [h] at uX; simp at uX
 have oW:=(yH.1 uX).1
 obtain ⟨gb,cap,rfl,uq,hBg,hgw⟩:=cB (U ug).row xD
 have jh:=(U HI).len
 have uN:=H (zK (U ug).row (by omega))
 have jr:=H uM
 have oA:=H uX
 have hkl':(k:Int) < g.l.length:=by omega
 have pw:(0:Int) ≤ k:=by omega
 clear uM uX xD aw jh
 go_wp2_with fail
 refine zm (RWA (fun f=>{ tmps:=#[J G 0,.agg (yw xn ck A ct F cq ci O cg id xj qty xk xi).toArray,M,J w.heap.size 0,J G 0,.agg (yw xn ck A ct F cq ci O cg id xj qty xk xi).toArray,.tuple #[],f 0,f 1,f 2,f 3,f 4,f 5,f 6,f 7,f 8,f 9,f 10,f 11,f 12,f 13,f 14,f 15],defers:=[] }) (CVw [some (J G 0),some (J G 0),some (J G 1),some (J G 2),some (.slice (some (Q gb 0)) g.l.length cap),some (J G 0),some (J G 0),some (J G 1),some (.agg #[I g.nx,.slice (some (Q gb 0)) g.l.length cap]),some (J w.heap.size 9),some (I id),some (I k),some (J w.heap.size 11),some (I qty),some (J gb (k * 6)),some (J gb (k * 6 + 3)),none] (fun _=>True)) 16 (fun hj=>hj.setCell (Q gb (k * 6 + 3)) (I qty)) w2) (by kernel_rfl) ?_ ?_ ?_
 ·exact ⟨fun _=>M,rfl,⟨fun j V=>by rw [yJ] at V; split at V <;> simp at V,fun _=>⟨rfl,rfl,rfl,Nat.le_refl _,fun _ _=>rfl⟩,fun V=>by rw [yJ] at V; split at V <;> simp at V⟩⟩
 ·rintro x cs hj ⟨f,rfl,R⟩ hx xO
  have xq:=zN xO hx (acyc _ (by kernel_rfl))
  obtain ⟨V0,xz,eV⟩:=R.m (xq 16 (by simp))
  have ut:=H (zy (U ug) xz)
  have xH:=H (ba (U xw) xz)
  clear R xq xO hx xz uN
  subst eV
  generalize f 0 = v0,f 1 = v1,f 2 = v2,f 3 = v3,f 4 = v4,f 5 = v5,f 6 = v6,f 7 = v7,f 8 = v8,f 9 = v9,f 10 = v10,f 11 = v11,f 12 = v12,f 13 = v13,f 14 = v14,f 15 = v15
  go_end0
  have HL:=oRow_left (U ut).row rfl (U oA) qty
  refine U uw _ (.slice (some (Q gb 0)) g.l.length cap) (U ud) ?_ ?_
  ·exact kp_row (U xH) HL.2 rfl
  ·rw [U uT]
   simp only [setI_at (U jr) (U oA)]
   exact gs_rowset (U ut) HL.1 HL.2 rfl
 ·rintro x cs hj i op ⟨f,rfl,R⟩ X hx Z xr D
  have xu:=H R
  have nw:i < 16→x[16]? = some false:=fun xJ=>by
   rcases br hx (show 16 < 17 by omega) with hq | hw
   ·exact hq
   ·exfalso
    have h0:=yh X 16 rfl hw 0 rfl
    have N:=yh X 16 rfl hw 1 rfl
    have Y:=yh X 16 rfl hw 2 rfl
    have h3:=yh X 16 rfl hw 3 rfl
    have h4:=yh X 16 rfl hw 4 rfl
    have h5:=yh X 16 rfl hw 5 rfl
    have h6:=yh X 16 rfl hw 6 rfl
    have h7:=yh X 16 rfl hw 7 rfl
    have h8:=yh X 16 rfl hw 8 rfl
    have h9:=yh X 16 rfl hw 9 rfl
    have uV:=yh X 16 rfl hw 10 rfl
    have uR:=yh X 16 rfl hw 11 rfl
    have uK:=yh X 16 rfl hw 12 rfl
    have jN:=yh X 16 rfl hw 13 rfl
    have vR:=yh X 16 rfl hw 15 rfl
    have oD:=yh X 15 rfl vR 14 rfl
    rcases (by omega:i = 0 ∨ i = 1 ∨ i = 2 ∨ i = 3 ∨ i = 4 ∨ i = 5 ∨ i = 6 ∨ i = 7 ∨ i = 8 ∨ i = 9 ∨ i = 10 ∨ i = 11 ∨ i = 12 ∨ i = 13 ∨ i = 14 ∨ i = 15) with rfl | rfl | rfl | rfl | rfl | rfl | rfl | rfl | rfl | rfl | rfl | rfl | rfl | rfl | rfl | rfl
    ·exact absurd (h0.symm.trans xr) (by simp)
    ·exact absurd (N.symm.trans xr) (by simp)
    ·exact absurd (Y.symm.trans xr) (by simp)
    ·exact absurd (h3.symm.trans xr) (by simp)
    ·exact absurd (h4.symm.trans xr) (by simp)
    ·exact absurd (h5.symm.trans xr) (by simp)
    ·exact absurd (h6.symm.trans xr) (by simp)
    ·exact absurd (h7.symm.trans xr) (by simp)
    ·exact absurd (h8.symm.trans xr) (by simp)
    ·exact absurd (h9.symm.trans xr) (by simp)
    ·exact absurd (uV.symm.trans xr) (by simp)
    ·exact absurd (uR.symm.trans xr) (by simp)
    ·exact absurd (uK.symm.trans xr) (by simp)
    ·exact absurd (jN.symm.trans xr) (by simp)
    ·exact absurd (oD.symm.trans xr) (by simp)
    ·exact absurd (vR.symm.trans xr) (by simp)
  have uc:i < 16→yp w2 hj:=fun h=>R.b (nw h)
  have xm:i < 16→∀ (p:Addr) u,w2.cell? p = some u→hj.cell? p = some u:=fun h p u hu=>((uc h).cell (yL w2 _ hu)).trans hu
  match i,Z with
  | 0,Z | 5,Z =>
   obtain rfl:=yc Z
   have CL:=xm (by omega)
   clear D R uc xm nw CL
   rw [if_pos (by rfl)];unfold Oper.wp;go_simp
   exact ⟨upd f _ (J G 0),by simp [upd],zD (U xu) _ _ ⟨yj rfl,trivial⟩ (by decide)⟩
  | 1,Z =>
   obtain rfl:=yc Z
   have g0:=(R.c 0 (yf D 0 rfl)).1 _ rfl
   have CL:=xm (by omega)
   clear D R uc xm nw CL
   rw [if_pos (by rfl)];unfold Oper.wp;go_simp
   exact ⟨upd f 1 (J G 0),by simp [upd,g0],zD (U xu) 1 _ ⟨yj rfl,trivial⟩ (by decide)⟩
  | 2,Z =>
   obtain rfl:=yc Z
   have g1:=(R.c 1 (yf D 1 rfl)).1 _ rfl
   have CL:=xm (by omega)
   clear D R uc xm nw CL
   rw [if_pos (by rfl)];unfold Oper.wp;go_simp
   exact ⟨upd f 2 (J G 1),by simp [upd,g1],zD (U xu) 2 _ ⟨yj rfl,trivial⟩ (by decide)⟩
  | 3,Z =>
   obtain rfl:=yc Z
   have g2:=(R.c 2 (yf D 2 rfl)).1 _ rfl
   have CL:=xm (by omega)
   clear D R uc xm nw CL
   rw [if_pos (by rfl)];unfold Oper.wp;go_simp
   exact ⟨upd f 3 (J G 2),by simp [upd,g2],zD (U xu) 3 _ ⟨yj rfl,trivial⟩ (by decide)⟩
  | 4,Z =>
   obtain rfl:=yc Z
   have g3:=(R.c 3 (yf D 3 rfl)).1 _ rfl
   have CL:=xm (by omega)
   have z:=CL (Q G 2) _ (K (U ug).box 2 rfl)
   clear D R uc xm nw CL
   rw [if_pos (by rfl)];unfold Oper.wp;go_simp
   exact ⟨upd f 4 (.slice (some (Q gb 0)) g.l.length cap),by simp [upd,g3],zD (U xu) 4 _ ⟨yj rfl,trivial⟩ (by decide)⟩
  | 6,Z =>
   obtain rfl:=yc Z
   have g5:=(R.c 5 (yf D 5 rfl)).1 _ rfl
   have CL:=xm (by omega)
   clear D R uc xm nw CL
   rw [if_pos (by rfl)];unfold Oper.wp;go_simp
   exact ⟨upd f 6 (J G 0),by simp [upd,g5],zD (U xu) 6 _ ⟨yj rfl,trivial⟩ (by decide)⟩
  | 7,Z =>
   obtain rfl:=yc Z
   have g6:=(R.c 6 (yf D 6 rfl)).1 _ rfl
   have CL:=xm (by omega)
   clear D R uc xm nw CL
   rw [if_pos (by rfl)];unfold Oper.wp;go_simp
   exact ⟨upd f 7 (J G 1),by simp [upd,g6],zD (U xu) 7 _ ⟨yj rfl,trivial⟩ (by decide)⟩
  | 8,Z =>
   obtain rfl:=yc Z
   have g7:=(R.c 7 (yf D 7 rfl)).1 _ rfl
   have CL:=xm (by omega)
   have z1:=CL (Q G 1) _ (K (U ug).box 1 rfl)
   have z2:=CL (Q G 2) _ (K (U ug).box 2 rfl)
   clear D R uc xm nw CL
   rw [if_pos (by rfl)];unfold Oper.wp;go_simp
   exact ⟨upd f 8 (.agg #[I g.nx,.slice (some (Q gb 0)) g.l.length cap]),by simp [upd,g7],zD (U xu) 8 _ ⟨yj rfl,trivial⟩ (by decide)⟩
  | 9,Z =>
   obtain rfl:=yc Z
   have CL:=xm (by omega)
   clear D R uc xm nw CL
   rw [if_pos (by rfl)];unfold Oper.wp;go_simp
   exact ⟨upd f 9 (J w.heap.size 9),by simp [upd],zD (U xu) 9 _ ⟨yj rfl,trivial⟩ (by decide)⟩
  | 10,Z =>
   obtain rfl:=yc Z
   have g9:=(R.c 9 (yf D 9 rfl)).1 _ rfl
   have CL:=xm (by omega)
   have z:=CL (Q w.heap.size 9) _ (K (U xI) 9 rfl)
   clear D R uc xm nw CL
   rw [if_pos (by rfl)];unfold Oper.wp;go_simp
   exact ⟨upd f 10 (I id),by simp [upd,g9],zD (U xu) 10 _ ⟨yj rfl,trivial⟩ (by decide)⟩
  | 11,Z =>
   obtain rfl:=yc Z
   have g8:=(R.c 8 (yf D 8 rfl)).1 _ rfl
   have qn:=(R.c 10 (yf D 10 rfl)).1 _ rfl
   have CL:=xm (by omega)
   have hw:=nw (by omega)
   have qC:=H (zh (U uN) (uc (by omega)) yb)
   clear D R uc xm nw CL
   rw [if_pos (by rfl)];unfold Oper.wp;go_simp
   refine (dY g.nx _ g.l id hj (U qC)).mono ?_
   rw [U jr]
   rintro e w4 ⟨rfl,xy⟩
   exact ⟨upd f 11 (I k),by simp [upd,g8,qn],zD (cJ (U xu) hw xy) 11 _ ⟨yj rfl,trivial⟩ (by decide)⟩
  | 12,Z =>
   obtain rfl:=yc Z
   have CL:=xm (by omega)
   clear D R uc xm nw CL
   rw [if_pos (by rfl)];unfold Oper.wp;go_simp
   exact ⟨upd f 12 (J w.heap.size 11),by simp [upd],zD (U xu) 12 _ ⟨yj rfl,trivial⟩ (by decide)⟩
  | 13,Z =>
   obtain rfl:=yc Z
   have ua:=(R.c 12 (yf D 12 rfl)).1 _ rfl
   have CL:=xm (by omega)
   have z:=CL (Q w.heap.size 11) _ (K (U xI) 11 rfl)
   clear D R uc xm nw CL
   rw [if_pos (by rfl)];unfold Oper.wp;go_simp
   exact ⟨upd f 13 (I qty),by simp [upd,ua],zD (U xu) 13 _ ⟨yj rfl,trivial⟩ (by decide)⟩
  | 14,Z =>
   obtain rfl:=yc Z
   have g4:=(R.c 4 (yf D 4 rfl)).1 _ rfl
   have vE:=(R.c 11 (yf D 11 rfl)).1 _ rfl
   have CL:=xm (by omega)
   clear D R uc xm nw CL
   rw [if_pos (by rfl)];unfold Oper.wp;go_simp
   exact ⟨upd f 14 (J gb (k * 6)),by simp [upd,g4,vE],zD (U xu) 14 _ ⟨yj rfl,trivial⟩ (by decide)⟩
  | 15,Z =>
   obtain rfl:=yc Z
   have je:=(R.c 14 (yf D 14 rfl)).1 _ rfl
   have CL:=xm (by omega)
   clear D R uc xm nw CL
   rw [if_pos (by rfl)];unfold Oper.wp;go_simp
   exact ⟨upd f 15 (J gb (k * 6 + 3)),by simp [upd,je],zD (U xu) 15 _ ⟨yj rfl,trivial⟩ (by decide)⟩
  | 16,Z =>
   obtain rfl:=yc Z
   have g15:=(R.c 15 (yf D 15 rfl)).1 _ rfl
   have qI:=(R.c 13 (yf D 13 rfl)).1 _ rfl
   have ut:=H (zy (U ug) (R.b xr))
   have jh:=(U HI).len
   obtain ⟨zz,qq⟩:=row_here (U ut).row (by omega) (U oA)
   have z3:=zz 3 _ rfl
   have q3:=qq 3 (by omega)
   clear zz qq jh
   clear D R uc xm nw
   rw [if_pos (by rfl)];unfold Oper.wp;go_simp
   exact ⟨f,by simp [g15,qI],rw_last (T:=fun hj=>hj.setCell (Q gb (k * 6 + 3)) (I qty)) (U xu) xr (fun j V hx=>⟨fun u hu=>(by subst V; cases hu),trivial⟩)⟩
  | i + 17,Z=>simp at Z
theorem endDay_chk {G B r:Nat} {vq:Value} {g:Gr} (e:Ev) (w:World) (h:GS G B r w vq g) (hi:GI g) (he:okE e = true) (hk:e.kind = 8) (hg:e.cmd.g.size ≤ maxLen):Calls Tryz.prog 94 #[J G 0,evV e] w fun x w'=>Chk G B r vq g e w x w':=by
 have hsf:=sfl
 have hG:=h.lt
 have vW:=h.base
 have uo:Hid (zF g e = if aP g e ≠ 0 then aP g e else if e.qty = ((g.l.filter isDy).length:Int) then 0 else 7):=by show _ = _; simp [zF,hk]
 have uT:Hid (takG g e = ⟨g.nx,g.l,g.bg,g.cm,g.tk⟩):=by show _ = _; rw [takG,step8 hk]
 have vH:Hid (∀ k w',zF g e = k→k ≠ 0→Kp G vq w w'→Chk G B r vq g e w (.panicked (brk k)) w'):=fun k w' N Y h3=>chk_no N Y h3
 have uw:Hid (∀ w' uE,zF g e = 0→Kp G vq w w'→GS G B r w' uE (takG g e)→Chk G B r vq g e w (.returned (.tuple #[])) w'):=fun w' uE N Y h3=>chk_ok N Y h3
 have qg:Hid (∀ W,GS G B r W vq g→Calls Tryz.prog 132 #[J G 0,evV e] W fun x w'=>x = outR (aP g e)∧yp W w'):=fun W hW=>start_any e W hW hi (by rw [hk]; decide) hg
 have HI:=H hi
 generalize Chk G B r vq g e w = C at vH uw ⊢
 generalize zF g e = ru at vH uw uo
 generalize takG g e = g' at uT uw
 generalize aP g e = sr at qg uo
 obtain ⟨xn,⟨ck,A,ct,F,cq,ci,O,cg⟩,id,xj,qty,xk,xi⟩:=e
 simp only at hk hg
 try simp only at uo uT
 unfold evV at qg
 simp only at qg
 unfold evV
 simp only
 obtain ⟨xz,HX⟩:=fE w (yw xn ck A ct F cq ci O cg id xj qty xk xi) 52
 have HS:Hid ((w.alloc (L (yw xn ck A ct F cq ci O cg id xj qty xk xi).toArray 52)).heap.size = w.heap.size + 1):=by show _ = _; simp
 have HG:=H (zy h xz)
 have HB:Hid (Kp G vq w (w.alloc (L (yw xn ck A ct F cq ci O cg id xj qty xk xi).toArray 52))):=kp_of xz
 clear h xz hi he hk hg
 go_enter Tryz.func94,Tryz.ntmps94
 refine fD fun zb HK=>?_
 go_wp2_with fail
 refine U HK _ _ ?_
 clear HK
 generalize (w.alloc (L (yw xn ck A ct F cq ci O cg id xj qty xk xi).toArray 52)) = W1 at HS HX HG HB ⊢
 obtain ⟨e0,e1,e2,e3,e4,e5,e6,e7,e8,e9,uO,uy,vQ,uQ⟩:=yz (U HX)
 go_wp2_with fail
 refine (U qg W1 (U HG)).mono ?_
 rintro x w2 ⟨hx,xL⟩
 have xI:=H (zf (U HX) xL (by have:=U HS; omega))
 have ug:=H (zy (U HG) xL)
 have xw:=H (ba (U HB) xL)
 have hS2:w.heap.size < w2.heap.size:=by have:=U HS; have:=xL.size; omega
 clear xL e0 e1 e2 e3 e4 e5 e6 e7 e8 e9 uO uy vQ uQ
 by_cases hs:sr = 0
 case neg =>
  rw [outR_no hs] at hx
  subst hx
  go_wp2_with fail
  exact ⟨rfl,U vH _ _ (by rw [U uo,if_pos hs]) hs (U xw)⟩
 rw [outR_ok hs] at hx
 subst hx
 have HSR:=H hs
 have ud:=H (U uo)
 rw [if_neg (not_not_intro hs)] at ud
 clear hs uo
 have jh:=(U HI).len
 obtain ⟨a,cap,rfl,xA,hc⟩:=zK (U ug).row (by omega)
 have xt:∀ (k:Nat) (c:Od),g.l[k]? = some c→∃ b off,a = some (Q b off)∧b < w2.heap.size∧w2.rangeAt b (off + k * 6) c.vs:=by
  intro k c hk
  obtain ⟨b,off,N,Y,h3⟩:=hc (by intro h; rw [h] at hk; simp at hk)
  exact ⟨b,off,N,Y,h3 k c hk⟩
 have HC:=H xt
 clear xt hc xA
 have c2:w2.cell? (Q G 2) = some (.slice a g.l.length cap):=K (U ug).box 2 rfl
 go_wp2_with fail
 clear c2
 go_loopw [4,16] (fun cv iv wr=>∃ k:Nat,k ≤ g.l.length∧cv = I (((g.l.take k).filter isDy).length:Int)∧iv = I k∧yp w2 wr) (fun _ iv _=>g.l.length - (intOf iv).toNat)
 case atStart=>exact ⟨0,Nat.zero_le _,rfl,rfl,Below.refl _ _⟩
 case round =>
  obtain ⟨k,hk,rfl,rfl,xl⟩:=hrel
  have ub:=H xl
  clear xl
  by_cases xJ:k < g.l.length
  ·obtain ⟨c,ur⟩:∃ c,g.l[k]? = some c:=⟨_,yI xJ⟩
   have HT:Hid (((g.l.take (k + 1)).filter isDy).length = ((g.l.take k).filter isDy).length + if isDy c = true then 1 else 0):=by
    show _ = _
    rw [List.take_add_one,ur]
    simp [List.filter_cons]
    split <;> simp
   have hcn:((g.l.take k).filter isDy).length ≤ k:=yO (List.length_filter_le _ _) (by simp; omega)
   generalize ((g.l.take k).filter isDy).length = cn at HT hcn ⊢
   obtain ⟨b,off,rfl,E,X⟩:=U HC k c ur
   obtain ⟨g0,g1,g2,g3,g4,g5⟩:=zB (zc X (U ub) E)
   have uF:(k:Int) < g.l.length:=by omega
   have xy:=fw wr (L (yx c.id c.side c.ticks c.left c.life c.tag).toArray 78)
   have xH:=H (fC (U ub) xy)
   clear ur X E xy
   go_wp2_with fail
   refine (isOfDay_any c (wr.alloc (L (yx c.id c.side c.ticks c.left c.life c.tag).toArray 78))).mono ?_
   rintro e w3 ⟨rfl,xQ⟩
   have xN:=H (fC (U xH) xQ)
   clear xQ g0 g1 g2 g3 g4 g5
   have hwr:IntKind.i64.wrap ((cn:Int) + 1) = (cn:Int) + 1:=by rw [IntKind.wrap_i64]; omega
   by_cases ui:c.life = 1
   ·have E:(c.life == 1) = true:=by simpa using ui
    have ux:Hid (((g.l.take (k + 1)).filter isDy).length = cn + 1):=by show _ = _; rw [U HT,if_pos (by simpa [isDy] using ui)]
    clear ui HT
    go_wp2_with fail
    go_roundw
    case rel=>exact ⟨k + 1,by omega,by rw [U ux]; rfl,by go_num,U xN⟩
    case measure=>simp [intOf]; omega
   ·have E:(c.life == 1) = false:=by simpa using ui
    have ux:Hid (((g.l.take (k + 1)).filter isDy).length = cn):=by show _ = _; rw [U HT,if_neg (by simpa [isDy] using ui)]; rfl
    clear ui HT
    go_wp2_with fail
    go_roundw
    case rel=>exact ⟨k + 1,by omega,by rw [U ux],by go_num,U xN⟩
    case measure=>simp [intOf]; omega
  ·have oJ:k = g.l.length:=by omega
   subst oJ
   rw [List.take_length]
   generalize hcn:(g.l.filter isDy).length = cn at ud
   clear hcn
   have xG:=H (zf (U xI) (U ub) hS2)
   have ut:=H (zy (U ug) (U ub))
   have xH:=H (ba (U xw) (U ub))
   have uy:=K (U xG) 11 rfl
   by_cases hq:qty = (cn:Int)
   case neg =>
    have b0:(qty == (cn:Int)) = false:=by simpa using hq
    have HQ:=H (U ud)
    rw [if_neg hq] at HQ
    clear hq
    go_wp2_with fail
    refine (bw 7 _).mono ?_
    rintro e w6 ⟨rfl,rfl⟩
    go_wp2_with fail
    exact ⟨rfl,U vH 7 _ (U HQ) (by decide) (U xH)⟩
   have b0:(qty == (cn:Int)) = true:=by simpa using hq
   have HQ:=H (U ud)
   rw [if_pos hq] at HQ
   clear hq
   go_wp2_with fail
   refine (bC 7 _).mono ?_
   rintro e w6 ⟨rfl,rfl⟩
   go_wp2_with fail
   go_end0
   refine U uw _ (.slice a g.l.length cap) (U HQ) (U xH) ?_
   rw [U uT]
   exact U ut
theorem drop_chk {G B r:Nat} {vq:Value} {g:Gr} (e:Ev) (w:World) (h:GS G B r w vq g) (hi:GI g) (he:okE e = true) (hk:e.kind = 5) (hg:e.cmd.g.size ≤ maxLen):Calls Tryz.prog 91 #[J G 0,evV e] w fun x w'=>Chk G B r vq g e w x w':=by
 have hsf:=sfl
 have hG:=h.lt
 have vW:=h.base
 have uo:Hid (zF g e = if dueR g e ≠ 0 then dueR g e else if aS e (dueG g) = true then 0 else 13):=by show _ = _; simp [zF,hk]
 have uT:Hid (takG g e = ⟨g.nx,g.l,g.bg,g.cm,{ g.tk with left:=0 }⟩):=by show _ = _; rw [takG,step5 hk]
 have vH:Hid (∀ k w',zF g e = k→k ≠ 0→Kp G vq w w'→Chk G B r vq g e w (.panicked (brk k)) w'):=fun k w' N Y h3=>chk_no N Y h3
 have uw:Hid (∀ w' uE,zF g e = 0→Kp G vq w w'→GS G B r w' uE (takG g e)→Chk G B r vq g e w (.returned (.tuple #[])) w'):=fun w' uE N Y h3=>chk_ok N Y h3
 have jx:Hid (∀ W,GS G B r W vq g→Calls Tryz.prog 137 #[J G 0,evV e] W fun x w'=>x = outD (dueR g e) (dueG g)∧yp W w'):=fun W hW=>eE e W hW hi
 have pE:Hid (∀ W,Calls Tryz.prog 139 #[evV e,duV (dueG g)] W fun r w'=>r = .returned (.bool (aS e (dueG g)))∧yp W w'):=fun W=>isJust_any e (dueG g) W
 have HR45:Hid (zF g e = 0→g.bg = 1∧g.tk.left ≠ 0):=rule45 (by omega)
 have HI:=H hi
 generalize Chk G B r vq g e w = C at vH uw ⊢
 generalize zF g e = ru at vH uw uo HR45
 generalize takG g e = g' at uT uw
 generalize dueR g e = dr at jx uo
 generalize aS e (dueG g) = jb at pE uo
 generalize dueG g = d at jx pE
 obtain ⟨xn,⟨ck,A,ct,F,cq,ci,O,cg⟩,id,xj,qty,xk,xi⟩:=e
 simp only at hk hg
 try simp only at uo uT
 obtain ⟨dk,di,dt,dq,dp⟩:=d
 unfold evV at jx pE
 unfold duV at pE
 simp only at jx pE
 unfold evV
 simp only
 obtain ⟨xz,HX⟩:=fE w (yw xn ck A ct F cq ci O cg id xj qty xk xi) 52
 have HS:Hid ((w.alloc (L (yw xn ck A ct F cq ci O cg id xj qty xk xi).toArray 52)).heap.size = w.heap.size + 1):=by show _ = _; simp
 have HG:=H (zy h xz)
 have HB:Hid (Kp G vq w (w.alloc (L (yw xn ck A ct F cq ci O cg id xj qty xk xi).toArray 52))):=kp_of xz
 clear h xz hi he hk hg
 go_enter Tryz.func91,Tryz.ntmps91
 refine fD fun zb HK=>?_
 go_wp2_with fail
 refine U HK _ _ ?_
 clear HK
 generalize (w.alloc (L (yw xn ck A ct F cq ci O cg id xj qty xk xi).toArray 52)) = W1 at HS HX HG HB ⊢
 go_wp2_with fail
 refine zm (RWA (fun f=>{ tmps:=#[J G 0,.agg (yw xn ck A ct F cq ci O cg id xj qty xk xi).toArray,M,J w.heap.size 0,f 0,f 1,f 2,f 3,f 4,f 5,M,M,M,M],defers:=[] }) (CVw [some (.agg (yw xn ck A ct F cq ci O cg id xj qty xk xi).toArray),some (J G 0),some (.agg (yw xn ck A ct F cq ci O cg id xj qty xk xi).toArray),some (.agg #[I dk,I di,I dt,I dq,I dp]),some (.bool jb),some (.tuple #[])] (fun j=>(j = 3→dr = 0)∧(j = 5→jb = true))) 5 (fun hj=>hj) W1) (by kernel_rfl) ?_ ?_ ?_
 ·exact ⟨fun _=>M,rfl,⟨fun j V=>by rw [yJ] at V; split at V <;> simp at V,fun _=>⟨rfl,rfl,rfl,Nat.le_refl _,fun _ _=>rfl⟩,fun V=>by rw [yJ] at V; split at V <;> simp at V⟩⟩
 ·rintro x cs hj ⟨f,rfl,R⟩ hx xO
  have xq:=zN xO hx (acyc _ (by kernel_rfl))
  obtain ⟨V0,xz,eV⟩:=R.m (xq 5 (by simp))
  have qZ:=(R.c 3 (xq 3 (by simp))).2.1 rfl
  have hjb:=(R.c 5 (xq 5 (by simp))).2.2 rfl
  have HQ:=H (U uo)
  rw [if_neg (not_not_intro qZ),if_pos hjb] at HQ
  subst eV
  have ut:=H (zy (U HG) xz)
  have xH:=H (ba (U HB) xz)
  clear R xq xO hx xz qZ hjb uo jx pE HX HS HG HB
  dsimp only
  generalize f 0 = v0,f 1 = v1,f 2 = v2,f 3 = v3,f 4 = v4,f 5 = v5
  have c13:=K (U ut).box 13 rfl
  have q13:=zd (U ut).box 13 (by show 13 < 16; decide)
  go_wp2_with fail
  go_end0
  refine U uw _ vq (U HQ) (kp_set (U xH) 13 _) ?_
  rw [U uT]
  exact gs_set (U ut) 13 _ (by decide) rfl rfl
 ·rintro x cs hj i op ⟨f,rfl,R⟩ X hx Z xr D
  have xu:=H R
  have nw:i < 5→x[5]? = some false:=fun xJ=>by
   rcases br hx (show 5 < 6 by omega) with hq | hw
   ·exact hq
   ·exfalso
    have h4:=yh X 5 rfl hw 4 rfl
    have h0:=yh X 4 rfl h4 0 rfl
    have h3:=yh X 4 rfl h4 3 rfl
    have N:=yh X 3 rfl h3 1 rfl
    have Y:=yh X 3 rfl h3 2 rfl
    rcases (by omega:i = 0 ∨ i = 1 ∨ i = 2 ∨ i = 3 ∨ i = 4) with rfl | rfl | rfl | rfl | rfl
    ·exact absurd (h0.symm.trans xr) (by simp)
    ·exact absurd (N.symm.trans xr) (by simp)
    ·exact absurd (Y.symm.trans xr) (by simp)
    ·exact absurd (h3.symm.trans xr) (by simp)
    ·exact absurd (h4.symm.trans xr) (by simp)
  have uc:i < 5→yp W1 hj:=fun h=>R.b (nw h)
  have xm:i < 5→∀ (p:Addr) u,W1.cell? p = some u→hj.cell? p = some u:=fun h p u hu=>((uc h).cell (yL W1 _ hu)).trans hu
  match i,Z with
  | 0,Z | 2,Z =>
   obtain rfl:=yc Z
   have CL:=xm (by omega)
   have e0:=CL (Q w.heap.size 0) _ (K (U HX) 0 rfl)
   have e1:=CL (Q w.heap.size 1) _ (K (U HX) 1 rfl)
   have e2:=CL (Q w.heap.size 2) _ (K (U HX) 2 rfl)
   have e3:=CL (Q w.heap.size 3) _ (K (U HX) 3 rfl)
   have e4:=CL (Q w.heap.size 4) _ (K (U HX) 4 rfl)
   have e5:=CL (Q w.heap.size 5) _ (K (U HX) 5 rfl)
   have e6:=CL (Q w.heap.size 6) _ (K (U HX) 6 rfl)
   have e7:=CL (Q w.heap.size 7) _ (K (U HX) 7 rfl)
   have e8:=CL (Q w.heap.size 8) _ (K (U HX) 8 rfl)
   have e9:=CL (Q w.heap.size 9) _ (K (U HX) 9 rfl)
   have uO:=CL (Q w.heap.size 10) _ (K (U HX) 10 rfl)
   have uy:=CL (Q w.heap.size 11) _ (K (U HX) 11 rfl)
   have vQ:=CL (Q w.heap.size 12) _ (K (U HX) 12 rfl)
   have uQ:=CL (Q w.heap.size 13) _ (K (U HX) 13 rfl)
   clear D R uc xm nw CL
   rw [if_pos (by rfl)];unfold Oper.wp;go_simp
   exact ⟨upd f _ (.agg (yw xn ck A ct F cq ci O cg id xj qty xk xi).toArray),by simp [upd],zD (U xu) _ _ ⟨yj rfl,⟨fun h=>absurd h (by decide),fun h=>absurd h (by decide)⟩⟩ (by decide)⟩
  | 1,Z =>
   obtain rfl:=yc Z
   have CL:=xm (by omega)
   clear D R uc xm nw CL
   rw [if_pos (by rfl)];unfold Oper.wp;go_simp
   exact ⟨upd f 1 (J G 0),by simp [upd],zD (U xu) 1 _ ⟨yj rfl,⟨fun h=>absurd h (by decide),fun h=>absurd h (by decide)⟩⟩ (by decide)⟩
  | 3,Z =>
   obtain rfl:=yc Z
   have g1:=(R.c 1 (yf D 1 rfl)).1 _ rfl
   have g2:=(R.c 2 (yf D 2 rfl)).1 _ rfl
   have CL:=xm (by omega)
   have hw:=nw (by omega)
   have vp:=H (ba (U HB) (uc (by omega)))
   have HGV:=H (zy (U HG) (uc (by omega)))
   clear D R uc xm nw CL
   rw [if_pos (by rfl)];unfold Oper.wp;go_simp
   refine (U jx hj (U HGV)).mono ?_
   rintro y w4 ⟨hy,xy⟩
   by_cases hs:dr = 0
   ·rw [outD_ok hs] at hy
    subst hy
    exact ⟨upd f 3 (.agg #[I dk,I di,I dt,I dq,I dp]),by simp [upd,g1,g2,duV],zD (cJ (U xu) hw xy) 3 _ ⟨yj rfl,fun _=>hs,fun h=>absurd h (by decide)⟩ (by decide)⟩
   ·rw [outD_no hs] at hy
    subst hy
    have HQ:=H (U uo)
    rw [if_pos hs] at HQ
    have jB:=H hs
    have uj:=H (ba (U vp) xy)
    clear hs xy
    go_wp2_with fail
    exact ⟨rfl,U vH _ _ (U HQ) (U jB) (U uj)⟩
  | 4,Z =>
   obtain rfl:=yc Z
   have g0:=(R.c 0 (yf D 0 rfl)).1 _ rfl
   have g3:=(R.c 3 (yf D 3 rfl)).1 _ rfl
   have CL:=xm (by omega)
   have hw:=nw (by omega)
   clear D R uc xm nw CL
   rw [if_pos (by rfl)];unfold Oper.wp;go_simp
   refine (U pE hj).mono ?_
   rintro y w4 ⟨rfl,xy⟩
   exact ⟨upd f 4 (.bool jb),by simp [upd,g0,g3],zD (cJ (U xu) hw xy) 4 _ ⟨yj rfl,⟨fun h=>absurd h (by decide),fun h=>absurd h (by decide)⟩⟩ (by decide)⟩
  | 5,Z =>
   obtain rfl:=yc Z
   have g4:=(R.c 4 (yf D 4 rfl)).1 _ rfl
   have vp:=H (ba (U HB) (R.b xr))
   have h4:=D ⟨4,.data⟩ (by simp) rfl
   have h3:=yh X 4 rfl h4 3 rfl
   have qZ:=(R.c 3 h3).2.1 rfl
   have HQ:=H (U uo)
   rw [if_neg (not_not_intro qZ)] at HQ
   clear D R uc xm nw h4 h3 qZ
   rw [if_pos (by rfl)];unfold Oper.wp;go_simp
   by_cases V:jb = true
   ·have hd:=bC 13 hj
    rw [← V] at hd
    refine hd.mono ?_
    rintro e w4 ⟨rfl,rfl⟩
    exact ⟨upd f 5 (.tuple #[]),by simp [upd,g4],rw_lastv (T:=fun hj=>hj) (U xu) xr ⟨yj rfl,fun h=>absurd h (by decide),fun _=>V⟩⟩
   ·have hj2:jb = false:=by simpa using V
    have hd:=bw 13 hj
    rw [← hj2] at hd
    refine hd.mono ?_
    rintro e w4 ⟨rfl,rfl⟩
    rw [if_neg V] at HQ
    clear V hj2 hd
    go_wp2_with fail
    exact ⟨rfl,U vH 13 _ (U HQ) (by decide) (U vp)⟩
  | i + 6,Z=>simp at Z
end Go.Proofs.YtnphbkgfjanmgaaGreatDoor
