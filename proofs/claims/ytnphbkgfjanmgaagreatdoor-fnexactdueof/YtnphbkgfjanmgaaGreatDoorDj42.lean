/-
  An expiry in a group, by the program: proved by walking the method.
-/
import Derived.Test.YtnphbkgfjanmgaaGreatDoorDj31
set_option linter.unusedVariables false
set_option maxHeartbeats 6400000
set_option maxRecDepth 100000
namespace Go.Proofs.YtnphbkgfjanmgaaGreatDoor
open Go.RowKit
theorem expire_chk {G B r:Nat} {vq:Value} {g:Gr} (e:Ev) (w:World) (h:GS G B r w vq g) (hi:GI g) (he:okE e = true) (hk:e.kind = 9) (hg:e.cmd.g.size ≤ maxLen):Calls Tryz.prog 95 #[J G 0,evV e] w fun x w'=>Chk G B r vq g e w x w':=by
 have hsf:=sfl
 have hG:=h.lt
 have vW:=h.base
 have uo:Hid (zF g e = if dueR g e ≠ 0 then dueR g e else 0):=by show _ = _; simp [zF,hk]
 have uT:Hid (takG g e = ⟨g.nx,hitI g.l (dueG g).id (dueG g).qty,g.bg,g.cm,g.tk⟩):=by show _ = _; rw [takG,step9 hk]
 have vH:Hid (∀ k w',zF g e = k→k ≠ 0→Kp G vq w w'→Chk G B r vq g e w (.panicked (brk k)) w'):=fun k w' N Y h3=>chk_no N Y h3
 have uw:Hid (∀ w' uE,zF g e = 0→Kp G vq w w'→GS G B r w' uE (takG g e)→Chk G B r vq g e w (.returned (.tuple #[])) w'):=fun w' uE N Y h3=>chk_ok N Y h3
 have jx:Hid (∀ W,GS G B r W vq g→Calls Tryz.prog 137 #[J G 0,evV e] W fun x w'=>x = outD (dueR g e) (dueG g)∧yp W w'):=fun W hW=>eE e W hW hi
 have HR9:Hid (zF g e = 0→g.bg = 8∧∃ o,g.l.find? isDy = some o∧dueG g = ⟨9,o.id,0,o.left,0⟩∧e.id = o.id∧e.qty = o.left):=rule9 hk
 have HI:=H hi
 generalize Chk G B r vq g e w = C at vH uw ⊢
 generalize zF g e = ru at vH uw uo HR9
 generalize takG g e = g' at uT uw
 generalize dueR g e = dr at jx uo
 generalize dueG g = d at jx uT HR9
 obtain ⟨xn,⟨ck,A,ct,F,cq,ci,O,cg⟩,id,xj,qty,xk,xi⟩:=e
 simp only at hk hg
 try simp only at uo uT
 unfold evV at jx
 simp only at jx HR9
 unfold evV
 simp only
 obtain ⟨xz,HX⟩:=fE w (yw xn ck A ct F cq ci O cg id xj qty xk xi) 52
 have HS:Hid ((w.alloc (L (yw xn ck A ct F cq ci O cg id xj qty xk xi).toArray 52)).heap.size = w.heap.size + 1):=by show _ = _; simp
 have HG:=H (zy h xz)
 have HB:Hid (Kp G vq w (w.alloc (L (yw xn ck A ct F cq ci O cg id xj qty xk xi).toArray 52))):=kp_of xz
 clear h xz hi he hk hg
 go_enter Tryz.func95,Tryz.ntmps95
 refine fD fun zb HK=>?_
 go_wp2_with fail
 refine U HK _ _ ?_
 clear HK
 generalize (w.alloc (L (yw xn ck A ct F cq ci O cg id xj qty xk xi).toArray 52)) = W1 at HS HX HG HB ⊢
 obtain ⟨e0,e1,e2,e3,e4,e5,e6,e7,e8,e9,uO,uy,vQ,uQ⟩:=yz (U HX)
 go_wp2_with fail
 refine (U jx W1 (U HG)).mono ?_
 rintro x w2 ⟨hx,xL⟩
 by_cases hs:dr = 0
 case neg =>
  rw [outD_no hs] at hx
  subst hx
  go_wp2_with fail
  exact ⟨rfl,U vH _ _ (by rw [U uo,if_pos hs]) hs (ba (U HB) xL)⟩
 rw [outD_ok hs] at hx
 subst hx
 have HDZ:=H hs
 have ud:=H (U uo)
 rw [if_neg (not_not_intro hs)] at ud
 clear hs uo
 obtain ⟨dk,di,dt,dq,dp⟩:=d
 unfold duV
 simp only at ud ⊢
 have xQ:=fw w2 (L #[I dk,I di,I dt,I dq,I dp] 29)
 have oj:=xL.trans (xQ.mono xL.size)
 have xI:=H (zf (U HX) oj (by have:=U HS; omega))
 have ug:=H (zy (U HG) oj)
 have xw:=H (ba (U HB) oj)
 have HV2:=H (zq w2 [I dk,I di,I dt,I dq,I dp] 29)
 have HZ2:Hid (w.heap.size < w2.heap.size∧w2.heap.size < (w2.alloc (L #[I dk,I di,I dt,I dq,I dp] 29)).heap.size):=⟨by have:=U HS; have:=xL.size; omega,by simp⟩
 clear xL xQ oj e0 e1 e2 e3 e4 e5 e6 e7 e8 e9 uO uy vQ uQ HX HG HB HS
 obtain ⟨h8,o,hf,hd,-⟩:=U HR9 (U ud)
 simp only [Du.mk.injEq] at hd
 obtain ⟨rfl,rfl,rfl,rfl,rfl⟩:=hd
 have kD:=(U HI).good (.inl (by omega))
 obtain ⟨i,hi⟩:=find_at hf
 have uM:=co kD.rise hi
 have kG:=kD.left o (yP hi)
 have jr:=H uM
 have HLI:=H hi
 have HOL:=H kG
 clear h8 hf kD hi uM kG HR9
 go_wp2_with fail
 generalize (w2.alloc (L #[I 9,I o.id,I 0,I o.left,I 0] 29)) = xo at xI ug xw HV2 HZ2 ⊢
 have xY:Hid (Bx xo.drew w.heap.size (yw xn ck A ct F cq ci O cg id xj qty xk xi)):=zJ (U xI)
 have ql:Hid (GS G B r xo.drew vq g):=zy (U ug) ⟨rfl,rfl,rfl,Nat.le_refl _,fun _ _=>rfl⟩
 have vv:Hid (Kp G vq w xo.drew):=kp_drew (U xw)
 have v1:xo.drew.cell? (Q w2.heap.size 1) = some (I o.id):=K (U HV2) 1 rfl
 have v3:xo.drew.cell? (Q w2.heap.size 3) = some (I o.left):=K (U HV2) 3 rfl
 refine zE 7 (by kernel_rfl) (by kernel_rfl) ?_
 simp only [yU,List.take_zero,yV,List.drop_zero]
 repeat still_step
 refine wpStill_nil ?_
 go_wp2_with fail
 refine (et G 1 B g.nx o.id o.left vq g.l i o _ (K (U ql).box 1 rfl) (K (U ql).box 2 rfl) (zd (U ql).box 2 (by show 2 < 16; decide)) (U ql).row (U ql).nq (U ql).lt (U ql).base (yO (U HI).len (by decide)) (U jr) (U HLI) (by have:=U HOL; omega) (Int.le_refl _) (U HOL).2).mono ?_
 rintro e w9 ⟨uE,rfl,aC,kL,aK⟩
 have HG9:=H (gs_took (U ql) aC kL aK)
 have pB:=H (kp_took (U vv) aK)
 clear aC kL aK
 go_wp2_with fail
 go_end0
 refine U uw _ uE (U ud) (U pB) ?_
 rw [U uT]
 simp only [cF (U jr) (U HLI)]
 exact U HG9
theorem cancel_chk {G B r:Nat} {vq:Value} {g:Gr} (e:Ev) (w:World) (h:GS G B r w vq g) (hi:GI g) (he:okE e = true) (hk:e.kind = 6) (hg:e.cmd.g.size ≤ maxLen):Calls Tryz.prog 92 #[J G 0,evV e] w fun x w'=>Chk G B r vq g e w x w':=by
 have hsf:=sfl
 have hG:=h.lt
 have vW:=h.base
 have uo:Hid (zF g e = if aP g e ≠ 0 then aP g e else if e.qty = leftAt g.l e.id then 0 else 7):=by show _ = _; simp [zF,hk]
 have uT:Hid (takG g e = ⟨g.nx,hitI g.l e.id e.qty,g.bg,g.cm,g.tk⟩):=by show _ = _; rw [takG,step6 hk]
 have vH:Hid (∀ k w',zF g e = k→k ≠ 0→Kp G vq w w'→Chk G B r vq g e w (.panicked (brk k)) w'):=fun k w' N Y h3=>chk_no N Y h3
 have uw:Hid (∀ w' uE,zF g e = 0→Kp G vq w w'→GS G B r w' uE (takG g e)→Chk G B r vq g e w (.returned (.tuple #[])) w'):=fun w' uE N Y h3=>chk_ok N Y h3
 have qg:Hid (∀ W,GS G B r W vq g→Calls Tryz.prog 132 #[J G 0,evV e] W fun x w'=>x = outR (aP g e)∧yp W w'):=fun W hW=>start_any e W hW hi (by rw [hk]; decide) hg
 have aw:Hid (aP g e = 0→GoodL g.l∧∃ (k:Nat) (o:Od),plc g.l e.id = k∧g.l[k]? = some o):=fun h0=>⟨hi.good (.inl (by rw [(cG h0).1]; decide)),by have Y:=(cG h0).2; simp only [aQ,hk] at Y; obtain ⟨k,o,a,b,_⟩:=plc_pos (ref_can Y); exact ⟨k,o,a,b⟩⟩
 have HI:=H hi
 generalize Chk G B r vq g e w = C at vH uw ⊢
 generalize zF g e = ru at vH uw uo
 generalize takG g e = g' at uT uw
 generalize aP g e = sr at qg aw uo
 obtain ⟨xn,⟨ck,A,ct,F,cq,ci,O,cg⟩,id,xj,qty,xk,xi⟩:=e
 simp only at hk hg
 try simp only at uo uT
 unfold evV at qg
 simp only at qg aw
 unfold evV
 simp only
 obtain ⟨xz,HX⟩:=fE w (yw xn ck A ct F cq ci O cg id xj qty xk xi) 52
 have HS:Hid ((w.alloc (L (yw xn ck A ct F cq ci O cg id xj qty xk xi).toArray 52)).heap.size = w.heap.size + 1):=by show _ = _; simp
 have HG:=H (zy h xz)
 have HB:Hid (Kp G vq w (w.alloc (L (yw xn ck A ct F cq ci O cg id xj qty xk xi).toArray 52))):=kp_of xz
 clear h xz hi he hk hg
 go_enter Tryz.func92,Tryz.ntmps92
 refine fD fun zb HK=>?_
 go_wp2_with fail
 refine U HK _ _ ?_
 clear HK
 generalize (w.alloc (L (yw xn ck A ct F cq ci O cg id xj qty xk xi).toArray 52)) = W1 at HS HX HG HB ⊢
 obtain ⟨e0,e1,e2,e3,e4,e5,e6,e7,e8,e9,uO,uy,vQ,uQ⟩:=yz (U HX)
 go_wp2_with fail
 refine (U qg W1 (U HG)).mono ?_
 rintro x w2 ⟨hx,xL⟩
 have xI:=H (zf (U HX) xL (by have:=U HS; omega))
 have ug:=H (zy (U HG) xL)
 have xw:=H (ba (U HB) xL)
 have hS2:w.heap.size < w2.heap.size:=by have:=U HS; have:=xL.size; omega
 clear xL e0 e1 e2 e3 e4 e5 e6 e7 e8 e9 uO uy vQ uQ
 by_cases hs:sr = 0
 case neg =>
  rw [outR_no hs] at hx
  subst hx
  go_wp2_with fail
  exact ⟨rfl,U vH _ _ (by rw [U uo,if_pos hs]) hs (U xw)⟩
 rw [outR_ok hs] at hx
 subst hx
 have HSR:=H hs
 have ud:=H (U uo)
 rw [if_neg (not_not_intro hs)] at ud
 clear hs uo
 obtain ⟨kD,k,o,uM,uX⟩:=U aw (U HSR)
 have xD:g.l ≠ []:=by intro h; rw [h] at uX; simp at uX
 have oW:=(yH.1 uX).1
 obtain ⟨gb,cap,rfl,uq,hBg,hgw⟩:=cB (U ug).row xD
 rw [leftAt_at uM uX] at ud
 have kG:=kD.left o (yP uX)
 have jh:=(U HI).len
 have vi:Hid (w2.cell? (Q gb (k * 6 + 3)) = some (I o.left)):=(row_here (U ug).row (by omega) uX).1 3 _ rfl
 have uN:=H (zK (U ug).row (by omega))
 have jr:=H uM
 have oA:=H uX
 have HOL:=H kG
 have hkl':(k:Int) < g.l.length:=by omega
 have pw:(0:Int) ≤ k:=by omega
 have HRU3:=H (U ud)
 clear kD uM uX xD kG aw jh ud
 generalize hol2:o.left = ol at HRU3 vi
 have HOE:=H hol2
 clear hol2
 go_wp2_with fail
 refine zm (RWA (fun f=>{ tmps:=#[J G 0,.agg (yw xn ck A ct F cq ci O cg id xj qty xk xi).toArray,M,J w.heap.size 0,J G 0,.agg (yw xn ck A ct F cq ci O cg id xj qty xk xi).toArray,.tuple #[],f 0,f 1,f 2,f 3,f 4,f 5,f 6,f 7,f 8,f 9,f 10,f 11,f 12,f 13,f 14,f 15,f 16,f 17,f 18,M,M,M,M,M,M,M,M],defers:=[] }) (CVw [some (J w.heap.size 11),some (I qty),some (J G 0),some (J G 0),some (J G 1),some (J G 2),some (.slice (some (Q gb 0)) g.l.length cap),some (J G 0),some (J G 0),some (J G 1),some (.agg #[I g.nx,.slice (some (Q gb 0)) g.l.length cap]),some (J w.heap.size 9),some (I id),some (I k),some (J gb (k * 6)),some (J gb (k * 6 + 3)),some (I ol),some (.bool (qty == ol)),some (.tuple #[])] (fun j=>j = 18→qty = ol)) 18 (fun hj=>hj) w2) (by kernel_rfl) ?_ ?_ ?_
 ·exact ⟨fun _=>M,rfl,⟨fun j V=>by rw [yJ] at V; split at V <;> simp at V,fun _=>⟨rfl,rfl,rfl,Nat.le_refl _,fun _ _=>rfl⟩,fun V=>by rw [yJ] at V; split at V <;> simp at V⟩⟩
 ·rintro x cs hj ⟨f,rfl,R⟩ hx xO
  have xq:=zN xO hx (acyc _ (by kernel_rfl))
  obtain ⟨V0,xz,eV⟩:=R.m (xq 18 (by simp))
  have hqe:=(R.c 18 (xq 18 (by simp))).2 rfl
  have HQ:=H (U HRU3)
  rw [if_pos hqe] at HQ
  subst eV
  have xG:=H (zf (U xI) xz hS2)
  have ut:=H (zy (U ug) xz)
  have xH:=H (ba (U xw) xz)
  clear R xq xO hx xz vi uN HRU3
  generalize f 0 = v0,f 1 = v1,f 2 = v2,f 3 = v3,f 4 = v4,f 5 = v5,f 6 = v6,f 7 = v7,f 8 = v8,f 9 = v9,f 10 = v10,f 11 = v11,f 12 = v12,f 13 = v13,f 14 = v14,f 15 = v15,f 16 = v16,f 17 = v17,f 18 = v18
  subst hqe
  dsimp only
  go_wp2_with fail
  have uU:Hid (Bx hj.drew w.heap.size (yw xn ck A ct F cq ci O cg id xj qty xk xi)):=zJ (U xG)
  have uC:Hid (GS G B r hj.drew (.slice (some (Q gb 0)) g.l.length cap) g):=zy (U ut) ⟨rfl,rfl,rfl,Nat.le_refl _,fun _ _=>rfl⟩
  have uj:Hid (Kp G (.slice (some (Q gb 0)) g.l.length cap) w hj.drew):=kp_drew (U xH)
  have e9:=K (U uU) 9 rfl
  have uy:=K (U uU) 11 rfl
  refine zE 7 (by kernel_rfl) (by kernel_rfl) ?_
  simp only [yU,List.take_zero,yV,List.drop_zero]
  repeat still_step
  refine wpStill_nil ?_
  go_wp2_with fail
  refine (et G 1 B g.nx id qty _ g.l k o _ (K (U uC).box 1 rfl) (K (U uC).box 2 rfl) (zd (U uC).box 2 (by show 2 < 16; decide)) (U uC).row (U uC).nq (U uC).lt (U uC).base (yO (U HI).len (by decide)) (U jr) (U oA) (by have:=U HOL; have:=U HOE; omega) (by have:=U HOE; omega) (U HOL).2).mono ?_
  rintro e w9 ⟨uE,rfl,aC,kL,aK⟩
  have HG9:=H (gs_took (U uC) aC kL aK)
  have pB:=H (kp_took (U uj) aK)
  clear aC kL aK
  go_wp2_with fail
  go_end0
  refine U uw _ uE (U HQ) (U pB) ?_
  rw [U uT]
  simp only [cF (U jr) (U oA)]
  exact U HG9
 ·rintro x cs hj i op ⟨f,rfl,R⟩ X hx Z xr D
  have xu:=H R
  have nw:i < 18→x[18]? = some false:=fun xJ=>by
   rcases br hx (show 18 < 19 by omega) with hq | hw
   ·exact hq
   ·exfalso
    have qY:=yh X 18 rfl hw 17 rfl
    have N:=yh X 17 rfl qY 1 rfl
    have h0:=yh X 1 rfl N 0 rfl
    have h16:=yh X 17 rfl qY 16 rfl
    have vR:=yh X 16 rfl h16 15 rfl
    have oD:=yh X 15 rfl vR 14 rfl
    have h6:=yh X 14 rfl oD 6 rfl
    have jN:=yh X 14 rfl oD 13 rfl
    have h5:=yh X 6 rfl h6 5 rfl
    have h4:=yh X 5 rfl h5 4 rfl
    have h3:=yh X 4 rfl h4 3 rfl
    have Y:=yh X 3 rfl h3 2 rfl
    have uV:=yh X 13 rfl jN 10 rfl
    have uK:=yh X 13 rfl jN 12 rfl
    have h9:=yh X 10 rfl uV 9 rfl
    have h8:=yh X 9 rfl h9 8 rfl
    have h7:=yh X 8 rfl h8 7 rfl
    have uR:=yh X 12 rfl uK 11 rfl
    rcases (by omega:i = 0 ∨ i = 1 ∨ i = 2 ∨ i = 3 ∨ i = 4 ∨ i = 5 ∨ i = 6 ∨ i = 7 ∨ i = 8 ∨ i = 9 ∨ i = 10 ∨ i = 11 ∨ i = 12 ∨ i = 13 ∨ i = 14 ∨ i = 15 ∨ i = 16 ∨ i = 17) with rfl | rfl | rfl | rfl | rfl | rfl | rfl | rfl | rfl | rfl | rfl | rfl | rfl | rfl | rfl | rfl | rfl | rfl
    ·exact absurd (h0.symm.trans xr) (by simp)
    ·exact absurd (N.symm.trans xr) (by simp)
    ·exact absurd (Y.symm.trans xr) (by simp)
    ·exact absurd (h3.symm.trans xr) (by simp)
    ·exact absurd (h4.symm.trans xr) (by simp)
    ·exact absurd (h5.symm.trans xr) (by simp)
    ·exact absurd (h6.symm.trans xr) (by simp)
    ·exact absurd (h7.symm.trans xr) (by simp)
    ·exact absurd (h8.symm.trans xr) (by simp)
    ·exact absurd (h9.symm.trans xr) (by simp)
    ·exact absurd (uV.symm.trans xr) (by simp)
    ·exact absurd (uR.symm.trans xr) (by simp)
    ·exact absurd (uK.symm.trans xr) (by simp)
    ·exact absurd (jN.symm.trans xr) (by simp)
    ·exact absurd (oD.symm.trans xr) (by simp)
    ·exact absurd (vR.symm.trans xr) (by simp)
    ·exact absurd (h16.symm.trans xr) (by simp)
    ·exact absurd (qY.symm.trans xr) (by simp)
  have uc:i < 18→yp w2 hj:=fun h=>R.b (nw h)
  have xm:i < 18→∀ (p:Addr) u,w2.cell? p = some u→hj.cell? p = some u:=fun h p u hu=>((uc h).cell (yL w2 _ hu)).trans hu
  match i,Z with
  | 0,Z =>
   obtain rfl:=yc Z
   have CL:=xm (by omega)
   clear D R uc xm nw CL
   rw [if_pos (by rfl)];unfold Oper.wp;go_simp
   exact ⟨upd f 0 (J w.heap.size 11),by simp [upd],zD (U xu) 0 _ ⟨yj rfl,(by intro h; cases h)⟩ (by decide)⟩
  | 1,Z =>
   obtain rfl:=yc Z
   have g0:=(R.c 0 (yf D 0 rfl)).1 _ rfl
   have CL:=xm (by omega)
   have z:=CL (Q w.heap.size 11) _ (K (U xI) 11 rfl)
   clear D R uc xm nw CL
   rw [if_pos (by rfl)];unfold Oper.wp;go_simp
   exact ⟨upd f 1 (I qty),by simp [upd,g0],zD (U xu) 1 _ ⟨yj rfl,(by intro h; cases h)⟩ (by decide)⟩
  | 2,Z | 7,Z =>
   obtain rfl:=yc Z
   have CL:=xm (by omega)
   clear D R uc xm nw CL
   rw [if_pos (by rfl)];unfold Oper.wp;go_simp
   exact ⟨upd f _ (J G 0),by simp [upd],zD (U xu) _ _ ⟨yj rfl,(by intro h; cases h)⟩ (by decide)⟩
  | 3,Z =>
   obtain rfl:=yc Z
   have g2:=(R.c 2 (yf D 2 rfl)).1 _ rfl
   have CL:=xm (by omega)
   clear D R uc xm nw CL
   rw [if_pos (by rfl)];unfold Oper.wp;go_simp
   exact ⟨upd f 3 (J G 0),by simp [upd,g2],zD (U xu) 3 _ ⟨yj rfl,(by intro h; cases h)⟩ (by decide)⟩
  | 4,Z =>
   obtain rfl:=yc Z
   have g3:=(R.c 3 (yf D 3 rfl)).1 _ rfl
   have CL:=xm (by omega)
   clear D R uc xm nw CL
   rw [if_pos (by rfl)];unfold Oper.wp;go_simp
   exact ⟨upd f 4 (J G 1),by simp [upd,g3],zD (U xu) 4 _ ⟨yj rfl,(by intro h; cases h)⟩ (by decide)⟩
  | 5,Z =>
   obtain rfl:=yc Z
   have g4:=(R.c 4 (yf D 4 rfl)).1 _ rfl
   have CL:=xm (by omega)
   clear D R uc xm nw CL
   rw [if_pos (by rfl)];unfold Oper.wp;go_simp
   exact ⟨upd f 5 (J G 2),by simp [upd,g4],zD (U xu) 5 _ ⟨yj rfl,(by intro h; cases h)⟩ (by decide)⟩
  | 6,Z =>
   obtain rfl:=yc Z
   have g5:=(R.c 5 (yf D 5 rfl)).1 _ rfl
   have CL:=xm (by omega)
   have z:=CL (Q G 2) _ (K (U ug).box 2 rfl)
   clear D R uc xm nw CL
   rw [if_pos (by rfl)];unfold Oper.wp;go_simp
   exact ⟨upd f 6 (.slice (some (Q gb 0)) g.l.length cap),by simp [upd,g5],zD (U xu) 6 _ ⟨yj rfl,(by intro h; cases h)⟩ (by decide)⟩
  | 8,Z =>
   obtain rfl:=yc Z
   have g7:=(R.c 7 (yf D 7 rfl)).1 _ rfl
   have CL:=xm (by omega)
   clear D R uc xm nw CL
   rw [if_pos (by rfl)];unfold Oper.wp;go_simp
   exact ⟨upd f 8 (J G 0),by simp [upd,g7],zD (U xu) 8 _ ⟨yj rfl,(by intro h; cases h)⟩ (by decide)⟩
  | 9,Z =>
   obtain rfl:=yc Z
   have g8:=(R.c 8 (yf D 8 rfl)).1 _ rfl
   have CL:=xm (by omega)
   clear D R uc xm nw CL
   rw [if_pos (by rfl)];unfold Oper.wp;go_simp
   exact ⟨upd f 9 (J G 1),by simp [upd,g8],zD (U xu) 9 _ ⟨yj rfl,(by intro h; cases h)⟩ (by decide)⟩
  | 10,Z =>
   obtain rfl:=yc Z
   have g9:=(R.c 9 (yf D 9 rfl)).1 _ rfl
   have CL:=xm (by omega)
   have z1:=CL (Q G 1) _ (K (U ug).box 1 rfl)
   have z2:=CL (Q G 2) _ (K (U ug).box 2 rfl)
   clear D R uc xm nw CL
   rw [if_pos (by rfl)];unfold Oper.wp;go_simp
   exact ⟨upd f 10 (.agg #[I g.nx,.slice (some (Q gb 0)) g.l.length cap]),by simp [upd,g9],zD (U xu) 10 _ ⟨yj rfl,(by intro h; cases h)⟩ (by decide)⟩
  | 11,Z =>
   obtain rfl:=yc Z
   have CL:=xm (by omega)
   clear D R uc xm nw CL
   rw [if_pos (by rfl)];unfold Oper.wp;go_simp
   exact ⟨upd f 11 (J w.heap.size 9),by simp [upd],zD (U xu) 11 _ ⟨yj rfl,(by intro h; cases h)⟩ (by decide)⟩
  | 12,Z =>
   obtain rfl:=yc Z
   have vE:=(R.c 11 (yf D 11 rfl)).1 _ rfl
   have CL:=xm (by omega)
   have z:=CL (Q w.heap.size 9) _ (K (U xI) 9 rfl)
   clear D R uc xm nw CL
   rw [if_pos (by rfl)];unfold Oper.wp;go_simp
   exact ⟨upd f 12 (I id),by simp [upd,vE],zD (U xu) 12 _ ⟨yj rfl,(by intro h; cases h)⟩ (by decide)⟩
  | 13,Z =>
   obtain rfl:=yc Z
   have qn:=(R.c 10 (yf D 10 rfl)).1 _ rfl
   have ua:=(R.c 12 (yf D 12 rfl)).1 _ rfl
   have CL:=xm (by omega)
   have hw:=nw (by omega)
   have qC:=H (zh (U uN) (uc (by omega)) yb)
   clear D R uc xm nw CL
   rw [if_pos (by rfl)];unfold Oper.wp;go_simp
   refine (dY g.nx _ g.l id hj (U qC)).mono ?_
   rw [U jr]
   rintro e w4 ⟨rfl,xy⟩
   exact ⟨upd f 13 (I k),by simp [upd,qn,ua],zD (cJ (U xu) hw xy) 13 _ ⟨yj rfl,(by intro h; cases h)⟩ (by decide)⟩
  | 14,Z =>
   obtain rfl:=yc Z
   have g6:=(R.c 6 (yf D 6 rfl)).1 _ rfl
   have qI:=(R.c 13 (yf D 13 rfl)).1 _ rfl
   have CL:=xm (by omega)
   clear D R uc xm nw CL
   rw [if_pos (by rfl)];unfold Oper.wp;go_simp
   exact ⟨upd f 14 (J gb (k * 6)),by simp [upd,g6,qI],zD (U xu) 14 _ ⟨yj rfl,(by intro h; cases h)⟩ (by decide)⟩
  | 15,Z =>
   obtain rfl:=yc Z
   have je:=(R.c 14 (yf D 14 rfl)).1 _ rfl
   have CL:=xm (by omega)
   clear D R uc xm nw CL
   rw [if_pos (by rfl)];unfold Oper.wp;go_simp
   exact ⟨upd f 15 (J gb (k * 6 + 3)),by simp [upd,je],zD (U xu) 15 _ ⟨yj rfl,(by intro h; cases h)⟩ (by decide)⟩
  | 16,Z =>
   obtain rfl:=yc Z
   have g15:=(R.c 15 (yf D 15 rfl)).1 _ rfl
   have CL:=xm (by omega)
   have z:=CL (Q gb (k * 6 + 3)) _ (U vi)
   clear D R uc xm nw CL
   rw [if_pos (by rfl)];unfold Oper.wp;go_simp
   exact ⟨upd f 16 (I ol),by simp [upd,g15],zD (U xu) 16 _ ⟨yj rfl,(by intro h; cases h)⟩ (by decide)⟩
  | 17,Z =>
   obtain rfl:=yc Z
   have g1:=(R.c 1 (yf D 1 rfl)).1 _ rfl
   have g16:=(R.c 16 (yf D 16 rfl)).1 _ rfl
   have CL:=xm (by omega)
   clear D R uc xm nw CL
   rw [if_pos (by rfl)];unfold Oper.wp;go_simp
   exact ⟨upd f 17 (.bool (qty == ol)),by simp [upd,g1,g16],zD (U xu) 17 _ ⟨yj rfl,(by intro h; cases h)⟩ (by decide)⟩
  | 18,Z =>
   obtain rfl:=yc Z
   have g17:=(R.c 17 (yf D 17 rfl)).1 _ rfl
   have vp:=H (ba (U xw) (R.b xr))
   clear D R uc xm nw
   rw [if_pos (by rfl)];unfold Oper.wp;go_simp
   by_cases hqe:qty = ol
   ·have bq:(qty == ol) = true:=by simpa using hqe
    have hd:=bC 7 hj
    rw [← bq] at hd
    refine hd.mono ?_
    rintro e w4 ⟨rfl,rfl⟩
    exact ⟨upd f 18 (.tuple #[]),by simp [upd,g17,bq],rw_lastv (T:=fun hj=>hj) (U xu) xr ⟨yj rfl,fun _=>hqe⟩⟩
   ·have bq:(qty == ol) = false:=by simpa using hqe
    have hd:=bw 7 hj
    rw [← bq] at hd
    refine hd.mono ?_
    rintro e w4 ⟨rfl,rfl⟩
    have HQ:=H (U HRU3)
    rw [if_neg hqe] at HQ
    clear hqe bq
    go_wp2_with fail
    exact ⟨rfl,U vH 7 _ (U HQ) (by decide) (U vp)⟩
  | i + 19,Z=>simp at Z
end Go.Proofs.YtnphbkgfjanmgaaGreatDoor
