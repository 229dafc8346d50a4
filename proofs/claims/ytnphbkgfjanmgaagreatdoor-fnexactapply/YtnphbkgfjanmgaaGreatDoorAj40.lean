/-
  An expiry in a group, by the program: proved by walking the method.
-/
import Derived.Test.YtnphbkgfjanmgaaGreatDoorAj29
set_option linter.unusedVariables false
set_option maxHeartbeats 6400000
set_option maxRecDepth 100000
namespace Go.Proofs.YtnphbkgfjanmgaaGreatDoor
open Go.RowKit
theorem expire_chk {G B r:Nat} {vq:Value} {g:Gr} (e:Ev) (w:World) (h:GS G B r w vq g) (hi:GI g) (he:okE e = true) (hk:e.kind = 9) (hg:e.cmd.g.size ≤ maxLen):Calls Tryz.prog 95 #[J G 0,evV e] w fun x w'=>Chk G B r vq g e w x w':=by
 have hsf:=sfl
 have hG:=h.lt
 have qe:=h.base
 have ur:Hid (zG g e = if dueR g e ≠ 0 then dueR g e else 0):=by show _ = _; simp [zG,hk]
 have uW:Hid (takG g e = ⟨g.nx,hitI g.l (dueG g).id (dueG g).qty,g.bg,g.cm,g.tk⟩):=by show _ = _; rw [takG,step9 hk]
 have vJ:Hid (∀ k w',zG g e = k→k ≠ 0→Kp G vq w w'→Chk G B r vq g e w (.panicked (brk k)) w'):=fun k w' N Y h3=>chk_no N Y h3
 have uy:Hid (∀ w' uH,zG g e = 0→Kp G vq w w'→GS G B r w' uH (takG g e)→Chk G B r vq g e w (.returned (.tuple #[])) w'):=fun w' uH N Y h3=>chk_ok N Y h3
 have jJ:Hid (∀ W,GS G B r W vq g→Calls Tryz.prog 137 #[J G 0,evV e] W fun x w'=>x = outD (dueR g e) (dueG g)∧yp W w'):=fun W hW=>fH e W hW hi
 have HR9:Hid (zG g e = 0→g.bg = 8∧∃ o,g.l.find? isDy = some o∧dueG g = ⟨9,o.id,0,o.left,0⟩∧e.id = o.id∧e.qty = o.left):=rule9 hk
 have HI:=H hi
 generalize Chk G B r vq g e w = C at vJ uy ⊢
 generalize zG g e = ru at vJ uy ur HR9
 generalize takG g e = g' at uW uy
 generalize dueR g e = dr at jJ ur
 generalize dueG g = d at jJ uW HR9
 obtain ⟨xn,⟨ck,L,ct,V,cq,ci,O,cg⟩,id,xj,qty,xk,xi⟩:=e
 simp only at hk hg
 try simp only at ur uW
 unfold evV at jJ
 simp only at jJ HR9
 unfold evV
 simp only
 obtain ⟨xC,HX⟩:=gw w (yw xn ck L ct V cq ci O cg id xj qty xk xi) 52
 have HS:Hid ((w.alloc (A (yw xn ck L ct V cq ci O cg id xj qty xk xi).toArray 52)).heap.size = w.heap.size + 1):=by show _ = _; simp
 have HG:=H (zA h xC)
 have HB:Hid (Kp G vq w (w.alloc (A (yw xn ck L ct V cq ci O cg id xj qty xk xi).toArray 52))):=kp_of xC
 clear h xC hi he hk hg
 go_enter Tryz.func95,Tryz.ntmps95
 refine gv fun hR HK=>?_
 go_wp2_with fail
 refine U HK _ _ ?_
 clear HK
 generalize (w.alloc (A (yw xn ck L ct V cq ci O cg id xj qty xk xi).toArray 52)) = W1 at HS HX HG HB ⊢
 obtain ⟨e0,e1,e2,e3,e4,e5,e6,e7,e8,e9,uR,uA,vV,uT⟩:=yz (U HX)
 go_wp2_with fail
 refine (U jJ W1 (U HG)).mono ?_
 rintro x w2 ⟨hx,xK⟩
 by_cases hs:dr = 0
 case neg =>
  rw [outD_no hs] at hx
  subst hx
  go_wp2_with fail
  exact ⟨rfl,U vJ _ _ (by rw [U ur,if_pos hs]) hs (bL (U HB) xK)⟩
 rw [outD_ok hs] at hx
 subst hx
 have HDZ:=H hs
 have ue:=H (U ur)
 rw [if_neg (not_not_intro hs)] at ue
 clear hs ur
 obtain ⟨dk,di,dt,dq,dp⟩:=d
 unfold duV
 simp only at ue ⊢
 have xQ:=gp w2 (A #[I dk,I di,I dt,I dq,I dp] 29)
 have oE:=xK.trans (xQ.mono xK.size)
 have xJ:=H (zf (U HX) oE (by have:=U HS; omega))
 have uh:=H (zA (U HG) oE)
 have xw:=H (bL (U HB) oE)
 have HV2:=H (zq w2 [I dk,I di,I dt,I dq,I dp] 29)
 have HZ2:Hid (w.heap.size < w2.heap.size∧w2.heap.size < (w2.alloc (A #[I dk,I di,I dt,I dq,I dp] 29)).heap.size):=⟨by have:=U HS; have:=xK.size; omega,by simp⟩
 clear xK xQ oE e0 e1 e2 e3 e4 e5 e6 e7 e8 e9 uR uA vV uT HX HG HB HS
 obtain ⟨h8,o,hf,hd,-⟩:=U HR9 (U ue)
 simp only [Du.mk.injEq] at hd
 obtain ⟨rfl,rfl,rfl,rfl,rfl⟩:=hd
 have kU:=(U HI).good (.inl (by omega))
 obtain ⟨i,hi⟩:=find_at hf
 have uP:=dc kU.rise hi
 have kW:=kU.left o (yP hi)
 have jC:=H uP
 have HLI:=H hi
 have HOL:=H kW
 clear h8 hf kU hi uP kW HR9
 go_wp2_with fail
 generalize (w2.alloc (A #[I 9,I o.id,I 0,I o.left,I 0] 29)) = hj at xJ uh xw HV2 HZ2 ⊢
 have xV:Hid (Bx hj.drew w.heap.size (yw xn ck L ct V cq ci O cg id xj qty xk xi)):=zK (U xJ)
 have qw:Hid (GS G B r hj.drew vq g):=zA (U uh) ⟨rfl,rfl,rfl,Nat.le_refl _,fun _ _=>rfl⟩
 have vu:Hid (Kp G vq w hj.drew):=kp_drew (U xw)
 have v1:hj.drew.cell? (D w2.heap.size 1) = some (I o.id):=R (U HV2) 1 rfl
 have v3:hj.drew.cell? (D w2.heap.size 3) = some (I o.left):=R (U HV2) 3 rfl
 refine zF 7 (by kernel_rfl) (by kernel_rfl) ?_
 simp only [yU,List.take_zero,yV,List.drop_zero]
 repeat still_step
 refine wpStill_nil ?_
 go_wp2_with fail
 refine (fo G 1 B g.nx o.id o.left vq g.l i o _ (R (U qw).box 1 rfl) (R (U qw).box 2 rfl) (zd (U qw).box 2 (by show 2 < 16; decide)) (U qw).row (U qw).nq (U qw).lt (U qw).base (yO (U HI).len (by decide)) (U jC) (U HLI) (by have:=U HOL; omega) (Int.le_refl _) (U HOL).2).mono ?_
 rintro e w9 ⟨uH,rfl,aY,oe,bj⟩
 have HG9:=H (gs_took (U qw) aY oe bj)
 have pT:=H (kp_took (U vu) bj)
 clear aY oe bj
 go_wp2_with fail
 go_end0
 refine U uy _ uH (U ue) (U pT) ?_
 rw [U uW]
 simp only [dx (U jC) (U HLI)]
 exact U HG9
theorem cancel_chk {G B r:Nat} {vq:Value} {g:Gr} (e:Ev) (w:World) (h:GS G B r w vq g) (hi:GI g) (he:okE e = true) (hk:e.kind = 6) (hg:e.cmd.g.size ≤ maxLen):Calls Tryz.prog 92 #[J G 0,evV e] w fun x w'=>Chk G B r vq g e w x w':=by
 have hsf:=sfl
 have hG:=h.lt
 have qe:=h.base
 have ur:Hid (zG g e = if bz g e ≠ 0 then bz g e else if e.qty = leftAt g.l e.id then 0 else 7):=by show _ = _; simp [zG,hk]
 have uW:Hid (takG g e = ⟨g.nx,hitI g.l e.id e.qty,g.bg,g.cm,g.tk⟩):=by show _ = _; rw [takG,step6 hk]
 have vJ:Hid (∀ k w',zG g e = k→k ≠ 0→Kp G vq w w'→Chk G B r vq g e w (.panicked (brk k)) w'):=fun k w' N Y h3=>chk_no N Y h3
 have uy:Hid (∀ w' uH,zG g e = 0→Kp G vq w w'→GS G B r w' uH (takG g e)→Chk G B r vq g e w (.returned (.tuple #[])) w'):=fun w' uH N Y h3=>chk_ok N Y h3
 have qp:Hid (∀ W,GS G B r W vq g→Calls Tryz.prog 132 #[J G 0,evV e] W fun x w'=>x = outR (bz g e)∧yp W w'):=fun W hW=>start_any e W hW hi (by rw [hk]; decide) hg
 have aS:Hid (bz g e = 0→GoodL g.l∧∃ (k:Nat) (o:Od),plc g.l e.id = k∧g.l[k]? = some o):=fun h0=>⟨hi.good (.inl (by rw [(dC h0).1]; decide)),by have Y:=(dC h0).2; simp only [bA,hk] at Y; obtain ⟨k,o,a,b,_⟩:=plc_pos (ref_can Y); exact ⟨k,o,a,b⟩⟩
 have HI:=H hi
 generalize Chk G B r vq g e w = C at vJ uy ⊢
 generalize zG g e = ru at vJ uy ur
 generalize takG g e = g' at uW uy
 generalize bz g e = sr at qp aS ur
 obtain ⟨xn,⟨ck,L,ct,V,cq,ci,O,cg⟩,id,xj,qty,xk,xi⟩:=e
 simp only at hk hg
 try simp only at ur uW
 unfold evV at qp
 simp only at qp aS
 unfold evV
 simp only
 obtain ⟨xC,HX⟩:=gw w (yw xn ck L ct V cq ci O cg id xj qty xk xi) 52
 have HS:Hid ((w.alloc (A (yw xn ck L ct V cq ci O cg id xj qty xk xi).toArray 52)).heap.size = w.heap.size + 1):=by show _ = _; simp
 have HG:=H (zA h xC)
 have HB:Hid (Kp G vq w (w.alloc (A (yw xn ck L ct V cq ci O cg id xj qty xk xi).toArray 52))):=kp_of xC
 clear h xC hi he hk hg
 go_enter Tryz.func92,Tryz.ntmps92
 refine gv fun hR HK=>?_
 go_wp2_with fail
 refine U HK _ _ ?_
 clear HK
 generalize (w.alloc (A (yw xn ck L ct V cq ci O cg id xj qty xk xi).toArray 52)) = W1 at HS HX HG HB ⊢
 obtain ⟨e0,e1,e2,e3,e4,e5,e6,e7,e8,e9,uR,uA,vV,uT⟩:=yz (U HX)
 go_wp2_with fail
 refine (U qp W1 (U HG)).mono ?_
 rintro x w2 ⟨hx,xK⟩
 have xJ:=H (zf (U HX) xK (by have:=U HS; omega))
 have uh:=H (zA (U HG) xK)
 have xw:=H (bL (U HB) xK)
 have hS2:w.heap.size < w2.heap.size:=by have:=U HS; have:=xK.size; omega
 clear xK e0 e1 e2 e3 e4 e5 e6 e7 e8 e9 uR uA vV uT
 by_cases hs:sr = 0
 case neg =>
  rw [outR_no hs] at hx
  subst hx
  go_wp2_with fail
  exact ⟨rfl,U vJ _ _ (by rw [U ur,if_pos hs]) hs (U xw)⟩
 rw [outR_ok hs] at hx
 subst hx
 have HSR:=H hs
 have ue:=H (U ur)
 rw [if_neg (not_not_intro hs)] at ue
 clear hs ur
 obtain ⟨kU,k,o,uP,vf⟩:=U aS (U HSR)
 have xA:g.l ≠ []:=by intro h; rw [h] at vf; simp at vf
 have pt:=(yH.1 vf).1
 obtain ⟨gb,cap,rfl,ut,hBg,hgw⟩:=du (U uh).row xA
 rw [leftAt_at uP vf] at ue
 have kW:=kU.left o (yP vf)
 have jt:=(U HI).len
 have vn:Hid (w2.cell? (D gb (k * 6 + 3)) = some (I o.left)):=(row_here (U uh).row (by omega) vf).1 3 _ rfl
 have uQ:=H (zI (U uh).row (by omega))
 have jC:=H uP
 have oQ:=H vf
 have HOL:=H kW
 have hkl':(k:Int) < g.l.length:=by omega
 have jQ:(0:Int) ≤ k:=by omega
 have HRU3:=H (U ue)
 clear kU uP vf xA kW aS jt ue
 generalize hol2:o.left = ol at HRU3 vn
 have HOE:=H hol2
 clear hol2
 go_wp2_with fail
 refine zn (RWA (fun f=>{ tmps:=#[J G 0,.agg (yw xn ck L ct V cq ci O cg id xj qty xk xi).toArray,M,J w.heap.size 0,J G 0,.agg (yw xn ck L ct V cq ci O cg id xj qty xk xi).toArray,.tuple #[],f 0,f 1,f 2,f 3,f 4,f 5,f 6,f 7,f 8,f 9,f 10,f 11,f 12,f 13,f 14,f 15,f 16,f 17,f 18,M,M,M,M,M,M,M,M],defers:=[] }) (CVw [some (J w.heap.size 11),some (I qty),some (J G 0),some (J G 0),some (J G 1),some (J G 2),some (.slice (some (D gb 0)) g.l.length cap),some (J G 0),some (J G 0),some (J G 1),some (.agg #[I g.nx,.slice (some (D gb 0)) g.l.length cap]),some (J w.heap.size 9),some (I id),some (I k),some (J gb (k * 6)),some (J gb (k * 6 + 3)),some (I ol),some (.bool (qty == ol)),some (.tuple #[])] (fun j=>j = 18→qty = ol)) 18 (fun cl=>cl) w2) (by kernel_rfl) ?_ ?_ ?_
 ·exact ⟨fun _=>M,rfl,⟨fun j X=>by rw [yJ] at X; split at X <;> simp at X,fun _=>⟨rfl,rfl,rfl,Nat.le_refl _,fun _ _=>rfl⟩,fun X=>by rw [yJ] at X; split at X <;> simp at X⟩⟩
 ·rintro x gs cl ⟨f,rfl,K⟩ hx xO
  have xq:=zP xO hx (acyc _ (by kernel_rfl))
  obtain ⟨V0,xC,eV⟩:=K.m (xq 18 (by simp))
  have hqe:=(K.c 18 (xq 18 (by simp))).2 rfl
  have HQ:=H (U HRU3)
  rw [if_pos hqe] at HQ
  subst eV
  have xG:=H (zf (U xJ) xC hS2)
  have uw:=H (zA (U uh) xC)
  have xH:=H (bL (U xw) xC)
  clear K xq xO hx xC vn uQ HRU3
  generalize f 0 = v0,f 1 = v1,f 2 = v2,f 3 = v3,f 4 = v4,f 5 = v5,f 6 = v6,f 7 = v7,f 8 = v8,f 9 = v9,f 10 = v10,f 11 = v11,f 12 = v12,f 13 = v13,f 14 = v14,f 15 = v15,f 16 = v16,f 17 = v17,f 18 = v18
  subst hqe
  dsimp only
  go_wp2_with fail
  have uX:Hid (Bx cl.drew w.heap.size (yw xn ck L ct V cq ci O cg id xj qty xk xi)):=zK (U xG)
  have uC:Hid (GS G B r cl.drew (.slice (some (D gb 0)) g.l.length cap) g):=zA (U uw) ⟨rfl,rfl,rfl,Nat.le_refl _,fun _ _=>rfl⟩
  have uk:Hid (Kp G (.slice (some (D gb 0)) g.l.length cap) w cl.drew):=kp_drew (U xH)
  have e9:=R (U uX) 9 rfl
  have uA:=R (U uX) 11 rfl
  refine zF 7 (by kernel_rfl) (by kernel_rfl) ?_
  simp only [yU,List.take_zero,yV,List.drop_zero]
  repeat still_step
  refine wpStill_nil ?_
  go_wp2_with fail
  refine (fo G 1 B g.nx id qty _ g.l k o _ (R (U uC).box 1 rfl) (R (U uC).box 2 rfl) (zd (U uC).box 2 (by show 2 < 16; decide)) (U uC).row (U uC).nq (U uC).lt (U uC).base (yO (U HI).len (by decide)) (U jC) (U oQ) (by have:=U HOL; have:=U HOE; omega) (by have:=U HOE; omega) (U HOL).2).mono ?_
  rintro e w9 ⟨uH,rfl,aY,oe,bj⟩
  have HG9:=H (gs_took (U uC) aY oe bj)
  have pT:=H (kp_took (U uk) bj)
  clear aY oe bj
  go_wp2_with fail
  go_end0
  refine U uy _ uH (U HQ) (U pT) ?_
  rw [U uW]
  simp only [dx (U jC) (U oQ)]
  exact U HG9
 ·rintro x gs cl i op ⟨f,rfl,K⟩ F hx Z xt E
  have xu:=H K
  have nw:i < 18→x[18]? = some false:=fun xI=>by
   rcases bS hx (show 18 < 19 by omega) with hq | hw
   ·exact hq
   ·exfalso
    have ji:=yh F 18 rfl hw 17 rfl
    have N:=yh F 17 rfl ji 1 rfl
    have h0:=yh F 1 rfl N 0 rfl
    have h16:=yh F 17 rfl ji 16 rfl
    have vW:=yh F 16 rfl h16 15 rfl
    have oT:=yh F 15 rfl vW 14 rfl
    have h6:=yh F 14 rfl oT 6 rfl
    have jY:=yh F 14 rfl oT 13 rfl
    have h5:=yh F 6 rfl h6 5 rfl
    have h4:=yh F 5 rfl h5 4 rfl
    have h3:=yh F 4 rfl h4 3 rfl
    have Y:=yh F 3 rfl h3 2 rfl
    have uY:=yh F 13 rfl jY 10 rfl
    have uN:=yh F 13 rfl jY 12 rfl
    have h9:=yh F 10 rfl uY 9 rfl
    have h8:=yh F 9 rfl h9 8 rfl
    have h7:=yh F 8 rfl h8 7 rfl
    have uU:=yh F 12 rfl uN 11 rfl
    rcases (by omega:i = 0 ∨ i = 1 ∨ i = 2 ∨ i = 3 ∨ i = 4 ∨ i = 5 ∨ i = 6 ∨ i = 7 ∨ i = 8 ∨ i = 9 ∨ i = 10 ∨ i = 11 ∨ i = 12 ∨ i = 13 ∨ i = 14 ∨ i = 15 ∨ i = 16 ∨ i = 17) with rfl | rfl | rfl | rfl | rfl | rfl | rfl | rfl | rfl | rfl | rfl | rfl | rfl | rfl | rfl | rfl | rfl | rfl
    ·exact absurd (h0.symm.trans xt) (by simp)
    ·exact absurd (N.symm.trans xt) (by simp)
    ·exact absurd (Y.symm.trans xt) (by simp)
    ·exact absurd (h3.symm.trans xt) (by simp)
    ·exact absurd (h4.symm.trans xt) (by simp)
    ·exact absurd (h5.symm.trans xt) (by simp)
    ·exact absurd (h6.symm.trans xt) (by simp)
    ·exact absurd (h7.symm.trans xt) (by simp)
    ·exact absurd (h8.symm.trans xt) (by simp)
    ·exact absurd (h9.symm.trans xt) (by simp)
    ·exact absurd (uY.symm.trans xt) (by simp)
    ·exact absurd (uU.symm.trans xt) (by simp)
    ·exact absurd (uN.symm.trans xt) (by simp)
    ·exact absurd (jY.symm.trans xt) (by simp)
    ·exact absurd (oT.symm.trans xt) (by simp)
    ·exact absurd (vW.symm.trans xt) (by simp)
    ·exact absurd (h16.symm.trans xt) (by simp)
    ·exact absurd (ji.symm.trans xt) (by simp)
  have ud:i < 18→yp w2 cl:=fun h=>K.b (nw h)
  have xm:i < 18→∀ (p:Addr) u,w2.cell? p = some u→cl.cell? p = some u:=fun h p u hu=>((ud h).cell (yL w2 _ hu)).trans hu
  match i,Z with
  | 0,Z =>
   obtain rfl:=yc Z
   have CL:=xm (by omega)
   clear E K ud xm nw CL
   rw [if_pos (by rfl)];unfold Oper.wp;go_simp
   exact ⟨upd f 0 (J w.heap.size 11),by simp [upd],zE (U xu) 0 _ ⟨yj rfl,(by intro h; cases h)⟩ (by decide)⟩
  | 1,Z =>
   obtain rfl:=yc Z
   have g0:=(K.c 0 (yf E 0 rfl)).1 _ rfl
   have CL:=xm (by omega)
   have z:=CL (D w.heap.size 11) _ (R (U xJ) 11 rfl)
   clear E K ud xm nw CL
   rw [if_pos (by rfl)];unfold Oper.wp;go_simp
   exact ⟨upd f 1 (I qty),by simp [upd,g0],zE (U xu) 1 _ ⟨yj rfl,(by intro h; cases h)⟩ (by decide)⟩
  | 2,Z | 7,Z =>
   obtain rfl:=yc Z
   have CL:=xm (by omega)
   clear E K ud xm nw CL
   rw [if_pos (by rfl)];unfold Oper.wp;go_simp
   exact ⟨upd f _ (J G 0),by simp [upd],zE (U xu) _ _ ⟨yj rfl,(by intro h; cases h)⟩ (by decide)⟩
  | 3,Z =>
   obtain rfl:=yc Z
   have g2:=(K.c 2 (yf E 2 rfl)).1 _ rfl
   have CL:=xm (by omega)
   clear E K ud xm nw CL
   rw [if_pos (by rfl)];unfold Oper.wp;go_simp
   exact ⟨upd f 3 (J G 0),by simp [upd,g2],zE (U xu) 3 _ ⟨yj rfl,(by intro h; cases h)⟩ (by decide)⟩
  | 4,Z =>
   obtain rfl:=yc Z
   have g3:=(K.c 3 (yf E 3 rfl)).1 _ rfl
   have CL:=xm (by omega)
   clear E K ud xm nw CL
   rw [if_pos (by rfl)];unfold Oper.wp;go_simp
   exact ⟨upd f 4 (J G 1),by simp [upd,g3],zE (U xu) 4 _ ⟨yj rfl,(by intro h; cases h)⟩ (by decide)⟩
  | 5,Z =>
   obtain rfl:=yc Z
   have g4:=(K.c 4 (yf E 4 rfl)).1 _ rfl
   have CL:=xm (by omega)
   clear E K ud xm nw CL
   rw [if_pos (by rfl)];unfold Oper.wp;go_simp
   exact ⟨upd f 5 (J G 2),by simp [upd,g4],zE (U xu) 5 _ ⟨yj rfl,(by intro h; cases h)⟩ (by decide)⟩
  | 6,Z =>
   obtain rfl:=yc Z
   have g5:=(K.c 5 (yf E 5 rfl)).1 _ rfl
   have CL:=xm (by omega)
   have z:=CL (D G 2) _ (R (U uh).box 2 rfl)
   clear E K ud xm nw CL
   rw [if_pos (by rfl)];unfold Oper.wp;go_simp
   exact ⟨upd f 6 (.slice (some (D gb 0)) g.l.length cap),by simp [upd,g5],zE (U xu) 6 _ ⟨yj rfl,(by intro h; cases h)⟩ (by decide)⟩
  | 8,Z =>
   obtain rfl:=yc Z
   have g7:=(K.c 7 (yf E 7 rfl)).1 _ rfl
   have CL:=xm (by omega)
   clear E K ud xm nw CL
   rw [if_pos (by rfl)];unfold Oper.wp;go_simp
   exact ⟨upd f 8 (J G 0),by simp [upd,g7],zE (U xu) 8 _ ⟨yj rfl,(by intro h; cases h)⟩ (by decide)⟩
  | 9,Z =>
   obtain rfl:=yc Z
   have g8:=(K.c 8 (yf E 8 rfl)).1 _ rfl
   have CL:=xm (by omega)
   clear E K ud xm nw CL
   rw [if_pos (by rfl)];unfold Oper.wp;go_simp
   exact ⟨upd f 9 (J G 1),by simp [upd,g8],zE (U xu) 9 _ ⟨yj rfl,(by intro h; cases h)⟩ (by decide)⟩
  | 10,Z =>
   obtain rfl:=yc Z
   have g9:=(K.c 9 (yf E 9 rfl)).1 _ rfl
   have CL:=xm (by omega)
   have z1:=CL (D G 1) _ (R (U uh).box 1 rfl)
   have z2:=CL (D G 2) _ (R (U uh).box 2 rfl)
   clear E K ud xm nw CL
   rw [if_pos (by rfl)];unfold Oper.wp;go_simp
   exact ⟨upd f 10 (.agg #[I g.nx,.slice (some (D gb 0)) g.l.length cap]),by simp [upd,g9],zE (U xu) 10 _ ⟨yj rfl,(by intro h; cases h)⟩ (by decide)⟩
  | 11,Z =>
   obtain rfl:=yc Z
   have CL:=xm (by omega)
   clear E K ud xm nw CL
   rw [if_pos (by rfl)];unfold Oper.wp;go_simp
   exact ⟨upd f 11 (J w.heap.size 9),by simp [upd],zE (U xu) 11 _ ⟨yj rfl,(by intro h; cases h)⟩ (by decide)⟩
  | 12,Z =>
   obtain rfl:=yc Z
   have vI:=(K.c 11 (yf E 11 rfl)).1 _ rfl
   have CL:=xm (by omega)
   have z:=CL (D w.heap.size 9) _ (R (U xJ) 9 rfl)
   clear E K ud xm nw CL
   rw [if_pos (by rfl)];unfold Oper.wp;go_simp
   exact ⟨upd f 12 (I id),by simp [upd,vI],zE (U xu) 12 _ ⟨yj rfl,(by intro h; cases h)⟩ (by decide)⟩
  | 13,Z =>
   obtain rfl:=yc Z
   have qy:=(K.c 10 (yf E 10 rfl)).1 _ rfl
   have ua:=(K.c 12 (yf E 12 rfl)).1 _ rfl
   have CL:=xm (by omega)
   have hw:=nw (by omega)
   have qJ:=H (zi (U uQ) (ud (by omega)) yb)
   clear E K ud xm nw CL
   rw [if_pos (by rfl)];unfold Oper.wp;go_simp
   refine (eO g.nx _ g.l id cl (U qJ)).mono ?_
   rw [U jC]
   rintro e w4 ⟨rfl,xy⟩
   exact ⟨upd f 13 (I k),by simp [upd,qy,ua],zE (dF (U xu) hw xy) 13 _ ⟨yj rfl,(by intro h; cases h)⟩ (by decide)⟩
  | 14,Z =>
   obtain rfl:=yc Z
   have g6:=(K.c 6 (yf E 6 rfl)).1 _ rfl
   have qP:=(K.c 13 (yf E 13 rfl)).1 _ rfl
   have CL:=xm (by omega)
   clear E K ud xm nw CL
   rw [if_pos (by rfl)];unfold Oper.wp;go_simp
   exact ⟨upd f 14 (J gb (k * 6)),by simp [upd,g6,qP],zE (U xu) 14 _ ⟨yj rfl,(by intro h; cases h)⟩ (by decide)⟩
  | 15,Z =>
   obtain rfl:=yc Z
   have jo:=(K.c 14 (yf E 14 rfl)).1 _ rfl
   have CL:=xm (by omega)
   clear E K ud xm nw CL
   rw [if_pos (by rfl)];unfold Oper.wp;go_simp
   exact ⟨upd f 15 (J gb (k * 6 + 3)),by simp [upd,jo],zE (U xu) 15 _ ⟨yj rfl,(by intro h; cases h)⟩ (by decide)⟩
  | 16,Z =>
   obtain rfl:=yc Z
   have g15:=(K.c 15 (yf E 15 rfl)).1 _ rfl
   have CL:=xm (by omega)
   have z:=CL (D gb (k * 6 + 3)) _ (U vn)
   clear E K ud xm nw CL
   rw [if_pos (by rfl)];unfold Oper.wp;go_simp
   exact ⟨upd f 16 (I ol),by simp [upd,g15],zE (U xu) 16 _ ⟨yj rfl,(by intro h; cases h)⟩ (by decide)⟩
  | 17,Z =>
   obtain rfl:=yc Z
   have g1:=(K.c 1 (yf E 1 rfl)).1 _ rfl
   have g16:=(K.c 16 (yf E 16 rfl)).1 _ rfl
   have CL:=xm (by omega)
   clear E K ud xm nw CL
   rw [if_pos (by rfl)];unfold Oper.wp;go_simp
   exact ⟨upd f 17 (.bool (qty == ol)),by simp [upd,g1,g16],zE (U xu) 17 _ ⟨yj rfl,(by intro h; cases h)⟩ (by decide)⟩
  | 18,Z =>
   obtain rfl:=yc Z
   have g17:=(K.c 17 (yf E 17 rfl)).1 _ rfl
   have vy:=H (bL (U xw) (K.b xt))
   clear E K ud xm nw
   rw [if_pos (by rfl)];unfold Oper.wp;go_simp
   by_cases hqe:qty = ol
   ·have bq:(qty == ol) = true:=by simpa using hqe
    have hd:=co 7 cl
    rw [← bq] at hd
    refine hd.mono ?_
    rintro e w4 ⟨rfl,rfl⟩
    exact ⟨upd f 18 (.tuple #[]),by simp [upd,g17,bq],rw_lastv (T:=fun cl=>cl) (U xu) xt ⟨yj rfl,fun _=>hqe⟩⟩
   ·have bq:(qty == ol) = false:=by simpa using hqe
    have hd:=bU 7 cl
    rw [← bq] at hd
    refine hd.mono ?_
    rintro e w4 ⟨rfl,rfl⟩
    have HQ:=H (U HRU3)
    rw [if_neg hqe] at HQ
    clear hqe bq
    go_wp2_with fail
    exact ⟨rfl,U vJ 7 _ (U HQ) (by decide) (U vy)⟩
  | i + 19,Z=>simp at Z
theorem reduce_chk {G B r:Nat} {vq:Value} {g:Gr} (e:Ev) (w:World) (h:GS G B r w vq g) (hi:GI g) (he:okE e = true) (hk:e.kind = 7) (hg:e.cmd.g.size ≤ maxLen):Calls Tryz.prog 93 #[J G 0,evV e] w fun x w'=>Chk G B r vq g e w x w':=by
 have hsf:=sfl
 have hG:=h.lt
 have qe:=h.base
 have ur:Hid (zG g e = if bz g e ≠ 0 then bz g e else 0):=by show _ = _; rw [show zG g e = bz g e by simp [zG,hk]]; split <;> simp_all
 have uW:Hid (takG g e = ⟨g.nx,setI g.l e.id e.qty,g.bg,g.cm,g.tk⟩):=by show _ = _; rw [takG,step7 hk]
 have vJ:Hid (∀ k w',zG g e = k→k ≠ 0→Kp G vq w w'→Chk G B r vq g e w (.panicked (brk k)) w'):=fun k w' N Y h3=>chk_no N Y h3
 have uy:Hid (∀ w' uH,zG g e = 0→Kp G vq w w'→GS G B r w' uH (takG g e)→Chk G B r vq g e w (.returned (.tuple #[])) w'):=fun w' uH N Y h3=>chk_ok N Y h3
 have qp:Hid (∀ W,GS G B r W vq g→Calls Tryz.prog 132 #[J G 0,evV e] W fun x w'=>x = outR (bz g e)∧yp W w'):=fun W hW=>start_any e W hW hi (by rw [hk]; decide) hg
 have aS:Hid (bz g e = 0→∃ (k:Nat) (o:Od),plc g.l e.id = k∧g.l[k]? = some o):=fun h0=>by have Y:=(dC h0).2; simp only [bA,hk] at Y; obtain ⟨k,o,a,b,_⟩:=ref_red Y; exact ⟨k,o,a,b⟩
 have HI:=H hi
 generalize Chk G B r vq g e w = C at vJ uy ⊢
 generalize zG g e = ru at vJ uy ur
 generalize takG g e = g' at uW uy
 generalize bz g e = sr at qp aS ur
 obtain ⟨xn,⟨ck,L,ct,V,cq,ci,O,cg⟩,id,xj,qty,xk,xi⟩:=e
 simp only at hk hg
 try simp only at ur uW
 unfold evV at qp
 simp only at qp aS
 unfold evV
 simp only
 obtain ⟨xC,HX⟩:=gw w (yw xn ck L ct V cq ci O cg id xj qty xk xi) 52
 have HS:Hid ((w.alloc (A (yw xn ck L ct V cq ci O cg id xj qty xk xi).toArray 52)).heap.size = w.heap.size + 1):=by show _ = _; simp
 have HG:=H (zA h xC)
 have HB:Hid (Kp G vq w (w.alloc (A (yw xn ck L ct V cq ci O cg id xj qty xk xi).toArray 52))):=kp_of xC
 clear h xC hi he hk hg
 go_enter Tryz.func93,Tryz.ntmps93
 refine gv fun hR HK=>?_
 go_wp2_with fail
 refine U HK _ _ ?_
 clear HK
 generalize (w.alloc (A (yw xn ck L ct V cq ci O cg id xj qty xk xi).toArray 52)) = W1 at HS HX HG HB ⊢
 obtain ⟨e0,e1,e2,e3,e4,e5,e6,e7,e8,e9,uR,uA,vV,uT⟩:=yz (U HX)
 go_wp2_with fail
 refine (U qp W1 (U HG)).mono ?_
 rintro x w2 ⟨hx,xK⟩
 have xJ:=H (zf (U HX) xK (by have:=U HS; omega))
 have uh:=H (zA (U HG) xK)
 have xw:=H (bL (U HB) xK)
 have hS2:w.heap.size < w2.heap.size:=by have:=U HS; have:=xK.size; omega
 clear xK e0 e1 e2 e3 e4 e5 e6 e7 e8 e9 uR uA vV uT
 by_cases hs:sr = 0
 case neg =>
  rw [outR_no hs] at hx
  subst hx
  go_wp2_with fail
  exact ⟨rfl,U vJ _ _ (by rw [U ur,if_pos hs]) hs (U xw)⟩
 rw [outR_ok hs] at hx
 subst hx
 have HSR:=H hs
 have ue:=H (U ur)
 rw [if_neg (not_not_intro hs)] at ue
 clear hs ur
 obtain ⟨k,o,uP,vf⟩:=U aS (U HSR)
 have xA:g.l ≠ []:=by intro h; rw [h] at vf; simp at vf
 have pt:=(yH.1 vf).1
 obtain ⟨gb,cap,rfl,ut,hBg,hgw⟩:=du (U uh).row xA
 have jt:=(U HI).len
 have uQ:=H (zI (U uh).row (by omega))
 have jC:=H uP
 have oQ:=H vf
 have hkl':(k:Int) < g.l.length:=by omega
 have jQ:(0:Int) ≤ k:=by omega
 clear uP vf xA aS jt
 go_wp2_with fail
 refine zn (RWA (fun f=>{ tmps:=#[J G 0,.agg (yw xn ck L ct V cq ci O cg id xj qty xk xi).toArray,M,J w.heap.size 0,J G 0,.agg (yw xn ck L ct V cq ci O cg id xj qty xk xi).toArray,.tuple #[],f 0,f 1,f 2,f 3,f 4,f 5,f 6,f 7,f 8,f 9,f 10,f 11,f 12,f 13,f 14,f 15],defers:=[] }) (CVw [some (J G 0),some (J G 0),some (J G 1),some (J G 2),some (.slice (some (D gb 0)) g.l.length cap),some (J G 0),some (J G 0),some (J G 1),some (.agg #[I g.nx,.slice (some (D gb 0)) g.l.length cap]),some (J w.heap.size 9),some (I id),some (I k),some (J w.heap.size 11),some (I qty),some (J gb (k * 6)),some (J gb (k * 6 + 3)),none] (fun _=>True)) 16 (fun cl=>cl.setCell (D gb (k * 6 + 3)) (I qty)) w2) (by kernel_rfl) ?_ ?_ ?_
 ·exact ⟨fun _=>M,rfl,⟨fun j X=>by rw [yJ] at X; split at X <;> simp at X,fun _=>⟨rfl,rfl,rfl,Nat.le_refl _,fun _ _=>rfl⟩,fun X=>by rw [yJ] at X; split at X <;> simp at X⟩⟩
 ·rintro x gs cl ⟨f,rfl,K⟩ hx xO
  have xq:=zP xO hx (acyc _ (by kernel_rfl))
  obtain ⟨V0,xC,eV⟩:=K.m (xq 16 (by simp))
  have uw:=H (zA (U uh) xC)
  have xH:=H (bL (U xw) xC)
  clear K xq xO hx xC uQ
  subst eV
  generalize f 0 = v0,f 1 = v1,f 2 = v2,f 3 = v3,f 4 = v4,f 5 = v5,f 6 = v6,f 7 = v7,f 8 = v8,f 9 = v9,f 10 = v10,f 11 = v11,f 12 = v12,f 13 = v13,f 14 = v14,f 15 = v15
  go_end0
  have HL:=oRow_left (U uw).row rfl (U oQ) qty
  refine U uy _ (.slice (some (D gb 0)) g.l.length cap) (U ue) ?_ ?_
  ·exact kp_row (U xH) HL.2 rfl
  ·rw [U uW]
   simp only [setI_at (U jC) (U oQ)]
   exact gs_rowset (U uw) HL.1 HL.2 rfl
 ·rintro x gs cl i op ⟨f,rfl,K⟩ F hx Z xt E
  have xu:=H K
  have nw:i < 16→x[16]? = some false:=fun xI=>by
   rcases bS hx (show 16 < 17 by omega) with hq | hw
   ·exact hq
   ·exfalso
    have h0:=yh F 16 rfl hw 0 rfl
    have N:=yh F 16 rfl hw 1 rfl
    have Y:=yh F 16 rfl hw 2 rfl
    have h3:=yh F 16 rfl hw 3 rfl
    have h4:=yh F 16 rfl hw 4 rfl
    have h5:=yh F 16 rfl hw 5 rfl
    have h6:=yh F 16 rfl hw 6 rfl
    have h7:=yh F 16 rfl hw 7 rfl
    have h8:=yh F 16 rfl hw 8 rfl
    have h9:=yh F 16 rfl hw 9 rfl
    have uY:=yh F 16 rfl hw 10 rfl
    have uU:=yh F 16 rfl hw 11 rfl
    have uN:=yh F 16 rfl hw 12 rfl
    have jY:=yh F 16 rfl hw 13 rfl
    have vW:=yh F 16 rfl hw 15 rfl
    have oT:=yh F 15 rfl vW 14 rfl
    rcases (by omega:i = 0 ∨ i = 1 ∨ i = 2 ∨ i = 3 ∨ i = 4 ∨ i = 5 ∨ i = 6 ∨ i = 7 ∨ i = 8 ∨ i = 9 ∨ i = 10 ∨ i = 11 ∨ i = 12 ∨ i = 13 ∨ i = 14 ∨ i = 15) with rfl | rfl | rfl | rfl | rfl | rfl | rfl | rfl | rfl | rfl | rfl | rfl | rfl | rfl | rfl | rfl
    ·exact absurd (h0.symm.trans xt) (by simp)
    ·exact absurd (N.symm.trans xt) (by simp)
    ·exact absurd (Y.symm.trans xt) (by simp)
    ·exact absurd (h3.symm.trans xt) (by simp)
    ·exact absurd (h4.symm.trans xt) (by simp)
    ·exact absurd (h5.symm.trans xt) (by simp)
    ·exact absurd (h6.symm.trans xt) (by simp)
    ·exact absurd (h7.symm.trans xt) (by simp)
    ·exact absurd (h8.symm.trans xt) (by simp)
    ·exact absurd (h9.symm.trans xt) (by simp)
    ·exact absurd (uY.symm.trans xt) (by simp)
    ·exact absurd (uU.symm.trans xt) (by simp)
    ·exact absurd (uN.symm.trans xt) (by simp)
    ·exact absurd (jY.symm.trans xt) (by simp)
    ·exact absurd (oT.symm.trans xt) (by simp)
    ·exact absurd (vW.symm.trans xt) (by simp)
  have ud:i < 16→yp w2 cl:=fun h=>K.b (nw h)
  have xm:i < 16→∀ (p:Addr) u,w2.cell? p = some u→cl.cell? p = some u:=fun h p u hu=>((ud h).cell (yL w2 _ hu)).trans hu
  match i,Z with
  | 0,Z | 5,Z =>
   obtain rfl:=yc Z
   have CL:=xm (by omega)
   clear E K ud xm nw CL
   rw [if_pos (by rfl)];unfold Oper.wp;go_simp
   exact ⟨upd f _ (J G 0),by simp [upd],zE (U xu) _ _ ⟨yj rfl,trivial⟩ (by decide)⟩
  | 1,Z =>
   obtain rfl:=yc Z
   have g0:=(K.c 0 (yf E 0 rfl)).1 _ rfl
   have CL:=xm (by omega)
   clear E K ud xm nw CL
   rw [if_pos (by rfl)];unfold Oper.wp;go_simp
   exact ⟨upd f 1 (J G 0),by simp [upd,g0],zE (U xu) 1 _ ⟨yj rfl,trivial⟩ (by decide)⟩
  | 2,Z =>
   obtain rfl:=yc Z
   have g1:=(K.c 1 (yf E 1 rfl)).1 _ rfl
   have CL:=xm (by omega)
   clear E K ud xm nw CL
   rw [if_pos (by rfl)];unfold Oper.wp;go_simp
   exact ⟨upd f 2 (J G 1),by simp [upd,g1],zE (U xu) 2 _ ⟨yj rfl,trivial⟩ (by decide)⟩
  | 3,Z =>
   obtain rfl:=yc Z
   have g2:=(K.c 2 (yf E 2 rfl)).1 _ rfl
   have CL:=xm (by omega)
   clear E K ud xm nw CL
   rw [if_pos (by rfl)];unfold Oper.wp;go_simp
   exact ⟨upd f 3 (J G 2),by simp [upd,g2],zE (U xu) 3 _ ⟨yj rfl,trivial⟩ (by decide)⟩
  | 4,Z =>
   obtain rfl:=yc Z
   have g3:=(K.c 3 (yf E 3 rfl)).1 _ rfl
   have CL:=xm (by omega)
   have z:=CL (D G 2) _ (R (U uh).box 2 rfl)
   clear E K ud xm nw CL
   rw [if_pos (by rfl)];unfold Oper.wp;go_simp
   exact ⟨upd f 4 (.slice (some (D gb 0)) g.l.length cap),by simp [upd,g3],zE (U xu) 4 _ ⟨yj rfl,trivial⟩ (by decide)⟩
  | 6,Z =>
   obtain rfl:=yc Z
   have g5:=(K.c 5 (yf E 5 rfl)).1 _ rfl
   have CL:=xm (by omega)
   clear E K ud xm nw CL
   rw [if_pos (by rfl)];unfold Oper.wp;go_simp
   exact ⟨upd f 6 (J G 0),by simp [upd,g5],zE (U xu) 6 _ ⟨yj rfl,trivial⟩ (by decide)⟩
  | 7,Z =>
   obtain rfl:=yc Z
   have g6:=(K.c 6 (yf E 6 rfl)).1 _ rfl
   have CL:=xm (by omega)
   clear E K ud xm nw CL
   rw [if_pos (by rfl)];unfold Oper.wp;go_simp
   exact ⟨upd f 7 (J G 1),by simp [upd,g6],zE (U xu) 7 _ ⟨yj rfl,trivial⟩ (by decide)⟩
  | 8,Z =>
   obtain rfl:=yc Z
   have g7:=(K.c 7 (yf E 7 rfl)).1 _ rfl
   have CL:=xm (by omega)
   have z1:=CL (D G 1) _ (R (U uh).box 1 rfl)
   have z2:=CL (D G 2) _ (R (U uh).box 2 rfl)
   clear E K ud xm nw CL
   rw [if_pos (by rfl)];unfold Oper.wp;go_simp
   exact ⟨upd f 8 (.agg #[I g.nx,.slice (some (D gb 0)) g.l.length cap]),by simp [upd,g7],zE (U xu) 8 _ ⟨yj rfl,trivial⟩ (by decide)⟩
  | 9,Z =>
   obtain rfl:=yc Z
   have CL:=xm (by omega)
   clear E K ud xm nw CL
   rw [if_pos (by rfl)];unfold Oper.wp;go_simp
   exact ⟨upd f 9 (J w.heap.size 9),by simp [upd],zE (U xu) 9 _ ⟨yj rfl,trivial⟩ (by decide)⟩
  | 10,Z =>
   obtain rfl:=yc Z
   have g9:=(K.c 9 (yf E 9 rfl)).1 _ rfl
   have CL:=xm (by omega)
   have z:=CL (D w.heap.size 9) _ (R (U xJ) 9 rfl)
   clear E K ud xm nw CL
   rw [if_pos (by rfl)];unfold Oper.wp;go_simp
   exact ⟨upd f 10 (I id),by simp [upd,g9],zE (U xu) 10 _ ⟨yj rfl,trivial⟩ (by decide)⟩
  | 11,Z =>
   obtain rfl:=yc Z
   have g8:=(K.c 8 (yf E 8 rfl)).1 _ rfl
   have qy:=(K.c 10 (yf E 10 rfl)).1 _ rfl
   have CL:=xm (by omega)
   have hw:=nw (by omega)
   have qJ:=H (zi (U uQ) (ud (by omega)) yb)
   clear E K ud xm nw CL
   rw [if_pos (by rfl)];unfold Oper.wp;go_simp
   refine (eO g.nx _ g.l id cl (U qJ)).mono ?_
   rw [U jC]
   rintro e w4 ⟨rfl,xy⟩
   exact ⟨upd f 11 (I k),by simp [upd,g8,qy],zE (dF (U xu) hw xy) 11 _ ⟨yj rfl,trivial⟩ (by decide)⟩
  | 12,Z =>
   obtain rfl:=yc Z
   have CL:=xm (by omega)
   clear E K ud xm nw CL
   rw [if_pos (by rfl)];unfold Oper.wp;go_simp
   exact ⟨upd f 12 (J w.heap.size 11),by simp [upd],zE (U xu) 12 _ ⟨yj rfl,trivial⟩ (by decide)⟩
  | 13,Z =>
   obtain rfl:=yc Z
   have ua:=(K.c 12 (yf E 12 rfl)).1 _ rfl
   have CL:=xm (by omega)
   have z:=CL (D w.heap.size 11) _ (R (U xJ) 11 rfl)
   clear E K ud xm nw CL
   rw [if_pos (by rfl)];unfold Oper.wp;go_simp
   exact ⟨upd f 13 (I qty),by simp [upd,ua],zE (U xu) 13 _ ⟨yj rfl,trivial⟩ (by decide)⟩
  | 14,Z =>
   obtain rfl:=yc Z
   have g4:=(K.c 4 (yf E 4 rfl)).1 _ rfl
   have vI:=(K.c 11 (yf E 11 rfl)).1 _ rfl
   have CL:=xm (by omega)
   clear E K ud xm nw CL
   rw [if_pos (by rfl)];unfold Oper.wp;go_simp
   exact ⟨upd f 14 (J gb (k * 6)),by simp [upd,g4,vI],zE (U xu) 14 _ ⟨yj rfl,trivial⟩ (by decide)⟩
  | 15,Z =>
   obtain rfl:=yc Z
   have jo:=(K.c 14 (yf E 14 rfl)).1 _ rfl
   have CL:=xm (by omega)
   clear E K ud xm nw CL
   rw [if_pos (by rfl)];unfold Oper.wp;go_simp
   exact ⟨upd f 15 (J gb (k * 6 + 3)),by simp [upd,jo],zE (U xu) 15 _ ⟨yj rfl,trivial⟩ (by decide)⟩
  | 16,Z =>
   obtain rfl:=yc Z
   have g15:=(K.c 15 (yf E 15 rfl)).1 _ rfl
   have qP:=(K.c 13 (yf E 13 rfl)).1 _ rfl
   have uw:=H (zA (U uh) (K.b xt))
   have jt:=(U HI).len
   obtain ⟨zz,qq⟩:=row_here (U uw).row (by omega) (U oQ)
   have z3:=zz 3 _ rfl
   have q3:=qq 3 (by omega)
   clear zz qq jt
   clear E K ud xm nw
   rw [if_pos (by rfl)];unfold Oper.wp;go_simp
   exact ⟨f,by simp [g15,qP],rw_last (T:=fun cl=>cl.setCell (D gb (k * 6 + 3)) (I qty)) (U xu) xt (fun j X hx=>⟨fun u hu=>(by subst X; cases hu),trivial⟩)⟩
  | i + 17,Z=>simp at Z
end Go.Proofs.YtnphbkgfjanmgaaGreatDoor
