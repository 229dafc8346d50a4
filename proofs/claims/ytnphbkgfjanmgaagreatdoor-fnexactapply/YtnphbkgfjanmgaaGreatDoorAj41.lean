/-
  The end of a day in a group, by the program: proved by walking the method.
-/
import Derived.Test.YtnphbkgfjanmgaaGreatDoorAj29
set_option linter.unusedVariables false
set_option maxHeartbeats 6400000
set_option maxRecDepth 100000
namespace Go.Proofs.YtnphbkgfjanmgaaGreatDoor
open Go.RowKit
theorem endDay_chk {G B r:Nat} {vq:Value} {g:Gr} (e:Ev) (w:World) (h:GS G B r w vq g) (hi:GI g) (he:okE e = true) (hk:e.kind = 8) (hg:e.cmd.g.size ≤ maxLen):Calls Tryz.prog 94 #[J G 0,evV e] w fun x w'=>Chk G B r vq g e w x w':=by
 have hsf:=sfl
 have hG:=h.lt
 have qe:=h.base
 have ur:Hid (zG g e = if bz g e ≠ 0 then bz g e else if e.qty = ((g.l.filter isDy).length:Int) then 0 else 7):=by show _ = _; simp [zG,hk]
 have uW:Hid (takG g e = ⟨g.nx,g.l,g.bg,g.cm,g.tk⟩):=by show _ = _; rw [takG,step8 hk]
 have vJ:Hid (∀ k w',zG g e = k→k ≠ 0→Kp G vq w w'→Chk G B r vq g e w (.panicked (brk k)) w'):=fun k w' N Y h3=>chk_no N Y h3
 have uy:Hid (∀ w' uH,zG g e = 0→Kp G vq w w'→GS G B r w' uH (takG g e)→Chk G B r vq g e w (.returned (.tuple #[])) w'):=fun w' uH N Y h3=>chk_ok N Y h3
 have qp:Hid (∀ W,GS G B r W vq g→Calls Tryz.prog 132 #[J G 0,evV e] W fun x w'=>x = outR (bz g e)∧yp W w'):=fun W hW=>start_any e W hW hi (by rw [hk]; decide) hg
 have HI:=H hi
 generalize Chk G B r vq g e w = C at vJ uy ⊢
 generalize zG g e = ru at vJ uy ur
 generalize takG g e = g' at uW uy
 generalize bz g e = sr at qp ur
 obtain ⟨xn,⟨ck,L,ct,V,cq,ci,O,cg⟩,id,xj,qty,xk,xi⟩:=e
 simp only at hk hg
 try simp only at ur uW
 unfold evV at qp
 simp only at qp
 unfold evV
 simp only
 obtain ⟨xC,HX⟩:=gw w (yw xn ck L ct V cq ci O cg id xj qty xk xi) 52
 have HS:Hid ((w.alloc (A (yw xn ck L ct V cq ci O cg id xj qty xk xi).toArray 52)).heap.size = w.heap.size + 1):=by show _ = _; simp
 have HG:=H (zA h xC)
 have HB:Hid (Kp G vq w (w.alloc (A (yw xn ck L ct V cq ci O cg id xj qty xk xi).toArray 52))):=kp_of xC
 clear h xC hi he hk hg
 go_enter Tryz.func94,Tryz.ntmps94
 refine gv fun hR HK=>?_
 go_wp2_with fail
 refine U HK _ _ ?_
 clear HK
 generalize (w.alloc (A (yw xn ck L ct V cq ci O cg id xj qty xk xi).toArray 52)) = W1 at HS HX HG HB ⊢
 obtain ⟨e0,e1,e2,e3,e4,e5,e6,e7,e8,e9,uR,uA,vV,uT⟩:=yz (U HX)
 go_wp2_with fail
 refine (U qp W1 (U HG)).mono ?_
 rintro x w2 ⟨hx,xK⟩
 have xJ:=H (zf (U HX) xK (by have:=U HS; omega))
 have uh:=H (zA (U HG) xK)
 have xw:=H (bL (U HB) xK)
 have hS2:w.heap.size < w2.heap.size:=by have:=U HS; have:=xK.size; omega
 clear xK e0 e1 e2 e3 e4 e5 e6 e7 e8 e9 uR uA vV uT
 by_cases hs:sr = 0
 case neg =>
  rw [outR_no hs] at hx
  subst hx
  go_wp2_with fail
  exact ⟨rfl,U vJ _ _ (by rw [U ur,if_pos hs]) hs (U xw)⟩
 rw [outR_ok hs] at hx
 subst hx
 have HSR:=H hs
 have ue:=H (U ur)
 rw [if_neg (not_not_intro hs)] at ue
 clear hs ur
 have jt:=(U HI).len
 obtain ⟨a,cap,rfl,xz,hc⟩:=zI (U uh).row (by omega)
 have xr:∀ (k:Nat) (c:Od),g.l[k]? = some c→∃ b off,a = some (D b off)∧b < w2.heap.size∧w2.rangeAt b (off + k * 6) c.vs:=by
  intro k c hk
  obtain ⟨b,off,N,Y,h3⟩:=hc (by intro h; rw [h] at hk; simp at hk)
  exact ⟨b,off,N,Y,h3 k c hk⟩
 have HC:=H xr
 clear xr hc xz
 have c2:w2.cell? (D G 2) = some (.slice a g.l.length cap):=R (U uh).box 2 rfl
 go_wp2_with fail
 clear c2
 go_loopw [4,16] (fun cv iv wr=>∃ k:Nat,k ≤ g.l.length∧cv = I (((g.l.take k).filter isDy).length:Int)∧iv = I k∧yp w2 wr) (fun _ iv _=>g.l.length - (intOf iv).toNat)
 case atStart=>exact ⟨0,Nat.zero_le _,rfl,rfl,Below.refl _ _⟩
 case round =>
  obtain ⟨k,hk,rfl,rfl,xl⟩:=hrel
  have uc:=H xl
  clear xl
  by_cases xI:k < g.l.length
  ·obtain ⟨c,uu⟩:∃ c,g.l[k]? = some c:=⟨_,yI xI⟩
   have HT:Hid (((g.l.take (k + 1)).filter isDy).length = ((g.l.take k).filter isDy).length + if isDy c = true then 1 else 0):=by
    show _ = _
    rw [List.take_add_one,uu]
    simp [List.filter_cons]
    split <;> simp
   have hcn:((g.l.take k).filter isDy).length ≤ k:=yO (List.length_filter_le _ _) (by simp; omega)
   generalize ((g.l.take k).filter isDy).length = cn at HT hcn ⊢
   obtain ⟨b,off,rfl,Q,F⟩:=U HC k c uu
   obtain ⟨g0,g1,g2,g3,g4,g5⟩:=zB (zc F (U uc) Q)
   have uF:(k:Int) < g.l.length:=by omega
   have xy:=gp wr (A (yx c.id c.side c.ticks c.left c.life c.tag).toArray 78)
   have xH:=H (gu (U uc) xy)
   clear uu F Q xy
   go_wp2_with fail
   refine (isOfDay_any c (wr.alloc (A (yx c.id c.side c.ticks c.left c.life c.tag).toArray 78))).mono ?_
   rintro e w3 ⟨rfl,xQ⟩
   have xN:=H (gu (U xH) xQ)
   clear xQ g0 g1 g2 g3 g4 g5
   have hwr:IntKind.i64.wrap ((cn:Int) + 1) = (cn:Int) + 1:=by rw [IntKind.wrap_i64]; omega
   by_cases uj:c.life = 1
   ·have Q:(c.life == 1) = true:=by simpa using uj
    have uz:Hid (((g.l.take (k + 1)).filter isDy).length = cn + 1):=by show _ = _; rw [U HT,if_pos (by simpa [isDy] using uj)]
    clear uj HT
    go_wp2_with fail
    go_roundw
    case rel=>exact ⟨k + 1,by omega,by rw [U uz]; rfl,by go_num,U xN⟩
    case measure=>simp [intOf]; omega
   ·have Q:(c.life == 1) = false:=by simpa using uj
    have uz:Hid (((g.l.take (k + 1)).filter isDy).length = cn):=by show _ = _; rw [U HT,if_neg (by simpa [isDy] using uj)]; rfl
    clear uj HT
    go_wp2_with fail
    go_roundw
    case rel=>exact ⟨k + 1,by omega,by rw [U uz],by go_num,U xN⟩
    case measure=>simp [intOf]; omega
  ·have pd:k = g.l.length:=by omega
   subst pd
   rw [List.take_length]
   generalize hcn:(g.l.filter isDy).length = cn at ue
   clear hcn
   have xG:=H (zf (U xJ) (U uc) hS2)
   have uw:=H (zA (U uh) (U uc))
   have xH:=H (bL (U xw) (U uc))
   have uA:=R (U xG) 11 rfl
   by_cases hq:qty = (cn:Int)
   case neg =>
    have b0:(qty == (cn:Int)) = false:=by simpa using hq
    have HQ:=H (U ue)
    rw [if_neg hq] at HQ
    clear hq
    go_wp2_with fail
    refine (bU 7 _).mono ?_
    rintro e w6 ⟨rfl,rfl⟩
    go_wp2_with fail
    exact ⟨rfl,U vJ 7 _ (U HQ) (by decide) (U xH)⟩
   have b0:(qty == (cn:Int)) = true:=by simpa using hq
   have HQ:=H (U ue)
   rw [if_pos hq] at HQ
   clear hq
   go_wp2_with fail
   refine (co 7 _).mono ?_
   rintro e w6 ⟨rfl,rfl⟩
   go_wp2_with fail
   go_end0
   refine U uy _ (.slice a g.l.length cap) (U HQ) (U xH) ?_
   rw [U uW]
   exact U uw
theorem drop_chk {G B r:Nat} {vq:Value} {g:Gr} (e:Ev) (w:World) (h:GS G B r w vq g) (hi:GI g) (he:okE e = true) (hk:e.kind = 5) (hg:e.cmd.g.size ≤ maxLen):Calls Tryz.prog 91 #[J G 0,evV e] w fun x w'=>Chk G B r vq g e w x w':=by
 have hsf:=sfl
 have hG:=h.lt
 have qe:=h.base
 have ur:Hid (zG g e = if dueR g e ≠ 0 then dueR g e else if bC e (dueG g) = true then 0 else 13):=by show _ = _; simp [zG,hk]
 have uW:Hid (takG g e = ⟨g.nx,g.l,g.bg,g.cm,{ g.tk with left:=0 }⟩):=by show _ = _; rw [takG,step5 hk]
 have vJ:Hid (∀ k w',zG g e = k→k ≠ 0→Kp G vq w w'→Chk G B r vq g e w (.panicked (brk k)) w'):=fun k w' N Y h3=>chk_no N Y h3
 have uy:Hid (∀ w' uH,zG g e = 0→Kp G vq w w'→GS G B r w' uH (takG g e)→Chk G B r vq g e w (.returned (.tuple #[])) w'):=fun w' uH N Y h3=>chk_ok N Y h3
 have jJ:Hid (∀ W,GS G B r W vq g→Calls Tryz.prog 137 #[J G 0,evV e] W fun x w'=>x = outD (dueR g e) (dueG g)∧yp W w'):=fun W hW=>fH e W hW hi
 have pW:Hid (∀ W,Calls Tryz.prog 139 #[evV e,duV (dueG g)] W fun r w'=>r = .returned (.bool (bC e (dueG g)))∧yp W w'):=fun W=>isJust_any e (dueG g) W
 have HR45:Hid (zG g e = 0→g.bg = 1∧g.tk.left ≠ 0):=rule45 (by omega)
 have HI:=H hi
 generalize Chk G B r vq g e w = C at vJ uy ⊢
 generalize zG g e = ru at vJ uy ur HR45
 generalize takG g e = g' at uW uy
 generalize dueR g e = dr at jJ ur
 generalize bC e (dueG g) = jb at pW ur
 generalize dueG g = d at jJ pW
 obtain ⟨xn,⟨ck,L,ct,V,cq,ci,O,cg⟩,id,xj,qty,xk,xi⟩:=e
 simp only at hk hg
 try simp only at ur uW
 obtain ⟨dk,di,dt,dq,dp⟩:=d
 unfold evV at jJ pW
 unfold duV at pW
 simp only at jJ pW
 unfold evV
 simp only
 obtain ⟨xC,HX⟩:=gw w (yw xn ck L ct V cq ci O cg id xj qty xk xi) 52
 have HS:Hid ((w.alloc (A (yw xn ck L ct V cq ci O cg id xj qty xk xi).toArray 52)).heap.size = w.heap.size + 1):=by show _ = _; simp
 have HG:=H (zA h xC)
 have HB:Hid (Kp G vq w (w.alloc (A (yw xn ck L ct V cq ci O cg id xj qty xk xi).toArray 52))):=kp_of xC
 clear h xC hi he hk hg
 go_enter Tryz.func91,Tryz.ntmps91
 refine gv fun hR HK=>?_
 go_wp2_with fail
 refine U HK _ _ ?_
 clear HK
 generalize (w.alloc (A (yw xn ck L ct V cq ci O cg id xj qty xk xi).toArray 52)) = W1 at HS HX HG HB ⊢
 go_wp2_with fail
 refine zn (RWA (fun f=>{ tmps:=#[J G 0,.agg (yw xn ck L ct V cq ci O cg id xj qty xk xi).toArray,M,J w.heap.size 0,f 0,f 1,f 2,f 3,f 4,f 5,M,M,M,M],defers:=[] }) (CVw [some (.agg (yw xn ck L ct V cq ci O cg id xj qty xk xi).toArray),some (J G 0),some (.agg (yw xn ck L ct V cq ci O cg id xj qty xk xi).toArray),some (.agg #[I dk,I di,I dt,I dq,I dp]),some (.bool jb),some (.tuple #[])] (fun j=>(j = 3→dr = 0)∧(j = 5→jb = true))) 5 (fun cl=>cl) W1) (by kernel_rfl) ?_ ?_ ?_
 ·exact ⟨fun _=>M,rfl,⟨fun j X=>by rw [yJ] at X; split at X <;> simp at X,fun _=>⟨rfl,rfl,rfl,Nat.le_refl _,fun _ _=>rfl⟩,fun X=>by rw [yJ] at X; split at X <;> simp at X⟩⟩
 ·rintro x gs cl ⟨f,rfl,K⟩ hx xO
  have xq:=zP xO hx (acyc _ (by kernel_rfl))
  obtain ⟨V0,xC,eV⟩:=K.m (xq 5 (by simp))
  have jj:=(K.c 3 (xq 3 (by simp))).2.1 rfl
  have hjb:=(K.c 5 (xq 5 (by simp))).2.2 rfl
  have HQ:=H (U ur)
  rw [if_neg (not_not_intro jj),if_pos hjb] at HQ
  subst eV
  have uw:=H (zA (U HG) xC)
  have xH:=H (bL (U HB) xC)
  clear K xq xO hx xC jj hjb ur jJ pW HX HS HG HB
  dsimp only
  generalize f 0 = v0,f 1 = v1,f 2 = v2,f 3 = v3,f 4 = v4,f 5 = v5
  have c13:=R (U uw).box 13 rfl
  have q13:=zd (U uw).box 13 (by show 13 < 16; decide)
  go_wp2_with fail
  go_end0
  refine U uy _ vq (U HQ) (kp_set (U xH) 13 _) ?_
  rw [U uW]
  exact gs_set (U uw) 13 _ (by decide) rfl rfl
 ·rintro x gs cl i op ⟨f,rfl,K⟩ F hx Z xt E
  have xu:=H K
  have nw:i < 5→x[5]? = some false:=fun xI=>by
   rcases bS hx (show 5 < 6 by omega) with hq | hw
   ·exact hq
   ·exfalso
    have h4:=yh F 5 rfl hw 4 rfl
    have h0:=yh F 4 rfl h4 0 rfl
    have h3:=yh F 4 rfl h4 3 rfl
    have N:=yh F 3 rfl h3 1 rfl
    have Y:=yh F 3 rfl h3 2 rfl
    rcases (by omega:i = 0 ∨ i = 1 ∨ i = 2 ∨ i = 3 ∨ i = 4) with rfl | rfl | rfl | rfl | rfl
    ·exact absurd (h0.symm.trans xt) (by simp)
    ·exact absurd (N.symm.trans xt) (by simp)
    ·exact absurd (Y.symm.trans xt) (by simp)
    ·exact absurd (h3.symm.trans xt) (by simp)
    ·exact absurd (h4.symm.trans xt) (by simp)
  have ud:i < 5→yp W1 cl:=fun h=>K.b (nw h)
  have xm:i < 5→∀ (p:Addr) u,W1.cell? p = some u→cl.cell? p = some u:=fun h p u hu=>((ud h).cell (yL W1 _ hu)).trans hu
  match i,Z with
  | 0,Z | 2,Z =>
   obtain rfl:=yc Z
   have CL:=xm (by omega)
   have e0:=CL (D w.heap.size 0) _ (R (U HX) 0 rfl)
   have e1:=CL (D w.heap.size 1) _ (R (U HX) 1 rfl)
   have e2:=CL (D w.heap.size 2) _ (R (U HX) 2 rfl)
   have e3:=CL (D w.heap.size 3) _ (R (U HX) 3 rfl)
   have e4:=CL (D w.heap.size 4) _ (R (U HX) 4 rfl)
   have e5:=CL (D w.heap.size 5) _ (R (U HX) 5 rfl)
   have e6:=CL (D w.heap.size 6) _ (R (U HX) 6 rfl)
   have e7:=CL (D w.heap.size 7) _ (R (U HX) 7 rfl)
   have e8:=CL (D w.heap.size 8) _ (R (U HX) 8 rfl)
   have e9:=CL (D w.heap.size 9) _ (R (U HX) 9 rfl)
   have uR:=CL (D w.heap.size 10) _ (R (U HX) 10 rfl)
   have uA:=CL (D w.heap.size 11) _ (R (U HX) 11 rfl)
   have vV:=CL (D w.heap.size 12) _ (R (U HX) 12 rfl)
   have uT:=CL (D w.heap.size 13) _ (R (U HX) 13 rfl)
   clear E K ud xm nw CL
   rw [if_pos (by rfl)];unfold Oper.wp;go_simp
   exact ⟨upd f _ (.agg (yw xn ck L ct V cq ci O cg id xj qty xk xi).toArray),by simp [upd],zE (U xu) _ _ ⟨yj rfl,⟨fun h=>absurd h (by decide),fun h=>absurd h (by decide)⟩⟩ (by decide)⟩
  | 1,Z =>
   obtain rfl:=yc Z
   have CL:=xm (by omega)
   clear E K ud xm nw CL
   rw [if_pos (by rfl)];unfold Oper.wp;go_simp
   exact ⟨upd f 1 (J G 0),by simp [upd],zE (U xu) 1 _ ⟨yj rfl,⟨fun h=>absurd h (by decide),fun h=>absurd h (by decide)⟩⟩ (by decide)⟩
  | 3,Z =>
   obtain rfl:=yc Z
   have g1:=(K.c 1 (yf E 1 rfl)).1 _ rfl
   have g2:=(K.c 2 (yf E 2 rfl)).1 _ rfl
   have CL:=xm (by omega)
   have hw:=nw (by omega)
   have vy:=H (bL (U HB) (ud (by omega)))
   have HGV:=H (zA (U HG) (ud (by omega)))
   clear E K ud xm nw CL
   rw [if_pos (by rfl)];unfold Oper.wp;go_simp
   refine (U jJ cl (U HGV)).mono ?_
   rintro y w4 ⟨hy,xy⟩
   by_cases hs:dr = 0
   ·rw [outD_ok hs] at hy
    subst hy
    exact ⟨upd f 3 (.agg #[I dk,I di,I dt,I dq,I dp]),by simp [upd,g1,g2,duV],zE (dF (U xu) hw xy) 3 _ ⟨yj rfl,fun _=>hs,fun h=>absurd h (by decide)⟩ (by decide)⟩
   ·rw [outD_no hs] at hy
    subst hy
    have HQ:=H (U ur)
    rw [if_pos hs] at HQ
    have jL:=H hs
    have uk:=H (bL (U vy) xy)
    clear hs xy
    go_wp2_with fail
    exact ⟨rfl,U vJ _ _ (U HQ) (U jL) (U uk)⟩
  | 4,Z =>
   obtain rfl:=yc Z
   have g0:=(K.c 0 (yf E 0 rfl)).1 _ rfl
   have g3:=(K.c 3 (yf E 3 rfl)).1 _ rfl
   have CL:=xm (by omega)
   have hw:=nw (by omega)
   clear E K ud xm nw CL
   rw [if_pos (by rfl)];unfold Oper.wp;go_simp
   refine (U pW cl).mono ?_
   rintro y w4 ⟨rfl,xy⟩
   exact ⟨upd f 4 (.bool jb),by simp [upd,g0,g3],zE (dF (U xu) hw xy) 4 _ ⟨yj rfl,⟨fun h=>absurd h (by decide),fun h=>absurd h (by decide)⟩⟩ (by decide)⟩
  | 5,Z =>
   obtain rfl:=yc Z
   have g4:=(K.c 4 (yf E 4 rfl)).1 _ rfl
   have vy:=H (bL (U HB) (K.b xt))
   have h4:=E ⟨4,.data⟩ (by simp) rfl
   have h3:=yh F 4 rfl h4 3 rfl
   have jj:=(K.c 3 h3).2.1 rfl
   have HQ:=H (U ur)
   rw [if_neg (not_not_intro jj)] at HQ
   clear E K ud xm nw h4 h3 jj
   rw [if_pos (by rfl)];unfold Oper.wp;go_simp
   by_cases X:jb = true
   ·have hd:=co 13 cl
    rw [← X] at hd
    refine hd.mono ?_
    rintro e w4 ⟨rfl,rfl⟩
    exact ⟨upd f 5 (.tuple #[]),by simp [upd,g4],rw_lastv (T:=fun cl=>cl) (U xu) xt ⟨yj rfl,fun h=>absurd h (by decide),fun _=>X⟩⟩
   ·have hj2:jb = false:=by simpa using X
    have hd:=bU 13 cl
    rw [← hj2] at hd
    refine hd.mono ?_
    rintro e w4 ⟨rfl,rfl⟩
    rw [if_neg X] at HQ
    clear X hj2 hd
    go_wp2_with fail
    exact ⟨rfl,U vJ 13 _ (U HQ) (by decide) (U vy)⟩
  | i + 6,Z=>simp at Z
end Go.Proofs.YtnphbkgfjanmgaaGreatDoor
