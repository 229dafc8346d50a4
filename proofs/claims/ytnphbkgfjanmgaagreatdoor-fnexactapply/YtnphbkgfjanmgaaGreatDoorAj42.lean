/-
  What is left of an order put into the book in a group, by the program: proved by walking the method.
-/
import Derived.Test.YtnphbkgfjanmgaaGreatDoorAj35
import Derived.Test.YtnphbkgfjanmgaaGreatDoorAj39
import Derived.Test.YtnphbkgfjanmgaaGreatDoorAj40
import Derived.Test.YtnphbkgfjanmgaaGreatDoorAj41
import Derived.MapKept
import Derived.Maps.Own
import Derived.WideMake
set_option linter.unusedVariables false
set_option maxHeartbeats 6400000
set_option maxRecDepth 100000
namespace Go.Proofs.YtnphbkgfjanmgaaGreatDoor
open Go.RowKit
def RRA (B G:Nat) (base:World) (xo:(Nat→Value)→Act) (vs:List (Option Value)) (vq:Value) (g:Gr) (x:List Bool) (a:Act) (W:World):Prop :=
 ∃ f,a = xo f∧RA (fun j v=>∀ u,vs[j]? = some (some u)→v = u) 11 15 (D G 2) (App B base vq (g.l ++ [g.tk])) base x f W∧(x[10]? = some true→∃ s,f 10 = .slice (some (D s 0)) 1 1∧(x[11]? = some false→∀ j u,g.tk.vs[j]? = some u→W.cell? (Addr.add (D s 0) j) = some u))
theorem rest_chk {G B r:Nat} {vq:Value} {g:Gr} (e:Ev) (w:World) (h:GS G B r w vq g) (hi:GI g) (he:okE e = true) (hk:e.kind = 4) (hg:e.cmd.g.size ≤ maxLen):Calls Tryz.prog 90 #[J G 0,evV e] w fun x w'=>Chk G B r vq g e w x w':=by
 have hsf:=sfl
 have hG:=h.lt
 have qe:=h.base
 have ur:Hid (zG g e = if dueR g e ≠ 0 then dueR g e else if bC e (dueG g) = true then 0 else 13):=by show _ = _; simp [zG,hk]
 have uW:Hid (takG g e = ⟨g.nx,g.l ++ [g.tk],g.bg,g.cm,{ g.tk with left:=0 }⟩):=by show _ = _; rw [takG,step4 hk]
 have vJ:Hid (∀ k w',zG g e = k→k ≠ 0→Kp G vq w w'→Chk G B r vq g e w (.panicked (brk k)) w'):=fun k w' N Y h3=>chk_no N Y h3
 have uy:Hid (∀ w' uH,zG g e = 0→Kp G vq w w'→GS G B r w' uH (takG g e)→Chk G B r vq g e w (.returned (.tuple #[])) w'):=fun w' uH N Y h3=>chk_ok N Y h3
 have jJ:Hid (∀ W,GS G B r W vq g→Calls Tryz.prog 137 #[J G 0,evV e] W fun x w'=>x = outD (dueR g e) (dueG g)∧yp W w'):=fun W hW=>fH e W hW hi
 have pW:Hid (∀ W,Calls Tryz.prog 139 #[evV e,duV (dueG g)] W fun r w'=>r = .returned (.bool (bC e (dueG g)))∧yp W w'):=fun W=>isJust_any e (dueG g) W
 have HR45:Hid (zG g e = 0→g.bg = 1∧g.tk.left ≠ 0):=rule45 (by omega)
 have HI:=H hi
 generalize Chk G B r vq g e w = C at vJ uy ⊢
 generalize zG g e = ru at vJ uy ur HR45
 generalize takG g e = g' at uW uy
 generalize dueR g e = dr at jJ ur
 generalize bC e (dueG g) = jb at pW ur
 generalize dueG g = d at jJ pW
 obtain ⟨xn,⟨ck,L,ct,V,cq,ci,O,cg⟩,id,xj,qty,xk,xi⟩:=e
 simp only at hk hg
 try simp only at ur uW
 obtain ⟨dk,di,dt,dq,dp⟩:=d
 unfold evV at jJ pW
 unfold duV at pW
 simp only at jJ pW
 unfold evV
 simp only
 obtain ⟨xC,HX⟩:=gw w (yw xn ck L ct V cq ci O cg id xj qty xk xi) 52
 have HS:Hid ((w.alloc (A (yw xn ck L ct V cq ci O cg id xj qty xk xi).toArray 52)).heap.size = w.heap.size + 1):=by show _ = _; simp
 have HG:=H (zA h xC)
 have HB:Hid (Kp G vq w (w.alloc (A (yw xn ck L ct V cq ci O cg id xj qty xk xi).toArray 52))):=kp_of xC
 clear h xC hi he hk hg
 go_enter Tryz.func90,Tryz.ntmps90
 refine gv fun hR HK=>?_
 go_wp2_with fail
 refine U HK _ _ ?_
 clear HK
 generalize (w.alloc (A (yw xn ck L ct V cq ci O cg id xj qty xk xi).toArray 52)) = W1 at HS HX HG HB ⊢
 go_wp2_with fail
 refine zn (RWA (fun f=>{ tmps:=#[J G 0,.agg (yw xn ck L ct V cq ci O cg id xj qty xk xi).toArray,M,J w.heap.size 0,f 0,f 1,f 2,f 3,f 4,f 5,M,M,M,M,M,M,M,M,M,M,M,M,M,M,M,M,M,M,M],defers:=[] }) (CVw [some (.agg (yw xn ck L ct V cq ci O cg id xj qty xk xi).toArray),some (J G 0),some (.agg (yw xn ck L ct V cq ci O cg id xj qty xk xi).toArray),some (.agg #[I dk,I di,I dt,I dq,I dp]),some (.bool jb),some (.tuple #[])] (fun j=>(j = 3→dr = 0)∧(j = 5→jb = true))) 5 (fun cl=>cl) W1) (by kernel_rfl) ?_ ?_ ?_
 ·exact ⟨fun _=>M,rfl,⟨fun j X=>by rw [yJ] at X; split at X <;> simp at X,fun _=>⟨rfl,rfl,rfl,Nat.le_refl _,fun _ _=>rfl⟩,fun X=>by rw [yJ] at X; split at X <;> simp at X⟩⟩
 ·rintro x gs cl ⟨f,rfl,K⟩ hx xO
  have xq:=zP xO hx (acyc _ (by kernel_rfl))
  obtain ⟨V0,xC,eV⟩:=K.m (xq 5 (by simp))
  have jj:=(K.c 3 (xq 3 (by simp))).2.1 rfl
  have hjb:=(K.c 5 (xq 5 (by simp))).2.2 rfl
  have HQ:=H (U ur)
  rw [if_neg (not_not_intro jj),if_pos hjb] at HQ
  subst eV
  have uw:=H (zA (U HG) xC)
  have xH:=H (bL (U HB) xC)
  clear K xq xO hx xC jj hjb ur jJ pW HX HS HG HB
  dsimp only
  generalize f 0 = v0,f 1 = v1,f 2 = v2,f 3 = v3,f 4 = v4,f 5 = v5
  obtain ⟨i0,vC,uK,uL,uZ⟩:=info_parts Tryz.infoOrder
  have jt:g.l.length ≤ 20:=((U HI).good (.inr (U HR45 (U HQ)).2)).len
  go_wp2_with fail
  refine zn (RRA B G cl (fun f=>{ tmps:=#[J G 0,.agg (yw xn ck L ct V cq ci O cg id xj qty xk xi).toArray,M,J w.heap.size 0,v0,v1,v2,v3,v4,v5,f 0,f 1,f 2,f 3,f 4,f 5,f 6,f 7,f 8,f 9,f 10,f 11,f 12,f 13,f 14,M,M,M,M],defers:=[] }) [some (J G 0),some (J G 0),some (J G 0),some (J G 1),some (J G 2),some (vq),some (J G 0),some (J G 0),some (J G 10),some (.agg (yx g.tk.id g.tk.side g.tk.ticks g.tk.left g.tk.life g.tk.tag).toArray),none,none,some (J G 0),some (J G 1),some (J G 2),none] vq g) (by kernel_rfl) ?_ ?_ ?_
  ·exact ⟨fun _=>M,rfl,⟨fun j X=>by rw [yJ] at X; split at X <;> simp at X,fun _=>⟨rfl,rfl,rfl,Nat.le_refl _,fun _ _=>rfl⟩,fun X=>by rw [yJ] at X; split at X <;> simp at X,fun X=>by rw [yJ] at X; split at X <;> simp at X⟩,fun X=>by rw [yJ] at X; split at X <;> simp at X⟩
  ·rintro x gs h2 ⟨f,rfl,K,hS⟩ hx xO
   have xq:=zP xO hx (acyc _ (by kernel_rfl))
   obtain ⟨W0,⟨Z,hg⟩,eY⟩:=K.z (xq 15 (by simp))
   have ht:TookAt G 1 vq.ownBlock cl h2:=by rw [eY]; exact eb (dM hg (U uw).lt (U uw).nq) (took_set (o:=1) _ _)
   have hcG:W0.cell? (D G 2) = some vq:=hg.cell (R (U uw).box 2 rfl) (U uw).nq
   have hc:h2.cell? (D G 2) = some (f 11):=by rw [eY]; exact yN _ _ _ hcG
   have kR:∃ xF,W0.heap[G]? = some (.cells xF 87 (0,0)):=by
    obtain ⟨xF,N⟩:=(U uw).typ
    exact ⟨xF,(hg.block G (U uw).lt (U uw).nq).trans N⟩
   have kV:ORow h2 B (f 11) (g.l ++ [g.tk]):=by rw [eY]; exact bN Z (cQ Z kR (by decide)) 2 _
   have uC:=H (gs_took (U uw) hc kV ht)
   have uk:=H (kp_took (U xH) ht)
   clear K hS xq xO hx Z hg eY ht hcG hc kR kV
   dsimp only
   generalize f 0 = u0,f 1 = u1,f 2 = u2,f 3 = u3,f 4 = u4,f 5 = u5,f 6 = u6,f 7 = u7,f 8 = u8,f 9 = u9,f 10 = u10
   generalize f 11 = u11 at *
   generalize f 12 = u12,f 13 = u13,f 14 = u14
   have c13:=R (U uC).box 13 rfl
   have q13:=zd (U uC).box 13 (by show 13 < 16; decide)
   go_wp2_with fail
   go_end0
   refine U uy _ u11 (U HQ) (kp_set (U uk) 13 _) ?_
   rw [U uW]
   exact gs_set (U uC) 13 _ (by decide) rfl rfl
  ·rintro x gs h2 i op ⟨f,rfl,K,hS⟩ F hx Z xt E
   have xu:=H K
   have jL:=H hS
   have qV:i < 12→i ≠ 0→x[11]? = some false:=fun xI h0=>by
    rcases bS hx (show 11 < 16 by omega) with hq | uU
    ·exact hq
    ·exfalso
     have h5:=yh F 11 rfl uU 5 rfl
     have uY:=yh F 11 rfl uU 10 rfl
     have h4:=yh F 5 rfl h5 4 rfl
     have h3:=yh F 4 rfl h4 3 rfl
     have Y:=yh F 3 rfl h3 2 rfl
     have N:=yh F 2 rfl Y 1 rfl
     have h9:=yh F 10 rfl uY 9 rfl
     have h8:=yh F 9 rfl h9 8 rfl
     have h7:=yh F 8 rfl h8 7 rfl
     have h6:=yh F 7 rfl h7 6 rfl
     rcases (by omega:i = 1 ∨ i = 2 ∨ i = 3 ∨ i = 4 ∨ i = 5 ∨ i = 6 ∨ i = 7 ∨ i = 8 ∨ i = 9 ∨ i = 10 ∨ i = 11) with rfl | rfl | rfl | rfl | rfl | rfl | rfl | rfl | rfl | rfl | rfl
     ·exact absurd (N.symm.trans xt) (by simp)
     ·exact absurd (Y.symm.trans xt) (by simp)
     ·exact absurd (h3.symm.trans xt) (by simp)
     ·exact absurd (h4.symm.trans xt) (by simp)
     ·exact absurd (h5.symm.trans xt) (by simp)
     ·exact absurd (h6.symm.trans xt) (by simp)
     ·exact absurd (h7.symm.trans xt) (by simp)
     ·exact absurd (h8.symm.trans xt) (by simp)
     ·exact absurd (h9.symm.trans xt) (by simp)
     ·exact absurd (uY.symm.trans xt) (by simp)
     ·exact absurd (uU.symm.trans xt) (by simp)
   have n15:x[11]? = some false→x[15]? = some false:=fun uU=>by
    rcases bS hx (show 15 < 16 by omega) with hq | vW
    ·exact hq
    ·exact absurd ((yh F 15 rfl vW 11 rfl).symm.trans uU) (by simp)
   have xm:i < 12→i ≠ 0→∀ (p:Addr) u,cl.cell? p = some u→h2.cell? p = some u:=fun h h0 p u hu=>((K.b (qV h h0)).cell (yL cl _ hu)).trans hu
   match i,Z with
   | 0,Z | 1,Z | 6,Z =>
    obtain rfl:=yc Z
    clear E K hS xm qV n15
    rw [if_pos (by rfl)];unfold Oper.wp;go_simp
    exact ⟨upd f _ (J G 0),by simp [upd],bw (U xu) _ _ (yj rfl) (by decide) (by decide),fun h=>by
     rw [gq (by decide)] at h ⊢
     obtain ⟨s2,Y,h3⟩:=U jL h
     exact ⟨s2,by rw [zk _ _ (by decide)]; exact Y,fun h4=>h3 h4⟩⟩
   | 2,Z =>
    obtain rfl:=yc Z
    have g1:=K.c 1 (yf E 1 rfl) _ rfl
    clear E K hS xm qV n15
    rw [if_pos (by rfl)];unfold Oper.wp;go_simp
    exact ⟨upd f 2 (J G 0),by simp [upd,g1],bw (U xu) 2 _ (yj rfl) (by decide) (by decide),fun h=>by
     rw [gq (by decide)] at h ⊢
     obtain ⟨s2,Y,h3⟩:=U jL h
     exact ⟨s2,by rw [zk _ _ (by decide)]; exact Y,fun h4=>h3 h4⟩⟩
   | 3,Z =>
    obtain rfl:=yc Z
    have g2:=K.c 2 (yf E 2 rfl) _ rfl
    clear E K hS xm qV n15
    rw [if_pos (by rfl)];unfold Oper.wp;go_simp
    exact ⟨upd f 3 (J G 1),by simp [upd,g2],bw (U xu) 3 _ (yj rfl) (by decide) (by decide),fun h=>by
     rw [gq (by decide)] at h ⊢
     obtain ⟨s2,Y,h3⟩:=U jL h
     exact ⟨s2,by rw [zk _ _ (by decide)]; exact Y,fun h4=>h3 h4⟩⟩
   | 4,Z =>
    obtain rfl:=yc Z
    have g3:=K.c 3 (yf E 3 rfl) _ rfl
    clear E K hS xm qV n15
    rw [if_pos (by rfl)];unfold Oper.wp;go_simp
    exact ⟨upd f 4 (J G 2),by simp [upd,g3],bw (U xu) 4 _ (yj rfl) (by decide) (by decide),fun h=>by
     rw [gq (by decide)] at h ⊢
     obtain ⟨s2,Y,h3⟩:=U jL h
     exact ⟨s2,by rw [zk _ _ (by decide)]; exact Y,fun h4=>h3 h4⟩⟩
   | 5,Z =>
    obtain rfl:=yc Z
    have g4:=K.c 4 (yf E 4 rfl) _ rfl
    have z:=xm (by omega) (by omega) (D G 2) _ (R (U uw).box 2 rfl)
    clear E K hS xm qV n15
    rw [if_pos (by rfl)];unfold Oper.wp;go_simp
    exact ⟨upd f 5 (vq),by simp [upd,g4],bw (U xu) 5 _ (yj rfl) (by decide) (by decide),fun h=>by
     rw [gq (by decide)] at h ⊢
     obtain ⟨s2,Y,h3⟩:=U jL h
     exact ⟨s2,by rw [zk _ _ (by decide)]; exact Y,fun h4=>h3 h4⟩⟩
   | 7,Z =>
    obtain rfl:=yc Z
    have g6:=K.c 6 (yf E 6 rfl) _ rfl
    clear E K hS xm qV n15
    rw [if_pos (by rfl)];unfold Oper.wp;go_simp
    exact ⟨upd f 7 (J G 0),by simp [upd,g6],bw (U xu) 7 _ (yj rfl) (by decide) (by decide),fun h=>by
     rw [gq (by decide)] at h ⊢
     obtain ⟨s2,Y,h3⟩:=U jL h
     exact ⟨s2,by rw [zk _ _ (by decide)]; exact Y,fun h4=>h3 h4⟩⟩
   | 8,Z =>
    obtain rfl:=yc Z
    have g7:=K.c 7 (yf E 7 rfl) _ rfl
    clear E K hS xm qV n15
    rw [if_pos (by rfl)];unfold Oper.wp;go_simp
    exact ⟨upd f 8 (J G 10),by simp [upd,g7],bw (U xu) 8 _ (yj rfl) (by decide) (by decide),fun h=>by
     rw [gq (by decide)] at h ⊢
     obtain ⟨s2,Y,h3⟩:=U jL h
     exact ⟨s2,by rw [zk _ _ (by decide)]; exact Y,fun h4=>h3 h4⟩⟩
   | 9,Z =>
    obtain rfl:=yc Z
    have g8:=K.c 8 (yf E 8 rfl) _ rfl
    have oq:=xm (by omega) (by omega) (D G 10) _ (R (U uw).box 10 rfl)
    have oM:=xm (by omega) (by omega) (D G 11) _ (R (U uw).box 11 rfl)
    have oN:=xm (by omega) (by omega) (D G 12) _ (R (U uw).box 12 rfl)
    have oO:=xm (by omega) (by omega) (D G 13) _ (R (U uw).box 13 rfl)
    have z14:=xm (by omega) (by omega) (D G 14) _ (R (U uw).box 14 rfl)
    have z15:=xm (by omega) (by omega) (D G 15) _ (R (U uw).box 15 rfl)
    clear E K hS xm qV n15
    rw [if_pos (by rfl)];unfold Oper.wp;go_simp
    exact ⟨upd f 9 (.agg (yx g.tk.id g.tk.side g.tk.ticks g.tk.left g.tk.life g.tk.tag).toArray),by simp [upd,g8],bw (U xu) 9 _ (yj rfl) (by decide) (by decide),fun h=>by
     rw [gq (by decide)] at h ⊢
     obtain ⟨s2,Y,h3⟩:=U jL h
     exact ⟨s2,by rw [zk _ _ (by decide)]; exact Y,fun h4=>h3 h4⟩⟩
   | 10,Z =>
    obtain rfl:=yc Z
    have g9:=K.c 9 (yf E 9 rfl) _ rfl
    have aL:=qV (by omega) (by omega)
    have qG:=n15 aL
    have po:=K.b aL
    clear E K hS xm qV n15
    rw [if_pos (by rfl)];unfold Oper.wp;go_simp
    have xy:=gp h2 (Obj.cells g.tk.vs.toArray 78)
    exact ⟨upd f 10 (.slice (some (D h2.heap.size 0)) 1 1),by simp [upd,g9],bw (ra_grow (U xu) aL qG xy) 10 _ (fun u hu=>by cases hu) (by decide) (by decide),fun _=>⟨h2.heap.size,by simp [upd],fun _ j u h=>cellsQ h2 g.tk.vs 78 j u h⟩⟩
   | 11,Z =>
    obtain rfl:=yc Z
    have g5:=K.c 5 (yf E 5 rfl) _ rfl
    obtain ⟨s,qy,kI⟩:=hS (yf E 10 rfl)
    have qG:=n15 xt
    have po:=K.b xt
    have uJ:ORow h2 B vq g.l:=zO (U uw).row po
    have hBY:B ≤ h2.heap.size:=yO (U uw).base po.size
    rw [if_pos (by rfl)]
    refine wp_append_own h2 (.tmp 15) (.tmp 20) 32 rfl B 78 i0 _ 6 56 Tryz.underlying32 vC uK uL uZ rfl (by decide) vq g.l.length (g.l.flatMap Od.vs) g5 uJ (D s 0) 1 1 g.tk.vs qy rfl (kI xt) (one_od g.tk) (by unfold maxLen; omega) (by omega) hBY ?_
    intro v' w' xS um _
    refine ⟨upd f 11 v',rfl,ra_app (U xu) xt qG (by decide) (fun u hu=>by cases hu) ⟨?_,?_⟩,fun h=>?_⟩
    ·show World.ownsRow _ _ _ _ _ (g.l ++ [g.tk]).length _
     rw [yQ,List.flatMap_append]; simpa using xS
    ·exact (cR po yb).trans um
    ·obtain ⟨s2,Y,_⟩:=U jL (by rwa [gq (by decide)] at h)
     exact ⟨s2,by rw [zk _ _ (by decide)]; exact Y,fun h3=>by rw [gqs xt] at h3; cases h3⟩
   | 12,Z =>
    obtain rfl:=yc Z
    have g0:=K.c 0 (yf E 0 rfl) _ rfl
    clear E K hS xm qV n15
    rw [if_pos (by rfl)];unfold Oper.wp;go_simp
    exact ⟨upd f 12 (J G 0),by simp [upd,g0],bw (U xu) 12 _ (yj rfl) (by decide) (by decide),fun h=>by
     rw [gq (by decide)] at h ⊢
     obtain ⟨s2,Y,h3⟩:=U jL h
     exact ⟨s2,by rw [zk _ _ (by decide)]; exact Y,fun h4=>h3 h4⟩⟩
   | 13,Z =>
    obtain rfl:=yc Z
    have ua:=K.c 12 (yf E 12 rfl) _ rfl
    clear E K hS xm qV n15
    rw [if_pos (by rfl)];unfold Oper.wp;go_simp
    exact ⟨upd f 13 (J G 1),by simp [upd,ua],bw (U xu) 13 _ (yj rfl) (by decide) (by decide),fun h=>by
     rw [gq (by decide)] at h ⊢
     obtain ⟨s2,Y,h3⟩:=U jL h
     exact ⟨s2,by rw [zk _ _ (by decide)]; exact Y,fun h4=>h3 h4⟩⟩
   | 14,Z =>
    obtain rfl:=yc Z
    have qP:=K.c 13 (yf E 13 rfl) _ rfl
    clear E K hS xm qV n15
    rw [if_pos (by rfl)];unfold Oper.wp;go_simp
    exact ⟨upd f 14 (J G 2),by simp [upd,qP],bw (U xu) 14 _ (yj rfl) (by decide) (by decide),fun h=>by
     rw [gq (by decide)] at h ⊢
     obtain ⟨s2,Y,h3⟩:=U jL h
     exact ⟨s2,by rw [zk _ _ (by decide)]; exact Y,fun h4=>h3 h4⟩⟩
   | 15,Z =>
    obtain rfl:=yc Z
    have jo:=K.c 14 (yf E 14 rfl) _ rfl
    have aL:x[11]? = some true:=E ⟨11,.data⟩ (by simp) rfl
    obtain ⟨aD,um⟩:=K.a aL xt
    have y2:=um.cell (R (U uw).box 2 rfl) (U uw).nq
    have q2:h2.frozen? (D G 2) = false:=(World.frozen?_of_block (a:=(D G 2)) (um.block G (U uw).lt (U uw).nq)).trans (zd (U uw).box 2 (by show 2 < 16; decide))
    obtain ⟨ga,gc,vI⟩:=cA (zI aD (by simp; omega))
    have vI:f 11 = .slice ga (g.l.length + 1) gc:=by rw [vI]; simp
    clear E K hS xm qV n15 aD um
    rw [if_pos (by rfl)];unfold Oper.wp;go_simp
    refine ⟨f,by simp [jo,vI],?_,fun h=>?_⟩
    ·have:=ra_store (U xu) aL xt (by decide) (fun v u hu=>by cases hu)
     rw [vI] at this
     exact this
    ·obtain ⟨s2,Y,_⟩:=U jL (by rwa [gq (by decide)] at h)
     exact ⟨s2,Y,fun h3=>by rw [gq (by decide),aL] at h3; cases h3⟩
   | i + 16,Z=>simp at Z
 ·rintro x gs cl i op ⟨f,rfl,K⟩ F hx Z xt E
  have xu:=H K
  have nw:i < 5→x[5]? = some false:=fun xI=>by
   rcases bS hx (show 5 < 6 by omega) with hq | hw
   ·exact hq
   ·exfalso
    have h4:=yh F 5 rfl hw 4 rfl
    have h0:=yh F 4 rfl h4 0 rfl
    have h3:=yh F 4 rfl h4 3 rfl
    have N:=yh F 3 rfl h3 1 rfl
    have Y:=yh F 3 rfl h3 2 rfl
    rcases (by omega:i = 0 ∨ i = 1 ∨ i = 2 ∨ i = 3 ∨ i = 4) with rfl | rfl | rfl | rfl | rfl
    ·exact absurd (h0.symm.trans xt) (by simp)
    ·exact absurd (N.symm.trans xt) (by simp)
    ·exact absurd (Y.symm.trans xt) (by simp)
    ·exact absurd (h3.symm.trans xt) (by simp)
    ·exact absurd (h4.symm.trans xt) (by simp)
  have ud:i < 5→yp W1 cl:=fun h=>K.b (nw h)
  have xm:i < 5→∀ (p:Addr) u,W1.cell? p = some u→cl.cell? p = some u:=fun h p u hu=>((ud h).cell (yL W1 _ hu)).trans hu
  match i,Z with
  | 0,Z | 2,Z =>
   obtain rfl:=yc Z
   have CL:=xm (by omega)
   have e0:=CL (D w.heap.size 0) _ (R (U HX) 0 rfl)
   have e1:=CL (D w.heap.size 1) _ (R (U HX) 1 rfl)
   have e2:=CL (D w.heap.size 2) _ (R (U HX) 2 rfl)
   have e3:=CL (D w.heap.size 3) _ (R (U HX) 3 rfl)
   have e4:=CL (D w.heap.size 4) _ (R (U HX) 4 rfl)
   have e5:=CL (D w.heap.size 5) _ (R (U HX) 5 rfl)
   have e6:=CL (D w.heap.size 6) _ (R (U HX) 6 rfl)
   have e7:=CL (D w.heap.size 7) _ (R (U HX) 7 rfl)
   have e8:=CL (D w.heap.size 8) _ (R (U HX) 8 rfl)
   have e9:=CL (D w.heap.size 9) _ (R (U HX) 9 rfl)
   have uR:=CL (D w.heap.size 10) _ (R (U HX) 10 rfl)
   have uA:=CL (D w.heap.size 11) _ (R (U HX) 11 rfl)
   have vV:=CL (D w.heap.size 12) _ (R (U HX) 12 rfl)
   have uT:=CL (D w.heap.size 13) _ (R (U HX) 13 rfl)
   clear E K ud xm nw CL
   rw [if_pos (by rfl)];unfold Oper.wp;go_simp
   exact ⟨upd f _ (.agg (yw xn ck L ct V cq ci O cg id xj qty xk xi).toArray),by simp [upd],zE (U xu) _ _ ⟨yj rfl,⟨fun h=>absurd h (by decide),fun h=>absurd h (by decide)⟩⟩ (by decide)⟩
  | 1,Z =>
   obtain rfl:=yc Z
   have CL:=xm (by omega)
   clear E K ud xm nw CL
   rw [if_pos (by rfl)];unfold Oper.wp;go_simp
   exact ⟨upd f 1 (J G 0),by simp [upd],zE (U xu) 1 _ ⟨yj rfl,⟨fun h=>absurd h (by decide),fun h=>absurd h (by decide)⟩⟩ (by decide)⟩
  | 3,Z =>
   obtain rfl:=yc Z
   have g1:=(K.c 1 (yf E 1 rfl)).1 _ rfl
   have g2:=(K.c 2 (yf E 2 rfl)).1 _ rfl
   have CL:=xm (by omega)
   have hw:=nw (by omega)
   have vy:=H (bL (U HB) (ud (by omega)))
   have HGV:=H (zA (U HG) (ud (by omega)))
   clear E K ud xm nw CL
   rw [if_pos (by rfl)];unfold Oper.wp;go_simp
   refine (U jJ cl (U HGV)).mono ?_
   rintro y w4 ⟨hy,xy⟩
   by_cases hs:dr = 0
   ·rw [outD_ok hs] at hy
    subst hy
    exact ⟨upd f 3 (.agg #[I dk,I di,I dt,I dq,I dp]),by simp [upd,g1,g2,duV],zE (dF (U xu) hw xy) 3 _ ⟨yj rfl,fun _=>hs,fun h=>absurd h (by decide)⟩ (by decide)⟩
   ·rw [outD_no hs] at hy
    subst hy
    have HQ:=H (U ur)
    rw [if_pos hs] at HQ
    have jL:=H hs
    have uk:=H (bL (U vy) xy)
    clear hs xy
    go_wp2_with fail
    exact ⟨rfl,U vJ _ _ (U HQ) (U jL) (U uk)⟩
  | 4,Z =>
   obtain rfl:=yc Z
   have g0:=(K.c 0 (yf E 0 rfl)).1 _ rfl
   have g3:=(K.c 3 (yf E 3 rfl)).1 _ rfl
   have CL:=xm (by omega)
   have hw:=nw (by omega)
   clear E K ud xm nw CL
   rw [if_pos (by rfl)];unfold Oper.wp;go_simp
   refine (U pW cl).mono ?_
   rintro y w4 ⟨rfl,xy⟩
   exact ⟨upd f 4 (.bool jb),by simp [upd,g0,g3],zE (dF (U xu) hw xy) 4 _ ⟨yj rfl,⟨fun h=>absurd h (by decide),fun h=>absurd h (by decide)⟩⟩ (by decide)⟩
  | 5,Z =>
   obtain rfl:=yc Z
   have g4:=(K.c 4 (yf E 4 rfl)).1 _ rfl
   have vy:=H (bL (U HB) (K.b xt))
   have h4:=E ⟨4,.data⟩ (by simp) rfl
   have h3:=yh F 4 rfl h4 3 rfl
   have jj:=(K.c 3 h3).2.1 rfl
   have HQ:=H (U ur)
   rw [if_neg (not_not_intro jj)] at HQ
   clear E K ud xm nw h4 h3 jj
   rw [if_pos (by rfl)];unfold Oper.wp;go_simp
   by_cases X:jb = true
   ·have hd:=co 13 cl
    rw [← X] at hd
    refine hd.mono ?_
    rintro e w4 ⟨rfl,rfl⟩
    exact ⟨upd f 5 (.tuple #[]),by simp [upd,g4],rw_lastv (T:=fun cl=>cl) (U xu) xt ⟨yj rfl,fun h=>absurd h (by decide),fun _=>X⟩⟩
   ·have hj2:jb = false:=by simpa using X
    have hd:=bU 13 cl
    rw [← hj2] at hd
    refine hd.mono ?_
    rintro e w4 ⟨rfl,rfl⟩
    rw [if_neg X] at HQ
    clear X hj2 hd
    go_wp2_with fail
    exact ⟨rfl,U vJ 13 _ (U HQ) (by decide) (U vy)⟩
  | i + 6,Z=>simp at Z
def fnK (k:Int):FuncId:=if k = 1 then 87 else if k = 2 then 88 else if k = 3 then 89 else if k = 4 then 90 else if k = 5 then 91 else if k = 6 then 92 else if k = 7 then 93 else if k = 8 then 94 else if k = 9 then 95 else (0:Nat)
theorem chk_any {G B r:Nat} {vq:Value} {g:Gr} (e:Ev) (w:World) (h:GS G B r w vq g) (hi:GI g) (he:okE e = true) (hg:e.cmd.g.size ≤ maxLen):Calls Tryz.prog (fnK e.kind) #[J G 0,evV e] w fun x w'=>Chk G B r vq g e w x w':=by
 have hk:=ei he
 rcases (show e.kind = 1 ∨ e.kind = 2 ∨ e.kind = 3 ∨ e.kind = 4 ∨ e.kind = 5 ∨ e.kind = 6 ∨ e.kind = 7 ∨ e.kind = 8 ∨ e.kind = 9 by omega) with k | k | k | k | k | k | k | k | k
 ·rw [show fnK e.kind = 87 by simp [fnK,k]]; exact accept_chk e w h hi he k hg
 ·rw [show fnK e.kind = 88 by simp [fnK,k]]; exact refuse_chk e w h hi he k hg
 ·rw [show fnK e.kind = 89 by simp [fnK,k]]; exact trade_chk e w h hi he k hg
 ·rw [show fnK e.kind = 90 by simp [fnK,k]]; exact rest_chk e w h hi he k hg
 ·rw [show fnK e.kind = 91 by simp [fnK,k]]; exact drop_chk e w h hi he k hg
 ·rw [show fnK e.kind = 92 by simp [fnK,k]]; exact cancel_chk e w h hi he k hg
 ·rw [show fnK e.kind = 93 by simp [fnK,k]]; exact reduce_chk e w h hi he k hg
 ·rw [show fnK e.kind = 94 by simp [fnK,k]]; exact endDay_chk e w h hi he k hg
 ·rw [show fnK e.kind = 95 by simp [fnK,k]]; exact expire_chk e w h hi he k hg
theorem lookI_run {W:World} {r:Nat} (k:Int) (hk:1 ≤ k∧k ≤ 9) (Q:W.heap[r]? = some (.map chkM 9)) :
  (Instr.lookup 83 (.map (some r)) (I k) false).run Tryz.prog W = .ok (.func (.func (fnK k)) #[] #[]) W:=by
 have hu:=Tryz.underlying3
 have hc:∀ e,(Instr.checkKey e 10000 3 (I k)).run Tryz.prog W = .ok () W:=fun e=>MapKept.run_checkKey (k:=I k) hu (by simp [MapKept.IsKey]) e 9999
 have hf:∃ i,Instr.findNow (TypeDesc.int .i64) (I k) chkM.toList 0 = some (some (i,.func (.func (fnK k)) #[] #[])):=by
  rcases (show k = 1 ∨ k = 2 ∨ k = 3 ∨ k = 4 ∨ k = 5 ∨ k = 6 ∨ k = 7 ∨ k = 8 ∨ k = 9 by omega) with rfl | rfl | rfl | rfl | rfl | rfl | rfl | rfl | rfl
  all_goals exact ⟨_,rfl⟩
 obtain ⟨i,hf⟩:=hf
 simp [Instr.lookup,run_underlying Tryz.underlying83,MapKept.run_getObj_map Q,hc,MapKept.run_findKey hu hf,Result.andThen]
theorem ta_br (k:Int) (w:World):(Instr.typeAssert (.iface 121 (I k)) 20 121 true).run Tryz.prog w = .ok (.tuple #[I k,.bool true]) w:=by kernel_rfl
theorem ta_brn (w:World):(Instr.typeAssert .nilIface 20 121 true).run Tryz.prog w = .ok (.tuple #[I 0,.bool false]) w:=by kernel_rfl
theorem catchA_panicking (p:Addr) (x:Value) (k:Int) (older:List PanicEntry) (w:World) (hc:w.cell? p = some x) (hz:w.frozen? p = false) :
  CallsD Tryz.prog 73 #[.pointer (some p)] (.panicking ({ v:=brV k,recovered:=false } :: older)) w fun e u' w' =>
   e = .returned (.tuple #[])∧u' = .panicking ({ v:=brV k,recovered:=true } :: older)∧w' = w.setCell p (I k):=by
 refine callsD_of_wpS Tryz.func73 rfl fun c₀ L hu=>?_
 simp only [brV] at hu ⊢
 apply wpS_seq
 apply wpS_region
 simp [wpOpsS,go_sem,recoverD,hu,Tryz.ntmps73,Exit.thenS,ta_br]
 apply wpS_seq
 apply wpS_region
 simp [wpOpsS,go_sem,Exit.thenS]
 refine wpS_cond (t:=true) (by simp [Act.eval,Array.replicate]) ?_
 simp only [if_true]
 apply wpS_region
 simp [wpOpsS,go_sem,hc,hz,bodyPostS,results,Tryz.results73]
theorem catchA_idle (p:Addr) (w:World) :
  CallsD Tryz.prog 73 #[.pointer (some p)] .returning w fun e u' w'=>e = .returned (.tuple #[])∧u' = .returning∧w' = w:=by
 refine callsD_of_wpS Tryz.func73 rfl fun c₀ L hu=>?_
 apply wpS_seq
 apply wpS_region
 simp [wpOpsS,go_sem,recoverD,hu,Tryz.ntmps73,Exit.thenS,ta_brn]
 apply wpS_seq
 apply wpS_region
 simp [wpOpsS,go_sem,Exit.thenS]
 refine wpS_cond (t:=false) (by simp [Act.eval,Array.replicate]) ?_
 simp only [Bool.false_eq_true,if_false]
 refine wpS_of_wp (wp_skip ?_)
 cases c₀
 simp_all [bodyPostS,results,Tryz.results73]
theorem below_set1 {B b:Nat} {w W:World} {u:Value} (h:Below B w W) (Q:B ≤ b):Below B w (W.setCell (D b 0) u) :=
 ⟨h.os,h.tape,h.output,by have:=h.size; simpa [World.setCell] using this,fun k hk=>(yT _ _ _ _ (by show k ≠ b; omega)).trans (h.block k hk)⟩
theorem gs_far {G B r b:Nat} {W:World} {vq:Value} {g:Gr} {u:Value} (h:GS G B r W vq g) (Q:b ≠ G) (ht:∃ xF,W.heap[b]? = some (.cells xF 3 (0,0))):GS G B r (W.setCell (D b 0) u) vq g:=by
 have hr:r ≠ b:=by
  rintro rfl
  obtain ⟨xF,hc⟩:=ht
  rw [h.mp] at hc
  cases hc
 obtain ⟨xF,hc⟩:=h.typ
 exact ⟨zR h.box (Ne.symm Q),bN h.row (cQ h.row ht (by decide)) 0 u,⟨xF,(yT _ _ _ _ (Ne.symm Q)).trans hc⟩,(yT _ _ _ _ hr).trans h.mp,h.hG,h.hr⟩
theorem step_bg {g:Gr} {e:Ev}:br g e = { takG g e with bg:=begG g e }:=by
 unfold takG br
 repeat' split
 all_goals rfl
def AddE (G B r:Nat) (g:Gr) (e:Ev) (w:World) (x:Ending) (w':World):Prop:=x = .returned (I (zG g e))∧Below B w w'∧(zG g e = 0→∃ uH,GS G B r w' uH (br g e))
theorem add_any {G B r:Nat} {vq:Value} {g:Gr} (e:Ev) (w:World) (h:GS G B r w vq g) (hi:GI g) (he:okE e = true) (hg:e.cmd.g.size ≤ maxLen):Calls Tryz.prog 40 #[J G 0,evV e] w fun x w'=>AddE G B r g e w x w':=by
 have hsf:=sfl
 have hmf:∀ (fn:Fn) (first cap:Array Value) (w:World),(Instr.makeFunc fn first cap).run Tryz.prog w = .ok (.func fn first cap) w:=fun _ _ _ _=>rfl
 have hG:=h.lt
 have qe:=h.base
 have HCH:=H (fun W (hW:GS G B r W vq g)=>chk_any e W hW hi he hg)
 have oQ:=H (fun W hW=>lookI_run (W:=W) (r:=r) e.kind (ei he) hW)
 have HFK:Hid (fnK e.kind = 87 ∨ fnK e.kind = 88 ∨ fnK e.kind = 89 ∨ fnK e.kind = 90 ∨ fnK e.kind = 91 ∨ fnK e.kind = 92 ∨ fnK e.kind = 93 ∨ fnK e.kind = 94 ∨ fnK e.kind = 95):=by
  have hk:=ei he
  rcases (show e.kind = 1 ∨ e.kind = 2 ∨ e.kind = 3 ∨ e.kind = 4 ∨ e.kind = 5 ∨ e.kind = 6 ∨ e.kind = 7 ∨ e.kind = 8 ∨ e.kind = 9 by omega) with k | k | k | k | k | k | k | k | k <;> (show _ ∨ _; simp [fnK,k])
 have HKD:Hid (br g e = { takG g e with bg:=if g.bg = 0 then e.kind else g.bg }):=step_bg
 have oP:Hid (∀ x w',x = .returned (I (zG g e))→Below B w w'→(zG g e = 0→∃ uH,GS G B r w' uH (br g e))→AddE G B r g e w x w'):=fun x w' N Y h3=>⟨N,Y,h3⟩
 have HTB:Hid ((takG g e).bg = g.bg):=rfl
 unfold Chk at HCH
 generalize AddE G B r g e w = C at oP ⊢
 generalize zG g e = ru at HCH oP
 generalize br g e = g2 at HKD oP
 generalize takG g e = g1 at HCH HKD HTB
 generalize fnK e.kind = fk at HCH oQ HFK
 obtain ⟨xn,⟨ck,L,ct,V,cq,ci,O,cg⟩,id,xj,qty,xk,xi⟩:=e
 unfold evV at HCH ⊢
 simp only at HCH oQ HKD ⊢
 have hs0:(w.alloc (A (yw xn ck L ct V cq ci O cg id xj qty xk xi).toArray 52)).heap.size = w.heap.size + 1:=by simp
 have xC:=gp w (A (yw xn ck L ct V cq ci O cg id xj qty xk xi).toArray 52)
 have ul:Below (w.heap.size + 1) (w.alloc (A (yw xn ck L ct V cq ci O cg id xj qty xk xi).toArray 52)) ((w.alloc (A (yw xn ck L ct V cq ci O cg id xj qty xk xi).toArray 52)).alloc (A #[I 0] 3)):=(Below.refl _ _).alloc (by rw [hs0]; omega) _
 have HS:Hid (((w.alloc (A (yw xn ck L ct V cq ci O cg id xj qty xk xi).toArray 52)).alloc (A #[I 0] 3)).heap.size = w.heap.size + 1 + 1):=by show _ = _; simp
 have HX:=H (zf (zq w (yw xn ck L ct V cq ci O cg id xj qty xk xi) 52) ul (by omega))
 have HY:Hid (Bx ((w.alloc (A (yw xn ck L ct V cq ci O cg id xj qty xk xi).toArray 52)).alloc (A #[I 0] 3)) (w.heap.size + 1) [I 0]):=by
  have:=zq (w.alloc (A (yw xn ck L ct V cq ci O cg id xj qty xk xi).toArray 52)) [I 0] 3
  rwa [hs0] at this
 have HYT:Hid (∃ xF,((w.alloc (A (yw xn ck L ct V cq ci O cg id xj qty xk xi).toArray 52)).alloc (A #[I 0] 3)).heap[w.heap.size + 1]? = some (.cells xF 3 (0,0))):=by
  have:=heap_alloc_new (w.alloc (A (yw xn ck L ct V cq ci O cg id xj qty xk xi).toArray 52)) (A #[I 0] 3)
  rw [hs0] at this
  exact ⟨_,this⟩
 have xX:Hid (yp w ((w.alloc (A (yw xn ck L ct V cq ci O cg id xj qty xk xi).toArray 52)).alloc (A #[I 0] 3))):=xC.trans (ul.mono (by omega))
 have HB:Hid (Below B w ((w.alloc (A (yw xn ck L ct V cq ci O cg id xj qty xk xi).toArray 52)).alloc (A #[I 0] 3))):=(U xX).mono qe
 have HG:=H (zA h (U xX))
 have HGW:=H h
 clear h xC hi ul hs0 he hg xX
 go_enter_defers Tryz.func40,Tryz.ntmps40
 go_wp2_with fail
 generalize ((w.alloc (A (yw xn ck L ct V cq ci O cg id xj qty xk xi).toArray 52)).alloc (A #[I 0] 3)) = hj at HS HX HY HYT HG HB ⊢
 have xV:Hid (Bx hj.drew w.heap.size (yw xn ck L ct V cq ci O cg id xj qty xk xi)):=zK (U HX)
 have HYD:Hid (Bx hj.drew (w.heap.size + 1) [I 0]):=zK (U HY)
 have qw:Hid (GS G B r hj.drew vq g):=zA (U HG) ⟨rfl,rfl,rfl,Nat.le_refl _,fun _ _=>rfl⟩
 have vu:Hid (Below B w hj.drew):=⟨(U HB).os,(U HB).tape,(U HB).output,(U HB).size,(U HB).block⟩
 have hSD:w.heap.size + 1 < hj.drew.heap.size:=by show w.heap.size + 1 < hj.heap.size; have:=U HS; omega
 clear HX HY HG HB HS
 obtain ⟨e0,e1,e2,e3,e4,e5,e6,e7,e8,e9,uR,uA,vV,uT⟩:=yz (U xV)
 have c0:hj.drew.cell? (D G 0) = some (.map (some r)):=R (U qw).box 0 rfl
 have vf:=U oQ hj.drew (U qw).mp
 have kL:vq.ownBlock ≠ some (w.heap.size + 1):=fun e=>by have:=((U HGW).row.lt _ e).2; omega
 have HNR2:vq.ownBlock ≠ some w.heap.size:=fun e=>by have:=((U HGW).row.lt _ e).2; omega
 refine zF 9 (by kernel_rfl) (by kernel_rfl) ?_
 simp only [yU,List.take_zero,yV,List.drop_zero]
 repeat still_step
 refine wpStill_nil ?_
 clear vf c0 e0 e1 e2 e3 e4 e5 e6 e7 e8 e9 uR uA vV uT
 go_wp2_with fail
 rcases U HFK with rfl | rfl | rfl | rfl | rfl | rfl | rfl | rfl | rfl
 all_goals
  clear HFK oQ
  go_wp2_with fail
  refine (U HCH hj.drew (U qw)).mono ?_
  clear HCH
  rintro x w2 ⟨hx,aA,ug⟩
  have xw:=H ((U vu).trans (kp_to aA (U qw)))
  have uJ:=(U qw).row
  have hY2:Bx w2 (w.heap.size + 1) [I 0]:=bx (U HYD) (aA.block (w.heap.size + 1) hSD (by omega) (fun e=>kL e.symm))
  have jF:Bx w2 w.heap.size (yw xn ck L ct V cq ci O cg id xj qty xk xi):=bx (U xV) (aA.block w.heap.size (by omega) (by omega) (fun e=>HNR2 e.symm))
  have HY2:=H hY2
  have HYT2:Hid (∃ xF,w2.heap[w.heap.size + 1]? = some (.cells xF 3 (0,0))):=by
   obtain ⟨xF,hc⟩:=U HYT
   exact ⟨xF,(aA.block (w.heap.size + 1) hSD (by omega) (fun e=>kL e.symm)).trans hc⟩
  have xJ:=H jF
  have qn:=H ug
  clear aA ug uJ jF hY2
  by_cases hr:ru = 0
  case neg =>
   rw [outR_no hr] at hx
   subst hx
   have z0:=R (U HY2) 0 rfl
   have f0:=zd (U HY2) 0 (by decide)
   have HR:=H hr
   clear hr
   go_wp2_with fail
   refine leaves_cons (f:=73) (args:=#[J (w.heap.size + 1) 0]) (by simp) (by simp [go_sem]) ?_
   refine (catchA_panicking (D (w.heap.size + 1) 0) (I 0) ru [] _ z0 f0).mono ?_
   rintro e u' w'' ⟨rfl,rfl,rfl⟩
   simp [Leaves,settle,results,Tryz.results40,go_sem,yN _ _ (I ru) z0]
   exact U oP _ _ rfl (below_set1 (U xw) (by omega)) (fun h=>absurd h (U HR))
  rw [outR_ok hr] at hx
  subst hx
  obtain ⟨uH,jU⟩:=U qn hr
  have vn:=H jU
  have HR:=H hr
  have c3:w2.cell? (D G 3) = some (I g.bg):=by
   have:=R (U vn).box 3 rfl
   rw [← U HTB]
   exact this
  have q3:=zd (U vn).box 3 (by show 3 < 16; decide)
  have x0:=R (U xJ) 0 rfl
  by_cases h0:g.bg = 0
  ·have b0:(g.bg == 0) = true:=by simpa using h0
   have pk:=H (U HKD)
   rw [if_pos h0] at pk
   have HY3:Hid (Bx (w2.setCell (D G 3) (I xn)) (w.heap.size + 1) [I 0]):=zR (U HY2) (by omega)
   have uw:Hid (GS G B r (w2.setCell (D G 3) (I xn)) uH { g1 with bg:=xn }):=gs_set (U vn) 3 _ (by decide) rfl rfl
   have HYT4:Hid (∃ xF,(w2.setCell (D G 3) (I xn)).heap[w.heap.size + 1]? = some (.cells xF 3 (0,0))):=by
    obtain ⟨xF,hc⟩:=U HYT2
    exact ⟨xF,(yT _ _ _ _ (by show w.heap.size + 1 ≠ G; omega)).trans hc⟩
   have xH:=H (below_setG (U xw) yb (U vn) 3 (I xn))
   have z0:=R (U HY3) 0 rfl
   have f0:=zd (U HY3) 0 (by decide)
   clear h0 hr
   go_wp2_with fail
   refine leaves_cons (f:=73) (args:=#[J (w.heap.size + 1) 0]) (by simp) (by simp [go_sem]) ?_
   refine (catchA_idle (D (w.heap.size + 1) 0) _).mono ?_
   rintro e u' w'' ⟨rfl,rfl,rfl⟩
   simp [Leaves,settle,results,Tryz.results40,go_sem,yN _ _ (I 0) z0]
   exact U oP _ _ (by rw [U HR]) (below_set1 (U xH) (by omega)) (fun _=>⟨uH,by rw [U pk]; exact gs_far (U uw) (by omega) (U HYT4)⟩)
  ·have b0:(g.bg == 0) = false:=by simpa using h0
   have pk:Hid (g2 = g1):=by
    show _ = _
    rw [U HKD,if_neg h0,← U HTB]
   have z0:=R (U HY2) 0 rfl
   have f0:=zd (U HY2) 0 (by decide)
   clear h0 hr
   go_wp2_with fail
   refine leaves_cons (f:=73) (args:=#[J (w.heap.size + 1) 0]) (by simp) (by simp [go_sem]) ?_
   refine (catchA_idle (D (w.heap.size + 1) 0) _).mono ?_
   rintro e u' w'' ⟨rfl,rfl,rfl⟩
   simp [Leaves,settle,results,Tryz.results40,go_sem,yN _ _ (I 0) z0]
   exact U oP _ _ (by rw [U HR]) (below_set1 (U xw) (by omega)) (fun _=>⟨uH,by rw [U pk]; exact gs_far (U vn) (by omega) (U HYT2)⟩)
structure MUp (r:Nat) (w w':World):Prop where
 os:w'.os = w.os
 tape:w'.tape = w.tape
 output:w'.output = w.output
 size:w'.heap.size = w.heap.size
 block:∀ k,k ≠ r→w'.heap[k]? = w.heap[k]?
theorem dN {r:Nat} {w w1 w2:World} (N:MUp r w w1) (Y:MUp r w1 w2):MUp r w w2 :=
 ⟨Y.os.trans N.os,Y.tape.trans N.tape,Y.output.trans N.output,Y.size.trans N.size,fun k hk=>(Y.block k hk).trans (N.block k hk)⟩
theorem stepI {W:World} {r clk:Nat} {es:Array MapEntry} (k:Int) (f:FuncId) (Q:W.heap[r]? = some (.map es clk)) (hf:Instr.findNow (TypeDesc.int .i64) (I k) es.toList 0 = some none) :
  ∃ W1,(Instr.mapUpdate 83 (.map (some r)) (I k) (.func (.func f) #[] #[])).run Tryz.prog W = .ok () W1∧W1.heap[r]? = some (.map (es.push (mI k f clk)) (clk + 1))∧MUp r W W1:=by
 have hk:=Tryz.underlying3
 have hc:(Instr.checkKey false 10000 3 (I k)).run Tryz.prog W = .ok () W:=MapKept.run_checkKey (k:=I k) hk (by simp [MapKept.IsKey]) false 9999
 refine ⟨{ W with heap:=W.heap.setIfInBounds r (.map (es.push (mI k f clk)) (clk + 1)) },?_,(MapKept.heap_set Q).1,⟨rfl,rfl,rfl,by simp,fun j X=>?_⟩⟩
 ·simp [Instr.mapUpdate,run_underlying Tryz.underlying83,MapKept.run_getObj_map Q,hc,MapKept.run_findKey hk hf,MapKept.run_setObj_map _ Q,Result.andThen,mI]
 ·show (W.heap.setIfInBounds r _)[j]? = _
  exact Array.getElem?_setIfInBounds_ne (Ne.symm X)
theorem gs_new {w W:World} {r:Nat} {next:Int} {vq:Value} {l:List Od} (Q:yp w W) (Z:ORow W w.heap.size vq l) (hm:W.heap[r]? = some (.map chkM 9)) (hr:w.heap.size ≤ r) :
  GS W.heap.size w.heap.size r (W.alloc (A (gsV r vq (gr0 next l)).toArray 87)) vq (gr0 next l)∧yp w (W.alloc (A (gsV r vq (gr0 next l)).toArray 87)):=by
 have qD:=gp W (A (gsV r vq (gr0 next l)).toArray 87)
 exact ⟨⟨zq W _ _,zO Z qD,⟨_,heap_alloc_new W _⟩,(qD.block r (yZ.1 hm).1).trans hm,Q.size,hr⟩,Q.trans (qD.mono Q.size)⟩
theorem beginGroup_any (next:Int) (v:Value) (l:List Od) (w:World) (hr:RdR Od.vs 6 w v l) (hs:SlOk v) (hn:l.length ≤ 1000) :
  Calls Tryz.prog 58 #[.agg #[I next,v]] w fun e w'=>∃ G r vq,e = .returned (J G 0)∧GS G w.heap.size r w' vq (gr0 next l)∧yp w w':=by
 have hmm:=@run_makeMap Tryz.prog
 have hmp:=@run_makeMap_plain Tryz.prog
 have xL:(w.alloc (A #[I next,v] 34)).heap.size = w.heap.size + 1:=by simp
 have h0:((w.alloc (A #[I next,v] 34)).alloc (Obj.map #[] 0)).heap[w.heap.size + 1]? = some (.map #[] 0):=by
  have:=(MapKept.heap_alloc (w.alloc (A #[I next,v] 34)) (Obj.map #[] 0)).1
  rwa [xL] at this
 have xC:yp w ((w.alloc (A #[I next,v] 34)).alloc (Obj.map #[] 0)):=(gp _ _).alloc (by rw [xL]; omega) _
 have hx0:Bx ((w.alloc (A #[I next,v] 34)).alloc (Obj.map #[] 0)) w.heap.size [I next,v]:=zf (zq w [I next,v] 34) ((Below.refl (w.heap.size + 1) _).alloc (by rw [xL]; omega) _) (by omega)
 obtain ⟨W1,u1,o1,m1⟩:=stepI 1 87 h0 rfl
 obtain ⟨W2,u2,o2,m2⟩:=stepI 2 88 o1 rfl
 obtain ⟨W3,u3,o3,m3⟩:=stepI 3 89 o2 rfl
 obtain ⟨W4,u4,o4,m4⟩:=stepI 4 90 o3 rfl
 obtain ⟨W5,u5,o5,m5⟩:=stepI 5 91 o4 rfl
 obtain ⟨W6,u6,o6,m6⟩:=stepI 6 92 o5 rfl
 obtain ⟨W7,u7,o7,m7⟩:=stepI 7 93 o6 rfl
 obtain ⟨W8,u8,o8,m8⟩:=stepI 8 94 o7 rfl
 obtain ⟨W9,u9,o9,m9⟩:=stepI 9 95 o8 rfl
 have hm:=dN (dN (dN (dN (dN (dN (dN (dN m1 m2) m3) m4) m5) m6) m7) m8) m9
 have HO9:Hid (W9.heap[w.heap.size + 1]? = some (.map chkM 9)):=o9
 have oX:yp w W9:=⟨hm.os.trans xC.os,hm.tape.trans xC.tape,hm.output.trans xC.output,by rw [hm.size]; exact xC.size,fun k hk=>(hm.block k (by omega)).trans (xC.block k hk)⟩
 have HX9:Hid (Bx W9 w.heap.size [I next,v]):=bx hx0 (hm.block w.heap.size (by omega))
 have pT:=H oX
 have HR9:=H (zi hr oX yb)
 have kE:=H hs
 clear h0 xC hx0 o1 o2 o3 o4 o5 o6 o7 o8 o9 m1 m2 m3 m4 m5 m6 m7 m8 m9 hm oX hr hs xL
 go_enter Tryz.func58,Tryz.ntmps58
 have x0:=R (U HX9) 0 rfl
 have x1:=R (U HX9) 1 rfl
 go_wp2_with fail
 refine (copyBook_any next v l W9 (U HR9) (U kE) hn).mono ?_
 rintro e w3 ⟨vq,rfl,bh,xQ⟩
 have HGN:=H (gs_new (next:=next) (gu (U pT) xQ) (zU bh (U pT).size) ((xQ.block (w.heap.size + 1) (yZ.1 (U HO9)).1).trans (U HO9)) (Nat.le_succ _))
 clear bh xQ u1 u2 u3 u4 u5 u6 u7 u8 u9 x0 x1
 unfold gsV gr0 zCm zOd at HGN
 go_wp2_with fail
 go_ret
 exact ⟨_,_,vq,rfl,(U HGN).1,(U HGN).2⟩
end Go.Proofs.YtnphbkgfjanmgaaGreatDoor
