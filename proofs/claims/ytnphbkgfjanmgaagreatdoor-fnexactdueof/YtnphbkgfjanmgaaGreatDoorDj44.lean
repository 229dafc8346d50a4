/-
  What is left of an order put into the book in a group, by the program: proved by walking the method.
-/
import Derived.Test.YtnphbkgfjanmgaaGreatDoorDj37
import Derived.Test.YtnphbkgfjanmgaaGreatDoorDj41
import Derived.Test.YtnphbkgfjanmgaaGreatDoorDj42
import Derived.Test.YtnphbkgfjanmgaaGreatDoorDj43
import Derived.MapKept
set_option linter.unusedVariables false
set_option maxHeartbeats 6400000
set_option maxRecDepth 100000
namespace Go.Proofs.YtnphbkgfjanmgaaGreatDoor
open Go.RowKit
def RRA (B G:Nat) (base:World) (cl:(Nat→Value)→Act) (vs:List (Option Value)) (vq:Value) (g:Gr) (x:List Bool) (a:Act) (W:World):Prop :=
 ∃ f,a = cl f∧RA (fun j v=>∀ u,vs[j]? = some (some u)→v = u) 11 15 (Q G 2) (App B base vq (g.l ++ [g.tk])) base x f W∧(x[10]? = some true→∃ s,f 10 = .slice (some (Q s 0)) 1 1∧(x[11]? = some false→∀ j u,g.tk.vs[j]? = some u→W.cell? (Addr.add (Q s 0) j) = some u))
theorem rest_chk {G B r:Nat} {vq:Value} {g:Gr} (e:Ev) (w:World) (h:GS G B r w vq g) (hi:GI g) (he:okE e = true) (hk:e.kind = 4) (hg:e.cmd.g.size ≤ maxLen):Calls Tryz.prog 90 #[J G 0,evV e] w fun x w'=>Chk G B r vq g e w x w':=by
 have hsf:=sfl
 have hG:=h.lt
 have vW:=h.base
 have uo:Hid (zF g e = if dueR g e ≠ 0 then dueR g e else if aS e (dueG g) = true then 0 else 13):=by show _ = _; simp [zF,hk]
 have uT:Hid (takG g e = ⟨g.nx,g.l ++ [g.tk],g.bg,g.cm,{ g.tk with left:=0 }⟩):=by show _ = _; rw [takG,step4 hk]
 have vH:Hid (∀ k w',zF g e = k→k ≠ 0→Kp G vq w w'→Chk G B r vq g e w (.panicked (brk k)) w'):=fun k w' N Y h3=>chk_no N Y h3
 have uw:Hid (∀ w' uE,zF g e = 0→Kp G vq w w'→GS G B r w' uE (takG g e)→Chk G B r vq g e w (.returned (.tuple #[])) w'):=fun w' uE N Y h3=>chk_ok N Y h3
 have jx:Hid (∀ W,GS G B r W vq g→Calls Tryz.prog 137 #[J G 0,evV e] W fun x w'=>x = outD (dueR g e) (dueG g)∧yp W w'):=fun W hW=>eE e W hW hi
 have pE:Hid (∀ W,Calls Tryz.prog 139 #[evV e,duV (dueG g)] W fun r w'=>r = .returned (.bool (aS e (dueG g)))∧yp W w'):=fun W=>isJust_any e (dueG g) W
 have HR45:Hid (zF g e = 0→g.bg = 1∧g.tk.left ≠ 0):=rule45 (by omega)
 have HI:=H hi
 generalize Chk G B r vq g e w = C at vH uw ⊢
 generalize zF g e = ru at vH uw uo HR45
 generalize takG g e = g' at uT uw
 generalize dueR g e = dr at jx uo
 generalize aS e (dueG g) = jb at pE uo
 generalize dueG g = d at jx pE
 obtain ⟨xn,⟨ck,A,ct,F,cq,ci,O,cg⟩,id,xj,qty,xk,xi⟩:=e
 simp only at hk hg
 try simp only at uo uT
 obtain ⟨dk,di,dt,dq,dp⟩:=d
 unfold evV at jx pE
 unfold duV at pE
 simp only at jx pE
 unfold evV
 simp only
 obtain ⟨xz,HX⟩:=fE w (yw xn ck A ct F cq ci O cg id xj qty xk xi) 52
 have HS:Hid ((w.alloc (L (yw xn ck A ct F cq ci O cg id xj qty xk xi).toArray 52)).heap.size = w.heap.size + 1):=by show _ = _; simp
 have HG:=H (zy h xz)
 have HB:Hid (Kp G vq w (w.alloc (L (yw xn ck A ct F cq ci O cg id xj qty xk xi).toArray 52))):=kp_of xz
 clear h xz hi he hk hg
 go_enter Tryz.func90,Tryz.ntmps90
 refine fD fun zb HK=>?_
 go_wp2_with fail
 refine U HK _ _ ?_
 clear HK
 generalize (w.alloc (L (yw xn ck A ct F cq ci O cg id xj qty xk xi).toArray 52)) = W1 at HS HX HG HB ⊢
 go_wp2_with fail
 refine zm (RWA (fun f=>{ tmps:=#[J G 0,.agg (yw xn ck A ct F cq ci O cg id xj qty xk xi).toArray,M,J w.heap.size 0,f 0,f 1,f 2,f 3,f 4,f 5,M,M,M,M,M,M,M,M,M,M,M,M,M,M,M,M,M,M,M],defers:=[] }) (CVw [some (.agg (yw xn ck A ct F cq ci O cg id xj qty xk xi).toArray),some (J G 0),some (.agg (yw xn ck A ct F cq ci O cg id xj qty xk xi).toArray),some (.agg #[I dk,I di,I dt,I dq,I dp]),some (.bool jb),some (.tuple #[])] (fun j=>(j = 3→dr = 0)∧(j = 5→jb = true))) 5 (fun hj=>hj) W1) (by kernel_rfl) ?_ ?_ ?_
 ·exact ⟨fun _=>M,rfl,⟨fun j V=>by rw [yJ] at V; split at V <;> simp at V,fun _=>⟨rfl,rfl,rfl,Nat.le_refl _,fun _ _=>rfl⟩,fun V=>by rw [yJ] at V; split at V <;> simp at V⟩⟩
 ·rintro x cs hj ⟨f,rfl,R⟩ hx xO
  have xq:=zN xO hx (acyc _ (by kernel_rfl))
  obtain ⟨V0,xz,eV⟩:=R.m (xq 5 (by simp))
  have qZ:=(R.c 3 (xq 3 (by simp))).2.1 rfl
  have hjb:=(R.c 5 (xq 5 (by simp))).2.2 rfl
  have HQ:=H (U uo)
  rw [if_neg (not_not_intro qZ),if_pos hjb] at HQ
  subst eV
  have ut:=H (zy (U HG) xz)
  have xH:=H (ba (U HB) xz)
  clear R xq xO hx xz qZ hjb uo jx pE HX HS HG HB
  dsimp only
  generalize f 0 = v0,f 1 = v1,f 2 = v2,f 3 = v3,f 4 = v4,f 5 = v5
  obtain ⟨i0,vA,uH,uI,uW⟩:=info_parts Tryz.infoOrder
  have jh:g.l.length ≤ 20:=((U HI).good (.inr (U HR45 (U HQ)).2)).len
  go_wp2_with fail
  refine zm (RRA B G hj (fun f=>{ tmps:=#[J G 0,.agg (yw xn ck A ct F cq ci O cg id xj qty xk xi).toArray,M,J w.heap.size 0,v0,v1,v2,v3,v4,v5,f 0,f 1,f 2,f 3,f 4,f 5,f 6,f 7,f 8,f 9,f 10,f 11,f 12,f 13,f 14,M,M,M,M],defers:=[] }) [some (J G 0),some (J G 0),some (J G 0),some (J G 1),some (J G 2),some (vq),some (J G 0),some (J G 0),some (J G 10),some (.agg (yx g.tk.id g.tk.side g.tk.ticks g.tk.left g.tk.life g.tk.tag).toArray),none,none,some (J G 0),some (J G 1),some (J G 2),none] vq g) (by kernel_rfl) ?_ ?_ ?_
  ·exact ⟨fun _=>M,rfl,⟨fun j V=>by rw [yJ] at V; split at V <;> simp at V,fun _=>⟨rfl,rfl,rfl,Nat.le_refl _,fun _ _=>rfl⟩,fun V=>by rw [yJ] at V; split at V <;> simp at V,fun V=>by rw [yJ] at V; split at V <;> simp at V⟩,fun V=>by rw [yJ] at V; split at V <;> simp at V⟩
  ·rintro x cs h2 ⟨f,rfl,R,hS⟩ hx xO
   have xq:=zN xO hx (acyc _ (by kernel_rfl))
   obtain ⟨W0,⟨Z,hg⟩,eY⟩:=R.z (xq 15 (by simp))
   have ht:TookAt G 1 vq.ownBlock hj h2:=by rw [eY]; exact dh (cO hg (U ut).lt (U ut).nq) (took_set (o:=1) _ _)
   have hcG:W0.cell? (Q G 2) = some vq:=hg.cell (K (U ut).box 2 rfl) (U ut).nq
   have hc:h2.cell? (Q G 2) = some (f 11):=by rw [eY]; exact yN _ _ _ hcG
   have kA:∃ xF,W0.heap[G]? = some (.cells xF 87 (0,0)):=by
    obtain ⟨xF,N⟩:=(U ut).typ
    exact ⟨xF,(hg.block G (U ut).lt (U ut).nq).trans N⟩
   have kE:ORow h2 B (f 11) (g.l ++ [g.tk]):=by rw [eY]; exact bd Z (bU Z kA (by decide)) 2 _
   have uC:=H (gs_took (U ut) hc kE ht)
   have uj:=H (kp_took (U xH) ht)
   clear R hS xq xO hx Z hg eY ht hcG hc kA kE
   dsimp only
   generalize f 0 = u0,f 1 = u1,f 2 = u2,f 3 = u3,f 4 = u4,f 5 = u5,f 6 = u6,f 7 = u7,f 8 = u8,f 9 = u9,f 10 = u10
   generalize f 11 = u11 at *
   generalize f 12 = u12,f 13 = u13,f 14 = u14
   have c13:=K (U uC).box 13 rfl
   have q13:=zd (U uC).box 13 (by show 13 < 16; decide)
   go_wp2_with fail
   go_end0
   refine U uw _ u11 (U HQ) (kp_set (U uj) 13 _) ?_
   rw [U uT]
   exact gs_set (U uC) 13 _ (by decide) rfl rfl
  ·rintro x cs h2 i op ⟨f,rfl,R,hS⟩ X hx Z xr D
   have xu:=H R
   have jB:=H hS
   have qM:i < 12→i ≠ 0→x[11]? = some false:=fun xJ h0=>by
    rcases br hx (show 11 < 16 by omega) with hq | uR
    ·exact hq
    ·exfalso
     have h5:=yh X 11 rfl uR 5 rfl
     have uV:=yh X 11 rfl uR 10 rfl
     have h4:=yh X 5 rfl h5 4 rfl
     have h3:=yh X 4 rfl h4 3 rfl
     have Y:=yh X 3 rfl h3 2 rfl
     have N:=yh X 2 rfl Y 1 rfl
     have h9:=yh X 10 rfl uV 9 rfl
     have h8:=yh X 9 rfl h9 8 rfl
     have h7:=yh X 8 rfl h8 7 rfl
     have h6:=yh X 7 rfl h7 6 rfl
     rcases (by omega:i = 1 ∨ i = 2 ∨ i = 3 ∨ i = 4 ∨ i = 5 ∨ i = 6 ∨ i = 7 ∨ i = 8 ∨ i = 9 ∨ i = 10 ∨ i = 11) with rfl | rfl | rfl | rfl | rfl | rfl | rfl | rfl | rfl | rfl | rfl
     ·exact absurd (N.symm.trans xr) (by simp)
     ·exact absurd (Y.symm.trans xr) (by simp)
     ·exact absurd (h3.symm.trans xr) (by simp)
     ·exact absurd (h4.symm.trans xr) (by simp)
     ·exact absurd (h5.symm.trans xr) (by simp)
     ·exact absurd (h6.symm.trans xr) (by simp)
     ·exact absurd (h7.symm.trans xr) (by simp)
     ·exact absurd (h8.symm.trans xr) (by simp)
     ·exact absurd (h9.symm.trans xr) (by simp)
     ·exact absurd (uV.symm.trans xr) (by simp)
     ·exact absurd (uR.symm.trans xr) (by simp)
   have n15:x[11]? = some false→x[15]? = some false:=fun uR=>by
    rcases br hx (show 15 < 16 by omega) with hq | vR
    ·exact hq
    ·exact absurd ((yh X 15 rfl vR 11 rfl).symm.trans uR) (by simp)
   have xm:i < 12→i ≠ 0→∀ (p:Addr) u,hj.cell? p = some u→h2.cell? p = some u:=fun h h0 p u hu=>((R.b (qM h h0)).cell (yL hj _ hu)).trans hu
   match i,Z with
   | 0,Z | 1,Z | 6,Z =>
    obtain rfl:=yc Z
    clear D R hS xm qM n15
    rw [if_pos (by rfl)];unfold Oper.wp;go_simp
    exact ⟨upd f _ (J G 0),by simp [upd],zX (U xu) _ _ (yj rfl) (by decide) (by decide),fun h=>by
     rw [gq (by decide)] at h ⊢
     obtain ⟨s2,Y,h3⟩:=U jB h
     exact ⟨s2,by rw [zk _ _ (by decide)]; exact Y,fun h4=>h3 h4⟩⟩
   | 2,Z =>
    obtain rfl:=yc Z
    have g1:=R.c 1 (yf D 1 rfl) _ rfl
    clear D R hS xm qM n15
    rw [if_pos (by rfl)];unfold Oper.wp;go_simp
    exact ⟨upd f 2 (J G 0),by simp [upd,g1],zX (U xu) 2 _ (yj rfl) (by decide) (by decide),fun h=>by
     rw [gq (by decide)] at h ⊢
     obtain ⟨s2,Y,h3⟩:=U jB h
     exact ⟨s2,by rw [zk _ _ (by decide)]; exact Y,fun h4=>h3 h4⟩⟩
   | 3,Z =>
    obtain rfl:=yc Z
    have g2:=R.c 2 (yf D 2 rfl) _ rfl
    clear D R hS xm qM n15
    rw [if_pos (by rfl)];unfold Oper.wp;go_simp
    exact ⟨upd f 3 (J G 1),by simp [upd,g2],zX (U xu) 3 _ (yj rfl) (by decide) (by decide),fun h=>by
     rw [gq (by decide)] at h ⊢
     obtain ⟨s2,Y,h3⟩:=U jB h
     exact ⟨s2,by rw [zk _ _ (by decide)]; exact Y,fun h4=>h3 h4⟩⟩
   | 4,Z =>
    obtain rfl:=yc Z
    have g3:=R.c 3 (yf D 3 rfl) _ rfl
    clear D R hS xm qM n15
    rw [if_pos (by rfl)];unfold Oper.wp;go_simp
    exact ⟨upd f 4 (J G 2),by simp [upd,g3],zX (U xu) 4 _ (yj rfl) (by decide) (by decide),fun h=>by
     rw [gq (by decide)] at h ⊢
     obtain ⟨s2,Y,h3⟩:=U jB h
     exact ⟨s2,by rw [zk _ _ (by decide)]; exact Y,fun h4=>h3 h4⟩⟩
   | 5,Z =>
    obtain rfl:=yc Z
    have g4:=R.c 4 (yf D 4 rfl) _ rfl
    have z:=xm (by omega) (by omega) (Q G 2) _ (K (U ut).box 2 rfl)
    clear D R hS xm qM n15
    rw [if_pos (by rfl)];unfold Oper.wp;go_simp
    exact ⟨upd f 5 (vq),by simp [upd,g4],zX (U xu) 5 _ (yj rfl) (by decide) (by decide),fun h=>by
     rw [gq (by decide)] at h ⊢
     obtain ⟨s2,Y,h3⟩:=U jB h
     exact ⟨s2,by rw [zk _ _ (by decide)]; exact Y,fun h4=>h3 h4⟩⟩
   | 7,Z =>
    obtain rfl:=yc Z
    have g6:=R.c 6 (yf D 6 rfl) _ rfl
    clear D R hS xm qM n15
    rw [if_pos (by rfl)];unfold Oper.wp;go_simp
    exact ⟨upd f 7 (J G 0),by simp [upd,g6],zX (U xu) 7 _ (yj rfl) (by decide) (by decide),fun h=>by
     rw [gq (by decide)] at h ⊢
     obtain ⟨s2,Y,h3⟩:=U jB h
     exact ⟨s2,by rw [zk _ _ (by decide)]; exact Y,fun h4=>h3 h4⟩⟩
   | 8,Z =>
    obtain rfl:=yc Z
    have g7:=R.c 7 (yf D 7 rfl) _ rfl
    clear D R hS xm qM n15
    rw [if_pos (by rfl)];unfold Oper.wp;go_simp
    exact ⟨upd f 8 (J G 10),by simp [upd,g7],zX (U xu) 8 _ (yj rfl) (by decide) (by decide),fun h=>by
     rw [gq (by decide)] at h ⊢
     obtain ⟨s2,Y,h3⟩:=U jB h
     exact ⟨s2,by rw [zk _ _ (by decide)]; exact Y,fun h4=>h3 h4⟩⟩
   | 9,Z =>
    obtain rfl:=yc Z
    have g8:=R.c 8 (yf D 8 rfl) _ rfl
    have kU:=xm (by omega) (by omega) (Q G 10) _ (K (U ut).box 10 rfl)
    have ow:=xm (by omega) (by omega) (Q G 11) _ (K (U ut).box 11 rfl)
    have ox:=xm (by omega) (by omega) (Q G 12) _ (K (U ut).box 12 rfl)
    have oy:=xm (by omega) (by omega) (Q G 13) _ (K (U ut).box 13 rfl)
    have z14:=xm (by omega) (by omega) (Q G 14) _ (K (U ut).box 14 rfl)
    have z15:=xm (by omega) (by omega) (Q G 15) _ (K (U ut).box 15 rfl)
    clear D R hS xm qM n15
    rw [if_pos (by rfl)];unfold Oper.wp;go_simp
    exact ⟨upd f 9 (.agg (yx g.tk.id g.tk.side g.tk.ticks g.tk.left g.tk.life g.tk.tag).toArray),by simp [upd,g8],zX (U xu) 9 _ (yj rfl) (by decide) (by decide),fun h=>by
     rw [gq (by decide)] at h ⊢
     obtain ⟨s2,Y,h3⟩:=U jB h
     exact ⟨s2,by rw [zk _ _ (by decide)]; exact Y,fun h4=>h3 h4⟩⟩
   | 10,Z =>
    obtain rfl:=yc Z
    have g9:=R.c 9 (yf D 9 rfl) _ rfl
    have aj:=qM (by omega) (by omega)
    have qz:=n15 aj
    have oT:=R.b aj
    clear D R hS xm qM n15
    rw [if_pos (by rfl)];unfold Oper.wp;go_simp
    have xy:=fw h2 (Obj.cells g.tk.vs.toArray 78)
    exact ⟨upd f 10 (.slice (some (Q h2.heap.size 0)) 1 1),by simp [upd,g9],zX (ra_grow (U xu) aj qz xy) 10 _ (fun u hu=>by cases hu) (by decide) (by decide),fun _=>⟨h2.heap.size,by simp [upd],fun _ j u h=>cellsQ h2 g.tk.vs 78 j u h⟩⟩
   | 11,Z =>
    obtain rfl:=yc Z
    have g5:=R.c 5 (yf D 5 rfl) _ rfl
    obtain ⟨s,qn,kp⟩:=hS (yf D 10 rfl)
    have qz:=n15 xr
    have oT:=R.b xr
    have uG:ORow h2 B vq g.l:=zM (U ut).row oT
    have hBY:B ≤ h2.heap.size:=yO (U ut).base oT.size
    rw [if_pos (by rfl)]
    refine wp_append_own h2 (.tmp 15) (.tmp 20) 32 rfl B 78 i0 _ 6 56 Tryz.underlying32 vA uH uI uW rfl (by decide) vq g.l.length (g.l.flatMap Od.vs) g5 uG (Q s 0) 1 1 g.tk.vs qn rfl (kp xr) (one_od g.tk) (by unfold maxLen; omega) (by omega) hBY ?_
    intro v' w' xS vG _
    refine ⟨upd f 11 v',rfl,ra_app (U xu) xr qz (by decide) (fun u hu=>by cases hu) ⟨?_,?_⟩,fun h=>?_⟩
    ·show World.ownsRow _ _ _ _ _ (g.l ++ [g.tk]).length _
     rw [yQ,List.flatMap_append]; simpa using xS
    ·exact (cD oT yb).trans vG
    ·obtain ⟨s2,Y,_⟩:=U jB (by rwa [gq (by decide)] at h)
     exact ⟨s2,by rw [zk _ _ (by decide)]; exact Y,fun h3=>by rw [gqs xr] at h3; cases h3⟩
   | 12,Z =>
    obtain rfl:=yc Z
    have g0:=R.c 0 (yf D 0 rfl) _ rfl
    clear D R hS xm qM n15
    rw [if_pos (by rfl)];unfold Oper.wp;go_simp
    exact ⟨upd f 12 (J G 0),by simp [upd,g0],zX (U xu) 12 _ (yj rfl) (by decide) (by decide),fun h=>by
     rw [gq (by decide)] at h ⊢
     obtain ⟨s2,Y,h3⟩:=U jB h
     exact ⟨s2,by rw [zk _ _ (by decide)]; exact Y,fun h4=>h3 h4⟩⟩
   | 13,Z =>
    obtain rfl:=yc Z
    have ua:=R.c 12 (yf D 12 rfl) _ rfl
    clear D R hS xm qM n15
    rw [if_pos (by rfl)];unfold Oper.wp;go_simp
    exact ⟨upd f 13 (J G 1),by simp [upd,ua],zX (U xu) 13 _ (yj rfl) (by decide) (by decide),fun h=>by
     rw [gq (by decide)] at h ⊢
     obtain ⟨s2,Y,h3⟩:=U jB h
     exact ⟨s2,by rw [zk _ _ (by decide)]; exact Y,fun h4=>h3 h4⟩⟩
   | 14,Z =>
    obtain rfl:=yc Z
    have qI:=R.c 13 (yf D 13 rfl) _ rfl
    clear D R hS xm qM n15
    rw [if_pos (by rfl)];unfold Oper.wp;go_simp
    exact ⟨upd f 14 (J G 2),by simp [upd,qI],zX (U xu) 14 _ (yj rfl) (by decide) (by decide),fun h=>by
     rw [gq (by decide)] at h ⊢
     obtain ⟨s2,Y,h3⟩:=U jB h
     exact ⟨s2,by rw [zk _ _ (by decide)]; exact Y,fun h4=>h3 h4⟩⟩
   | 15,Z =>
    obtain rfl:=yc Z
    have je:=R.c 14 (yf D 14 rfl) _ rfl
    have aj:x[11]? = some true:=D ⟨11,.data⟩ (by simp) rfl
    obtain ⟨pX,vG⟩:=R.a aj xr
    have y2:=vG.cell (K (U ut).box 2 rfl) (U ut).nq
    have q2:h2.frozen? (Q G 2) = false:=(World.frozen?_of_block (a:=(Q G 2)) (vG.block G (U ut).lt (U ut).nq)).trans (zd (U ut).box 2 (by show 2 < 16; decide))
    obtain ⟨ga,gc,vE⟩:=cd (zK pX (by simp; omega))
    have vE:f 11 = .slice ga (g.l.length + 1) gc:=by rw [vE]; simp
    clear D R hS xm qM n15 pX vG
    rw [if_pos (by rfl)];unfold Oper.wp;go_simp
    refine ⟨f,by simp [je,vE],?_,fun h=>?_⟩
    ·have:=ra_store (U xu) aj xr (by decide) (fun v u hu=>by cases hu)
     rw [vE] at this
     exact this
    ·obtain ⟨s2,Y,_⟩:=U jB (by rwa [gq (by decide)] at h)
     exact ⟨s2,Y,fun h3=>by rw [gq (by decide),aj] at h3; cases h3⟩
   | i + 16,Z=>simp at Z
 ·rintro x cs hj i op ⟨f,rfl,R⟩ X hx Z xr D
  have xu:=H R
  have nw:i < 5→x[5]? = some false:=fun xJ=>by
   rcases br hx (show 5 < 6 by omega) with hq | hw
   ·exact hq
   ·exfalso
    have h4:=yh X 5 rfl hw 4 rfl
    have h0:=yh X 4 rfl h4 0 rfl
    have h3:=yh X 4 rfl h4 3 rfl
    have N:=yh X 3 rfl h3 1 rfl
    have Y:=yh X 3 rfl h3 2 rfl
    rcases (by omega:i = 0 ∨ i = 1 ∨ i = 2 ∨ i = 3 ∨ i = 4) with rfl | rfl | rfl | rfl | rfl
    ·exact absurd (h0.symm.trans xr) (by simp)
    ·exact absurd (N.symm.trans xr) (by simp)
    ·exact absurd (Y.symm.trans xr) (by simp)
    ·exact absurd (h3.symm.trans xr) (by simp)
    ·exact absurd (h4.symm.trans xr) (by simp)
  have uc:i < 5→yp W1 hj:=fun h=>R.b (nw h)
  have xm:i < 5→∀ (p:Addr) u,W1.cell? p = some u→hj.cell? p = some u:=fun h p u hu=>((uc h).cell (yL W1 _ hu)).trans hu
  match i,Z with
  | 0,Z | 2,Z =>
   obtain rfl:=yc Z
   have CL:=xm (by omega)
   have e0:=CL (Q w.heap.size 0) _ (K (U HX) 0 rfl)
   have e1:=CL (Q w.heap.size 1) _ (K (U HX) 1 rfl)
   have e2:=CL (Q w.heap.size 2) _ (K (U HX) 2 rfl)
   have e3:=CL (Q w.heap.size 3) _ (K (U HX) 3 rfl)
   have e4:=CL (Q w.heap.size 4) _ (K (U HX) 4 rfl)
   have e5:=CL (Q w.heap.size 5) _ (K (U HX) 5 rfl)
   have e6:=CL (Q w.heap.size 6) _ (K (U HX) 6 rfl)
   have e7:=CL (Q w.heap.size 7) _ (K (U HX) 7 rfl)
   have e8:=CL (Q w.heap.size 8) _ (K (U HX) 8 rfl)
   have e9:=CL (Q w.heap.size 9) _ (K (U HX) 9 rfl)
   have uO:=CL (Q w.heap.size 10) _ (K (U HX) 10 rfl)
   have uy:=CL (Q w.heap.size 11) _ (K (U HX) 11 rfl)
   have vQ:=CL (Q w.heap.size 12) _ (K (U HX) 12 rfl)
   have uQ:=CL (Q w.heap.size 13) _ (K (U HX) 13 rfl)
   clear D R uc xm nw CL
   rw [if_pos (by rfl)];unfold Oper.wp;go_simp
   exact ⟨upd f _ (.agg (yw xn ck A ct F cq ci O cg id xj qty xk xi).toArray),by simp [upd],zD (U xu) _ _ ⟨yj rfl,⟨fun h=>absurd h (by decide),fun h=>absurd h (by decide)⟩⟩ (by decide)⟩
  | 1,Z =>
   obtain rfl:=yc Z
   have CL:=xm (by omega)
   clear D R uc xm nw CL
   rw [if_pos (by rfl)];unfold Oper.wp;go_simp
   exact ⟨upd f 1 (J G 0),by simp [upd],zD (U xu) 1 _ ⟨yj rfl,⟨fun h=>absurd h (by decide),fun h=>absurd h (by decide)⟩⟩ (by decide)⟩
  | 3,Z =>
   obtain rfl:=yc Z
   have g1:=(R.c 1 (yf D 1 rfl)).1 _ rfl
   have g2:=(R.c 2 (yf D 2 rfl)).1 _ rfl
   have CL:=xm (by omega)
   have hw:=nw (by omega)
   have vp:=H (ba (U HB) (uc (by omega)))
   have HGV:=H (zy (U HG) (uc (by omega)))
   clear D R uc xm nw CL
   rw [if_pos (by rfl)];unfold Oper.wp;go_simp
   refine (U jx hj (U HGV)).mono ?_
   rintro y w4 ⟨hy,xy⟩
   by_cases hs:dr = 0
   ·rw [outD_ok hs] at hy
    subst hy
    exact ⟨upd f 3 (.agg #[I dk,I di,I dt,I dq,I dp]),by simp [upd,g1,g2,duV],zD (cJ (U xu) hw xy) 3 _ ⟨yj rfl,fun _=>hs,fun h=>absurd h (by decide)⟩ (by decide)⟩
   ·rw [outD_no hs] at hy
    subst hy
    have HQ:=H (U uo)
    rw [if_pos hs] at HQ
    have jB:=H hs
    have uj:=H (ba (U vp) xy)
    clear hs xy
    go_wp2_with fail
    exact ⟨rfl,U vH _ _ (U HQ) (U jB) (U uj)⟩
  | 4,Z =>
   obtain rfl:=yc Z
   have g0:=(R.c 0 (yf D 0 rfl)).1 _ rfl
   have g3:=(R.c 3 (yf D 3 rfl)).1 _ rfl
   have CL:=xm (by omega)
   have hw:=nw (by omega)
   clear D R uc xm nw CL
   rw [if_pos (by rfl)];unfold Oper.wp;go_simp
   refine (U pE hj).mono ?_
   rintro y w4 ⟨rfl,xy⟩
   exact ⟨upd f 4 (.bool jb),by simp [upd,g0,g3],zD (cJ (U xu) hw xy) 4 _ ⟨yj rfl,⟨fun h=>absurd h (by decide),fun h=>absurd h (by decide)⟩⟩ (by decide)⟩
  | 5,Z =>
   obtain rfl:=yc Z
   have g4:=(R.c 4 (yf D 4 rfl)).1 _ rfl
   have vp:=H (ba (U HB) (R.b xr))
   have h4:=D ⟨4,.data⟩ (by simp) rfl
   have h3:=yh X 4 rfl h4 3 rfl
   have qZ:=(R.c 3 h3).2.1 rfl
   have HQ:=H (U uo)
   rw [if_neg (not_not_intro qZ)] at HQ
   clear D R uc xm nw h4 h3 qZ
   rw [if_pos (by rfl)];unfold Oper.wp;go_simp
   by_cases V:jb = true
   ·have hd:=bC 13 hj
    rw [← V] at hd
    refine hd.mono ?_
    rintro e w4 ⟨rfl,rfl⟩
    exact ⟨upd f 5 (.tuple #[]),by simp [upd,g4],rw_lastv (T:=fun hj=>hj) (U xu) xr ⟨yj rfl,fun h=>absurd h (by decide),fun _=>V⟩⟩
   ·have hj2:jb = false:=by simpa using V
    have hd:=bw 13 hj
    rw [← hj2] at hd
    refine hd.mono ?_
    rintro e w4 ⟨rfl,rfl⟩
    rw [if_neg V] at HQ
    clear V hj2 hd
    go_wp2_with fail
    exact ⟨rfl,U vH 13 _ (U HQ) (by decide) (U vp)⟩
  | i + 6,Z=>simp at Z
def fnK (k:Int):FuncId:=if k = 1 then 87 else if k = 2 then 88 else if k = 3 then 89 else if k = 4 then 90 else if k = 5 then 91 else if k = 6 then 92 else if k = 7 then 93 else if k = 8 then 94 else if k = 9 then 95 else (0:Nat)
theorem chk_any {G B r:Nat} {vq:Value} {g:Gr} (e:Ev) (w:World) (h:GS G B r w vq g) (hi:GI g) (he:okE e = true) (hg:e.cmd.g.size ≤ maxLen):Calls Tryz.prog (fnK e.kind) #[J G 0,evV e] w fun x w'=>Chk G B r vq g e w x w':=by
 have hk:=dx he
 rcases (show e.kind = 1 ∨ e.kind = 2 ∨ e.kind = 3 ∨ e.kind = 4 ∨ e.kind = 5 ∨ e.kind = 6 ∨ e.kind = 7 ∨ e.kind = 8 ∨ e.kind = 9 by omega) with k | k | k | k | k | k | k | k | k
 ·rw [show fnK e.kind = 87 by simp [fnK,k]]; exact accept_chk e w h hi he k hg
 ·rw [show fnK e.kind = 88 by simp [fnK,k]]; exact refuse_chk e w h hi he k hg
 ·rw [show fnK e.kind = 89 by simp [fnK,k]]; exact trade_chk e w h hi he k hg
 ·rw [show fnK e.kind = 90 by simp [fnK,k]]; exact rest_chk e w h hi he k hg
 ·rw [show fnK e.kind = 91 by simp [fnK,k]]; exact drop_chk e w h hi he k hg
 ·rw [show fnK e.kind = 92 by simp [fnK,k]]; exact cancel_chk e w h hi he k hg
 ·rw [show fnK e.kind = 93 by simp [fnK,k]]; exact reduce_chk e w h hi he k hg
 ·rw [show fnK e.kind = 94 by simp [fnK,k]]; exact endDay_chk e w h hi he k hg
 ·rw [show fnK e.kind = 95 by simp [fnK,k]]; exact expire_chk e w h hi he k hg
theorem lookI_run {W:World} {r:Nat} (k:Int) (hk:1 ≤ k∧k ≤ 9) (E:W.heap[r]? = some (.map chkM 9)) :
  (Instr.lookup 83 (.map (some r)) (I k) false).run Tryz.prog W = .ok (.func (.func (fnK k)) #[] #[]) W:=by
 have hu:=Tryz.underlying3
 have hc:∀ e,(Instr.checkKey e 10000 3 (I k)).run Tryz.prog W = .ok () W:=fun e=>MapKept.run_checkKey (k:=I k) hu (by simp [MapKept.IsKey]) e 9999
 have hf:∃ i,Instr.findNow (TypeDesc.int .i64) (I k) chkM.toList 0 = some (some (i,.func (.func (fnK k)) #[] #[])):=by
  rcases (show k = 1 ∨ k = 2 ∨ k = 3 ∨ k = 4 ∨ k = 5 ∨ k = 6 ∨ k = 7 ∨ k = 8 ∨ k = 9 by omega) with rfl | rfl | rfl | rfl | rfl | rfl | rfl | rfl | rfl
  all_goals exact ⟨_,rfl⟩
 obtain ⟨i,hf⟩:=hf
 simp [Instr.lookup,run_underlying Tryz.underlying83,MapKept.run_getObj_map E,hc,MapKept.run_findKey hu hf,Result.andThen]
theorem ta_br (k:Int) (w:World):(Instr.typeAssert (.iface 121 (I k)) 20 121 true).run Tryz.prog w = .ok (.tuple #[I k,.bool true]) w:=by kernel_rfl
theorem ta_brn (w:World):(Instr.typeAssert .nilIface 20 121 true).run Tryz.prog w = .ok (.tuple #[I 0,.bool false]) w:=by kernel_rfl
theorem catchA_panicking (p:Addr) (x:Value) (k:Int) (older:List PanicEntry) (w:World) (hc:w.cell? p = some x) (hz:w.frozen? p = false) :
  CallsD Tryz.prog 73 #[.pointer (some p)] (.panicking ({ v:=brV k,recovered:=false } :: older)) w fun e u' w' =>
   e = .returned (.tuple #[])∧u' = .panicking ({ v:=brV k,recovered:=true } :: older)∧w' = w.setCell p (I k):=by
 refine callsD_of_wpS Tryz.func73 rfl fun c₀ A hu=>?_
 simp only [brV] at hu ⊢
 apply wpS_seq
 apply wpS_region
 simp [wpOpsS,go_sem,recoverD,hu,Tryz.ntmps73,Exit.thenS,ta_br]
 apply wpS_seq
 apply wpS_region
 simp [wpOpsS,go_sem,Exit.thenS]
 refine wpS_cond (t:=true) (by simp [Act.eval,Array.replicate]) ?_
 simp only [if_true]
 apply wpS_region
 simp [wpOpsS,go_sem,hc,hz,bodyPostS,results,Tryz.results73]
theorem catchA_idle (p:Addr) (w:World) :
  CallsD Tryz.prog 73 #[.pointer (some p)] .returning w fun e u' w'=>e = .returned (.tuple #[])∧u' = .returning∧w' = w:=by
 refine callsD_of_wpS Tryz.func73 rfl fun c₀ A hu=>?_
 apply wpS_seq
 apply wpS_region
 simp [wpOpsS,go_sem,recoverD,hu,Tryz.ntmps73,Exit.thenS,ta_brn]
 apply wpS_seq
 apply wpS_region
 simp [wpOpsS,go_sem,Exit.thenS]
 refine wpS_cond (t:=false) (by simp [Act.eval,Array.replicate]) ?_
 simp only [Bool.false_eq_true,if_false]
 refine wpS_of_wp (wp_skip ?_)
 cases c₀
 simp_all [bodyPostS,results,Tryz.results73]
theorem below_set1 {B b:Nat} {w W:World} {u:Value} (h:Below B w W) (E:B ≤ b):Below B w (W.setCell (Q b 0) u) :=
 ⟨h.os,h.tape,h.output,by have:=h.size; simpa [World.setCell] using this,fun k hk=>(yT _ _ _ _ (by show k ≠ b; omega)).trans (h.block k hk)⟩
theorem gs_far {G B r b:Nat} {W:World} {vq:Value} {g:Gr} {u:Value} (h:GS G B r W vq g) (E:b ≠ G) (ht:∃ xF,W.heap[b]? = some (.cells xF 3 (0,0))):GS G B r (W.setCell (Q b 0) u) vq g:=by
 have hr:r ≠ b:=by
  rintro rfl
  obtain ⟨xF,hc⟩:=ht
  rw [h.mp] at hc
  cases hc
 obtain ⟨xF,hc⟩:=h.typ
 exact ⟨zP h.box (Ne.symm E),bd h.row (bU h.row ht (by decide)) 0 u,⟨xF,(yT _ _ _ _ (Ne.symm E)).trans hc⟩,(yT _ _ _ _ hr).trans h.mp,h.hG,h.hr⟩
theorem step_bg {g:Gr} {e:Ev}:aM g e = { takG g e with bg:=begG g e }:=by
 unfold takG aM
 repeat' split
 all_goals rfl
def AddE (G B r:Nat) (g:Gr) (e:Ev) (w:World) (x:Ending) (w':World):Prop:=x = .returned (I (zF g e))∧Below B w w'∧(zF g e = 0→∃ uE,GS G B r w' uE (aM g e))
theorem add_any {G B r:Nat} {vq:Value} {g:Gr} (e:Ev) (w:World) (h:GS G B r w vq g) (hi:GI g) (he:okE e = true) (hg:e.cmd.g.size ≤ maxLen):Calls Tryz.prog 40 #[J G 0,evV e] w fun x w'=>AddE G B r g e w x w':=by
 have hsf:=sfl
 have hmf:∀ (fn:Fn) (first cap:Array Value) (w:World),(Instr.makeFunc fn first cap).run Tryz.prog w = .ok (.func fn first cap) w:=fun _ _ _ _=>rfl
 have hG:=h.lt
 have vW:=h.base
 have HCH:=H (fun W (hW:GS G B r W vq g)=>chk_any e W hW hi he hg)
 have oA:=H (fun W hW=>lookI_run (W:=W) (r:=r) e.kind (dx he) hW)
 have HFK:Hid (fnK e.kind = 87 ∨ fnK e.kind = 88 ∨ fnK e.kind = 89 ∨ fnK e.kind = 90 ∨ fnK e.kind = 91 ∨ fnK e.kind = 92 ∨ fnK e.kind = 93 ∨ fnK e.kind = 94 ∨ fnK e.kind = 95):=by
  have hk:=dx he
  rcases (show e.kind = 1 ∨ e.kind = 2 ∨ e.kind = 3 ∨ e.kind = 4 ∨ e.kind = 5 ∨ e.kind = 6 ∨ e.kind = 7 ∨ e.kind = 8 ∨ e.kind = 9 by omega) with k | k | k | k | k | k | k | k | k <;> (show _ ∨ _; simp [fnK,k])
 have HKD:Hid (aM g e = { takG g e with bg:=if g.bg = 0 then e.kind else g.bg }):=step_bg
 have oz:Hid (∀ x w',x = .returned (I (zF g e))→Below B w w'→(zF g e = 0→∃ uE,GS G B r w' uE (aM g e))→AddE G B r g e w x w'):=fun x w' N Y h3=>⟨N,Y,h3⟩
 have HTB:Hid ((takG g e).bg = g.bg):=rfl
 unfold Chk at HCH
 generalize AddE G B r g e w = C at oz ⊢
 generalize zF g e = ru at HCH oz
 generalize aM g e = g2 at HKD oz
 generalize takG g e = g1 at HCH HKD HTB
 generalize fnK e.kind = fk at HCH oA HFK
 obtain ⟨xn,⟨ck,A,ct,F,cq,ci,O,cg⟩,id,xj,qty,xk,xi⟩:=e
 unfold evV at HCH ⊢
 simp only at HCH oA HKD ⊢
 have hs0:(w.alloc (L (yw xn ck A ct F cq ci O cg id xj qty xk xi).toArray 52)).heap.size = w.heap.size + 1:=by simp
 have xz:=fw w (L (yw xn ck A ct F cq ci O cg id xj qty xk xi).toArray 52)
 have uk:Below (w.heap.size + 1) (w.alloc (L (yw xn ck A ct F cq ci O cg id xj qty xk xi).toArray 52)) ((w.alloc (L (yw xn ck A ct F cq ci O cg id xj qty xk xi).toArray 52)).alloc (L #[I 0] 3)):=(Below.refl _ _).alloc (by rw [hs0]; omega) _
 have HS:Hid (((w.alloc (L (yw xn ck A ct F cq ci O cg id xj qty xk xi).toArray 52)).alloc (L #[I 0] 3)).heap.size = w.heap.size + 1 + 1):=by show _ = _; simp
 have HX:=H (zf (zq w (yw xn ck A ct F cq ci O cg id xj qty xk xi) 52) uk (by omega))
 have HY:Hid (Bx ((w.alloc (L (yw xn ck A ct F cq ci O cg id xj qty xk xi).toArray 52)).alloc (L #[I 0] 3)) (w.heap.size + 1) [I 0]):=by
  have:=zq (w.alloc (L (yw xn ck A ct F cq ci O cg id xj qty xk xi).toArray 52)) [I 0] 3
  rwa [hs0] at this
 have HYT:Hid (∃ xF,((w.alloc (L (yw xn ck A ct F cq ci O cg id xj qty xk xi).toArray 52)).alloc (L #[I 0] 3)).heap[w.heap.size + 1]? = some (.cells xF 3 (0,0))):=by
  have:=heap_alloc_new (w.alloc (L (yw xn ck A ct F cq ci O cg id xj qty xk xi).toArray 52)) (L #[I 0] 3)
  rw [hs0] at this
  exact ⟨_,this⟩
 have xW:Hid (yp w ((w.alloc (L (yw xn ck A ct F cq ci O cg id xj qty xk xi).toArray 52)).alloc (L #[I 0] 3))):=xz.trans (uk.mono (by omega))
 have HB:Hid (Below B w ((w.alloc (L (yw xn ck A ct F cq ci O cg id xj qty xk xi).toArray 52)).alloc (L #[I 0] 3))):=(U xW).mono vW
 have HG:=H (zy h (U xW))
 have HGW:=H h
 clear h xz hi uk hs0 he hg xW
 go_enter_defers Tryz.func40,Tryz.ntmps40
 go_wp2_with fail
 generalize ((w.alloc (L (yw xn ck A ct F cq ci O cg id xj qty xk xi).toArray 52)).alloc (L #[I 0] 3)) = xo at HS HX HY HYT HG HB ⊢
 have xY:Hid (Bx xo.drew w.heap.size (yw xn ck A ct F cq ci O cg id xj qty xk xi)):=zJ (U HX)
 have HYD:Hid (Bx xo.drew (w.heap.size + 1) [I 0]):=zJ (U HY)
 have ql:Hid (GS G B r xo.drew vq g):=zy (U HG) ⟨rfl,rfl,rfl,Nat.le_refl _,fun _ _=>rfl⟩
 have vv:Hid (Below B w xo.drew):=⟨(U HB).os,(U HB).tape,(U HB).output,(U HB).size,(U HB).block⟩
 have hSD:w.heap.size + 1 < xo.drew.heap.size:=by show w.heap.size + 1 < xo.heap.size; have:=U HS; omega
 clear HX HY HG HB HS
 obtain ⟨e0,e1,e2,e3,e4,e5,e6,e7,e8,e9,uO,uy,vQ,uQ⟩:=yz (U xY)
 have c0:xo.drew.cell? (Q G 0) = some (.map (some r)):=K (U ql).box 0 rfl
 have uX:=U oA xo.drew (U ql).mp
 have kr:vq.ownBlock ≠ some (w.heap.size + 1):=fun e=>by have:=((U HGW).row.lt _ e).2; omega
 have HNR2:vq.ownBlock ≠ some w.heap.size:=fun e=>by have:=((U HGW).row.lt _ e).2; omega
 refine zE 9 (by kernel_rfl) (by kernel_rfl) ?_
 simp only [yU,List.take_zero,yV,List.drop_zero]
 repeat still_step
 refine wpStill_nil ?_
 clear uX c0 e0 e1 e2 e3 e4 e5 e6 e7 e8 e9 uO uy vQ uQ
 go_wp2_with fail
 rcases U HFK with rfl | rfl | rfl | rfl | rfl | rfl | rfl | rfl | rfl
 all_goals
  clear HFK oA
  go_wp2_with fail
  refine (U HCH xo.drew (U ql)).mono ?_
  clear HCH
  rintro x w2 ⟨hx,pU,uf⟩
  have xw:=H ((U vv).trans (kp_to pU (U ql)))
  have uG:=(U ql).row
  have hY2:Bx w2 (w.heap.size + 1) [I 0]:=aO (U HYD) (pU.block (w.heap.size + 1) hSD (by omega) (fun e=>kr e.symm))
  have jt:Bx w2 w.heap.size (yw xn ck A ct F cq ci O cg id xj qty xk xi):=aO (U xY) (pU.block w.heap.size (by omega) (by omega) (fun e=>HNR2 e.symm))
  have HY2:=H hY2
  have HYT2:Hid (∃ xF,w2.heap[w.heap.size + 1]? = some (.cells xF 3 (0,0))):=by
   obtain ⟨xF,hc⟩:=U HYT
   exact ⟨xF,(pU.block (w.heap.size + 1) hSD (by omega) (fun e=>kr e.symm)).trans hc⟩
  have xI:=H jt
  have qf:=H uf
  clear pU uf uG jt hY2
  by_cases hr:ru = 0
  case neg =>
   rw [outR_no hr] at hx
   subst hx
   have z0:=K (U HY2) 0 rfl
   have f0:=zd (U HY2) 0 (by decide)
   have HR:=H hr
   clear hr
   go_wp2_with fail
   refine leaves_cons (f:=73) (args:=#[J (w.heap.size + 1) 0]) (by simp) (by simp [go_sem]) ?_
   refine (catchA_panicking (Q (w.heap.size + 1) 0) (I 0) ru [] _ z0 f0).mono ?_
   rintro e u' w'' ⟨rfl,rfl,rfl⟩
   simp [Leaves,settle,results,Tryz.results40,go_sem,yN _ _ (I ru) z0]
   exact U oz _ _ rfl (below_set1 (U xw) (by omega)) (fun h=>absurd h (U HR))
  rw [outR_ok hr] at hx
  subst hx
  obtain ⟨uE,jJ⟩:=U qf hr
  have vi:=H jJ
  have HR:=H hr
  have c3:w2.cell? (Q G 3) = some (I g.bg):=by
   have:=K (U vi).box 3 rfl
   rw [← U HTB]
   exact this
  have q3:=zd (U vi).box 3 (by show 3 < 16; decide)
  have x0:=K (U xI) 0 rfl
  by_cases h0:g.bg = 0
  ·have b0:(g.bg == 0) = true:=by simpa using h0
   have oP:=H (U HKD)
   rw [if_pos h0] at oP
   have HY3:Hid (Bx (w2.setCell (Q G 3) (I xn)) (w.heap.size + 1) [I 0]):=zP (U HY2) (by omega)
   have ut:Hid (GS G B r (w2.setCell (Q G 3) (I xn)) uE { g1 with bg:=xn }):=gs_set (U vi) 3 _ (by decide) rfl rfl
   have HYT4:Hid (∃ xF,(w2.setCell (Q G 3) (I xn)).heap[w.heap.size + 1]? = some (.cells xF 3 (0,0))):=by
    obtain ⟨xF,hc⟩:=U HYT2
    exact ⟨xF,(yT _ _ _ _ (by show w.heap.size + 1 ≠ G; omega)).trans hc⟩
   have xH:=H (below_setG (U xw) yb (U vi) 3 (I xn))
   have z0:=K (U HY3) 0 rfl
   have f0:=zd (U HY3) 0 (by decide)
   clear h0 hr
   go_wp2_with fail
   refine leaves_cons (f:=73) (args:=#[J (w.heap.size + 1) 0]) (by simp) (by simp [go_sem]) ?_
   refine (catchA_idle (Q (w.heap.size + 1) 0) _).mono ?_
   rintro e u' w'' ⟨rfl,rfl,rfl⟩
   simp [Leaves,settle,results,Tryz.results40,go_sem,yN _ _ (I 0) z0]
   exact U oz _ _ (by rw [U HR]) (below_set1 (U xH) (by omega)) (fun _=>⟨uE,by rw [U oP]; exact gs_far (U ut) (by omega) (U HYT4)⟩)
  ·have b0:(g.bg == 0) = false:=by simpa using h0
   have oP:Hid (g2 = g1):=by
    show _ = _
    rw [U HKD,if_neg h0,← U HTB]
   have z0:=K (U HY2) 0 rfl
   have f0:=zd (U HY2) 0 (by decide)
   clear h0 hr
   go_wp2_with fail
   refine leaves_cons (f:=73) (args:=#[J (w.heap.size + 1) 0]) (by simp) (by simp [go_sem]) ?_
   refine (catchA_idle (Q (w.heap.size + 1) 0) _).mono ?_
   rintro e u' w'' ⟨rfl,rfl,rfl⟩
   simp [Leaves,settle,results,Tryz.results40,go_sem,yN _ _ (I 0) z0]
   exact U oz _ _ (by rw [U HR]) (below_set1 (U xw) (by omega)) (fun _=>⟨uE,by rw [U oP]; exact gs_far (U vi) (by omega) (U HYT2)⟩)
end Go.Proofs.YtnphbkgfjanmgaaGreatDoor
