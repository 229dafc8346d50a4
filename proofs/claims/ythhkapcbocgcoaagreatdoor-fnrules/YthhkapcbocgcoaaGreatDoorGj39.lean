/-
  What is left of an order put into the book in a group, by the program: proved by walking the method.
-/
import Derived.Test.YthhkapcbocgcoaaGreatDoorGj37
import Derived.Test.YthhkapcbocgcoaaGreatDoorGj38
import Derived.MapKept
import Derived.Maps.Own
import Derived.WideMake
set_option linter.unusedVariables false
set_option maxHeartbeats 6400000
set_option maxRecDepth 100000
namespace Go.Proofs.YthhkapcbocgcoaaGreatDoor
open Go.RowKit
def RRA (B G:Nat) (base:World) (hR:(Nat→Value)→Act) (vs:List (Option Value)) (vq:Value) (g:Gr) (x:List Bool) (a:Act) (W:World):Prop :=
 ∃ f,a = hR f∧RA (fun j v=>∀ u,vs[j]? = some (some u)→v = u) 11 15 (J G 2) (App B base vq (g.l ++ [g.tk])) base x f W∧(x[10]? = some true→∃ s,f 10 = .slice (some (J s 0)) 1 1∧(x[11]? = some false→∀ j u,g.tk.vs[j]? = some u→W.cell? (Addr.add (J s 0) j) = some u))
theorem rest_chk {G B r:Nat} {vq:Value} {g:Gr} (e:Ev) (w:World) (h:GS G B r w vq g) (hi:GI g) (he:okE e = true) (E:e.kind = 4) (hg:e.cmd.g.size ≤ maxLen):Calls Tryz.prog 97 #[I G 0,evV e] w fun x w'=>Chk G B r vq g e w x w':=by
 have hsf:=sfl
 have hG:=h.lt
 have jU:=h.base
 have ux:Hid (zD g e = if dueR g e ≠ 0 then dueR g e else if cz e (dueG g) = true then 0 else 13):=by show _ = _; simp [zD,E]
 have uY:Hid (takG g e = ⟨g.nx,g.l ++ [g.tk],g.bg,g.cm,{ g.tk with left:=0 }⟩):=by show _ = _; rw [takG,step4 E]
 have vn:Hid (∀ k w',zD g e = k→k ≠ 0→Kp G vq w w'→Chk G B r vq g e w (.panicked (brk k)) w'):=fun k w' Q D X=>chk_no Q D X
 have uX:Hid (∀ w' uG,zD g e = 0→Kp G vq w w'→GS G B r w' uG (takG g e)→Chk G B r vq g e w (.returned (.tuple #[])) w'):=fun w' uG Q D X=>chk_ok Q D X
 have jF:Hid (∀ W,GS G B r W vq g→Calls Tryz.prog 153 #[I G 0,evV e] W fun x w'=>x = outD (dueR g e) (dueG g)∧yn W w'):=fun W hW=>gz e W hW hi
 have aj:Hid (∀ W,Calls Tryz.prog 155 #[evV e,duV (dueG g)] W fun r w'=>r = .returned (.bool (cz e (dueG g)))∧yn W w'):=fun W=>isJust_any e (dueG g) W
 have HR45:Hid (zD g e = 0→g.bg = 1∧g.tk.left ≠ 0):=rule45 (by omega)
 have HI:=M hi
 generalize Chk G B r vq g e w = C at vn uX ⊢
 generalize zD g e = ru at vn uX ux HR45
 generalize takG g e = g' at uY uX
 generalize dueR g e = dr at jF ux
 generalize cz e (dueG g) = jb at aj ux
 generalize dueG g = d at jF aj
 obtain ⟨xn,⟨ck,cs,ct,cl,cq,ci,cp,cg⟩,id,xl,qty,xm,xk⟩:=e
 simp only at E hg
 try simp only at ux uY
 obtain ⟨dk,di,dt,dq,dp⟩:=d
 unfold evV at jF aj
 unfold duV at aj
 simp only at jF aj
 unfold evV
 simp only
 obtain ⟨xR,HX⟩:=ie w (yv xn ck cs ct cl cq ci cp cg id xl qty xm xk) 37
 have HS:Hid ((w.alloc (O (yv xn ck cs ct cl cq ci cp cg id xl qty xm xk).toArray 37)).heap.size = w.heap.size + 1):=by show _ = _; simp
 have HG:=M (zx h xR)
 have HB:Hid (Kp G vq w (w.alloc (O (yv xn ck cs ct cl cq ci cp cg id xl qty xm xk).toArray 37))):=kp_of xR
 clear h xR hi he E hg
 go_enter Tryz.func97,Tryz.ntmps97
 refine ic fun xh HK=>?_
 go_wp2_with fail
 refine U HK _ _ ?_
 clear HK
 generalize (w.alloc (O (yv xn ck cs ct cl cq ci cp cg id xl qty xm xk).toArray 37)) = W1 at HS HX HG HB ⊢
 go_wp2_with fail
 refine zn (RWA (fun f=>{ tmps:=#[I G 0,.agg (yv xn ck cs ct cl cq ci cp cg id xl qty xm xk).toArray,Z,I w.heap.size 0,f 0,f 1,f 2,f 3,f 4,f 5,Z,Z,Z,Z,Z,Z,Z,Z,Z,Z,Z,Z,Z,Z,Z,Z,Z,Z,Z],defers:=[] }) (CVw [some (.agg (yv xn ck cs ct cl cq ci cp cg id xl qty xm xk).toArray),some (I G 0),some (.agg (yv xn ck cs ct cl cq ci cp cg id xl qty xm xk).toArray),some (.agg #[H dk,H di,H dt,H dq,H dp]),some (.bool jb),some (.tuple #[])] (fun j=>(j = 3→dr = 0)∧(j = 5→jb = true))) 5 (fun V=>V) W1) (by kernel_rfl) ?_ ?_ ?_
 ·exact ⟨fun _=>Z,rfl,⟨fun j hj=>by rw [yJ] at hj; split at hj <;> simp at hj,fun _=>⟨rfl,rfl,rfl,Nat.le_refl _,fun _ _=>rfl⟩,fun hj=>by rw [yJ] at hj; split at hj <;> simp at hj⟩⟩
 ·rintro x hb V ⟨f,rfl,F⟩ hx xN
  have xp:=zX xN hx (acyc _ (by kernel_rfl))
  obtain ⟨V0,xR,eV⟩:=F.m (xp 5 (by simp))
  have vR:=(F.c 3 (xp 3 (by simp))).2.1 rfl
  have hjb:=(F.c 5 (xp 5 (by simp))).2.2 rfl
  have HQ:=M (U ux)
  rw [if_neg (not_not_intro vR),if_pos hjb] at HQ
  subst eV
  have uk:=M (zx (U HG) xR)
  have xO:=M (cB (U HB) xR)
  clear F xp xN hx xR vR hjb ux jF aj HX HS HG HB
  dsimp only
  generalize f 0 = v0,f 1 = v1,f 2 = v2,f 3 = v3,f 4 = v4,f 5 = v5
  obtain ⟨i0,uJ,uD,uz,uM⟩:=info_parts Tryz.infoOrder
  have hln:g.l.length ≤ 20:=((U HI).good (.inr (U HR45 (U HQ)).2)).len
  go_wp2_with fail
  refine zn (RRA B G V (fun f=>{ tmps:=#[I G 0,.agg (yv xn ck cs ct cl cq ci cp cg id xl qty xm xk).toArray,Z,I w.heap.size 0,v0,v1,v2,v3,v4,v5,f 0,f 1,f 2,f 3,f 4,f 5,f 6,f 7,f 8,f 9,f 10,f 11,f 12,f 13,f 14,Z,Z,Z,Z],defers:=[] }) [some (I G 0),some (I G 0),some (I G 0),some (I G 1),some (I G 2),some (vq),some (I G 0),some (I G 0),some (I G 10),some (.agg (yw g.tk.id g.tk.side g.tk.ticks g.tk.left g.tk.life g.tk.tag).toArray),none,none,some (I G 0),some (I G 1),some (I G 2),none] vq g) (by kernel_rfl) ?_ ?_ ?_
  ·exact ⟨fun _=>Z,rfl,⟨fun j hj=>by rw [yJ] at hj; split at hj <;> simp at hj,fun _=>⟨rfl,rfl,rfl,Nat.le_refl _,fun _ _=>rfl⟩,fun hj=>by rw [yJ] at hj; split at hj <;> simp at hj,fun hj=>by rw [yJ] at hj; split at hj <;> simp at hj⟩,fun hj=>by rw [yJ] at hj; split at hj <;> simp at hj⟩
  ·rintro x hb ho ⟨f,rfl,F,hS⟩ hx xN
   have xp:=zX xN hx (acyc _ (by kernel_rfl))
   obtain ⟨W0,⟨Y,hg⟩,eY⟩:=F.z (xp 15 (by simp))
   have ht:TookAt G 1 vq.ownBlock V ho:=by rw [eY]; exact eT (eE hg (U uk).lt (U uk).nq) (took_set (o:=1) _ _)
   have hcG:W0.cell? (J G 2) = some vq:=hg.cell (zb (U uk).box 2 rfl) (U uk).nq
   have hc:ho.cell? (J G 2) = some (f 11):=by rw [eY]; exact yN _ _ _ hcG
   have qG:∃ xz,W0.heap[G]? = some (.cells xz 67 (0,0)):=by
    obtain ⟨xz,Q⟩:=(U uk).typ
    exact ⟨xz,(hg.block G (U uk).lt (U uk).nq).trans Q⟩
   have kU:ORow ho B (f 11) (g.l ++ [g.tk]):=by rw [eY]; exact cw Y (df Y qG (by decide)) 2 _
   have uu:=M (gs_took (U uk) hc kU ht)
   have uE:=M (kp_took (U xO) ht)
   clear F hS xp xN hx Y hg eY ht hcG hc qG kU
   dsimp only
   generalize f 0 = u0,f 1 = u1,f 2 = u2,f 3 = u3,f 4 = u4,f 5 = u5,f 6 = u6,f 7 = u7,f 8 = u8,f 9 = u9,f 10 = u10
   generalize f 11 = u11 at *
   generalize f 12 = u12,f 13 = u13,f 14 = u14
   have c13:=zb (U uu).box 13 rfl
   have q13:=zd (U uu).box 13 (by show 13 < 16; decide)
   go_wp2_with fail
   go_end0
   refine U uX _ u11 (U HQ) (kp_set (U uE) 13 _) ?_
   rw [U uY]
   exact gs_set (U uu) 13 _ (by decide) rfl rfl
  ·rintro x hb ho i op ⟨f,rfl,F,hS⟩ xo hx Y xu K
   have xA:=M F
   have kg:=M hS
   have qM:i < 12→i ≠ 0→x[11]? = some false:=fun xM h0=>by
    rcases dm hx (show 11 < 16 by omega) with hq | vK
    ·exact hq
    ·exfalso
     have h5:=yf xo 11 rfl vK 5 rfl
     have vi:=yf xo 11 rfl vK 10 rfl
     have h4:=yf xo 5 rfl h5 4 rfl
     have X:=yf xo 4 rfl h4 3 rfl
     have D:=yf xo 3 rfl X 2 rfl
     have Q:=yf xo 2 rfl D 1 rfl
     have h9:=yf xo 10 rfl vi 9 rfl
     have h8:=yf xo 9 rfl h9 8 rfl
     have h7:=yf xo 8 rfl h8 7 rfl
     have h6:=yf xo 7 rfl h7 6 rfl
     rcases (by omega:i = 1 ∨ i = 2 ∨ i = 3 ∨ i = 4 ∨ i = 5 ∨ i = 6 ∨ i = 7 ∨ i = 8 ∨ i = 9 ∨ i = 10 ∨ i = 11) with rfl | rfl | rfl | rfl | rfl | rfl | rfl | rfl | rfl | rfl | rfl
     ·exact absurd (Q.symm.trans xu) (by simp)
     ·exact absurd (D.symm.trans xu) (by simp)
     ·exact absurd (X.symm.trans xu) (by simp)
     ·exact absurd (h4.symm.trans xu) (by simp)
     ·exact absurd (h5.symm.trans xu) (by simp)
     ·exact absurd (h6.symm.trans xu) (by simp)
     ·exact absurd (h7.symm.trans xu) (by simp)
     ·exact absurd (h8.symm.trans xu) (by simp)
     ·exact absurd (h9.symm.trans xu) (by simp)
     ·exact absurd (vi.symm.trans xu) (by simp)
     ·exact absurd (vK.symm.trans xu) (by simp)
   have n15:x[11]? = some false→x[15]? = some false:=fun vK=>by
    rcases dm hx (show 15 < 16 by omega) with hq | vT
    ·exact hq
    ·exact absurd ((yf xo 15 rfl vT 11 rfl).symm.trans vK) (by simp)
   have xj:i < 12→i ≠ 0→∀ (p:Addr) u,V.cell? p = some u→ho.cell? p = some u:=fun h h0 p u hu=>((F.b (qM h h0)).cell (yL V _ hu)).trans hu
   match i,Y with
   | 0,Y | 1,Y | 6,Y =>
    obtain rfl:=ya Y
    clear K F hS xj qM n15
    rw [if_pos (by rfl)];unfold Oper.wp;go_simp
    exact ⟨upd f _ (I G 0),by simp [upd],dD (U xA) _ _ (yi rfl) (by decide) (by decide),fun h=>by
     rw [gq (by decide)] at h ⊢
     obtain ⟨s2,D,X⟩:=U kg h
     exact ⟨s2,by rw [zq _ _ (by decide)]; exact D,fun h4=>X h4⟩⟩
   | 2,Y =>
    obtain rfl:=ya Y
    have g1:=F.c 1 (ye K 1 rfl) _ rfl
    clear K F hS xj qM n15
    rw [if_pos (by rfl)];unfold Oper.wp;go_simp
    exact ⟨upd f 2 (I G 0),by simp [upd,g1],dD (U xA) 2 _ (yi rfl) (by decide) (by decide),fun h=>by
     rw [gq (by decide)] at h ⊢
     obtain ⟨s2,D,X⟩:=U kg h
     exact ⟨s2,by rw [zq _ _ (by decide)]; exact D,fun h4=>X h4⟩⟩
   | 3,Y =>
    obtain rfl:=ya Y
    have g2:=F.c 2 (ye K 2 rfl) _ rfl
    clear K F hS xj qM n15
    rw [if_pos (by rfl)];unfold Oper.wp;go_simp
    exact ⟨upd f 3 (I G 1),by simp [upd,g2],dD (U xA) 3 _ (yi rfl) (by decide) (by decide),fun h=>by
     rw [gq (by decide)] at h ⊢
     obtain ⟨s2,D,X⟩:=U kg h
     exact ⟨s2,by rw [zq _ _ (by decide)]; exact D,fun h4=>X h4⟩⟩
   | 4,Y =>
    obtain rfl:=ya Y
    have g3:=F.c 3 (ye K 3 rfl) _ rfl
    clear K F hS xj qM n15
    rw [if_pos (by rfl)];unfold Oper.wp;go_simp
    exact ⟨upd f 4 (I G 2),by simp [upd,g3],dD (U xA) 4 _ (yi rfl) (by decide) (by decide),fun h=>by
     rw [gq (by decide)] at h ⊢
     obtain ⟨s2,D,X⟩:=U kg h
     exact ⟨s2,by rw [zq _ _ (by decide)]; exact D,fun h4=>X h4⟩⟩
   | 5,Y =>
    obtain rfl:=ya Y
    have g4:=F.c 4 (ye K 4 rfl) _ rfl
    have z:=xj (by omega) (by omega) (J G 2) _ (zb (U uk).box 2 rfl)
    clear K F hS xj qM n15
    rw [if_pos (by rfl)];unfold Oper.wp;go_simp
    exact ⟨upd f 5 (vq),by simp [upd,g4],dD (U xA) 5 _ (yi rfl) (by decide) (by decide),fun h=>by
     rw [gq (by decide)] at h ⊢
     obtain ⟨s2,D,X⟩:=U kg h
     exact ⟨s2,by rw [zq _ _ (by decide)]; exact D,fun h4=>X h4⟩⟩
   | 7,Y =>
    obtain rfl:=ya Y
    have g6:=F.c 6 (ye K 6 rfl) _ rfl
    clear K F hS xj qM n15
    rw [if_pos (by rfl)];unfold Oper.wp;go_simp
    exact ⟨upd f 7 (I G 0),by simp [upd,g6],dD (U xA) 7 _ (yi rfl) (by decide) (by decide),fun h=>by
     rw [gq (by decide)] at h ⊢
     obtain ⟨s2,D,X⟩:=U kg h
     exact ⟨s2,by rw [zq _ _ (by decide)]; exact D,fun h4=>X h4⟩⟩
   | 8,Y =>
    obtain rfl:=ya Y
    have g7:=F.c 7 (ye K 7 rfl) _ rfl
    clear K F hS xj qM n15
    rw [if_pos (by rfl)];unfold Oper.wp;go_simp
    exact ⟨upd f 8 (I G 10),by simp [upd,g7],dD (U xA) 8 _ (yi rfl) (by decide) (by decide),fun h=>by
     rw [gq (by decide)] at h ⊢
     obtain ⟨s2,D,X⟩:=U kg h
     exact ⟨s2,by rw [zq _ _ (by decide)]; exact D,fun h4=>X h4⟩⟩
   | 9,Y =>
    obtain rfl:=ya Y
    have g8:=F.c 8 (ye K 8 rfl) _ rfl
    have pV:=xj (by omega) (by omega) (J G 10) _ (zb (U uk).box 10 rfl)
    have pW:=xj (by omega) (by omega) (J G 11) _ (zb (U uk).box 11 rfl)
    have pX:=xj (by omega) (by omega) (J G 12) _ (zb (U uk).box 12 rfl)
    have pY:=xj (by omega) (by omega) (J G 13) _ (zb (U uk).box 13 rfl)
    have z14:=xj (by omega) (by omega) (J G 14) _ (zb (U uk).box 14 rfl)
    have z15:=xj (by omega) (by omega) (J G 15) _ (zb (U uk).box 15 rfl)
    clear K F hS xj qM n15
    rw [if_pos (by rfl)];unfold Oper.wp;go_simp
    exact ⟨upd f 9 (.agg (yw g.tk.id g.tk.side g.tk.ticks g.tk.left g.tk.life g.tk.tag).toArray),by simp [upd,g8],dD (U xA) 9 _ (yi rfl) (by decide) (by decide),fun h=>by
     rw [gq (by decide)] at h ⊢
     obtain ⟨s2,D,X⟩:=U kg h
     exact ⟨s2,by rw [zq _ _ (by decide)]; exact D,fun h4=>X h4⟩⟩
   | 10,Y =>
    obtain rfl:=ya Y
    have g9:=F.c 9 (ye K 9 rfl) _ rfl
    have k11:=qM (by omega) (by omega)
    have k15:=n15 k11
    have kj:=F.b k11
    clear K F hS xj qM n15
    rw [if_pos (by rfl)];unfold Oper.wp;go_simp
    have xy:=gZ ho (Obj.cells g.tk.vs.toArray 65)
    exact ⟨upd f 10 (.slice (some (J ho.heap.size 0)) 1 1),by simp [upd,g9],dD (ra_grow (U xA) k11 k15 xy) 10 _ (fun u hu=>by cases hu) (by decide) (by decide),fun _=>⟨ho.heap.size,by simp [upd],fun _ j u h=>cellsQ ho g.tk.vs 65 j u h⟩⟩
   | 11,Y =>
    obtain rfl:=ya Y
    have g5:=F.c 5 (ye K 5 rfl) _ rfl
    obtain ⟨s,qL,hcs⟩:=hS (ye K 10 rfl)
    have k15:=n15 xu
    have kj:=F.b xu
    have ur:ORow ho B vq g.l:=zp (U uk).row kj
    have hBY:B ≤ ho.heap.size:=yO (U uk).base kj.size
    rw [if_pos (by rfl)]
    refine wp_append_own ho (.tmp 15) (.tmp 20) 25 rfl B 65 i0 _ 6 56 Tryz.underlying25 uJ uD uz uM rfl (by decide) vq g.l.length (g.l.flatMap Od.vs) g5 ur (J s 0) 1 1 g.tk.vs qL rfl (hcs xu) (one_od g.tk) (by unfold maxLen; omega) (by omega) hBY ?_
    intro v' w' xS uZ _
    refine ⟨upd f 11 v',rfl,ra_app (U xA) xu k15 (by decide) (fun u hu=>by cases hu) ⟨?_,?_⟩,fun h=>?_⟩
    ·show World.ownsRow _ _ _ _ _ (g.l ++ [g.tk]).length _
     rw [yQ,List.flatMap_append]; simpa using xS
    ·exact (ep kj hU).trans uZ
    ·obtain ⟨s2,D,_⟩:=U kg (by rwa [gq (by decide)] at h)
     exact ⟨s2,by rw [zq _ _ (by decide)]; exact D,fun X=>by rw [gqs xu] at X; cases X⟩
   | 12,Y =>
    obtain rfl:=ya Y
    have g0:=F.c 0 (ye K 0 rfl) _ rfl
    clear K F hS xj qM n15
    rw [if_pos (by rfl)];unfold Oper.wp;go_simp
    exact ⟨upd f 12 (I G 0),by simp [upd,g0],dD (U xA) 12 _ (yi rfl) (by decide) (by decide),fun h=>by
     rw [gq (by decide)] at h ⊢
     obtain ⟨s2,D,X⟩:=U kg h
     exact ⟨s2,by rw [zq _ _ (by decide)]; exact D,fun h4=>X h4⟩⟩
   | 13,Y =>
    obtain rfl:=ya Y
    have ud:=F.c 12 (ye K 12 rfl) _ rfl
    clear K F hS xj qM n15
    rw [if_pos (by rfl)];unfold Oper.wp;go_simp
    exact ⟨upd f 13 (I G 1),by simp [upd,ud],dD (U xA) 13 _ (yi rfl) (by decide) (by decide),fun h=>by
     rw [gq (by decide)] at h ⊢
     obtain ⟨s2,D,X⟩:=U kg h
     exact ⟨s2,by rw [zq _ _ (by decide)]; exact D,fun h4=>X h4⟩⟩
   | 14,Y =>
    obtain rfl:=ya Y
    have kB:=F.c 13 (ye K 13 rfl) _ rfl
    clear K F hS xj qM n15
    rw [if_pos (by rfl)];unfold Oper.wp;go_simp
    exact ⟨upd f 14 (I G 2),by simp [upd,kB],dD (U xA) 14 _ (yi rfl) (by decide) (by decide),fun h=>by
     rw [gq (by decide)] at h ⊢
     obtain ⟨s2,D,X⟩:=U kg h
     exact ⟨s2,by rw [zq _ _ (by decide)]; exact D,fun h4=>X h4⟩⟩
   | 15,Y =>
    obtain rfl:=ya Y
    have kR:=F.c 14 (ye K 14 rfl) _ rfl
    have k11:x[11]? = some true:=K ⟨11,.data⟩ (by simp) rfl
    obtain ⟨hor,uZ⟩:=F.a k11 xu
    have y2:=uZ.cell (zb (U uk).box 2 rfl) (U uk).nq
    have q2:ho.frozen? (J G 2) = false:=(World.frozen?_of_block (a:=(J G 2)) (uZ.block G (U uk).lt (U uk).nq)).trans (zd (U uk).box 2 (by show 2 < 16; decide))
    obtain ⟨ga,gc,ql⟩:=rd_lenF (zV hor (by simp; omega))
    have ql:f 11 = .slice ga (g.l.length + 1) gc:=by rw [ql]; simp
    clear K F hS xj qM n15 hor uZ
    rw [if_pos (by rfl)];unfold Oper.wp;go_simp
    refine ⟨f,by simp [kR,ql],?_,fun h=>?_⟩
    ·have:=ra_store (U xA) k11 xu (by decide) (fun v u hu=>by cases hu)
     rw [ql] at this
     exact this
    ·obtain ⟨s2,D,_⟩:=U kg (by rwa [gq (by decide)] at h)
     exact ⟨s2,D,fun X=>by rw [gq (by decide),k11] at X; cases X⟩
   | i + 16,Y=>simp at Y
 ·rintro x hb V i op ⟨f,rfl,F⟩ xo hx Y xu K
  have xA:=M F
  have nw:i < 5→x[5]? = some false:=fun xM=>by
   rcases dm hx (show 5 < 6 by omega) with hq | hw
   ·exact hq
   ·exfalso
    have h4:=yf xo 5 rfl hw 4 rfl
    have h0:=yf xo 4 rfl h4 0 rfl
    have X:=yf xo 4 rfl h4 3 rfl
    have Q:=yf xo 3 rfl X 1 rfl
    have D:=yf xo 3 rfl X 2 rfl
    rcases (by omega:i = 0 ∨ i = 1 ∨ i = 2 ∨ i = 3 ∨ i = 4) with rfl | rfl | rfl | rfl | rfl
    ·exact absurd (h0.symm.trans xu) (by simp)
    ·exact absurd (Q.symm.trans xu) (by simp)
    ·exact absurd (D.symm.trans xu) (by simp)
    ·exact absurd (X.symm.trans xu) (by simp)
    ·exact absurd (h4.symm.trans xu) (by simp)
  have um:i < 5→yn W1 V:=fun h=>F.b (nw h)
  have xj:i < 5→∀ (p:Addr) u,W1.cell? p = some u→V.cell? p = some u:=fun h p u hu=>((um h).cell (yL W1 _ hu)).trans hu
  match i,Y with
  | 0,Y | 2,Y =>
   obtain rfl:=ya Y
   have CL:=xj (by omega)
   have e0:=CL (J w.heap.size 0) _ (zb (U HX) 0 rfl)
   have e1:=CL (J w.heap.size 1) _ (zb (U HX) 1 rfl)
   have e2:=CL (J w.heap.size 2) _ (zb (U HX) 2 rfl)
   have e3:=CL (J w.heap.size 3) _ (zb (U HX) 3 rfl)
   have e4:=CL (J w.heap.size 4) _ (zb (U HX) 4 rfl)
   have e5:=CL (J w.heap.size 5) _ (zb (U HX) 5 rfl)
   have e6:=CL (J w.heap.size 6) _ (zb (U HX) 6 rfl)
   have e7:=CL (J w.heap.size 7) _ (zb (U HX) 7 rfl)
   have e8:=CL (J w.heap.size 8) _ (zb (U HX) 8 rfl)
   have e9:=CL (J w.heap.size 9) _ (zb (U HX) 9 rfl)
   have vy:=CL (J w.heap.size 10) _ (zb (U HX) 10 rfl)
   have vz:=CL (J w.heap.size 11) _ (zb (U HX) 11 rfl)
   have qj:=CL (J w.heap.size 12) _ (zb (U HX) 12 rfl)
   have qk:=CL (J w.heap.size 13) _ (zb (U HX) 13 rfl)
   clear K F um xj nw CL
   rw [if_pos (by rfl)];unfold Oper.wp;go_simp
   exact ⟨upd f _ (.agg (yv xn ck cs ct cl cq ci cp cg id xl qty xm xk).toArray),by simp [upd],zI (U xA) _ _ ⟨yi rfl,⟨fun h=>absurd h (by decide),fun h=>absurd h (by decide)⟩⟩ (by decide)⟩
  | 1,Y =>
   obtain rfl:=ya Y
   have CL:=xj (by omega)
   clear K F um xj nw CL
   rw [if_pos (by rfl)];unfold Oper.wp;go_simp
   exact ⟨upd f 1 (I G 0),by simp [upd],zI (U xA) 1 _ ⟨yi rfl,⟨fun h=>absurd h (by decide),fun h=>absurd h (by decide)⟩⟩ (by decide)⟩
  | 3,Y =>
   obtain rfl:=ya Y
   have g1:=(F.c 1 (ye K 1 rfl)).1 _ rfl
   have g2:=(F.c 2 (ye K 2 rfl)).1 _ rfl
   have CL:=xj (by omega)
   have hw:=nw (by omega)
   have vk:=M (cB (U HB) (um (by omega)))
   have HGV:=M (zx (U HG) (um (by omega)))
   clear K F um xj nw CL
   rw [if_pos (by rfl)];unfold Oper.wp;go_simp
   refine (U jF V (U HGV)).mono ?_
   rintro y w4 ⟨hy,xy⟩
   by_cases hs:dr = 0
   ·rw [outD_ok hs] at hy
    subst hy
    exact ⟨upd f 3 (.agg #[H dk,H di,H dt,H dq,H dp]),by simp [upd,g1,g2,duV],zI (fo (U xA) hw xy) 3 _ ⟨yi rfl,fun _=>hs,fun h=>absurd h (by decide)⟩ (by decide)⟩
   ·rw [outD_no hs] at hy
    subst hy
    have HQ:=M (U ux)
    rw [if_pos hs] at HQ
    have kg:=M hs
    have uE:=M (cB (U vk) xy)
    clear hs xy
    go_wp2_with fail
    exact ⟨rfl,U vn _ _ (U HQ) (U kg) (U uE)⟩
  | 4,Y =>
   obtain rfl:=ya Y
   have g0:=(F.c 0 (ye K 0 rfl)).1 _ rfl
   have g3:=(F.c 3 (ye K 3 rfl)).1 _ rfl
   have CL:=xj (by omega)
   have hw:=nw (by omega)
   clear K F um xj nw CL
   rw [if_pos (by rfl)];unfold Oper.wp;go_simp
   refine (U aj V).mono ?_
   rintro y w4 ⟨rfl,xy⟩
   exact ⟨upd f 4 (.bool jb),by simp [upd,g0,g3],zI (fo (U xA) hw xy) 4 _ ⟨yi rfl,⟨fun h=>absurd h (by decide),fun h=>absurd h (by decide)⟩⟩ (by decide)⟩
  | 5,Y =>
   obtain rfl:=ya Y
   have g4:=(F.c 4 (ye K 4 rfl)).1 _ rfl
   have vk:=M (cB (U HB) (F.b xu))
   have h4:=K ⟨4,.data⟩ (by simp) rfl
   have X:=yf xo 4 rfl h4 3 rfl
   have vR:=(F.c 3 X).2.1 rfl
   have HQ:=M (U ux)
   rw [if_neg (not_not_intro vR)] at HQ
   clear K F um xj nw h4 X vR
   rw [if_pos (by rfl)];unfold Oper.wp;go_simp
   by_cases hj:jb = true
   ·have hd:=cN 13 V
    rw [← hj] at hd
    refine hd.mono ?_
    rintro e w4 ⟨rfl,rfl⟩
    exact ⟨upd f 5 (.tuple #[]),by simp [upd,g4],rw_lastv (T:=fun V=>V) (U xA) xu ⟨yi rfl,fun h=>absurd h (by decide),fun _=>hj⟩⟩
   ·have hj2:jb = false:=by simpa using hj
    have hd:=cG 13 V
    rw [← hj2] at hd
    refine hd.mono ?_
    rintro e w4 ⟨rfl,rfl⟩
    rw [if_neg hj] at HQ
    clear hj hj2 hd
    go_wp2_with fail
    exact ⟨rfl,U vn 13 _ (U HQ) (by decide) (U vk)⟩
  | i + 6,Y=>simp at Y
def fnK (k:Int):FuncId:=if k = 1 then 94 else if k = 2 then 95 else if k = 3 then 96 else if k = 4 then 97 else if k = 5 then 98 else if k = 6 then 99 else if k = 7 then 100 else if k = 8 then 101 else if k = 9 then 102 else (0:Nat)
theorem chk_any {G B r:Nat} {vq:Value} {g:Gr} (e:Ev) (w:World) (h:GS G B r w vq g) (hi:GI g) (he:okE e = true) (hg:e.cmd.g.size ≤ maxLen):Calls Tryz.prog (fnK e.kind) #[I G 0,evV e] w fun x w'=>Chk G B r vq g e w x w':=by
 have E:=okE_kind he
 rcases (show e.kind = 1 ∨ e.kind = 2 ∨ e.kind = 3 ∨ e.kind = 4 ∨ e.kind = 5 ∨ e.kind = 6 ∨ e.kind = 7 ∨ e.kind = 8 ∨ e.kind = 9 by omega) with k | k | k | k | k | k | k | k | k
 ·rw [show fnK e.kind = 94 by simp [fnK,k]]; exact accept_chk e w h hi he k hg
 ·rw [show fnK e.kind = 95 by simp [fnK,k]]; exact refuse_chk e w h hi he k hg
 ·rw [show fnK e.kind = 96 by simp [fnK,k]]; exact trade_chk e w h hi he k hg
 ·rw [show fnK e.kind = 97 by simp [fnK,k]]; exact rest_chk e w h hi he k hg
 ·rw [show fnK e.kind = 98 by simp [fnK,k]]; exact drop_chk e w h hi he k hg
 ·rw [show fnK e.kind = 99 by simp [fnK,k]]; exact cancel_chk e w h hi he k hg
 ·rw [show fnK e.kind = 100 by simp [fnK,k]]; exact reduce_chk e w h hi he k hg
 ·rw [show fnK e.kind = 101 by simp [fnK,k]]; exact endDay_chk e w h hi he k hg
 ·rw [show fnK e.kind = 102 by simp [fnK,k]]; exact expire_chk e w h hi he k hg
theorem lookI_run {W:World} {r:Nat} (k:Int) (E:1 ≤ k∧k ≤ 9) (A:W.heap[r]? = some (.map chkM 9)) :
  (Instr.lookup 61 (.map (some r)) (H k) false).run Tryz.prog W = .ok (.func (.func (fnK k)) #[] #[]) W:=by
 have hu:=Tryz.underlying3
 have hc:∀ e,(Instr.checkKey e 10000 3 (H k)).run Tryz.prog W = .ok () W:=fun e=>MapKept.run_checkKey (k:=H k) hu (by simp [MapKept.IsKey]) e 9999
 have hf:∃ i,Instr.findNow (TypeDesc.int .i64) (H k) chkM.toList 0 = some (some (i,.func (.func (fnK k)) #[] #[])):=by
  rcases (show k = 1 ∨ k = 2 ∨ k = 3 ∨ k = 4 ∨ k = 5 ∨ k = 6 ∨ k = 7 ∨ k = 8 ∨ k = 9 by omega) with rfl | rfl | rfl | rfl | rfl | rfl | rfl | rfl | rfl
  all_goals exact ⟨_,rfl⟩
 obtain ⟨i,hf⟩:=hf
 simp [Instr.lookup,run_underlying Tryz.underlying61,MapKept.run_getObj_map A,hc,MapKept.run_findKey hu hf,Result.andThen]
theorem ta_br (k:Int) (w:World):(Instr.typeAssert (.iface 106 (H k)) 20 106 true).run Tryz.prog w = .ok (.tuple #[H k,.bool true]) w:=by kernel_rfl
theorem ta_brn (w:World):(Instr.typeAssert .nilIface 20 106 true).run Tryz.prog w = .ok (.tuple #[H 0,.bool false]) w:=by kernel_rfl
theorem catchA_panicking (p:Addr) (x:Value) (k:Int) (older:List PanicEntry) (w:World) (hc:w.cell? p = some x) (hz:w.frozen? p = false) :
  CallsD Tryz.prog 51 #[.pointer (some p)] (.panicking ({ v:=brV k,recovered:=false } :: older)) w fun e u' w' =>
   e = .returned (.tuple #[])∧u' = .panicking ({ v:=brV k,recovered:=true } :: older)∧w' = w.setCell p (H k):=by
 refine callsD_of_wpS Tryz.func51 rfl fun c₀ cs hu=>?_
 simp only [brV] at hu ⊢
 apply wpS_seq
 apply wpS_region
 simp [wpOpsS,go_sem,recoverD,hu,Tryz.ntmps51,Exit.thenS,ta_br]
 apply wpS_seq
 apply wpS_region
 simp [wpOpsS,go_sem,Exit.thenS]
 refine wpS_cond (t:=true) (by simp [Act.eval,Array.replicate]) ?_
 simp only [if_true]
 apply wpS_region
 simp [wpOpsS,go_sem,hc,hz,bodyPostS,results,Tryz.results51]
theorem catchA_idle (p:Addr) (w:World) :
  CallsD Tryz.prog 51 #[.pointer (some p)] .returning w fun e u' w'=>e = .returned (.tuple #[])∧u' = .returning∧w' = w:=by
 refine callsD_of_wpS Tryz.func51 rfl fun c₀ cs hu=>?_
 apply wpS_seq
 apply wpS_region
 simp [wpOpsS,go_sem,recoverD,hu,Tryz.ntmps51,Exit.thenS,ta_brn]
 apply wpS_seq
 apply wpS_region
 simp [wpOpsS,go_sem,Exit.thenS]
 refine wpS_cond (t:=false) (by simp [Act.eval,Array.replicate]) ?_
 simp only [Bool.false_eq_true,if_false]
 refine wpS_of_wp (wp_skip ?_)
 cases c₀
 simp_all [bodyPostS,results,Tryz.results51]
theorem below_set1 {B b:Nat} {w W:World} {u:Value} (h:Below B w W) (A:B ≤ b):Below B w (W.setCell (J b 0) u) :=
 ⟨h.os,h.tape,h.output,by have:=h.size; simpa [World.setCell] using this,fun k E=>(yT _ _ _ _ (by show k ≠ b; omega)).trans (h.block k E)⟩
theorem gs_far {G B r b:Nat} {W:World} {vq:Value} {g:Gr} {u:Value} (h:GS G B r W vq g) (A:b ≠ G) (ht:∃ xz,W.heap[b]? = some (.cells xz 3 (0,0))):GS G B r (W.setCell (J b 0) u) vq g:=by
 have hr:r ≠ b:=by
  rintro rfl
  obtain ⟨xz,hc⟩:=ht
  rw [h.mp] at hc
  cases hc
 obtain ⟨xz,hc⟩:=h.typ
 exact ⟨fd h.box (Ne.symm A),cw h.row (df h.row ht (by decide)) 0 u,⟨xz,(yT _ _ _ _ (Ne.symm A)).trans hc⟩,(yT _ _ _ _ hr).trans h.mp,h.hG,h.hr⟩
theorem step_bg {g:Gr} {e:Ev}:bV g e = { takG g e with bg:=begG g e }:=by
 unfold takG bV
 repeat' split
 all_goals rfl
def AddE (G B r:Nat) (g:Gr) (e:Ev) (w:World) (x:Ending) (w':World):Prop:=x = .returned (H (zD g e))∧Below B w w'∧(zD g e = 0→∃ uG,GS G B r w' uG (bV g e))
theorem add_any {G B r:Nat} {vq:Value} {g:Gr} (e:Ev) (w:World) (h:GS G B r w vq g) (hi:GI g) (he:okE e = true) (hg:e.cmd.g.size ≤ maxLen):Calls Tryz.prog 20 #[I G 0,evV e] w fun x w'=>AddE G B r g e w x w':=by
 have hsf:=sfl
 have hmf:∀ (fn:Fn) (first cap:Array Value) (w:World),(Instr.makeFunc fn first cap).run Tryz.prog w = .ok (.func fn first cap) w:=fun _ _ _ _=>rfl
 have hG:=h.lt
 have jU:=h.base
 have HCH:=M (fun W (hW:GS G B r W vq g)=>chk_any e W hW hi he hg)
 have au:=M (fun W hW=>lookI_run (W:=W) (r:=r) e.kind (okE_kind he) hW)
 have HFK:Hid (fnK e.kind = 94 ∨ fnK e.kind = 95 ∨ fnK e.kind = 96 ∨ fnK e.kind = 97 ∨ fnK e.kind = 98 ∨ fnK e.kind = 99 ∨ fnK e.kind = 100 ∨ fnK e.kind = 101 ∨ fnK e.kind = 102):=by
  have E:=okE_kind he
  rcases (show e.kind = 1 ∨ e.kind = 2 ∨ e.kind = 3 ∨ e.kind = 4 ∨ e.kind = 5 ∨ e.kind = 6 ∨ e.kind = 7 ∨ e.kind = 8 ∨ e.kind = 9 by omega) with k | k | k | k | k | k | k | k | k <;> (show _ ∨ _; simp [fnK,k])
 have HKD:Hid (bV g e = { takG g e with bg:=if g.bg = 0 then e.kind else g.bg }):=step_bg
 have HCE:Hid (∀ x w',x = .returned (H (zD g e))→Below B w w'→(zD g e = 0→∃ uG,GS G B r w' uG (bV g e))→AddE G B r g e w x w'):=fun x w' Q D X=>⟨Q,D,X⟩
 have HTB:Hid ((takG g e).bg = g.bg):=rfl
 unfold Chk at HCH
 generalize AddE G B r g e w = C at HCE ⊢
 generalize zD g e = ru at HCH HCE
 generalize bV g e = g2 at HKD HCE
 generalize takG g e = g1 at HCH HKD HTB
 generalize fnK e.kind = fk at HCH au HFK
 obtain ⟨xn,⟨ck,cs,ct,cl,cq,ci,cp,cg⟩,id,xl,qty,xm,xk⟩:=e
 unfold evV at HCH ⊢
 simp only at HCH au HKD ⊢
 have qH:(w.alloc (O (yv xn ck cs ct cl cq ci cp cg id xl qty xm xk).toArray 37)).heap.size = w.heap.size + 1:=by simp
 have xR:=gZ w (O (yv xn ck cs ct cl cq ci cp cg id xl qty xm xk).toArray 37)
 have ub:Below (w.heap.size + 1) (w.alloc (O (yv xn ck cs ct cl cq ci cp cg id xl qty xm xk).toArray 37)) ((w.alloc (O (yv xn ck cs ct cl cq ci cp cg id xl qty xm xk).toArray 37)).alloc (O #[H 0] 3)):=(Below.refl _ _).alloc (by rw [qH]; omega) _
 have HS:Hid (((w.alloc (O (yv xn ck cs ct cl cq ci cp cg id xl qty xm xk).toArray 37)).alloc (O #[H 0] 3)).heap.size = w.heap.size + 1 + 1):=by show _ = _; simp
 have HX:=M (zl (zy w (yv xn ck cs ct cl cq ci cp cg id xl qty xm xk) 37) ub (by omega))
 have HY:Hid (Bx ((w.alloc (O (yv xn ck cs ct cl cq ci cp cg id xl qty xm xk).toArray 37)).alloc (O #[H 0] 3)) (w.heap.size + 1) [H 0]):=by
  have:=zy (w.alloc (O (yv xn ck cs ct cl cq ci cp cg id xl qty xm xk).toArray 37)) [H 0] 3
  rwa [qH] at this
 have HYT:Hid (∃ xz,((w.alloc (O (yv xn ck cs ct cl cq ci cp cg id xl qty xm xk).toArray 37)).alloc (O #[H 0] 3)).heap[w.heap.size + 1]? = some (.cells xz 3 (0,0))):=by
  have:=heap_alloc_new (w.alloc (O (yv xn ck cs ct cl cq ci cp cg id xl qty xm xk).toArray 37)) (O #[H 0] 3)
  rw [qH] at this
  exact ⟨_,this⟩
 have xZ:Hid (yn w ((w.alloc (O (yv xn ck cs ct cl cq ci cp cg id xl qty xm xk).toArray 37)).alloc (O #[H 0] 3))):=xR.trans (ub.mono (by omega))
 have HB:Hid (Below B w ((w.alloc (O (yv xn ck cs ct cl cq ci cp cg id xl qty xm xk).toArray 37)).alloc (O #[H 0] 3))):=(U xZ).mono jU
 have HG:=M (zx h (U xZ))
 have HGW:=M h
 clear h xR hi ub qH he hg xZ
 go_enter_defers Tryz.func20,Tryz.ntmps20
 go_wp2_with fail
 generalize ((w.alloc (O (yv xn ck cs ct cl cq ci cp cg id xl qty xm xk).toArray 37)).alloc (O #[H 0] 3)) = h3 at HS HX HY HYT HG HB ⊢
 have vJ:Hid (Bx h3.drew w.heap.size (yv xn ck cs ct cl cq ci cp cg id xl qty xm xk)):=cf (U HX)
 have HYD:Hid (Bx h3.drew (w.heap.size + 1) [H 0]):=cf (U HY)
 have qg:Hid (GS G B r h3.drew vq g):=zx (U HG) ⟨rfl,rfl,rfl,Nat.le_refl _,fun _ _=>rfl⟩
 have af:Hid (Below B w h3.drew):=⟨(U HB).os,(U HB).tape,(U HB).output,(U HB).size,(U HB).block⟩
 have hSD:w.heap.size + 1 < h3.drew.heap.size:=by show w.heap.size + 1 < h3.heap.size; have:=U HS; omega
 clear HX HY HG HB HS
 obtain ⟨e0,e1,e2,e3,e4,e5,e6,e7,e8,e9,vy,vz,qj,qk⟩:=yz (U vJ)
 have c0:h3.drew.cell? (J G 0) = some (.map (some r)):=zb (U qg).box 0 rfl
 have kD:=U au h3.drew (U qg).mp
 have kM:vq.ownBlock ≠ some (w.heap.size + 1):=fun e=>by have:=((U HGW).row.lt _ e).2; omega
 have HNR2:vq.ownBlock ≠ some w.heap.size:=fun e=>by have:=((U HGW).row.lt _ e).2; omega
 refine zS 9 (by kernel_rfl) (by kernel_rfl) ?_
 simp only [yU,List.take_zero,yV,List.drop_zero]
 repeat still_step
 refine wpStill_nil ?_
 clear kD c0 e0 e1 e2 e3 e4 e5 e6 e7 e8 e9 vy vz qj qk
 go_wp2_with fail
 rcases U HFK with rfl | rfl | rfl | rfl | rfl | rfl | rfl | rfl | rfl
 all_goals
  clear HFK au
  go_wp2_with fail
  refine (U HCH h3.drew (U qg)).mono ?_
  clear HCH
  rintro x w2 ⟨hx,hk2,ug⟩
  have xt:=M ((U af).trans (kp_to hk2 (U qg)))
  have ur:=(U qg).row
  have hY2:Bx w2 (w.heap.size + 1) [H 0]:=cE (U HYD) (hk2.block (w.heap.size + 1) hSD (by omega) (fun e=>kM e.symm))
  have pK:Bx w2 w.heap.size (yv xn ck cs ct cl cq ci cp cg id xl qty xm xk):=cE (U vJ) (hk2.block w.heap.size (by omega) (by omega) (fun e=>HNR2 e.symm))
  have jj:=M hY2
  have HYT2:Hid (∃ xz,w2.heap[w.heap.size + 1]? = some (.cells xz 3 (0,0))):=by
   obtain ⟨xz,hc⟩:=U HYT
   exact ⟨xz,(hk2.block (w.heap.size + 1) hSD (by omega) (fun e=>kM e.symm)).trans hc⟩
  have xW:=M pK
  have vZ:=M ug
  clear hk2 ug ur pK hY2
  by_cases hr:ru = 0
  case neg =>
   rw [outR_no hr] at hx
   subst hx
   have z0:=zb (U jj) 0 rfl
   have f0:=zd (U jj) 0 (by decide)
   have HR:=M hr
   clear hr
   go_wp2_with fail
   refine leaves_cons (f:=51) (args:=#[I (w.heap.size + 1) 0]) (by simp) (by simp [go_sem]) ?_
   refine (catchA_panicking (J (w.heap.size + 1) 0) (H 0) ru [] _ z0 f0).mono ?_
   rintro e u' w'' ⟨rfl,rfl,rfl⟩
   simp [Leaves,settle,results,Tryz.results20,go_sem,yN _ _ (H ru) z0]
   exact U HCE _ _ rfl (below_set1 (U xt) (by omega)) (fun h=>absurd h (U HR))
  rw [outR_ok hr] at hx
  subst hx
  obtain ⟨uG,jZ⟩:=U vZ hr
  have uS:=M jZ
  have HR:=M hr
  have c3:w2.cell? (J G 3) = some (H g.bg):=by
   have:=zb (U uS).box 3 rfl
   rw [← U HTB]
   exact this
  have q3:=zd (U uS).box 3 (by show 3 < 16; decide)
  have x0:=zb (U xW) 0 rfl
  by_cases h0:g.bg = 0
  ·have b0:(g.bg == 0) = true:=by simpa using h0
   have kL:=M (U HKD)
   rw [if_pos h0] at kL
   have HY3:Hid (Bx (w2.setCell (J G 3) (H xn)) (w.heap.size + 1) [H 0]):=fd (U jj) (by omega)
   have uk:Hid (GS G B r (w2.setCell (J G 3) (H xn)) uG { g1 with bg:=xn }):=gs_set (U uS) 3 _ (by decide) rfl rfl
   have HYT4:Hid (∃ xz,(w2.setCell (J G 3) (H xn)).heap[w.heap.size + 1]? = some (.cells xz 3 (0,0))):=by
    obtain ⟨xz,hc⟩:=U HYT2
    exact ⟨xz,(yT _ _ _ _ (by show w.heap.size + 1 ≠ G; omega)).trans hc⟩
   have xO:=M (below_setG (U xt) hU (U uS) 3 (H xn))
   have z0:=zb (U HY3) 0 rfl
   have f0:=zd (U HY3) 0 (by decide)
   clear h0 hr
   go_wp2_with fail
   refine leaves_cons (f:=51) (args:=#[I (w.heap.size + 1) 0]) (by simp) (by simp [go_sem]) ?_
   refine (catchA_idle (J (w.heap.size + 1) 0) _).mono ?_
   rintro e u' w'' ⟨rfl,rfl,rfl⟩
   simp [Leaves,settle,results,Tryz.results20,go_sem,yN _ _ (H 0) z0]
   exact U HCE _ _ (by rw [U HR]) (below_set1 (U xO) (by omega)) (fun _=>⟨uG,by rw [U kL]; exact gs_far (U uk) (by omega) (U HYT4)⟩)
  ·have b0:(g.bg == 0) = false:=by simpa using h0
   have kL:Hid (g2 = g1):=by
    show _ = _
    rw [U HKD,if_neg h0,← U HTB]
   have z0:=zb (U jj) 0 rfl
   have f0:=zd (U jj) 0 (by decide)
   clear h0 hr
   go_wp2_with fail
   refine leaves_cons (f:=51) (args:=#[I (w.heap.size + 1) 0]) (by simp) (by simp [go_sem]) ?_
   refine (catchA_idle (J (w.heap.size + 1) 0) _).mono ?_
   rintro e u' w'' ⟨rfl,rfl,rfl⟩
   simp [Leaves,settle,results,Tryz.results20,go_sem,yN _ _ (H 0) z0]
   exact U HCE _ _ (by rw [U HR]) (below_set1 (U xt) (by omega)) (fun _=>⟨uG,by rw [U kL]; exact gs_far (U uS) (by omega) (U HYT2)⟩)
structure MUp (r:Nat) (w w':World):Prop where
 os:w'.os = w.os
 tape:w'.tape = w.tape
 output:w'.output = w.output
 size:w'.heap.size = w.heap.size
 block:∀ k,k ≠ r→w'.heap[k]? = w.heap[k]?
theorem eG {r:Nat} {w w1 w2:World} (Q:MUp r w w1) (D:MUp r w1 w2):MUp r w w2 :=
 ⟨D.os.trans Q.os,D.tape.trans Q.tape,D.output.trans Q.output,D.size.trans Q.size,fun k E=>(D.block k E).trans (Q.block k E)⟩
theorem stepI {W:World} {r clk:Nat} {es:Array MapEntry} (k:Int) (f:FuncId) (A:W.heap[r]? = some (.map es clk)) (hf:Instr.findNow (TypeDesc.int .i64) (H k) es.toList 0 = some none) :
  ∃ W1,(Instr.mapUpdate 61 (.map (some r)) (H k) (.func (.func f) #[] #[])).run Tryz.prog W = .ok () W1∧W1.heap[r]? = some (.map (es.push (mI k f clk)) (clk + 1))∧MUp r W W1:=by
 have E:=Tryz.underlying3
 have hc:(Instr.checkKey false 10000 3 (H k)).run Tryz.prog W = .ok () W:=MapKept.run_checkKey (k:=H k) E (by simp [MapKept.IsKey]) false 9999
 refine ⟨{ W with heap:=W.heap.setIfInBounds r (.map (es.push (mI k f clk)) (clk + 1)) },?_,(MapKept.heap_set A).1,⟨rfl,rfl,rfl,by simp,fun j hj=>?_⟩⟩
 ·simp [Instr.mapUpdate,run_underlying Tryz.underlying61,MapKept.run_getObj_map A,hc,MapKept.run_findKey E hf,MapKept.run_setObj_map _ A,Result.andThen,mI]
 ·show (W.heap.setIfInBounds r _)[j]? = _
  exact Array.getElem?_setIfInBounds_ne (Ne.symm hj)
theorem gs_new {w W:World} {r:Nat} {next:Int} {vq:Value} {l:List Od} (A:yn w W) (Y:ORow W w.heap.size vq l) (hm:W.heap[r]? = some (.map chkM 9)) (hr:w.heap.size ≤ r) :
  GS W.heap.size w.heap.size r (W.alloc (O (gsV r vq (gr0 next l)).toArray 67)) vq (gr0 next l)∧yn w (W.alloc (O (gsV r vq (gr0 next l)).toArray 67)):=by
 have qv:=gZ W (O (gsV r vq (gr0 next l)).toArray 67)
 exact ⟨⟨zy W _ _,zp Y qv,⟨_,heap_alloc_new W _⟩,(qv.block r (yZ.1 hm).1).trans hm,A.size,hr⟩,A.trans (qv.mono A.size)⟩
theorem beginGroup_any (next:Int) (v:Value) (l:List Od) (w:World) (hr:RdR Od.vs 6 w v l) (hs:SlOk v) (hn:l.length ≤ 1000) :
  Calls Tryz.prog 50 #[.agg #[H next,v]] w fun e w'=>∃ G r vq,e = .returned (I G 0)∧GS G w.heap.size r w' vq (gr0 next l)∧yn w w':=by
 have hmm:=@run_makeMap Tryz.prog
 have hmp:=@run_makeMap_plain Tryz.prog
 have xF:(w.alloc (O #[H next,v] 27)).heap.size = w.heap.size + 1:=by simp
 have h0:((w.alloc (O #[H next,v] 27)).alloc (Obj.map #[] 0)).heap[w.heap.size + 1]? = some (.map #[] 0):=by
  have:=(MapKept.heap_alloc (w.alloc (O #[H next,v] 27)) (Obj.map #[] 0)).1
  rwa [xF] at this
 have xR:yn w ((w.alloc (O #[H next,v] 27)).alloc (Obj.map #[] 0)):=(gZ _ _).alloc (by rw [xF]; omega) _
 have hx0:Bx ((w.alloc (O #[H next,v] 27)).alloc (Obj.map #[] 0)) w.heap.size [H next,v]:=zl (zy w [H next,v] 27) ((Below.refl (w.heap.size + 1) _).alloc (by rw [xF]; omega) _) (by omega)
 obtain ⟨W1,u1,o1,m1⟩:=stepI 1 94 h0 rfl
 obtain ⟨W2,u2,o2,m2⟩:=stepI 2 95 o1 rfl
 obtain ⟨W3,u3,o3,m3⟩:=stepI 3 96 o2 rfl
 obtain ⟨W4,u4,o4,m4⟩:=stepI 4 97 o3 rfl
 obtain ⟨W5,u5,o5,m5⟩:=stepI 5 98 o4 rfl
 obtain ⟨W6,u6,o6,m6⟩:=stepI 6 99 o5 rfl
 obtain ⟨W7,u7,o7,m7⟩:=stepI 7 100 o6 rfl
 obtain ⟨W8,u8,o8,m8⟩:=stepI 8 101 o7 rfl
 obtain ⟨W9,u9,o9,m9⟩:=stepI 9 102 o8 rfl
 have hm:=eG (eG (eG (eG (eG (eG (eG (eG m1 m2) m3) m4) m5) m6) m7) m8) m9
 have ay:Hid (W9.heap[w.heap.size + 1]? = some (.map chkM 9)):=o9
 have hb9:yn w W9:=⟨hm.os.trans xR.os,hm.tape.trans xR.tape,hm.output.trans xR.output,by rw [hm.size]; exact xR.size,fun k E=>(hm.block k (by omega)).trans (xR.block k E)⟩
 have HX9:Hid (Bx W9 w.heap.size [H next,v]):=cE hx0 (hm.block w.heap.size (by omega))
 have qI:=M hb9
 have HR9:=M (zh hr hb9 hU)
 have qn:=M hs
 clear h0 xR hx0 o1 o2 o3 o4 o5 o6 o7 o8 o9 m1 m2 m3 m4 m5 m6 m7 m8 m9 hm hb9 hr hs xF
 go_enter Tryz.func50,Tryz.ntmps50
 have x0:=zb (U HX9) 0 rfl
 have x1:=zb (U HX9) 1 rfl
 go_wp2_with fail
 refine (copyBook_any next v l W9 (U HR9) (U qn) hn).mono ?_
 rintro e w3 ⟨vq,rfl,bM,xQ⟩
 have HGN:=M (gs_new (next:=next) (ia (U qI) xQ) (dE bM (U qI).size) ((xQ.block (w.heap.size + 1) (yZ.1 (U ay)).1).trans (U ay)) (Nat.le_succ _))
 clear bM xQ u1 u2 u3 u4 u5 u6 u7 u8 u9 x0 x1
 unfold gsV gr0 zCm zOd at HGN
 go_wp2_with fail
 go_ret
 exact ⟨_,_,vq,rfl,(U HGN).1,(U HGN).2⟩
end Go.Proofs.YthhkapcbocgcoaaGreatDoor
