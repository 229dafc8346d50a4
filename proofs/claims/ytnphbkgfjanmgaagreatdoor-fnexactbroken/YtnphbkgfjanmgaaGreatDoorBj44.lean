/-
  What is left of an order put into the book in a group, by the program: proved by walking the method.
-/
import Derived.Test.YtnphbkgfjanmgaaGreatDoorBj37
import Derived.Test.YtnphbkgfjanmgaaGreatDoorBj41
import Derived.Test.YtnphbkgfjanmgaaGreatDoorBj42
import Derived.Test.YtnphbkgfjanmgaaGreatDoorBj43
import Derived.MapKept
set_option linter.unusedVariables false
set_option maxHeartbeats 6400000
set_option maxRecDepth 100000
namespace Go.Proofs.YtnphbkgfjanmgaaGreatDoor
open Go.RowKit
def RRA (B G:Nat) (base:World) (cl:(Nat→Value)→Act) (vs:List (Option Value)) (vq:Value) (g:Gr) (x:List Bool) (a:Act) (W:World):Prop :=
 ∃ f,a = cl f∧RA (fun j v=>∀ u,vs[j]? = some (some u)→v = u) 11 15 (U G 2) (App B base vq (g.l ++ [g.tk])) base x f W∧(x[10]? = some true→∃ s,f 10 = .slice (some (U s 0)) 1 1∧(x[11]? = some false→∀ j u,g.tk.vs[j]? = some u→W.cell? (Addr.add (U s 0) j) = some u))
theorem rest_chk {G B r:Nat} {vq:Value} {g:Gr} (e:Ev) (w:World) (h:GS G B r w vq g) (hi:GI g) (he:okE e = true) (hk:e.kind = 4) (hg:e.cmd.g.size ≤ maxLen):Calls Tryz.prog 90 #[J G 0,evV e] w fun x w'=>Chk G B r vq g e w x w':=by
 have hsf:=sfl
 have hG:=h.lt
 have vV:=h.base
 have uo:Hid (zD g e = if dueR g e ≠ 0 then dueR g e else if aW e (dueG g) = true then 0 else 13):=by show _ = _; simp [zD,hk]
 have uU:Hid (takG g e = ⟨g.nx,g.l ++ [g.tk],g.bg,g.cm,{ g.tk with left:=0 }⟩):=by show _ = _; rw [takG,step4 hk]
 have vH:Hid (∀ k w',zD g e = k→k ≠ 0→Kp G vq w w'→Chk G B r vq g e w (.panicked (brk k)) w'):=fun k w' Q E h3=>chk_no Q E h3
 have uw:Hid (∀ w' uH,zD g e = 0→Kp G vq w w'→GS G B r w' uH (takG g e)→Chk G B r vq g e w (.returned (.tuple #[])) w'):=fun w' uH Q E h3=>chk_ok Q E h3
 have jy:Hid (∀ W,GS G B r W vq g→Calls Tryz.prog 137 #[J G 0,evV e] W fun x w'=>x = outD (dueR g e) (dueG g)∧yn W w'):=fun W hW=>eJ e W hW hi
 have pI:Hid (∀ W,Calls Tryz.prog 139 #[evV e,duV (dueG g)] W fun r w'=>r = .returned (.bool (aW e (dueG g)))∧yn W w'):=fun W=>isJust_any e (dueG g) W
 have HR45:Hid (zD g e = 0→g.bg = 1∧g.tk.left ≠ 0):=rule45 (by omega)
 have HI:=M hi
 generalize Chk G B r vq g e w = C at vH uw ⊢
 generalize zD g e = ru at vH uw uo HR45
 generalize takG g e = g' at uU uw
 generalize dueR g e = dr at jy uo
 generalize aW e (dueG g) = jb at pI uo
 generalize dueG g = d at jy pI
 obtain ⟨xm,⟨ck,L,ct,F,cq,ci,X,cg⟩,id,xi,qty,xj,xh⟩:=e
 simp only at hk hg
 try simp only at uo uU
 obtain ⟨dk,di,dt,dq,dp⟩:=d
 unfold evV at jy pI
 unfold duV at pI
 simp only at jy pI
 unfold evV
 simp only
 obtain ⟨xz,HX⟩:=fJ w (yv xm ck L ct F cq ci X cg id xi qty xj xh) 52
 have HS:Hid ((w.alloc (A (yv xm ck L ct F cq ci X cg id xi qty xj xh).toArray 52)).heap.size = w.heap.size + 1):=by show _ = _; simp
 have HG:=M (zx h xz)
 have HB:Hid (Kp G vq w (w.alloc (A (yv xm ck L ct F cq ci X cg id xi qty xj xh).toArray 52))):=kp_of xz
 clear h xz hi he hk hg
 go_enter Tryz.func90,Tryz.ntmps90
 refine fI fun hR HK=>?_
 go_wp2_with fail
 refine H HK _ _ ?_
 clear HK
 generalize (w.alloc (A (yv xm ck L ct F cq ci X cg id xi qty xj xh).toArray 52)) = W1 at HS HX HG HB ⊢
 go_wp2_with fail
 refine zk (RWA (fun f=>{ tmps:=#[J G 0,.agg (yv xm ck L ct F cq ci X cg id xi qty xj xh).toArray,Z,J w.heap.size 0,f 0,f 1,f 2,f 3,f 4,f 5,Z,Z,Z,Z,Z,Z,Z,Z,Z,Z,Z,Z,Z,Z,Z,Z,Z,Z,Z],defers:=[] }) (CVw [some (.agg (yv xm ck L ct F cq ci X cg id xi qty xj xh).toArray),some (J G 0),some (.agg (yv xm ck L ct F cq ci X cg id xi qty xj xh).toArray),some (.agg #[I dk,I di,I dt,I dq,I dp]),some (.bool jb),some (.tuple #[])] (fun j=>(j = 3→dr = 0)∧(j = 5→jb = true))) 5 (fun xn=>xn) W1) (by kernel_rfl) ?_ ?_ ?_
 ·exact ⟨fun _=>Z,rfl,⟨fun j O=>by rw [yI] at O; split at O <;> simp at O,fun _=>⟨rfl,rfl,rfl,Nat.le_refl _,fun _ _=>rfl⟩,fun O=>by rw [yI] at O; split at O <;> simp at O⟩⟩
 ·rintro x fG xn ⟨f,rfl,K⟩ hx xN
  have xo:=zN xN hx (acyc _ (by kernel_rfl))
  obtain ⟨V0,xz,eV⟩:=K.m (xo 5 (by simp))
  have ja:=(K.c 3 (xo 3 (by simp))).2.1 rfl
  have hjb:=(K.c 5 (xo 5 (by simp))).2.2 rfl
  have HQ:=M (H uo)
  rw [if_neg (not_not_intro ja),if_pos hjb] at HQ
  subst eV
  have ut:=M (zx (H HG) xz)
  have xG:=M (bj (H HB) xz)
  clear K xo xN hx xz ja hjb uo jy pI HX HS HG HB
  dsimp only
  generalize f 0 = v0,f 1 = v1,f 2 = v2,f 3 = v3,f 4 = v4,f 5 = v5
  obtain ⟨i0,vA,uL,uM,uF⟩:=info_parts Tryz.infoOrder
  have jk:g.l.length ≤ 20:=((H HI).good (.inr (H HR45 (H HQ)).2)).len
  go_wp2_with fail
  refine zk (RRA B G xn (fun f=>{ tmps:=#[J G 0,.agg (yv xm ck L ct F cq ci X cg id xi qty xj xh).toArray,Z,J w.heap.size 0,v0,v1,v2,v3,v4,v5,f 0,f 1,f 2,f 3,f 4,f 5,f 6,f 7,f 8,f 9,f 10,f 11,f 12,f 13,f 14,Z,Z,Z,Z],defers:=[] }) [some (J G 0),some (J G 0),some (J G 0),some (J G 1),some (J G 2),some (vq),some (J G 0),some (J G 0),some (J G 10),some (.agg (yw g.tk.id g.tk.side g.tk.ticks g.tk.left g.tk.life g.tk.tag).toArray),none,none,some (J G 0),some (J G 1),some (J G 2),none] vq g) (by kernel_rfl) ?_ ?_ ?_
  ·exact ⟨fun _=>Z,rfl,⟨fun j O=>by rw [yI] at O; split at O <;> simp at O,fun _=>⟨rfl,rfl,rfl,Nat.le_refl _,fun _ _=>rfl⟩,fun O=>by rw [yI] at O; split at O <;> simp at O,fun O=>by rw [yI] at O; split at O <;> simp at O⟩,fun O=>by rw [yI] at O; split at O <;> simp at O⟩
  ·rintro x fG hb ⟨f,rfl,K,hS⟩ hx xN
   have xo:=zN xN hx (acyc _ (by kernel_rfl))
   obtain ⟨W0,⟨N,hg⟩,eY⟩:=K.z (xo 15 (by simp))
   have ht:TookAt G 1 vq.ownBlock xn hb:=by rw [eY]; exact dC (cV hg (H ut).lt (H ut).nq) (took_set (o:=1) _ _)
   have hcG:W0.cell? (U G 2) = some vq:=hg.cell (R (H ut).box 2 rfl) (H ut).nq
   have hc:hb.cell? (U G 2) = some (f 11):=by rw [eY]; exact yM _ _ _ hcG
   have kD:∃ xF,W0.heap[G]? = some (.cells xF 87 (0,0)):=by
    obtain ⟨xF,Q⟩:=(H ut).typ
    exact ⟨xF,(hg.block G (H ut).lt (H ut).nq).trans Q⟩
   have kI:ORow hb B (f 11) (g.l ++ [g.tk]):=by rw [eY]; exact bp N (cd N kD (by decide)) 2 _
   have uE:=M (gs_took (H ut) hc kI ht)
   have ug:=M (kp_took (H xG) ht)
   clear K hS xo xN hx N hg eY ht hcG hc kD kI
   dsimp only
   generalize f 0 = u0,f 1 = u1,f 2 = u2,f 3 = u3,f 4 = u4,f 5 = u5,f 6 = u6,f 7 = u7,f 8 = u8,f 9 = u9,f 10 = u10
   generalize f 11 = u11 at *
   generalize f 12 = u12,f 13 = u13,f 14 = u14
   have c13:=R (H uE).box 13 rfl
   have q13:=zd (H uE).box 13 (by show 13 < 16; decide)
   go_wp2_with fail
   go_end0
   refine H uw _ u11 (H HQ) (kp_set (H ug) 13 _) ?_
   rw [H uU]
   exact gs_set (H uE) 13 _ (by decide) rfl rfl
  ·rintro x fG hb i op ⟨f,rfl,K,hS⟩ V hx N xq D
   have xt:=M K
   have jB:=M hS
   have qN:i < 12→i ≠ 0→x[11]? = some false:=fun xI h0=>by
    rcases bB hx (show 11 < 16 by omega) with hq | uS
    ·exact hq
    ·exfalso
     have h5:=yf V 11 rfl uS 5 rfl
     have uV:=yf V 11 rfl uS 10 rfl
     have h4:=yf V 5 rfl h5 4 rfl
     have h3:=yf V 4 rfl h4 3 rfl
     have E:=yf V 3 rfl h3 2 rfl
     have Q:=yf V 2 rfl E 1 rfl
     have h9:=yf V 10 rfl uV 9 rfl
     have h8:=yf V 9 rfl h9 8 rfl
     have h7:=yf V 8 rfl h8 7 rfl
     have h6:=yf V 7 rfl h7 6 rfl
     rcases (by omega:i = 1 ∨ i = 2 ∨ i = 3 ∨ i = 4 ∨ i = 5 ∨ i = 6 ∨ i = 7 ∨ i = 8 ∨ i = 9 ∨ i = 10 ∨ i = 11) with rfl | rfl | rfl | rfl | rfl | rfl | rfl | rfl | rfl | rfl | rfl
     ·exact absurd (Q.symm.trans xq) (by simp)
     ·exact absurd (E.symm.trans xq) (by simp)
     ·exact absurd (h3.symm.trans xq) (by simp)
     ·exact absurd (h4.symm.trans xq) (by simp)
     ·exact absurd (h5.symm.trans xq) (by simp)
     ·exact absurd (h6.symm.trans xq) (by simp)
     ·exact absurd (h7.symm.trans xq) (by simp)
     ·exact absurd (h8.symm.trans xq) (by simp)
     ·exact absurd (h9.symm.trans xq) (by simp)
     ·exact absurd (uV.symm.trans xq) (by simp)
     ·exact absurd (uS.symm.trans xq) (by simp)
   have n15:x[11]? = some false→x[15]? = some false:=fun uS=>by
    rcases bB hx (show 15 < 16 by omega) with hq | vQ
    ·exact hq
    ·exact absurd ((yf V 15 rfl vQ 11 rfl).symm.trans uS) (by simp)
   have xl:i < 12→i ≠ 0→∀ (p:Addr) u,xn.cell? p = some u→hb.cell? p = some u:=fun h h0 p u hu=>((K.b (qN h h0)).cell (yK xn _ hu)).trans hu
   match i,N with
   | 0,N | 1,N | 6,N =>
    obtain rfl:=yb N
    clear D K hS xl qN n15
    rw [if_pos (by rfl)];unfold Oper.wp;go_simp
    exact ⟨upd f _ (J G 0),by simp [upd],zX (H xt) _ _ (yi rfl) (by decide) (by decide),fun h=>by
     rw [gq (by decide)] at h ⊢
     obtain ⟨s2,E,h3⟩:=H jB h
     exact ⟨s2,by rw [zl _ _ (by decide)]; exact E,fun h4=>h3 h4⟩⟩
   | 2,N =>
    obtain rfl:=yb N
    have g1:=K.c 1 (ye D 1 rfl) _ rfl
    clear D K hS xl qN n15
    rw [if_pos (by rfl)];unfold Oper.wp;go_simp
    exact ⟨upd f 2 (J G 0),by simp [upd,g1],zX (H xt) 2 _ (yi rfl) (by decide) (by decide),fun h=>by
     rw [gq (by decide)] at h ⊢
     obtain ⟨s2,E,h3⟩:=H jB h
     exact ⟨s2,by rw [zl _ _ (by decide)]; exact E,fun h4=>h3 h4⟩⟩
   | 3,N =>
    obtain rfl:=yb N
    have g2:=K.c 2 (ye D 2 rfl) _ rfl
    clear D K hS xl qN n15
    rw [if_pos (by rfl)];unfold Oper.wp;go_simp
    exact ⟨upd f 3 (J G 1),by simp [upd,g2],zX (H xt) 3 _ (yi rfl) (by decide) (by decide),fun h=>by
     rw [gq (by decide)] at h ⊢
     obtain ⟨s2,E,h3⟩:=H jB h
     exact ⟨s2,by rw [zl _ _ (by decide)]; exact E,fun h4=>h3 h4⟩⟩
   | 4,N =>
    obtain rfl:=yb N
    have g3:=K.c 3 (ye D 3 rfl) _ rfl
    clear D K hS xl qN n15
    rw [if_pos (by rfl)];unfold Oper.wp;go_simp
    exact ⟨upd f 4 (J G 2),by simp [upd,g3],zX (H xt) 4 _ (yi rfl) (by decide) (by decide),fun h=>by
     rw [gq (by decide)] at h ⊢
     obtain ⟨s2,E,h3⟩:=H jB h
     exact ⟨s2,by rw [zl _ _ (by decide)]; exact E,fun h4=>h3 h4⟩⟩
   | 5,N =>
    obtain rfl:=yb N
    have g4:=K.c 4 (ye D 4 rfl) _ rfl
    have z:=xl (by omega) (by omega) (U G 2) _ (R (H ut).box 2 rfl)
    clear D K hS xl qN n15
    rw [if_pos (by rfl)];unfold Oper.wp;go_simp
    exact ⟨upd f 5 (vq),by simp [upd,g4],zX (H xt) 5 _ (yi rfl) (by decide) (by decide),fun h=>by
     rw [gq (by decide)] at h ⊢
     obtain ⟨s2,E,h3⟩:=H jB h
     exact ⟨s2,by rw [zl _ _ (by decide)]; exact E,fun h4=>h3 h4⟩⟩
   | 7,N =>
    obtain rfl:=yb N
    have g6:=K.c 6 (ye D 6 rfl) _ rfl
    clear D K hS xl qN n15
    rw [if_pos (by rfl)];unfold Oper.wp;go_simp
    exact ⟨upd f 7 (J G 0),by simp [upd,g6],zX (H xt) 7 _ (yi rfl) (by decide) (by decide),fun h=>by
     rw [gq (by decide)] at h ⊢
     obtain ⟨s2,E,h3⟩:=H jB h
     exact ⟨s2,by rw [zl _ _ (by decide)]; exact E,fun h4=>h3 h4⟩⟩
   | 8,N =>
    obtain rfl:=yb N
    have g7:=K.c 7 (ye D 7 rfl) _ rfl
    clear D K hS xl qN n15
    rw [if_pos (by rfl)];unfold Oper.wp;go_simp
    exact ⟨upd f 8 (J G 10),by simp [upd,g7],zX (H xt) 8 _ (yi rfl) (by decide) (by decide),fun h=>by
     rw [gq (by decide)] at h ⊢
     obtain ⟨s2,E,h3⟩:=H jB h
     exact ⟨s2,by rw [zl _ _ (by decide)]; exact E,fun h4=>h3 h4⟩⟩
   | 9,N =>
    obtain rfl:=yb N
    have g8:=K.c 8 (ye D 8 rfl) _ rfl
    have kX:=xl (by omega) (by omega) (U G 10) _ (R (H ut).box 10 rfl)
    have oz:=xl (by omega) (by omega) (U G 11) _ (R (H ut).box 11 rfl)
    have oA:=xl (by omega) (by omega) (U G 12) _ (R (H ut).box 12 rfl)
    have oB:=xl (by omega) (by omega) (U G 13) _ (R (H ut).box 13 rfl)
    have z14:=xl (by omega) (by omega) (U G 14) _ (R (H ut).box 14 rfl)
    have z15:=xl (by omega) (by omega) (U G 15) _ (R (H ut).box 15 rfl)
    clear D K hS xl qN n15
    rw [if_pos (by rfl)];unfold Oper.wp;go_simp
    exact ⟨upd f 9 (.agg (yw g.tk.id g.tk.side g.tk.ticks g.tk.left g.tk.life g.tk.tag).toArray),by simp [upd,g8],zX (H xt) 9 _ (yi rfl) (by decide) (by decide),fun h=>by
     rw [gq (by decide)] at h ⊢
     obtain ⟨s2,E,h3⟩:=H jB h
     exact ⟨s2,by rw [zl _ _ (by decide)]; exact E,fun h4=>h3 h4⟩⟩
   | 10,N =>
    obtain rfl:=yb N
    have g9:=K.c 9 (ye D 9 rfl) _ rfl
    have ar:=qN (by omega) (by omega)
    have qD:=n15 ar
    have oX:=K.b ar
    clear D K hS xl qN n15
    rw [if_pos (by rfl)];unfold Oper.wp;go_simp
    have xw:=fE hb (Obj.cells g.tk.vs.toArray 78)
    exact ⟨upd f 10 (.slice (some (U hb.heap.size 0)) 1 1),by simp [upd,g9],zX (ra_grow (H xt) ar qD xw) 10 _ (fun u hu=>by cases hu) (by decide) (by decide),fun _=>⟨hb.heap.size,by simp [upd],fun _ j u h=>cellsQ hb g.tk.vs 78 j u h⟩⟩
   | 11,N =>
    obtain rfl:=yb N
    have g5:=K.c 5 (ye D 5 rfl) _ rfl
    obtain ⟨s,qp,kq⟩:=hS (ye D 10 rfl)
    have qD:=n15 xq
    have oX:=K.b xq
    have uK:ORow hb B vq g.l:=zM (H ut).row oX
    have hBY:B ≤ hb.heap.size:=yN (H ut).base oX.size
    rw [if_pos (by rfl)]
    refine wp_append_own hb (.tmp 15) (.tmp 20) 32 rfl B 78 i0 _ 6 56 Tryz.underlying32 vA uL uM uF rfl (by decide) vq g.l.length (g.l.flatMap Od.vs) g5 uK (U s 0) 1 1 g.tk.vs qp rfl (kq xq) (one_od g.tk) (by unfold maxLen; omega) (by omega) hBY ?_
    intro v' w' xR vG _
    refine ⟨upd f 11 v',rfl,ra_app (H xt) xq qD (by decide) (fun u hu=>by cases hu) ⟨?_,?_⟩,fun h=>?_⟩
    ·show World.ownsRow _ _ _ _ _ (g.l ++ [g.tk]).length _
     rw [yP,List.flatMap_append]; simpa using xR
    ·exact (cK oX ya).trans vG
    ·obtain ⟨s2,E,_⟩:=H jB (by rwa [gq (by decide)] at h)
     exact ⟨s2,by rw [zl _ _ (by decide)]; exact E,fun h3=>by rw [gqs xq] at h3; cases h3⟩
   | 12,N =>
    obtain rfl:=yb N
    have g0:=K.c 0 (ye D 0 rfl) _ rfl
    clear D K hS xl qN n15
    rw [if_pos (by rfl)];unfold Oper.wp;go_simp
    exact ⟨upd f 12 (J G 0),by simp [upd,g0],zX (H xt) 12 _ (yi rfl) (by decide) (by decide),fun h=>by
     rw [gq (by decide)] at h ⊢
     obtain ⟨s2,E,h3⟩:=H jB h
     exact ⟨s2,by rw [zl _ _ (by decide)]; exact E,fun h4=>h3 h4⟩⟩
   | 13,N =>
    obtain rfl:=yb N
    have xZ:=K.c 12 (ye D 12 rfl) _ rfl
    clear D K hS xl qN n15
    rw [if_pos (by rfl)];unfold Oper.wp;go_simp
    exact ⟨upd f 13 (J G 1),by simp [upd,xZ],zX (H xt) 13 _ (yi rfl) (by decide) (by decide),fun h=>by
     rw [gq (by decide)] at h ⊢
     obtain ⟨s2,E,h3⟩:=H jB h
     exact ⟨s2,by rw [zl _ _ (by decide)]; exact E,fun h4=>h3 h4⟩⟩
   | 14,N =>
    obtain rfl:=yb N
    have qJ:=K.c 13 (ye D 13 rfl) _ rfl
    clear D K hS xl qN n15
    rw [if_pos (by rfl)];unfold Oper.wp;go_simp
    exact ⟨upd f 14 (J G 2),by simp [upd,qJ],zX (H xt) 14 _ (yi rfl) (by decide) (by decide),fun h=>by
     rw [gq (by decide)] at h ⊢
     obtain ⟨s2,E,h3⟩:=H jB h
     exact ⟨s2,by rw [zl _ _ (by decide)]; exact E,fun h4=>h3 h4⟩⟩
   | 15,N =>
    obtain rfl:=yb N
    have jf:=K.c 14 (ye D 14 rfl) _ rfl
    have ar:x[11]? = some true:=D ⟨11,.data⟩ (by simp) rfl
    obtain ⟨af,vG⟩:=K.a ar xq
    have y2:=vG.cell (R (H ut).box 2 rfl) (H ut).nq
    have q2:hb.frozen? (U G 2) = false:=(World.frozen?_of_block (a:=(U G 2)) (vG.block G (H ut).lt (H ut).nq)).trans (zd (H ut).box 2 (by show 2 < 16; decide))
    obtain ⟨ga,gc,vE⟩:=cA (zK af (by simp; omega))
    have vE:f 11 = .slice ga (g.l.length + 1) gc:=by rw [vE]; simp
    clear D K hS xl qN n15 af vG
    rw [if_pos (by rfl)];unfold Oper.wp;go_simp
    refine ⟨f,by simp [jf,vE],?_,fun h=>?_⟩
    ·have:=ra_store (H xt) ar xq (by decide) (fun v u hu=>by cases hu)
     rw [vE] at this
     exact this
    ·obtain ⟨s2,E,_⟩:=H jB (by rwa [gq (by decide)] at h)
     exact ⟨s2,E,fun h3=>by rw [gq (by decide),ar] at h3; cases h3⟩
   | i + 16,N=>simp at N
 ·rintro x fG xn i op ⟨f,rfl,K⟩ V hx N xq D
  have xt:=M K
  have nw:i < 5→x[5]? = some false:=fun xI=>by
   rcases bB hx (show 5 < 6 by omega) with hq | hw
   ·exact hq
   ·exfalso
    have h4:=yf V 5 rfl hw 4 rfl
    have h0:=yf V 4 rfl h4 0 rfl
    have h3:=yf V 4 rfl h4 3 rfl
    have Q:=yf V 3 rfl h3 1 rfl
    have E:=yf V 3 rfl h3 2 rfl
    rcases (by omega:i = 0 ∨ i = 1 ∨ i = 2 ∨ i = 3 ∨ i = 4) with rfl | rfl | rfl | rfl | rfl
    ·exact absurd (h0.symm.trans xq) (by simp)
    ·exact absurd (Q.symm.trans xq) (by simp)
    ·exact absurd (E.symm.trans xq) (by simp)
    ·exact absurd (h3.symm.trans xq) (by simp)
    ·exact absurd (h4.symm.trans xq) (by simp)
  have ub:i < 5→yn W1 xn:=fun h=>K.b (nw h)
  have xl:i < 5→∀ (p:Addr) u,W1.cell? p = some u→xn.cell? p = some u:=fun h p u hu=>((ub h).cell (yK W1 _ hu)).trans hu
  match i,N with
  | 0,N | 2,N =>
   obtain rfl:=yb N
   have CL:=xl (by omega)
   have e0:=CL (U w.heap.size 0) _ (R (H HX) 0 rfl)
   have e1:=CL (U w.heap.size 1) _ (R (H HX) 1 rfl)
   have e2:=CL (U w.heap.size 2) _ (R (H HX) 2 rfl)
   have e3:=CL (U w.heap.size 3) _ (R (H HX) 3 rfl)
   have e4:=CL (U w.heap.size 4) _ (R (H HX) 4 rfl)
   have e5:=CL (U w.heap.size 5) _ (R (H HX) 5 rfl)
   have e6:=CL (U w.heap.size 6) _ (R (H HX) 6 rfl)
   have e7:=CL (U w.heap.size 7) _ (R (H HX) 7 rfl)
   have e8:=CL (U w.heap.size 8) _ (R (H HX) 8 rfl)
   have e9:=CL (U w.heap.size 9) _ (R (H HX) 9 rfl)
   have uy:=CL (U w.heap.size 10) _ (R (H HX) 10 rfl)
   have uk:=CL (U w.heap.size 11) _ (R (H HX) 11 rfl)
   have uW:=CL (U w.heap.size 12) _ (R (H HX) 12 rfl)
   have uA:=CL (U w.heap.size 13) _ (R (H HX) 13 rfl)
   clear D K ub xl nw CL
   rw [if_pos (by rfl)];unfold Oper.wp;go_simp
   exact ⟨upd f _ (.agg (yv xm ck L ct F cq ci X cg id xi qty xj xh).toArray),by simp [upd],zC (H xt) _ _ ⟨yi rfl,⟨fun h=>absurd h (by decide),fun h=>absurd h (by decide)⟩⟩ (by decide)⟩
  | 1,N =>
   obtain rfl:=yb N
   have CL:=xl (by omega)
   clear D K ub xl nw CL
   rw [if_pos (by rfl)];unfold Oper.wp;go_simp
   exact ⟨upd f 1 (J G 0),by simp [upd],zC (H xt) 1 _ ⟨yi rfl,⟨fun h=>absurd h (by decide),fun h=>absurd h (by decide)⟩⟩ (by decide)⟩
  | 3,N =>
   obtain rfl:=yb N
   have g1:=(K.c 1 (ye D 1 rfl)).1 _ rfl
   have g2:=(K.c 2 (ye D 2 rfl)).1 _ rfl
   have CL:=xl (by omega)
   have hw:=nw (by omega)
   have vu:=M (bj (H HB) (ub (by omega)))
   have HGV:=M (zx (H HG) (ub (by omega)))
   clear D K ub xl nw CL
   rw [if_pos (by rfl)];unfold Oper.wp;go_simp
   refine (H jy xn (H HGV)).mono ?_
   rintro y w4 ⟨hy,xw⟩
   by_cases hs:dr = 0
   ·rw [outD_ok hs] at hy
    subst hy
    exact ⟨upd f 3 (.agg #[I dk,I di,I dt,I dq,I dp]),by simp [upd,g1,g2,duV],zC (cQ (H xt) hw xw) 3 _ ⟨yi rfl,fun _=>hs,fun h=>absurd h (by decide)⟩ (by decide)⟩
   ·rw [outD_no hs] at hy
    subst hy
    have HQ:=M (H uo)
    rw [if_pos hs] at HQ
    have jB:=M hs
    have ug:=M (bj (H vu) xw)
    clear hs xw
    go_wp2_with fail
    exact ⟨rfl,H vH _ _ (H HQ) (H jB) (H ug)⟩
  | 4,N =>
   obtain rfl:=yb N
   have g0:=(K.c 0 (ye D 0 rfl)).1 _ rfl
   have g3:=(K.c 3 (ye D 3 rfl)).1 _ rfl
   have CL:=xl (by omega)
   have hw:=nw (by omega)
   clear D K ub xl nw CL
   rw [if_pos (by rfl)];unfold Oper.wp;go_simp
   refine (H pI xn).mono ?_
   rintro y w4 ⟨rfl,xw⟩
   exact ⟨upd f 4 (.bool jb),by simp [upd,g0,g3],zC (cQ (H xt) hw xw) 4 _ ⟨yi rfl,⟨fun h=>absurd h (by decide),fun h=>absurd h (by decide)⟩⟩ (by decide)⟩
  | 5,N =>
   obtain rfl:=yb N
   have g4:=(K.c 4 (ye D 4 rfl)).1 _ rfl
   have vu:=M (bj (H HB) (K.b xq))
   have h4:=D ⟨4,.data⟩ (by simp) rfl
   have h3:=yf V 4 rfl h4 3 rfl
   have ja:=(K.c 3 h3).2.1 rfl
   have HQ:=M (H uo)
   rw [if_neg (not_not_intro ja)] at HQ
   clear D K ub xl nw h4 h3 ja
   rw [if_pos (by rfl)];unfold Oper.wp;go_simp
   by_cases O:jb = true
   ·have hd:=bI 13 xn
    rw [← O] at hd
    refine hd.mono ?_
    rintro e w4 ⟨rfl,rfl⟩
    exact ⟨upd f 5 (.tuple #[]),by simp [upd,g4],rw_lastv (T:=fun xn=>xn) (H xt) xq ⟨yi rfl,fun h=>absurd h (by decide),fun _=>O⟩⟩
   ·have hj2:jb = false:=by simpa using O
    have hd:=bD 13 xn
    rw [← hj2] at hd
    refine hd.mono ?_
    rintro e w4 ⟨rfl,rfl⟩
    rw [if_neg O] at HQ
    clear O hj2 hd
    go_wp2_with fail
    exact ⟨rfl,H vH 13 _ (H HQ) (by decide) (H vu)⟩
  | i + 6,N=>simp at N
def fnK (k:Int):FuncId:=if k = 1 then 87 else if k = 2 then 88 else if k = 3 then 89 else if k = 4 then 90 else if k = 5 then 91 else if k = 6 then 92 else if k = 7 then 93 else if k = 8 then 94 else if k = 9 then 95 else (0:Nat)
theorem chk_any {G B r:Nat} {vq:Value} {g:Gr} (e:Ev) (w:World) (h:GS G B r w vq g) (hi:GI g) (he:okE e = true) (hg:e.cmd.g.size ≤ maxLen):Calls Tryz.prog (fnK e.kind) #[J G 0,evV e] w fun x w'=>Chk G B r vq g e w x w':=by
 have hk:=cY he
 rcases (show e.kind = 1 ∨ e.kind = 2 ∨ e.kind = 3 ∨ e.kind = 4 ∨ e.kind = 5 ∨ e.kind = 6 ∨ e.kind = 7 ∨ e.kind = 8 ∨ e.kind = 9 by omega) with k | k | k | k | k | k | k | k | k
 ·rw [show fnK e.kind = 87 by simp [fnK,k]]; exact accept_chk e w h hi he k hg
 ·rw [show fnK e.kind = 88 by simp [fnK,k]]; exact refuse_chk e w h hi he k hg
 ·rw [show fnK e.kind = 89 by simp [fnK,k]]; exact trade_chk e w h hi he k hg
 ·rw [show fnK e.kind = 90 by simp [fnK,k]]; exact rest_chk e w h hi he k hg
 ·rw [show fnK e.kind = 91 by simp [fnK,k]]; exact drop_chk e w h hi he k hg
 ·rw [show fnK e.kind = 92 by simp [fnK,k]]; exact cancel_chk e w h hi he k hg
 ·rw [show fnK e.kind = 93 by simp [fnK,k]]; exact reduce_chk e w h hi he k hg
 ·rw [show fnK e.kind = 94 by simp [fnK,k]]; exact endDay_chk e w h hi he k hg
 ·rw [show fnK e.kind = 95 by simp [fnK,k]]; exact expire_chk e w h hi he k hg
theorem lookI_run {W:World} {r:Nat} (k:Int) (hk:1 ≤ k∧k ≤ 9) (Y:W.heap[r]? = some (.map chkM 9)) :
  (Instr.lookup 83 (.map (some r)) (I k) false).run Tryz.prog W = .ok (.func (.func (fnK k)) #[] #[]) W:=by
 have hu:=Tryz.underlying3
 have hc:∀ e,(Instr.checkKey e 10000 3 (I k)).run Tryz.prog W = .ok () W:=fun e=>MapKept.run_checkKey (k:=I k) hu (by simp [MapKept.IsKey]) e 9999
 have hf:∃ i,Instr.findNow (TypeDesc.int .i64) (I k) chkM.toList 0 = some (some (i,.func (.func (fnK k)) #[] #[])):=by
  rcases (show k = 1 ∨ k = 2 ∨ k = 3 ∨ k = 4 ∨ k = 5 ∨ k = 6 ∨ k = 7 ∨ k = 8 ∨ k = 9 by omega) with rfl | rfl | rfl | rfl | rfl | rfl | rfl | rfl | rfl
  all_goals exact ⟨_,rfl⟩
 obtain ⟨i,hf⟩:=hf
 simp [Instr.lookup,run_underlying Tryz.underlying83,MapKept.run_getObj_map Y,hc,MapKept.run_findKey hu hf,Result.andThen]
theorem ta_br (k:Int) (w:World):(Instr.typeAssert (.iface 121 (I k)) 20 121 true).run Tryz.prog w = .ok (.tuple #[I k,.bool true]) w:=by kernel_rfl
theorem ta_brn (w:World):(Instr.typeAssert .nilIface 20 121 true).run Tryz.prog w = .ok (.tuple #[I 0,.bool false]) w:=by kernel_rfl
theorem catchA_panicking (p:Addr) (x:Value) (k:Int) (older:List PanicEntry) (w:World) (hc:w.cell? p = some x) (hz:w.frozen? p = false) :
  CallsD Tryz.prog 73 #[.pointer (some p)] (.panicking ({ v:=brV k,recovered:=false } :: older)) w fun e u' w' =>
   e = .returned (.tuple #[])∧u' = .panicking ({ v:=brV k,recovered:=true } :: older)∧w' = w.setCell p (I k):=by
 refine callsD_of_wpS Tryz.func73 rfl fun c₀ L hu=>?_
 simp only [brV] at hu ⊢
 apply wpS_seq
 apply wpS_region
 simp [wpOpsS,go_sem,recoverD,hu,Tryz.ntmps73,Exit.thenS,ta_br]
 apply wpS_seq
 apply wpS_region
 simp [wpOpsS,go_sem,Exit.thenS]
 refine wpS_cond (t:=true) (by simp [Act.eval,Array.replicate]) ?_
 simp only [if_true]
 apply wpS_region
 simp [wpOpsS,go_sem,hc,hz,bodyPostS,results,Tryz.results73]
theorem catchA_idle (p:Addr) (w:World) :
  CallsD Tryz.prog 73 #[.pointer (some p)] .returning w fun e u' w'=>e = .returned (.tuple #[])∧u' = .returning∧w' = w:=by
 refine callsD_of_wpS Tryz.func73 rfl fun c₀ L hu=>?_
 apply wpS_seq
 apply wpS_region
 simp [wpOpsS,go_sem,recoverD,hu,Tryz.ntmps73,Exit.thenS,ta_brn]
 apply wpS_seq
 apply wpS_region
 simp [wpOpsS,go_sem,Exit.thenS]
 refine wpS_cond (t:=false) (by simp [Act.eval,Array.replicate]) ?_
 simp only [Bool.false_eq_true,if_false]
 refine wpS_of_wp (wp_skip ?_)
 cases c₀
 simp_all [bodyPostS,results,Tryz.results73]
theorem below_set1 {B b:Nat} {w W:World} {u:Value} (h:Below B w W) (Y:B ≤ b):Below B w (W.setCell (U b 0) u) :=
 ⟨h.os,h.tape,h.output,by have:=h.size; simpa [World.setCell] using this,fun k hk=>(yS _ _ _ _ (by show k ≠ b; omega)).trans (h.block k hk)⟩
theorem gs_far {G B r b:Nat} {W:World} {vq:Value} {g:Gr} {u:Value} (h:GS G B r W vq g) (Y:b ≠ G) (ht:∃ xF,W.heap[b]? = some (.cells xF 3 (0,0))):GS G B r (W.setCell (U b 0) u) vq g:=by
 have hr:r ≠ b:=by
  rintro rfl
  obtain ⟨xF,hc⟩:=ht
  rw [h.mp] at hc
  cases hc
 obtain ⟨xF,hc⟩:=h.typ
 exact ⟨zP h.box (Ne.symm Y),bp h.row (cd h.row ht (by decide)) 0 u,⟨xF,(yS _ _ _ _ (Ne.symm Y)).trans hc⟩,(yS _ _ _ _ hr).trans h.mp,h.hG,h.hr⟩
theorem step_bg {g:Gr} {e:Ev}:aQ g e = { takG g e with bg:=begG g e }:=by
 unfold takG aQ
 repeat' split
 all_goals rfl
def AddE (G B r:Nat) (g:Gr) (e:Ev) (w:World) (x:Ending) (w':World):Prop:=x = .returned (I (zD g e))∧Below B w w'∧(zD g e = 0→∃ uH,GS G B r w' uH (aQ g e))
theorem add_any {G B r:Nat} {vq:Value} {g:Gr} (e:Ev) (w:World) (h:GS G B r w vq g) (hi:GI g) (he:okE e = true) (hg:e.cmd.g.size ≤ maxLen):Calls Tryz.prog 40 #[J G 0,evV e] w fun x w'=>AddE G B r g e w x w':=by
 have hsf:=sfl
 have hmf:∀ (fn:Fn) (first cap:Array Value) (w:World),(Instr.makeFunc fn first cap).run Tryz.prog w = .ok (.func fn first cap) w:=fun _ _ _ _=>rfl
 have hG:=h.lt
 have vV:=h.base
 have HCH:=M (fun W (hW:GS G B r W vq g)=>chk_any e W hW hi he hg)
 have oE:=M (fun W hW=>lookI_run (W:=W) (r:=r) e.kind (cY he) hW)
 have HFK:Hid (fnK e.kind = 87 ∨ fnK e.kind = 88 ∨ fnK e.kind = 89 ∨ fnK e.kind = 90 ∨ fnK e.kind = 91 ∨ fnK e.kind = 92 ∨ fnK e.kind = 93 ∨ fnK e.kind = 94 ∨ fnK e.kind = 95):=by
  have hk:=cY he
  rcases (show e.kind = 1 ∨ e.kind = 2 ∨ e.kind = 3 ∨ e.kind = 4 ∨ e.kind = 5 ∨ e.kind = 6 ∨ e.kind = 7 ∨ e.kind = 8 ∨ e.kind = 9 by omega) with k | k | k | k | k | k | k | k | k <;> (show _ ∨ _; simp [fnK,k])
 have HKD:Hid (aQ g e = { takG g e with bg:=if g.bg = 0 then e.kind else g.bg }):=step_bg
 have oD:Hid (∀ x w',x = .returned (I (zD g e))→Below B w w'→(zD g e = 0→∃ uH,GS G B r w' uH (aQ g e))→AddE G B r g e w x w'):=fun x w' Q E h3=>⟨Q,E,h3⟩
 have HTB:Hid ((takG g e).bg = g.bg):=rfl
 unfold Chk at HCH
 generalize AddE G B r g e w = C at oD ⊢
 generalize zD g e = ru at HCH oD
 generalize aQ g e = g2 at HKD oD
 generalize takG g e = g1 at HCH HKD HTB
 generalize fnK e.kind = fk at HCH oE HFK
 obtain ⟨xm,⟨ck,L,ct,F,cq,ci,X,cg⟩,id,xi,qty,xj,xh⟩:=e
 unfold evV at HCH ⊢
 simp only at HCH oE HKD ⊢
 have oP:(w.alloc (A (yv xm ck L ct F cq ci X cg id xi qty xj xh).toArray 52)).heap.size = w.heap.size + 1:=by simp
 have xz:=fE w (A (yv xm ck L ct F cq ci X cg id xi qty xj xh).toArray 52)
 have ui:Below (w.heap.size + 1) (w.alloc (A (yv xm ck L ct F cq ci X cg id xi qty xj xh).toArray 52)) ((w.alloc (A (yv xm ck L ct F cq ci X cg id xi qty xj xh).toArray 52)).alloc (A #[I 0] 3)):=(Below.refl _ _).alloc (by rw [oP]; omega) _
 have HS:Hid (((w.alloc (A (yv xm ck L ct F cq ci X cg id xi qty xj xh).toArray 52)).alloc (A #[I 0] 3)).heap.size = w.heap.size + 1 + 1):=by show _ = _; simp
 have HX:=M (zg (zq w (yv xm ck L ct F cq ci X cg id xi qty xj xh) 52) ui (by omega))
 have HY:Hid (Bx ((w.alloc (A (yv xm ck L ct F cq ci X cg id xi qty xj xh).toArray 52)).alloc (A #[I 0] 3)) (w.heap.size + 1) [I 0]):=by
  have:=zq (w.alloc (A (yv xm ck L ct F cq ci X cg id xi qty xj xh).toArray 52)) [I 0] 3
  rwa [oP] at this
 have HYT:Hid (∃ xF,((w.alloc (A (yv xm ck L ct F cq ci X cg id xi qty xj xh).toArray 52)).alloc (A #[I 0] 3)).heap[w.heap.size + 1]? = some (.cells xF 3 (0,0))):=by
  have:=heap_alloc_new (w.alloc (A (yv xm ck L ct F cq ci X cg id xi qty xj xh).toArray 52)) (A #[I 0] 3)
  rw [oP] at this
  exact ⟨_,this⟩
 have xS:Hid (yn w ((w.alloc (A (yv xm ck L ct F cq ci X cg id xi qty xj xh).toArray 52)).alloc (A #[I 0] 3))):=xz.trans (ui.mono (by omega))
 have HB:Hid (Below B w ((w.alloc (A (yv xm ck L ct F cq ci X cg id xi qty xj xh).toArray 52)).alloc (A #[I 0] 3))):=(H xS).mono vV
 have HG:=M (zx h (H xS))
 have HGW:=M h
 clear h xz hi ui oP he hg xS
 go_enter_defers Tryz.func40,Tryz.ntmps40
 go_wp2_with fail
 generalize ((w.alloc (A (yv xm ck L ct F cq ci X cg id xi qty xj xh).toArray 52)).alloc (A #[I 0] 3)) = cp at HS HX HY HYT HG HB ⊢
 have xX:Hid (Bx cp.drew w.heap.size (yv xm ck L ct F cq ci X cg id xi qty xj xh)):=zJ (H HX)
 have HYD:Hid (Bx cp.drew (w.heap.size + 1) [I 0]):=zJ (H HY)
 have qk:Hid (GS G B r cp.drew vq g):=zx (H HG) ⟨rfl,rfl,rfl,Nat.le_refl _,fun _ _=>rfl⟩
 have vy:Hid (Below B w cp.drew):=⟨(H HB).os,(H HB).tape,(H HB).output,(H HB).size,(H HB).block⟩
 have hSD:w.heap.size + 1 < cp.drew.heap.size:=by show w.heap.size + 1 < cp.heap.size; have:=H HS; omega
 clear HX HY HG HB HS
 obtain ⟨e0,e1,e2,e3,e4,e5,e6,e7,e8,e9,uy,uk,uW,uA⟩:=yy (H xX)
 have c0:cp.drew.cell? (U G 0) = some (.map (some r)):=R (H qk).box 0 rfl
 have uX:=H oE cp.drew (H qk).mp
 have ku:vq.ownBlock ≠ some (w.heap.size + 1):=fun e=>by have:=((H HGW).row.lt _ e).2; omega
 have HNR2:vq.ownBlock ≠ some w.heap.size:=fun e=>by have:=((H HGW).row.lt _ e).2; omega
 refine zE 9 (by kernel_rfl) (by kernel_rfl) ?_
 simp only [yT,List.take_zero,yU,List.drop_zero]
 repeat still_step
 refine wpStill_nil ?_
 clear uX c0 e0 e1 e2 e3 e4 e5 e6 e7 e8 e9 uy uk uW uA
 go_wp2_with fail
 rcases H HFK with rfl | rfl | rfl | rfl | rfl | rfl | rfl | rfl | rfl
 all_goals
  clear HFK oE
  go_wp2_with fail
  refine (H HCH cp.drew (H qk)).mono ?_
  clear HCH
  rintro x w2 ⟨hx,pX,ue⟩
  have xu:=M ((H vy).trans (kp_to pX (H qk)))
  have uK:=(H qk).row
  have hY2:Bx w2 (w.heap.size + 1) [I 0]:=aS (H HYD) (pX.block (w.heap.size + 1) hSD (by omega) (fun e=>ku e.symm))
  have jv:Bx w2 w.heap.size (yv xm ck L ct F cq ci X cg id xi qty xj xh):=aS (H xX) (pX.block w.heap.size (by omega) (by omega) (fun e=>HNR2 e.symm))
  have jj:=M hY2
  have HYT2:Hid (∃ xF,w2.heap[w.heap.size + 1]? = some (.cells xF 3 (0,0))):=by
   obtain ⟨xF,hc⟩:=H HYT
   exact ⟨xF,(pX.block (w.heap.size + 1) hSD (by omega) (fun e=>ku e.symm)).trans hc⟩
  have xH:=M jv
  have qf:=M ue
  clear pX ue uK jv hY2
  by_cases hr:ru = 0
  case neg =>
   rw [outR_no hr] at hx
   subst hx
   have z0:=R (H jj) 0 rfl
   have f0:=zd (H jj) 0 (by decide)
   have HR:=M hr
   clear hr
   go_wp2_with fail
   refine leaves_cons (f:=73) (args:=#[J (w.heap.size + 1) 0]) (by simp) (by simp [go_sem]) ?_
   refine (catchA_panicking (U (w.heap.size + 1) 0) (I 0) ru [] _ z0 f0).mono ?_
   rintro e u' w'' ⟨rfl,rfl,rfl⟩
   simp [Leaves,settle,results,Tryz.results40,go_sem,yM _ _ (I ru) z0]
   exact H oD _ _ rfl (below_set1 (H xu) (by omega)) (fun h=>absurd h (H HR))
  rw [outR_ok hr] at hx
  subst hx
  obtain ⟨uH,jJ⟩:=H qf hr
  have vi:=M jJ
  have HR:=M hr
  have c3:w2.cell? (U G 3) = some (I g.bg):=by
   have:=R (H vi).box 3 rfl
   rw [← H HTB]
   exact this
  have q3:=zd (H vi).box 3 (by show 3 < 16; decide)
  have x0:=R (H xH) 0 rfl
  by_cases h0:g.bg = 0
  ·have b0:(g.bg == 0) = true:=by simpa using h0
   have oU:=M (H HKD)
   rw [if_pos h0] at oU
   have HY3:Hid (Bx (w2.setCell (U G 3) (I xm)) (w.heap.size + 1) [I 0]):=zP (H jj) (by omega)
   have ut:Hid (GS G B r (w2.setCell (U G 3) (I xm)) uH { g1 with bg:=xm }):=gs_set (H vi) 3 _ (by decide) rfl rfl
   have HYT4:Hid (∃ xF,(w2.setCell (U G 3) (I xm)).heap[w.heap.size + 1]? = some (.cells xF 3 (0,0))):=by
    obtain ⟨xF,hc⟩:=H HYT2
    exact ⟨xF,(yS _ _ _ _ (by show w.heap.size + 1 ≠ G; omega)).trans hc⟩
   have xG:=M (below_setG (H xu) ya (H vi) 3 (I xm))
   have z0:=R (H HY3) 0 rfl
   have f0:=zd (H HY3) 0 (by decide)
   clear h0 hr
   go_wp2_with fail
   refine leaves_cons (f:=73) (args:=#[J (w.heap.size + 1) 0]) (by simp) (by simp [go_sem]) ?_
   refine (catchA_idle (U (w.heap.size + 1) 0) _).mono ?_
   rintro e u' w'' ⟨rfl,rfl,rfl⟩
   simp [Leaves,settle,results,Tryz.results40,go_sem,yM _ _ (I 0) z0]
   exact H oD _ _ (by rw [H HR]) (below_set1 (H xG) (by omega)) (fun _=>⟨uH,by rw [H oU]; exact gs_far (H ut) (by omega) (H HYT4)⟩)
  ·have b0:(g.bg == 0) = false:=by simpa using h0
   have oU:Hid (g2 = g1):=by
    show _ = _
    rw [H HKD,if_neg h0,← H HTB]
   have z0:=R (H jj) 0 rfl
   have f0:=zd (H jj) 0 (by decide)
   clear h0 hr
   go_wp2_with fail
   refine leaves_cons (f:=73) (args:=#[J (w.heap.size + 1) 0]) (by simp) (by simp [go_sem]) ?_
   refine (catchA_idle (U (w.heap.size + 1) 0) _).mono ?_
   rintro e u' w'' ⟨rfl,rfl,rfl⟩
   simp [Leaves,settle,results,Tryz.results40,go_sem,yM _ _ (I 0) z0]
   exact H oD _ _ (by rw [H HR]) (below_set1 (H xu) (by omega)) (fun _=>⟨uH,by rw [H oU]; exact gs_far (H vi) (by omega) (H HYT2)⟩)
end Go.Proofs.YtnphbkgfjanmgaaGreatDoor
