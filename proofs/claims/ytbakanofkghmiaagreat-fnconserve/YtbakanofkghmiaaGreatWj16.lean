/-
  The reasons that hang on what would come of an order, by the program: proved by walking the function.
-/
import Derived.Test.YtbakanofkghmiaaGreatWj15
set_option linter.unusedVariables false
set_option maxHeartbeats 6400000
set_option maxRecDepth 100000
namespace Go.Proofs.YtbakanofkghmiaaGreat
open Go.RowKit
theorem cz {c:Cm} {id:Int}:∀ (n:Nat) (l:List Od) (left:Int) (ts:List Ev),GoodL l→0 ≤ left→left ≤ 1000000→GoodL (matL c id n l left ts).1∧0 ≤ (matL c id n l left ts).2.1∧(matL c id n l left ts).2.1 ≤ 1000000
 | 0,l,left,ts,h,h0,G=>⟨h,h0,G⟩
 | n + 1,l,left,ts,h,h0,G=>by
  rw [matL]
  by_cases hl:0 < left
  ·rw [if_pos hl]
   cases hf:aU l (othS c.s) with
   | none=>exact ⟨h,h0,G⟩
   | some o =>
    simp only
    by_cases hm:aZ c o = true
    ·rw [if_pos hm]
     obtain ⟨uy,_⟩:=dd hf
     obtain ⟨k,hk⟩:=List.getElem?_of_mem uy
     have Z:=h.left o uy
     rw [plc_at h.rise hk,Int.toNat_natCast]
     exact cz n _ _ _ (cJ h hk (by omega) (by omega)).1 (by omega) (by omega)
    ·rw [if_neg hm]; exact ⟨h,h0,G⟩
  ·rw [if_neg hl]; exact ⟨h,h0,G⟩
def matR (next:Int) (c:Cm) (hb:List Od × Int × List Ev):Int :=
 if c.t = 5∧0 < hb.2.2.length then 11 else if c.t = 4∧0 < hb.2.1 then 12 else if next = 1000000 then 13
 else if aO c.t = true∧0 < hb.2.1 then (if bp (hb.1 ++ [{ ordO c next with left:=hb.2.1 }]) = true then 13 else 0) else 0
theorem matS_put {V:World} {mb B:Nat} {next:Int} {vq vt:Value} {l:List Od} {t:Od} {ts:List Ev} (ht:V.there mb 0 9) (F:∃ xr,V.heap[mb]? = some (.cells xr 157 (0,0))) (Z:ORow V B vq l) (he:ERow V B vt ts) (hB:B ≤ V.heap.size) :
  MatS mb B (V.setCells mb 0 [H next,vq,H t.id,H t.side,H t.ticks,H t.left,H t.life,yk t.tag,vt]) next vq l t vt ts:=by
 have hn:some mb ≠ vq.ownBlock:=zl Z F (by decide)
 have hm:some mb ≠ vt.ownBlock:=zl he F (by decide)
 have hr:=yX V mb 0 [H next,vq,H t.id,H t.side,H t.ticks,H t.left,H t.life,yk t.tag,vt] (fun j K=>ht j K)
 refine ⟨hr,fun j K=>⟨?_,?_⟩,?_,?_,?_,?_⟩
 ·obtain ⟨u,hu⟩:∃ u,[H next,vq,H t.id,H t.side,H t.ticks,H t.left,H t.life,yk t.tag,vt][j]? = some u:=⟨_,yH (by simpa using K)⟩
  rw [hr j u hu]; rfl
 ·have:=(ht j K).2
  simp only [World.setCells,World.frozen?_setCell]
  exact this
 ·simp only [World.setCells]
  exact zu (zu (zu (zu (zu (zu (zu (zu (zu Z hn _ _) hn _ _) hn _ _) hn _ _) hn _ _) hn _ _) hn _ _) hn _ _) hn _ _
 ·simp only [World.setCells]
  exact zu (zu (zu (zu (zu (zu (zu (zu (zu he hm _ _) hm _ _) hm _ _) hm _ _) hm _ _) hm _ _) hm _ _) hm _ _) hm _ _
 ·obtain ⟨xr,F⟩:=F
  simp only [World.setCells]
  obtain ⟨_,G⟩:=zO V mb 0 (H next) F
  obtain ⟨_,G⟩:=zO _ mb 1 vq G
  obtain ⟨_,G⟩:=zO _ mb 2 (H t.id) G
  obtain ⟨_,G⟩:=zO _ mb 3 (H t.side) G
  obtain ⟨_,G⟩:=zO _ mb 4 (H t.ticks) G
  obtain ⟨_,G⟩:=zO _ mb 5 (H t.left) G
  obtain ⟨_,G⟩:=zO _ mb 6 (H t.life) G
  obtain ⟨_,G⟩:=zO _ mb 7 (yk t.tag) G
  exact zO _ mb 8 vt G
 ·simp only [World.setCells,World.setCell,Array.size_modify]; exact hB
theorem below_kept {B0 B mb:Nat} {w W W':World} (h:Below B0 w W) (hk:KeptBut mb B W W') (hB:B0 ≤ B) (hm:B ≤ mb):Below B0 w W' :=
 ⟨hk.os.trans h.os,hk.tape.trans h.tape,hk.output.trans h.output,yN h.size hk.size,fun k xJ=>(hk.block k (by omega) (by omega)).trans (h.block k xJ)⟩
theorem ez (next:Int) (vb:Value) (l:List Od) (c:Cm) (w:World) (hr:RdR Od.vs 6 w vb l) (hs:SlOk vb) (hg:GoodL l) (h0:0 ≤ next) (G:next ≤ 1000000) (qd:0 ≤ c.q) (qe:c.q ≤ 1000000) :
  Calls Tryz.prog 147 #[.agg #[H next,vb],noV c] w fun e w'=>e = ym (H (matR next c (matL c next 21 l c.q [])))∧yn w w':=by
 have HR:=Y hr
 have HG:=Y hg
 have vP:=Y hs
 have pg:=Y (cz (c:=c) (id:=next) 21 l c.q [] hg qd qe)
 have uI:Hid (0 ≤ next∧next ≤ 1000000∧0 ≤ c.q∧c.q ≤ 1000000):=⟨h0,G,qd,qe⟩
 obtain ⟨a,A,rfl,xE,hc⟩:=hr
 clear hc hg hs h0 G qd qe xE
 obtain ⟨kk,s,ty,li,O,ii,pr,L⟩:=c
 have HCA:Hid (∀ W:World,RdR Od.vs 6 W (.slice a l.length A) l→Calls Tryz.prog 112 #[.agg #[H next,.slice a l.length A],.agg #[H s,H ty,H li,H O,yj pr,yk L]] W _):=fun W hW=>match_any next _ l ⟨kk,s,ty,li,O,ii,pr,L⟩ W hW (U vP) (U HG) (U uI).1 (U uI).2.1 (U uI).2.2.1 (U uI).2.2.2
 generalize matL ⟨kk,s,ty,li,O,ii,pr,L⟩ next 21 l O [] = hb at pg HCA ⊢
 obtain ⟨FL,Fl,Ft⟩:=hb
 unfold noV
 simp only at *
 have xA:=zh w (eF #[H next,.slice a l.length A] 28)
 have ua:((w.alloc (eF #[H next,.slice a l.length A] 28)).alloc (eF #[H s,H ty,H li,H O,yj pr,yk L] 112)).heap.size = w.heap.size + 1 + 1:=by rw [zh,xA]
 have r1:=zi w [H next,.slice a l.length A] 28
 have r2:=zi (w.alloc (eF #[H next,.slice a l.length A] 28)) [H s,H ty,H li,H O,yj pr,yk L] 112
 rw [xA] at r2
 have qw:Below (w.heap.size + 1) (w.alloc (eF #[H next,.slice a l.length A] 28)) ((w.alloc (eF #[H next,.slice a l.length A] 28)).alloc (eF #[H s,H ty,H li,H O,yj pr,yk L] 112)):=(Below.refl _ _).alloc (by rw [xA]; omega) _
 have xD:Hid (yn w ((w.alloc (eF #[H next,.slice a l.length A] 28)).alloc (eF #[H s,H ty,H li,H O,yj pr,yk L] 112))):=(eD _ _).alloc (by rw [xA]; omega) _
 have HX:Hid (_∧_):=⟨zb r1 qw (by omega),r2⟩
 have jf:=Y ua
 clear xA ua r1 r2 qw
 go_enter Tryz.func147,Tryz.ntmps147
 refine eH fun hj xu=>?_
 go_wp2_with fail
 refine U xu _ _ ?_
 clear xu
 refine eH fun K2 kf=>?_
 go_wp2_with fail
 generalize ((w.alloc (eF #[H next,.slice a l.length A] 28)).alloc (eF #[H s,H ty,H li,H O,yj pr,yk L] 112)) = X2 at xD HX jf ⊢
 have HX:Hid (X2.rangeAt w.heap.size 0 [H next,.slice a l.length A]∧X2.rangeAt (w.heap.size + 1) 0 [H s,H ty,H li,H O,yj pr,yk L]):=U HX
 refine (U HCA X2 (zn (U HR) (U xD) qt)).mono ?_
 rintro e w4 ⟨vq,vt,rfl,hoq,het,xC⟩
 obtain ⟨av,cv,rfl⟩:∃ a c,vt = .slice a Ft.length c:=by
  rcases het.2 with ⟨e,e2⟩ | ⟨g,A,xr,e,_⟩
  ·exact ⟨none,0,by rw [e,e2]⟩
  ·exact ⟨_,_,e⟩
 obtain ⟨aq,cq,rfl⟩:∃ a c,vq = .slice a FL.length c:=by
  rcases hoq.2 with ⟨e,e2⟩ | ⟨g,A,xr,e,_⟩
  ·exact ⟨none,0,by rw [e,e2]⟩
  ·exact ⟨_,_,e⟩
 have hal:=eD w4 (eF #[H (next + 1),.slice aq FL.length cq,H next,H s,H (tk pr),H Fl,H li,yk L,.slice av Ft.length cv] 157)
 have oe:Hid (MatS w4.heap.size X2.heap.size (w4.alloc (eF #[H (next + 1),.slice aq FL.length cq,H next,H s,H (tk pr),H Fl,H li,yk L,.slice av Ft.length cv] 157)) (next + 1) (.slice aq FL.length cq) FL ⟨next,s,tk pr,Fl,li,L⟩ (.slice av Ft.length cv) Ft):=⟨zi w4 [H (next + 1),.slice aq FL.length cq,H next,H s,H (tk pr),H Fl,H li,yk L,.slice av Ft.length cv] _,zv w4 [H (next + 1),.slice aq FL.length cq,H next,H s,H (tk pr),H Fl,H li,yk L,.slice av Ft.length cv] _,zm hoq hal,zI het hal,⟨_,heap_alloc_new w4 _⟩,yN xC.size (by rw [zh]; omega)⟩
 have kb:Hid (yn X2 (w4.alloc (eF #[H (next + 1),.slice aq FL.length cq,H next,H s,H (tk pr),H Fl,H li,yk L,.slice av Ft.length cv] 157))):=xC.trans (hal.mono xC.size)
 have HMB:Hid (w.heap.size ≤ X2.heap.size∧X2.heap.size ≤ w4.heap.size):=⟨by have:=U jf; omega,xC.size⟩
 clear hal hoq het xC
 go_wp2_with fail
 refine U kf _ _ ?_
 generalize (w4.alloc (eF #[H (next + 1),.slice aq FL.length cq,H next,H s,H (tk pr),H Fl,H li,yk L,.slice av Ft.length cv] 157)) = W6 at oe kb ⊢
 generalize w4.heap.size = mb at oe HMB ⊢
 have hm:w.heap.size + 1 < X2.heap.size:=by have:=U jf; omega
 have k0:=zb (U HX).1 (U kb) (by omega) 0 _ rfl
 have o0:=zb (U HX).2 (U kb) (by omega) 0 _ rfl
 have o1:=zb (U HX).2 (U kb) (by omega) 1 _ rfl
 have o2:=zb (U HX).2 (U kb) (by omega) 2 _ rfl
 have o3:=zb (U HX).2 (U kb) (by omega) 3 _ rfl
 have o4:=zb (U HX).2 (U kb) (by omega) 4 _ rfl
 have o5:=zb (U HX).2 (U kb) (by omega) 5 _ rfl
 have y5:W6.cell? (J mb 5) = some (H Fl):=(U oe).cells 5 _ rfl
 have y8:W6.cell? (J mb 8) = some (.slice av Ft.length cv):=(U oe).cells 8 _ rfl
 simp only [Nat.zero_add] at k0 o0 o1 o2 o3 o4 o5
 have xM:=Y ((U xD).trans ((U kb).mono (U xD).size))
 have HMR:Hid (matR next ⟨kk,s,ty,li,O,ii,pr,L⟩ (FL,Fl,Ft) = if ty = 5∧0 < Ft.length then 11 else if ty = 4∧0 < Fl then 12 else if next = 1000000 then 13 else if aO ty = true∧0 < Fl then (if bp (FL ++ [⟨next,s,tk pr,Fl,li,L⟩]) = true then 13 else 0) else 0):=rfl
 clear HCA HX kf
 by_cases uX:ty = 5∧0 < Ft.length
 ·obtain ⟨rfl,hl⟩:=uX
  have hl':(0:Int) < Ft.length:=by omega
  have HK:Hid (matR next ⟨kk,s,5,li,O,ii,pr,L⟩ (FL,Fl,Ft) = 11):=by have:=U HMR; rw [if_pos ⟨rfl,hl⟩] at this; exact this
  clear hl
  go_wp2_with fail
  go_ret
  exact ⟨zr (U HK).symm,U xM⟩
 have qa:Hid (_ = _):=(U HMR).trans (if_neg uX)
 clear HMR
 by_cases h5:ty = 5
 ·subst h5
  have hl':¬ (0:Int) < Ft.length:=fun h=>uX ⟨rfl,by omega⟩
  have vC:Hid (_ = _):=(U qa).trans (if_neg (fun h=>by cases h.1))
  clear qa
  clear uX
  by_cases vX:next = 1000000
  ·subst vX
   have HK:Hid (matR 1000000 ⟨kk,s,5,li,O,ii,pr,L⟩ (FL,Fl,Ft) = 13):=by have:=U vC; rw [if_pos rfl] at this; exact this
   go_wp2_with fail
   go_ret
   exact ⟨zr (U HK).symm,U xM⟩
  have hnb:(next == 1000000) = false:=by rw [xd]; exact vX
  have kN:Hid (_ = _):=(U vC).trans (if_neg vX)
  clear vX vC
  go_wp2_with fail
  refine (dT ⟨kk,s,5,li,O,ii,pr,L⟩ W6).mono ?_
  rintro e w7 ⟨rfl,qx⟩
  dsimp only
  have HM7:=Y (dv (U oe) qx)
  have kc:=Y (D (U xM) qx)
  have y7:w7.cell? (J mb 5) = some (H Fl):=(U HM7).cells 5 _ rfl
  clear qx k0 o0 o1 o2 o3 o4 o5 y5 y8
  cases qM:aO 5
  ·have HK:Hid (matR next ⟨kk,s,5,li,O,ii,pr,L⟩ (FL,Fl,Ft) = 0):=by
    have:=U kN
    rw [if_neg (fun h=>by rw [qM] at h; cases h.1)] at this
    exact this
   clear qM
   go_wp2_with fail
   go_ret
   exact ⟨zr (U HK).symm,U kc⟩
  ·by_cases hFl:0 < Fl
   ·have HMRG:Hid (matR next ⟨kk,s,5,li,O,ii,pr,L⟩ (FL,Fl,Ft) = if bp (FL ++ [⟨next,s,tk pr,Fl,li,L⟩]) = true then 13 else 0):=by
     have:=U kN
     rw [if_pos ⟨qM,hFl⟩] at this
     exact this
    clear qM
    go_wp2_with fail
    refine (rest_any mb X2.heap.size (next + 1) _ FL ⟨next,s,tk pr,Fl,li,L⟩ _ Ft w7 (U HM7) (by have:=(U pg).1.len; omega)).mono ?_
    rintro e w8 ⟨vq8,rfl,hM8,hK8⟩
    have aA:=Y hM8
    have qf:=Y (below_kept (U kc) hK8 (U HMB).1 (U HMB).2)
    clear hM8 hK8 y7
    go_wp2_with fail
    refine (isTooFull_any mb X2.heap.size (next + 1) vq8 _ ⟨next,s,tk pr,Fl,li,L⟩ _ Ft w8 (U aA) (by have:=(U pg).1.len; rw [yP]; simp only [List.length_cons,List.length_nil]; omega) (by
     intro o' vB
     have hfg:=U pg
     rcases List.mem_append.1 vB with h | h
     ·have:=hfg.1.left o' h; omega
     ·rw [List.mem_singleton] at h; subst h; exact hfg.2)).mono ?_
    rintro e w9 ⟨rfl,hb9⟩
    have kL:=Y (D (U qf) hb9)
    clear hb9
    cases hfu:bp (FL ++ [⟨next,s,tk pr,Fl,li,L⟩])
    ·have HK:Hid (matR next ⟨kk,s,5,li,O,ii,pr,L⟩ (FL,Fl,Ft) = 0):=by have:=U HMRG; rw [hfu] at this; exact this
     clear hfu
     go_wp2_with fail
     go_ret
     exact ⟨zr (U HK).symm,U kL⟩
    ·have HK:Hid (matR next ⟨kk,s,5,li,O,ii,pr,L⟩ (FL,Fl,Ft) = 13):=by have:=U HMRG; rw [hfu] at this; exact this
     clear hfu
     go_wp2_with fail
     go_ret
     exact ⟨zr (U HK).symm,U kL⟩
   ·have HK:Hid (matR next ⟨kk,s,5,li,O,ii,pr,L⟩ (FL,Fl,Ft) = 0):=by have:=U kN; rw [if_neg (fun h=>hFl h.2)] at this; exact this
    clear qM
    go_wp2_with fail
    go_ret
    exact ⟨zr (U HK).symm,U kc⟩
 have qp:(ty == 5) = false:=by rw [xd]; exact h5
 clear uX
 by_cases qF:ty = 4∧0 < Fl
 ·obtain ⟨rfl,hl⟩:=qF
  have HK:Hid (matR next ⟨kk,s,4,li,O,ii,pr,L⟩ (FL,Fl,Ft) = 12):=by have:=U qa; rw [if_pos ⟨rfl,hl⟩] at this; exact this
  clear h5 qp
  go_wp2_with fail
  go_ret
  exact ⟨zr (U HK).symm,U xM⟩
 have vC:Hid (_ = _):=(U qa).trans (if_neg qF)
 clear qa
 by_cases h4:ty = 4
 ·subst h4
  have hl':¬ 0 < Fl:=fun h=>qF ⟨rfl,h⟩
  clear qF h5 qp
  by_cases vX:next = 1000000
  ·subst vX
   have HK:Hid (matR 1000000 ⟨kk,s,4,li,O,ii,pr,L⟩ (FL,Fl,Ft) = 13):=by have:=U vC; rw [if_pos rfl] at this; exact this
   go_wp2_with fail
   go_ret
   exact ⟨zr (U HK).symm,U xM⟩
  have hnb:(next == 1000000) = false:=by rw [xd]; exact vX
  have kN:Hid (_ = _):=(U vC).trans (if_neg vX)
  clear vX vC
  go_wp2_with fail
  refine (dT ⟨kk,s,4,li,O,ii,pr,L⟩ W6).mono ?_
  rintro e w7 ⟨rfl,qx⟩
  dsimp only
  have HM7:=Y (dv (U oe) qx)
  have kc:=Y (D (U xM) qx)
  have y7:w7.cell? (J mb 5) = some (H Fl):=(U HM7).cells 5 _ rfl
  clear qx k0 o0 o1 o2 o3 o4 o5 y5 y8
  cases qM:aO 4
  ·have HK:Hid (matR next ⟨kk,s,4,li,O,ii,pr,L⟩ (FL,Fl,Ft) = 0):=by
    have:=U kN
    rw [if_neg (fun h=>by rw [qM] at h; cases h.1)] at this
    exact this
   clear qM
   go_wp2_with fail
   go_ret
   exact ⟨zr (U HK).symm,U kc⟩
  ·exact absurd qM (by decide)
 have xC:(ty == 4) = false:=by rw [xd]; exact h4
 clear qF h5 h4
 by_cases vX:next = 1000000
 ·subst vX
  have HK:Hid (matR 1000000 ⟨kk,s,ty,li,O,ii,pr,L⟩ (FL,Fl,Ft) = 13):=by have:=U vC; rw [if_pos rfl] at this; exact this
  go_wp2_with fail
  go_ret
  exact ⟨zr (U HK).symm,U xM⟩
 have hnb:(next == 1000000) = false:=by rw [xd]; exact vX
 have kN:Hid (_ = _):=(U vC).trans (if_neg vX)
 clear vX vC
 go_wp2_with fail
 refine (dT ⟨kk,s,ty,li,O,ii,pr,L⟩ W6).mono ?_
 rintro e w7 ⟨rfl,qx⟩
 dsimp only
 have HM7:=Y (dv (U oe) qx)
 have kc:=Y (D (U xM) qx)
 have y7:w7.cell? (J mb 5) = some (H Fl):=(U HM7).cells 5 _ rfl
 clear qx k0 o0 o1 o2 o3 o4 o5 y5 y8
 cases qM:aO ty
 ·have HK:Hid (matR next ⟨kk,s,ty,li,O,ii,pr,L⟩ (FL,Fl,Ft) = 0):=by
   have:=U kN
   rw [if_neg (fun h=>by rw [qM] at h; cases h.1)] at this
   exact this
  clear qM
  go_wp2_with fail
  go_ret
  exact ⟨zr (U HK).symm,U kc⟩
 ·by_cases hFl:0 < Fl
  ·have HMRG:Hid (matR next ⟨kk,s,ty,li,O,ii,pr,L⟩ (FL,Fl,Ft) = if bp (FL ++ [⟨next,s,tk pr,Fl,li,L⟩]) = true then 13 else 0):=by
    have:=U kN
    rw [if_pos ⟨qM,hFl⟩] at this
    exact this
   clear qM
   go_wp2_with fail
   refine (rest_any mb X2.heap.size (next + 1) _ FL ⟨next,s,tk pr,Fl,li,L⟩ _ Ft w7 (U HM7) (by have:=(U pg).1.len; omega)).mono ?_
   rintro e w8 ⟨vq8,rfl,hM8,hK8⟩
   have aA:=Y hM8
   have qf:=Y (below_kept (U kc) hK8 (U HMB).1 (U HMB).2)
   clear hM8 hK8 y7
   go_wp2_with fail
   refine (isTooFull_any mb X2.heap.size (next + 1) vq8 _ ⟨next,s,tk pr,Fl,li,L⟩ _ Ft w8 (U aA) (by have:=(U pg).1.len; rw [yP]; simp only [List.length_cons,List.length_nil]; omega) (by
    intro o' vB
    have hfg:=U pg
    rcases List.mem_append.1 vB with h | h
    ·have:=hfg.1.left o' h; omega
    ·rw [List.mem_singleton] at h; subst h; exact hfg.2)).mono ?_
   rintro e w9 ⟨rfl,hb9⟩
   have kL:=Y (D (U qf) hb9)
   clear hb9
   cases hfu:bp (FL ++ [⟨next,s,tk pr,Fl,li,L⟩])
   ·have HK:Hid (matR next ⟨kk,s,ty,li,O,ii,pr,L⟩ (FL,Fl,Ft) = 0):=by have:=U HMRG; rw [hfu] at this; exact this
    clear hfu
    go_wp2_with fail
    go_ret
    exact ⟨zr (U HK).symm,U kL⟩
   ·have HK:Hid (matR next ⟨kk,s,ty,li,O,ii,pr,L⟩ (FL,Fl,Ft) = 13):=by have:=U HMRG; rw [hfu] at this; exact this
    clear hfu
    go_wp2_with fail
    go_ret
    exact ⟨zr (U HK).symm,U kL⟩
  ·have HK:Hid (matR next ⟨kk,s,ty,li,O,ii,pr,L⟩ (FL,Fl,Ft) = 0):=by have:=U kN; rw [if_neg (fun h=>hFl h.2)] at this; exact this
   clear qM
   go_wp2_with fail
   go_ret
   exact ⟨zr (U HK).symm,U kc⟩
def lifW (c:Cm):Bool:=!betB c.l 0 1 || (decide (c.l = 1) && !aO c.t)
def newR (next:Int) (l:List Od) (c:Cm):Int :=
 if betB c.s 1 2 = false then 3 else if betB c.t 1 5 = false then 4 else if lifW c = true then 5 else if prcB c = false then 6 else if betB c.q 1 1000000 = false then 7 else if tagB c.g = false then 8 else matR next c (matL c next 21 l c.q [])
theorem newRefusal_any (next:Int) (vb:Value) (l:List Od) (c:Cm) (w:World) (hr:RdR Od.vs 6 w vb l) (hs:SlOk vb) (hg:GoodL l) (h0:0 ≤ next) (G:next ≤ 1000000) (ht:c.g.size ≤ maxLen) :
  Calls Tryz.prog 108 #[.agg #[H next,vb],noV c] w fun e w'=>e = ym (H (newR next l c))∧yn w w':=by
 have HR:=Y hr
 have HG:=Y hg
 have vP:=Y hs
 have uI:Hid (0 ≤ next∧next ≤ 1000000):=⟨h0,G⟩
 have qI:=Y ht
 obtain ⟨a,A,rfl,xE,hc⟩:=hr
 clear hc hg hs h0 G ht xE
 generalize vO:newR next l c = res
 have HN0:Hid (_ = res):=vO
 clear vO
 obtain ⟨kk,s,ty,li,O,ii,pr,L⟩:=c
 unfold newR at HN0
 unfold noV
 simp only at *
 have xA:=zh w (eF #[H next,.slice a l.length A] 28)
 have ua:((w.alloc (eF #[H next,.slice a l.length A] 28)).alloc (eF #[H s,H ty,H li,H O,yj pr,yk L] 112)).heap.size = w.heap.size + 1 + 1:=by rw [zh,xA]
 have r1:=zi w [H next,.slice a l.length A] 28
 have r2:=zi (w.alloc (eF #[H next,.slice a l.length A] 28)) [H s,H ty,H li,H O,yj pr,yk L] 112
 rw [xA] at r2
 have qw:Below (w.heap.size + 1) (w.alloc (eF #[H next,.slice a l.length A] 28)) ((w.alloc (eF #[H next,.slice a l.length A] 28)).alloc (eF #[H s,H ty,H li,H O,yj pr,yk L] 112)):=(Below.refl _ _).alloc (by rw [xA]; omega) _
 have xD:Hid (yn w ((w.alloc (eF #[H next,.slice a l.length A] 28)).alloc (eF #[H s,H ty,H li,H O,yj pr,yk L] 112))):=(eD _ _).alloc (by rw [xA]; omega) _
 have HX:Hid (_∧_):=⟨zb r1 qw (by omega),r2⟩
 have uw:Hid (w.heap.size < ((w.alloc (eF #[H next,.slice a l.length A] 28)).alloc (eF #[H s,H ty,H li,H O,yj pr,yk L] 112)).heap.size∧w.heap.size + 1 < ((w.alloc (eF #[H next,.slice a l.length A] 28)).alloc (eF #[H s,H ty,H li,H O,yj pr,yk L] 112)).heap.size):=⟨by omega,by omega⟩
 clear xA ua r1 r2 qw
 go_enter Tryz.func108,Tryz.ntmps108
 refine eH fun hj xu=>?_
 go_wp2_with fail
 refine U xu _ _ ?_
 clear xu
 generalize ((w.alloc (eF #[H next,.slice a l.length A] 28)).alloc (eF #[H s,H ty,H li,H O,yj pr,yk L] 112)) = X2 at xD HX uw ⊢
 have HX:Hid (X2.rangeAt w.heap.size 0 [H next,.slice a l.length A]∧X2.rangeAt (w.heap.size + 1) 0 [H s,H ty,H li,H O,yj pr,yk L]):=U HX
 have k0:=zb (U HX).1 (Below.refl _ _) (U uw).1 0 _ rfl
 have k1:=zb (U HX).1 (Below.refl _ _) (U uw).1 1 _ rfl
 have o0:=zb (U HX).2 (Below.refl _ _) (U uw).2 0 _ rfl
 have o1:=zb (U HX).2 (Below.refl _ _) (U uw).2 1 _ rfl
 have o2:=zb (U HX).2 (Below.refl _ _) (U uw).2 2 _ rfl
 have o3:=zb (U HX).2 (Below.refl _ _) (U uw).2 3 _ rfl
 have o4:=zb (U HX).2 (Below.refl _ _) (U uw).2 4 _ rfl
 have o5:=zb (U HX).2 (Below.refl _ _) (U uw).2 5 _ rfl
 simp only [Nat.zero_add] at k0 k1 o0 o1 o2 o3 o4 o5
 go_wp2_with fail
 refine (isSide_any s X2).mono ?_
 rintro e w' ⟨rfl,rfl⟩
 cases h3:betB s 1 2
 ·have HK:Hid (3 = res):=by have:=U HN0; rw [if_pos h3] at this; exact this
  clear h3
  go_wp2_with fail
  go_ret
  exact ⟨zr (U HK),U xD⟩
 have HN1:Hid (_ = res):=(if_neg (fun h=>by rw [h3] at h; cases h)).symm.trans (U HN0)
 clear h3 HN0
 go_wp2_with fail
 refine (isType_any ty w').mono ?_
 rintro e w1 ⟨rfl,rfl⟩
 cases h4:betB ty 1 5
 ·have HK:Hid (4 = res):=by have:=U HN1; rw [if_pos h4] at this; exact this
  clear h4
  go_wp2_with fail
  go_ret
  exact ⟨zr (U HK),U xD⟩
 have HN2:Hid (_ = res):=(if_neg (fun h=>by rw [h4] at h; cases h)).symm.trans (U HN1)
 clear h4 HN1
 go_wp2_with fail
 refine (isLife_any li w1).mono ?_
 rintro e w2 ⟨rfl,rfl⟩
 cases h5:betB li 0 1
 ·have HK:Hid (5 = res):=by have:=U HN2; rw [if_pos (by simp [lifW,h5])] at this; exact this
  clear h5
  go_wp2_with fail
  go_ret
  exact ⟨zr (U HK),U xD⟩
 by_cases hli:li = 1
 ·subst hli
  go_wp2_with fail
  refine (dT ⟨kk,s,ty,1,O,ii,pr,L⟩ w2).mono ?_
  rintro e w3 ⟨rfl,uC⟩
  dsimp only
  have xv:=Y uC
  clear uC k0 k1 o0 o1 o2 o3 o4 o5
  cases h6:aO ty
  ·have HK:Hid (5 = res):=by have:=U HN2; rw [if_pos (by simp [lifW,h6])] at this; exact this
   clear h6 h5
   go_wp2_with fail
   go_ret
   exact ⟨zr (U HK),(U xD).trans ((U xv).mono (U xD).size)⟩
  have pE:Hid (_ = res):=(if_neg (by simp [lifW,h5,h6])).symm.trans (U HN2)
  clear h5 h6 HN2
  have k0:=zb (U HX).1 (U xv) (U uw).1 0 _ rfl
  have k1:=zb (U HX).1 (U xv) (U uw).1 1 _ rfl
  have o0:=zb (U HX).2 (U xv) (U uw).2 0 _ rfl
  have o1:=zb (U HX).2 (U xv) (U uw).2 1 _ rfl
  have o2:=zb (U HX).2 (U xv) (U uw).2 2 _ rfl
  have o3:=zb (U HX).2 (U xv) (U uw).2 3 _ rfl
  have o4:=zb (U HX).2 (U xv) (U uw).2 4 _ rfl
  have o5:=zb (U HX).2 (U xv) (U uw).2 5 _ rfl
  simp only [Nat.zero_add] at k0 k1 o0 o1 o2 o3 o4 o5
  go_wp2_with fail
  refine (hasPrice_any ⟨kk,s,ty,1,O,ii,pr,L⟩ w3).mono ?_
  rintro e w4 ⟨rfl,xC⟩
  have uo:=Y (D (U xv) xC)
  clear xC k0 k1 o0 o1 o2 o3 o4 o5 xv
  cases h7:prcB ⟨kk,s,ty,1,O,ii,pr,L⟩
  ·have HK:Hid (6 = res):=by have:=U pE; rw [if_pos h7] at this; exact this
   clear h7
   go_wp2_with fail
   go_ret
   exact ⟨zr (U HK),(U xD).trans ((U uo).mono (U xD).size)⟩
  have HN4:Hid (_ = res):=(if_neg (fun h=>by rw [h7] at h; cases h)).symm.trans (U pE)
  clear h7 pE
  have k0:=zb (U HX).1 (U uo) (U uw).1 0 _ rfl
  have k1:=zb (U HX).1 (U uo) (U uw).1 1 _ rfl
  have o0:=zb (U HX).2 (U uo) (U uw).2 0 _ rfl
  have o1:=zb (U HX).2 (U uo) (U uw).2 1 _ rfl
  have o2:=zb (U HX).2 (U uo) (U uw).2 2 _ rfl
  have o3:=zb (U HX).2 (U uo) (U uw).2 3 _ rfl
  have o4:=zb (U HX).2 (U uo) (U uw).2 4 _ rfl
  have o5:=zb (U HX).2 (U uo) (U uw).2 5 _ rfl
  simp only [Nat.zero_add] at k0 k1 o0 o1 o2 o3 o4 o5
  go_wp2_with fail
  refine (isQty_any O w4).mono ?_
  rintro e w5 ⟨rfl,rfl⟩
  cases h8:betB O 1 1000000
  ·have HK:Hid (7 = res):=by have:=U HN4; rw [if_pos h8] at this; exact this
   clear h8
   go_wp2_with fail
   go_ret
   exact ⟨zr (U HK),(U xD).trans ((U uo).mono (U xD).size)⟩
  have HN5:Hid (_ = res):=(if_neg (fun h=>by rw [h8] at h; cases h)).symm.trans (U HN4)
  have HQB:Hid (0 ≤ O∧O ≤ 1000000):=by
   simp only [betB,xe,xh] at h8
   exact ⟨by omega,h8.2⟩
  clear h8 HN4
  go_wp2_with fail
  refine (isTag_any L w5 (U qI)).mono ?_
  rintro e w6 ⟨rfl,rfl⟩
  cases h9:tagB L
  ·have HK:Hid (8 = res):=by have:=U HN5; rw [if_pos h9] at this; exact this
   clear h9
   go_wp2_with fail
   go_ret
   exact ⟨zr (U HK),(U xD).trans ((U uo).mono (U xD).size)⟩
  have HN6:Hid (_ = res):=(if_neg (fun h=>by rw [h9] at h; cases h)).symm.trans (U HN5)
  clear h9 HN5
  go_wp2_with fail
  refine (ez next _ l ⟨kk,s,ty,1,O,ii,pr,L⟩ w6 (zn (U HR) ((U xD).trans ((U uo).mono (U xD).size)) qt) (U vP) (U HG) (U uI).1 (U uI).2 (U HQB).1 (U HQB).2).mono ?_
  dsimp only
  rw [U HN6]
  rintro e w7 ⟨rfl,qx⟩
  have kc:=Y (((U xD).trans ((U uo).mono (U xD).size)).trans (qx.mono ((U xD).trans ((U uo).mono (U xD).size)).size))
  clear qx
  go_wp2_with fail
  go_ret
  exact ⟨rfl,U kc⟩
 have hlb:(li == 1) = false:=by rw [xd]; exact hli
 have pE:Hid (_ = res):=(if_neg (by simp [lifW,h5,hli])).symm.trans (U HN2)
 have xv:Hid (yn w2 w2):=Below.refl _ _
 clear h5 hli HN2
 go_wp2_with fail
 refine (hasPrice_any ⟨kk,s,ty,li,O,ii,pr,L⟩ w2).mono ?_
 rintro e w4 ⟨rfl,xC⟩
 have uo:=Y (D (U xv) xC)
 clear xC k0 k1 o0 o1 o2 o3 o4 o5 xv
 cases h7:prcB ⟨kk,s,ty,li,O,ii,pr,L⟩
 ·have HK:Hid (6 = res):=by have:=U pE; rw [if_pos h7] at this; exact this
  clear h7
  go_wp2_with fail
  go_ret
  exact ⟨zr (U HK),(U xD).trans ((U uo).mono (U xD).size)⟩
 have HN4:Hid (_ = res):=(if_neg (fun h=>by rw [h7] at h; cases h)).symm.trans (U pE)
 clear h7 pE
 have k0:=zb (U HX).1 (U uo) (U uw).1 0 _ rfl
 have k1:=zb (U HX).1 (U uo) (U uw).1 1 _ rfl
 have o0:=zb (U HX).2 (U uo) (U uw).2 0 _ rfl
 have o1:=zb (U HX).2 (U uo) (U uw).2 1 _ rfl
 have o2:=zb (U HX).2 (U uo) (U uw).2 2 _ rfl
 have o3:=zb (U HX).2 (U uo) (U uw).2 3 _ rfl
 have o4:=zb (U HX).2 (U uo) (U uw).2 4 _ rfl
 have o5:=zb (U HX).2 (U uo) (U uw).2 5 _ rfl
 simp only [Nat.zero_add] at k0 k1 o0 o1 o2 o3 o4 o5
 go_wp2_with fail
 refine (isQty_any O w4).mono ?_
 rintro e w5 ⟨rfl,rfl⟩
 cases h8:betB O 1 1000000
 ·have HK:Hid (7 = res):=by have:=U HN4; rw [if_pos h8] at this; exact this
  clear h8
  go_wp2_with fail
  go_ret
  exact ⟨zr (U HK),(U xD).trans ((U uo).mono (U xD).size)⟩
 have HN5:Hid (_ = res):=(if_neg (fun h=>by rw [h8] at h; cases h)).symm.trans (U HN4)
 have HQB:Hid (0 ≤ O∧O ≤ 1000000):=by
  simp only [betB,xe,xh] at h8
  exact ⟨by omega,h8.2⟩
 clear h8 HN4
 go_wp2_with fail
 refine (isTag_any L w5 (U qI)).mono ?_
 rintro e w6 ⟨rfl,rfl⟩
 cases h9:tagB L
 ·have HK:Hid (8 = res):=by have:=U HN5; rw [if_pos h9] at this; exact this
  clear h9
  go_wp2_with fail
  go_ret
  exact ⟨zr (U HK),(U xD).trans ((U uo).mono (U xD).size)⟩
 have HN6:Hid (_ = res):=(if_neg (fun h=>by rw [h9] at h; cases h)).symm.trans (U HN5)
 clear h9 HN5
 go_wp2_with fail
 refine (ez next _ l ⟨kk,s,ty,li,O,ii,pr,L⟩ w6 (zn (U HR) ((U xD).trans ((U uo).mono (U xD).size)) qt) (U vP) (U HG) (U uI).1 (U uI).2 (U HQB).1 (U HQB).2).mono ?_
 dsimp only
 rw [U HN6]
 rintro e w7 ⟨rfl,qx⟩
 have kc:=Y (((U xD).trans ((U uo).mono (U xD).size)).trans (qx.mono ((U xD).trans ((U uo).mono (U xD).size)).size))
 clear qx
 go_wp2_with fail
 go_ret
 exact ⟨rfl,U kc⟩
end Go.Proofs.YtbakanofkghmiaaGreat
