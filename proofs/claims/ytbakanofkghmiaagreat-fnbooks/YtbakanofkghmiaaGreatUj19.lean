/-
  The reasons that hang on what would come of an order, by the program: proved by walking the function.
-/
import Derived.Test.YtbakanofkghmiaaGreatUj18
set_option linter.unusedVariables false
set_option maxHeartbeats 6400000
set_option maxRecDepth 100000
namespace Go.Proofs.YtbakanofkghmiaaGreat
open Go.RowKit
theorem bR {c:Cm} {id:Int}:∀ (n:Nat) (l:List Od) (left:Int) (ts:List Ev),GoodL l→0 ≤ left→left ≤ 1000000→GoodL (matL c id n l left ts).1∧0 ≤ (matL c id n l left ts).2.1∧(matL c id n l left ts).2.1 ≤ 1000000
 | 0,l,left,ts,h,h0,G=>⟨h,h0,G⟩
 | n + 1,l,left,ts,h,h0,G=>by
  rw [matL]
  by_cases hl:0 < left
  ·rw [if_pos hl]
   cases hf:aI l (othS c.s) with
   | none=>exact ⟨h,h0,G⟩
   | some o =>
    simp only
    by_cases hm:aN c o = true
    ·rw [if_pos hm]
     obtain ⟨uZ,_⟩:=cT hf
     obtain ⟨k,hk⟩:=List.getElem?_of_mem uZ
     have Z:=h.left o uZ
     rw [plc_at h.rise hk,Int.toNat_natCast]
     exact bR n _ _ _ (cG h hk (by omega) (by omega)).1 (by omega) (by omega)
    ·rw [if_neg hm]; exact ⟨h,h0,G⟩
  ·rw [if_neg hl]; exact ⟨h,h0,G⟩
def matR (next:Int) (c:Cm) (qt:List Od × Int × List Ev):Int :=
 if c.t = 5∧0 < qt.2.2.length then 11 else if c.t = 4∧0 < qt.2.1 then 12 else if next = 1000000 then 13
 else if aC c.t = true∧0 < qt.2.1 then (if aV (qt.1 ++ [{ ordO c next with left:=qt.2.1 }]) = true then 13 else 0) else 0
theorem matS_put {V:World} {mb B:Nat} {next:Int} {vq vt:Value} {l:List Od} {t:Od} {ts:List Ev} (ht:V.there mb 0 9) (O:∃ xp,V.heap[mb]? = some (.cells xp 157 (0,0))) (Z:ORow V B vq l) (he:ERow V B vt ts) (hB:B ≤ V.heap.size) :
  MatS mb B (V.setCells mb 0 [H next,vq,H t.id,H t.side,H t.ticks,H t.left,H t.life,yj t.tag,vt]) next vq l t vt ts:=by
 have hn:some mb ≠ vq.ownBlock:=zl Z O (by decide)
 have hm:some mb ≠ vt.ownBlock:=zl he O (by decide)
 have hr:=yV V mb 0 [H next,vq,H t.id,H t.side,H t.ticks,H t.left,H t.life,yj t.tag,vt] (fun j K=>ht j K)
 refine ⟨hr,fun j K=>⟨?_,?_⟩,?_,?_,?_,?_⟩
 ·obtain ⟨u,hu⟩:∃ u,[H next,vq,H t.id,H t.side,H t.ticks,H t.left,H t.life,yj t.tag,vt][j]? = some u:=⟨_,yF (by simpa using K)⟩
  rw [hr j u hu]; rfl
 ·have:=(ht j K).2
  simp only [World.setCells,World.frozen?_setCell]
  exact this
 ·simp only [World.setCells]
  exact zw (zw (zw (zw (zw (zw (zw (zw (zw Z hn _ _) hn _ _) hn _ _) hn _ _) hn _ _) hn _ _) hn _ _) hn _ _) hn _ _
 ·simp only [World.setCells]
  exact zw (zw (zw (zw (zw (zw (zw (zw (zw he hm _ _) hm _ _) hm _ _) hm _ _) hm _ _) hm _ _) hm _ _) hm _ _) hm _ _
 ·obtain ⟨xp,O⟩:=O
  simp only [World.setCells]
  obtain ⟨_,G⟩:=zS V mb 0 (H next) O
  obtain ⟨_,G⟩:=zS _ mb 1 vq G
  obtain ⟨_,G⟩:=zS _ mb 2 (H t.id) G
  obtain ⟨_,G⟩:=zS _ mb 3 (H t.side) G
  obtain ⟨_,G⟩:=zS _ mb 4 (H t.ticks) G
  obtain ⟨_,G⟩:=zS _ mb 5 (H t.left) G
  obtain ⟨_,G⟩:=zS _ mb 6 (H t.life) G
  obtain ⟨_,G⟩:=zS _ mb 7 (yj t.tag) G
  exact zS _ mb 8 vt G
 ·simp only [World.setCells,World.setCell,Array.size_modify]; exact hB
theorem below_kept {B0 B mb:Nat} {w W W':World} (h:Below B0 w W) (hk:KeptBut mb B W W') (hB:B0 ≤ B) (hm:B ≤ mb):Below B0 w W' :=
 ⟨hk.os.trans h.os,hk.tape.trans h.tape,hk.output.trans h.output,yL h.size hk.size,fun k xI=>(hk.block k (by omega) (by omega)).trans (h.block k xI)⟩
theorem ew (next:Int) (vb:Value) (l:List Od) (c:Cm) (w:World) (hr:RdR Od.vs 6 w vb l) (hs:SlOk vb) (hg:GoodL l) (h0:0 ≤ next) (G:next ≤ 1000000) (jq:0 ≤ c.q) (qU:c.q ≤ 1000000) :
  Calls Tryz.prog 147 #[.agg #[H next,vb],noV c] w fun e w'=>e = yl (H (matR next c (matL c next 21 l c.q [])))∧ym w w':=by
 have HR:=Y hr
 have HG:=Y hg
 have vC:=Y hs
 have kH:=Y (bR (c:=c) (id:=next) 21 l c.q [] hg jq qU)
 have uG:Hid (0 ≤ next∧next ≤ 1000000∧0 ≤ c.q∧c.q ≤ 1000000):=⟨h0,G,jq,qU⟩
 obtain ⟨a,A,rfl,xC,hc⟩:=hr
 clear hc hg hs h0 G jq qU xC
 obtain ⟨kk,s,ty,li,F,ii,pr,L⟩:=c
 have HCA:Hid (∀ W:World,RdR Od.vs 6 W (.slice a l.length A) l→Calls Tryz.prog 112 #[.agg #[H next,.slice a l.length A],.agg #[H s,H ty,H li,H F,yi pr,yj L]] W _):=fun W hW=>match_any next _ l ⟨kk,s,ty,li,F,ii,pr,L⟩ W hW (U vC) (U HG) (U uG).1 (U uG).2.1 (U uG).2.2.1 (U uG).2.2.2
 generalize matL ⟨kk,s,ty,li,F,ii,pr,L⟩ next 21 l F [] = qt at kH HCA ⊢
 obtain ⟨FL,Fl,Ft⟩:=qt
 unfold noV
 simp only at *
 have xz:=zf w (N #[H next,.slice a l.length A] 28)
 have xZ:((w.alloc (N #[H next,.slice a l.length A] 28)).alloc (N #[H s,H ty,H li,H F,yi pr,yj L] 112)).heap.size = w.heap.size + 1 + 1:=by rw [zf,xz]
 have r1:=zg w [H next,.slice a l.length A] 28
 have r2:=zg (w.alloc (N #[H next,.slice a l.length A] 28)) [H s,H ty,H li,H F,yi pr,yj L] 112
 rw [xz] at r2
 have qp:Below (w.heap.size + 1) (w.alloc (N #[H next,.slice a l.length A] 28)) ((w.alloc (N #[H next,.slice a l.length A] 28)).alloc (N #[H s,H ty,H li,H F,yi pr,yj L] 112)):=(Below.refl _ _).alloc (by rw [xz]; omega) _
 have xD:Hid (ym w ((w.alloc (N #[H next,.slice a l.length A] 28)).alloc (N #[H s,H ty,H li,H F,yi pr,yj L] 112))):=(eB _ _).alloc (by rw [xz]; omega) _
 have HX:Hid (_∧_):=⟨zb r1 qp (by omega),r2⟩
 have qb:=Y xZ
 clear xz xZ r1 r2 qp
 go_enter Tryz.func147,Tryz.ntmps147
 refine eF fun hj xq=>?_
 go_wp2_with fail
 refine U xq _ _ ?_
 clear xq
 refine eF fun K2 qZ=>?_
 go_wp2_with fail
 generalize ((w.alloc (N #[H next,.slice a l.length A] 28)).alloc (N #[H s,H ty,H li,H F,yi pr,yj L] 112)) = X2 at xD HX qb ⊢
 have HX:Hid (X2.rangeAt w.heap.size 0 [H next,.slice a l.length A]∧X2.rangeAt (w.heap.size + 1) 0 [H s,H ty,H li,H F,yi pr,yj L]):=U HX
 refine (U HCA X2 (zh (U HR) (U xD) hb)).mono ?_
 rintro e w4 ⟨vq,vt,rfl,hoq,het,xy⟩
 obtain ⟨av,cv,rfl⟩:∃ a c,vt = .slice a Ft.length c:=by
  rcases het.2 with ⟨e,e2⟩ | ⟨g,A,xp,e,_⟩
  ·exact ⟨none,0,by rw [e,e2]⟩
  ·exact ⟨_,_,e⟩
 obtain ⟨aq,cq,rfl⟩:∃ a c,vq = .slice a FL.length c:=by
  rcases hoq.2 with ⟨e,e2⟩ | ⟨g,A,xp,e,_⟩
  ·exact ⟨none,0,by rw [e,e2]⟩
  ·exact ⟨_,_,e⟩
 have hal:=eB w4 (N #[H (next + 1),.slice aq FL.length cq,H next,H s,H (tk pr),H Fl,H li,yj L,.slice av Ft.length cv] 157)
 have ob:Hid (MatS w4.heap.size X2.heap.size (w4.alloc (N #[H (next + 1),.slice aq FL.length cq,H next,H s,H (tk pr),H Fl,H li,yj L,.slice av Ft.length cv] 157)) (next + 1) (.slice aq FL.length cq) FL ⟨next,s,tk pr,Fl,li,L⟩ (.slice av Ft.length cv) Ft):=⟨zg w4 [H (next + 1),.slice aq FL.length cq,H next,H s,H (tk pr),H Fl,H li,yj L,.slice av Ft.length cv] _,zt w4 [H (next + 1),.slice aq FL.length cq,H next,H s,H (tk pr),H Fl,H li,yj L,.slice av Ft.length cv] _,zj hoq hal,zI het hal,⟨_,heap_alloc_new w4 _⟩,yL xy.size (by rw [zf]; omega)⟩
 have jd:Hid (ym X2 (w4.alloc (N #[H (next + 1),.slice aq FL.length cq,H next,H s,H (tk pr),H Fl,H li,yj L,.slice av Ft.length cv] 157))):=xy.trans (hal.mono xy.size)
 have HMB:Hid (w.heap.size ≤ X2.heap.size∧X2.heap.size ≤ w4.heap.size):=⟨by have:=U qb; omega,xy.size⟩
 clear hal hoq het xy
 go_wp2_with fail
 refine U qZ _ _ ?_
 generalize (w4.alloc (N #[H (next + 1),.slice aq FL.length cq,H next,H s,H (tk pr),H Fl,H li,yj L,.slice av Ft.length cv] 157)) = W6 at ob jd ⊢
 generalize w4.heap.size = mb at ob HMB ⊢
 have hm:w.heap.size + 1 < X2.heap.size:=by have:=U qb; omega
 have k0:=zb (U HX).1 (U jd) (by omega) 0 _ rfl
 have o0:=zb (U HX).2 (U jd) (by omega) 0 _ rfl
 have o1:=zb (U HX).2 (U jd) (by omega) 1 _ rfl
 have o2:=zb (U HX).2 (U jd) (by omega) 2 _ rfl
 have o3:=zb (U HX).2 (U jd) (by omega) 3 _ rfl
 have o4:=zb (U HX).2 (U jd) (by omega) 4 _ rfl
 have o5:=zb (U HX).2 (U jd) (by omega) 5 _ rfl
 have y5:W6.cell? (J mb 5) = some (H Fl):=(U ob).cells 5 _ rfl
 have y8:W6.cell? (J mb 8) = some (.slice av Ft.length cv):=(U ob).cells 8 _ rfl
 simp only [Nat.zero_add] at k0 o0 o1 o2 o3 o4 o5
 have xJ:=Y ((U xD).trans ((U jd).mono (U xD).size))
 have HMR:Hid (matR next ⟨kk,s,ty,li,F,ii,pr,L⟩ (FL,Fl,Ft) = if ty = 5∧0 < Ft.length then 11 else if ty = 4∧0 < Fl then 12 else if next = 1000000 then 13 else if aC ty = true∧0 < Fl then (if aV (FL ++ [⟨next,s,tk pr,Fl,li,L⟩]) = true then 13 else 0) else 0):=rfl
 clear HCA HX qZ
 by_cases uY:ty = 5∧0 < Ft.length
 ·obtain ⟨rfl,hl⟩:=uY
  have hl':(0:Int) < Ft.length:=by omega
  have HK:Hid (matR next ⟨kk,s,5,li,F,ii,pr,L⟩ (FL,Fl,Ft) = 11):=by have:=U HMR; rw [if_pos ⟨rfl,hl⟩] at this; exact this
  clear hl
  go_wp2_with fail
  go_ret
  exact ⟨zv (U HK).symm,U xJ⟩
 have vS:Hid (_ = _):=(U HMR).trans (if_neg uY)
 clear HMR
 by_cases h5:ty = 5
 ·subst h5
  have hl':¬ (0:Int) < Ft.length:=fun h=>uY ⟨rfl,by omega⟩
  have vx:Hid (_ = _):=(U vS).trans (if_neg (fun h=>by cases h.1))
  clear vS
  clear uY
  by_cases vY:next = 1000000
  ·subst vY
   have HK:Hid (matR 1000000 ⟨kk,s,5,li,F,ii,pr,L⟩ (FL,Fl,Ft) = 13):=by have:=U vx; rw [if_pos rfl] at this; exact this
   go_wp2_with fail
   go_ret
   exact ⟨zv (U HK).symm,U xJ⟩
  have hnb:(next == 1000000) = false:=by rw [xb]; exact vY
  have kJ:Hid (_ = _):=(U vx).trans (if_neg vY)
  clear vY vx
  go_wp2_with fail
  refine (dN ⟨kk,s,5,li,F,ii,pr,L⟩ W6).mono ?_
  rintro e w7 ⟨rfl,qj⟩
  dsimp only
  have HM7:=Y (dk (U ob) qj)
  have jJ:=Y (eE (U xJ) qj)
  have y7:w7.cell? (J mb 5) = some (H Fl):=(U HM7).cells 5 _ rfl
  clear qj k0 o0 o1 o2 o3 o4 o5 y5 y8
  cases qI:aC 5
  ·have HK:Hid (matR next ⟨kk,s,5,li,F,ii,pr,L⟩ (FL,Fl,Ft) = 0):=by
    have:=U kJ
    rw [if_neg (fun h=>by rw [qI] at h; cases h.1)] at this
    exact this
   clear qI
   go_wp2_with fail
   go_ret
   exact ⟨zv (U HK).symm,U jJ⟩
  ·by_cases hFl:0 < Fl
   ·have HMRG:Hid (matR next ⟨kk,s,5,li,F,ii,pr,L⟩ (FL,Fl,Ft) = if aV (FL ++ [⟨next,s,tk pr,Fl,li,L⟩]) = true then 13 else 0):=by
     have:=U kJ
     rw [if_pos ⟨qI,hFl⟩] at this
     exact this
    clear qI
    go_wp2_with fail
    refine (rest_any mb X2.heap.size (next + 1) _ FL ⟨next,s,tk pr,Fl,li,L⟩ _ Ft w7 (U HM7) (by have:=(U kH).1.len; omega)).mono ?_
    rintro e w8 ⟨vq8,rfl,hM8,hK8⟩
    have pW:=Y hM8
    have vG:=Y (below_kept (U jJ) hK8 (U HMB).1 (U HMB).2)
    clear hM8 hK8 y7
    go_wp2_with fail
    refine (isTooFull_any mb X2.heap.size (next + 1) vq8 _ ⟨next,s,tk pr,Fl,li,L⟩ _ Ft w8 (U pW) (by have:=(U kH).1.len; rw [yN]; simp only [List.length_cons,List.length_nil]; omega) (by
     intro o' vv
     have hfg:=U kH
     rcases List.mem_append.1 vv with h | h
     ·have:=hfg.1.left o' h; omega
     ·rw [List.mem_singleton] at h; subst h; exact hfg.2)).mono ?_
    rintro e w9 ⟨rfl,hb9⟩
    have ka:=Y (eE (U vG) hb9)
    clear hb9
    cases hfu:aV (FL ++ [⟨next,s,tk pr,Fl,li,L⟩])
    ·have HK:Hid (matR next ⟨kk,s,5,li,F,ii,pr,L⟩ (FL,Fl,Ft) = 0):=by have:=U HMRG; rw [hfu] at this; exact this
     clear hfu
     go_wp2_with fail
     go_ret
     exact ⟨zv (U HK).symm,U ka⟩
    ·have HK:Hid (matR next ⟨kk,s,5,li,F,ii,pr,L⟩ (FL,Fl,Ft) = 13):=by have:=U HMRG; rw [hfu] at this; exact this
     clear hfu
     go_wp2_with fail
     go_ret
     exact ⟨zv (U HK).symm,U ka⟩
   ·have HK:Hid (matR next ⟨kk,s,5,li,F,ii,pr,L⟩ (FL,Fl,Ft) = 0):=by have:=U kJ; rw [if_neg (fun h=>hFl h.2)] at this; exact this
    clear qI
    go_wp2_with fail
    go_ret
    exact ⟨zv (U HK).symm,U jJ⟩
 have vD:(ty == 5) = false:=by rw [xb]; exact h5
 clear uY
 by_cases qA:ty = 4∧0 < Fl
 ·obtain ⟨rfl,hl⟩:=qA
  have HK:Hid (matR next ⟨kk,s,4,li,F,ii,pr,L⟩ (FL,Fl,Ft) = 12):=by have:=U vS; rw [if_pos ⟨rfl,hl⟩] at this; exact this
  clear h5 vD
  go_wp2_with fail
  go_ret
  exact ⟨zv (U HK).symm,U xJ⟩
 have vx:Hid (_ = _):=(U vS).trans (if_neg qA)
 clear vS
 by_cases h4:ty = 4
 ·subst h4
  have hl':¬ 0 < Fl:=fun h=>qA ⟨rfl,h⟩
  clear qA h5 vD
  by_cases vY:next = 1000000
  ·subst vY
   have HK:Hid (matR 1000000 ⟨kk,s,4,li,F,ii,pr,L⟩ (FL,Fl,Ft) = 13):=by have:=U vx; rw [if_pos rfl] at this; exact this
   go_wp2_with fail
   go_ret
   exact ⟨zv (U HK).symm,U xJ⟩
  have hnb:(next == 1000000) = false:=by rw [xb]; exact vY
  have kJ:Hid (_ = _):=(U vx).trans (if_neg vY)
  clear vY vx
  go_wp2_with fail
  refine (dN ⟨kk,s,4,li,F,ii,pr,L⟩ W6).mono ?_
  rintro e w7 ⟨rfl,qj⟩
  dsimp only
  have HM7:=Y (dk (U ob) qj)
  have jJ:=Y (eE (U xJ) qj)
  have y7:w7.cell? (J mb 5) = some (H Fl):=(U HM7).cells 5 _ rfl
  clear qj k0 o0 o1 o2 o3 o4 o5 y5 y8
  cases qI:aC 4
  ·have HK:Hid (matR next ⟨kk,s,4,li,F,ii,pr,L⟩ (FL,Fl,Ft) = 0):=by
    have:=U kJ
    rw [if_neg (fun h=>by rw [qI] at h; cases h.1)] at this
    exact this
   clear qI
   go_wp2_with fail
   go_ret
   exact ⟨zv (U HK).symm,U jJ⟩
  ·exact absurd qI (by decide)
 have xy:(ty == 4) = false:=by rw [xb]; exact h4
 clear qA h5 h4
 by_cases vY:next = 1000000
 ·subst vY
  have HK:Hid (matR 1000000 ⟨kk,s,ty,li,F,ii,pr,L⟩ (FL,Fl,Ft) = 13):=by have:=U vx; rw [if_pos rfl] at this; exact this
  go_wp2_with fail
  go_ret
  exact ⟨zv (U HK).symm,U xJ⟩
 have hnb:(next == 1000000) = false:=by rw [xb]; exact vY
 have kJ:Hid (_ = _):=(U vx).trans (if_neg vY)
 clear vY vx
 go_wp2_with fail
 refine (dN ⟨kk,s,ty,li,F,ii,pr,L⟩ W6).mono ?_
 rintro e w7 ⟨rfl,qj⟩
 dsimp only
 have HM7:=Y (dk (U ob) qj)
 have jJ:=Y (eE (U xJ) qj)
 have y7:w7.cell? (J mb 5) = some (H Fl):=(U HM7).cells 5 _ rfl
 clear qj k0 o0 o1 o2 o3 o4 o5 y5 y8
 cases qI:aC ty
 ·have HK:Hid (matR next ⟨kk,s,ty,li,F,ii,pr,L⟩ (FL,Fl,Ft) = 0):=by
   have:=U kJ
   rw [if_neg (fun h=>by rw [qI] at h; cases h.1)] at this
   exact this
  clear qI
  go_wp2_with fail
  go_ret
  exact ⟨zv (U HK).symm,U jJ⟩
 ·by_cases hFl:0 < Fl
  ·have HMRG:Hid (matR next ⟨kk,s,ty,li,F,ii,pr,L⟩ (FL,Fl,Ft) = if aV (FL ++ [⟨next,s,tk pr,Fl,li,L⟩]) = true then 13 else 0):=by
    have:=U kJ
    rw [if_pos ⟨qI,hFl⟩] at this
    exact this
   clear qI
   go_wp2_with fail
   refine (rest_any mb X2.heap.size (next + 1) _ FL ⟨next,s,tk pr,Fl,li,L⟩ _ Ft w7 (U HM7) (by have:=(U kH).1.len; omega)).mono ?_
   rintro e w8 ⟨vq8,rfl,hM8,hK8⟩
   have pW:=Y hM8
   have vG:=Y (below_kept (U jJ) hK8 (U HMB).1 (U HMB).2)
   clear hM8 hK8 y7
   go_wp2_with fail
   refine (isTooFull_any mb X2.heap.size (next + 1) vq8 _ ⟨next,s,tk pr,Fl,li,L⟩ _ Ft w8 (U pW) (by have:=(U kH).1.len; rw [yN]; simp only [List.length_cons,List.length_nil]; omega) (by
    intro o' vv
    have hfg:=U kH
    rcases List.mem_append.1 vv with h | h
    ·have:=hfg.1.left o' h; omega
    ·rw [List.mem_singleton] at h; subst h; exact hfg.2)).mono ?_
   rintro e w9 ⟨rfl,hb9⟩
   have ka:=Y (eE (U vG) hb9)
   clear hb9
   cases hfu:aV (FL ++ [⟨next,s,tk pr,Fl,li,L⟩])
   ·have HK:Hid (matR next ⟨kk,s,ty,li,F,ii,pr,L⟩ (FL,Fl,Ft) = 0):=by have:=U HMRG; rw [hfu] at this; exact this
    clear hfu
    go_wp2_with fail
    go_ret
    exact ⟨zv (U HK).symm,U ka⟩
   ·have HK:Hid (matR next ⟨kk,s,ty,li,F,ii,pr,L⟩ (FL,Fl,Ft) = 13):=by have:=U HMRG; rw [hfu] at this; exact this
    clear hfu
    go_wp2_with fail
    go_ret
    exact ⟨zv (U HK).symm,U ka⟩
  ·have HK:Hid (matR next ⟨kk,s,ty,li,F,ii,pr,L⟩ (FL,Fl,Ft) = 0):=by have:=U kJ; rw [if_neg (fun h=>hFl h.2)] at this; exact this
   clear qI
   go_wp2_with fail
   go_ret
   exact ⟨zv (U HK).symm,U jJ⟩
def lifW (c:Cm):Bool:=!betB c.l 0 1 || (decide (c.l = 1) && !aC c.t)
def newR (next:Int) (l:List Od) (c:Cm):Int :=
 if betB c.s 1 2 = false then 3 else if betB c.t 1 5 = false then 4 else if lifW c = true then 5 else if prcB c = false then 6 else if betB c.q 1 1000000 = false then 7 else if tagB c.g = false then 8 else matR next c (matL c next 21 l c.q [])
theorem newRefusal_any (next:Int) (vb:Value) (l:List Od) (c:Cm) (w:World) (hr:RdR Od.vs 6 w vb l) (hs:SlOk vb) (hg:GoodL l) (h0:0 ≤ next) (G:next ≤ 1000000) (ht:c.g.size ≤ maxLen) :
  Calls Tryz.prog 108 #[.agg #[H next,vb],noV c] w fun e w'=>e = yl (H (newR next l c))∧ym w w':=by
 have HR:=Y hr
 have HG:=Y hg
 have vC:=Y hs
 have uG:Hid (0 ≤ next∧next ≤ 1000000):=⟨h0,G⟩
 have qw:=Y ht
 obtain ⟨a,A,rfl,xC,hc⟩:=hr
 clear hc hg hs h0 G ht xC
 generalize vk:newR next l c = res
 have HN0:Hid (_ = res):=vk
 clear vk
 obtain ⟨kk,s,ty,li,F,ii,pr,L⟩:=c
 unfold newR at HN0
 unfold noV
 simp only at *
 have xz:=zf w (N #[H next,.slice a l.length A] 28)
 have xZ:((w.alloc (N #[H next,.slice a l.length A] 28)).alloc (N #[H s,H ty,H li,H F,yi pr,yj L] 112)).heap.size = w.heap.size + 1 + 1:=by rw [zf,xz]
 have r1:=zg w [H next,.slice a l.length A] 28
 have r2:=zg (w.alloc (N #[H next,.slice a l.length A] 28)) [H s,H ty,H li,H F,yi pr,yj L] 112
 rw [xz] at r2
 have qp:Below (w.heap.size + 1) (w.alloc (N #[H next,.slice a l.length A] 28)) ((w.alloc (N #[H next,.slice a l.length A] 28)).alloc (N #[H s,H ty,H li,H F,yi pr,yj L] 112)):=(Below.refl _ _).alloc (by rw [xz]; omega) _
 have xD:Hid (ym w ((w.alloc (N #[H next,.slice a l.length A] 28)).alloc (N #[H s,H ty,H li,H F,yi pr,yj L] 112))):=(eB _ _).alloc (by rw [xz]; omega) _
 have HX:Hid (_∧_):=⟨zb r1 qp (by omega),r2⟩
 have ut:Hid (w.heap.size < ((w.alloc (N #[H next,.slice a l.length A] 28)).alloc (N #[H s,H ty,H li,H F,yi pr,yj L] 112)).heap.size∧w.heap.size + 1 < ((w.alloc (N #[H next,.slice a l.length A] 28)).alloc (N #[H s,H ty,H li,H F,yi pr,yj L] 112)).heap.size):=⟨by omega,by omega⟩
 clear xz xZ r1 r2 qp
 go_enter Tryz.func108,Tryz.ntmps108
 refine eF fun hj xq=>?_
 go_wp2_with fail
 refine U xq _ _ ?_
 clear xq
 generalize ((w.alloc (N #[H next,.slice a l.length A] 28)).alloc (N #[H s,H ty,H li,H F,yi pr,yj L] 112)) = X2 at xD HX ut ⊢
 have HX:Hid (X2.rangeAt w.heap.size 0 [H next,.slice a l.length A]∧X2.rangeAt (w.heap.size + 1) 0 [H s,H ty,H li,H F,yi pr,yj L]):=U HX
 have k0:=zb (U HX).1 (Below.refl _ _) (U ut).1 0 _ rfl
 have k1:=zb (U HX).1 (Below.refl _ _) (U ut).1 1 _ rfl
 have o0:=zb (U HX).2 (Below.refl _ _) (U ut).2 0 _ rfl
 have o1:=zb (U HX).2 (Below.refl _ _) (U ut).2 1 _ rfl
 have o2:=zb (U HX).2 (Below.refl _ _) (U ut).2 2 _ rfl
 have o3:=zb (U HX).2 (Below.refl _ _) (U ut).2 3 _ rfl
 have o4:=zb (U HX).2 (Below.refl _ _) (U ut).2 4 _ rfl
 have o5:=zb (U HX).2 (Below.refl _ _) (U ut).2 5 _ rfl
 simp only [Nat.zero_add] at k0 k1 o0 o1 o2 o3 o4 o5
 go_wp2_with fail
 refine (cS s X2).mono ?_
 rintro e w' ⟨rfl,rfl⟩
 cases h3:betB s 1 2
 ·have HK:Hid (3 = res):=by have:=U HN0; rw [if_pos h3] at this; exact this
  clear h3
  go_wp2_with fail
  go_ret
  exact ⟨zv (U HK),U xD⟩
 have HN1:Hid (_ = res):=(if_neg (fun h=>by rw [h3] at h; cases h)).symm.trans (U HN0)
 clear h3 HN0
 go_wp2_with fail
 refine (isType_any ty w').mono ?_
 rintro e w1 ⟨rfl,rfl⟩
 cases h4:betB ty 1 5
 ·have HK:Hid (4 = res):=by have:=U HN1; rw [if_pos h4] at this; exact this
  clear h4
  go_wp2_with fail
  go_ret
  exact ⟨zv (U HK),U xD⟩
 have HN2:Hid (_ = res):=(if_neg (fun h=>by rw [h4] at h; cases h)).symm.trans (U HN1)
 clear h4 HN1
 go_wp2_with fail
 refine (cR li w1).mono ?_
 rintro e w2 ⟨rfl,rfl⟩
 cases h5:betB li 0 1
 ·have HK:Hid (5 = res):=by have:=U HN2; rw [if_pos (by simp [lifW,h5])] at this; exact this
  clear h5
  go_wp2_with fail
  go_ret
  exact ⟨zv (U HK),U xD⟩
 by_cases hli:li = 1
 ·subst hli
  go_wp2_with fail
  refine (dN ⟨kk,s,ty,1,F,ii,pr,L⟩ w2).mono ?_
  rintro e w3 ⟨rfl,uw⟩
  dsimp only
  have xr:=Y uw
  clear uw k0 k1 o0 o1 o2 o3 o4 o5
  cases h6:aC ty
  ·have HK:Hid (5 = res):=by have:=U HN2; rw [if_pos (by simp [lifW,h6])] at this; exact this
   clear h6 h5
   go_wp2_with fail
   go_ret
   exact ⟨zv (U HK),(U xD).trans ((U xr).mono (U xD).size)⟩
  have ph:Hid (_ = res):=(if_neg (by simp [lifW,h5,h6])).symm.trans (U HN2)
  clear h5 h6 HN2
  have k0:=zb (U HX).1 (U xr) (U ut).1 0 _ rfl
  have k1:=zb (U HX).1 (U xr) (U ut).1 1 _ rfl
  have o0:=zb (U HX).2 (U xr) (U ut).2 0 _ rfl
  have o1:=zb (U HX).2 (U xr) (U ut).2 1 _ rfl
  have o2:=zb (U HX).2 (U xr) (U ut).2 2 _ rfl
  have o3:=zb (U HX).2 (U xr) (U ut).2 3 _ rfl
  have o4:=zb (U HX).2 (U xr) (U ut).2 4 _ rfl
  have o5:=zb (U HX).2 (U xr) (U ut).2 5 _ rfl
  simp only [Nat.zero_add] at k0 k1 o0 o1 o2 o3 o4 o5
  go_wp2_with fail
  refine (hasPrice_any ⟨kk,s,ty,1,F,ii,pr,L⟩ w3).mono ?_
  rintro e w4 ⟨rfl,xy⟩
  have xY:=Y (eE (U xr) xy)
  clear xy k0 k1 o0 o1 o2 o3 o4 o5 xr
  cases h7:prcB ⟨kk,s,ty,1,F,ii,pr,L⟩
  ·have HK:Hid (6 = res):=by have:=U ph; rw [if_pos h7] at this; exact this
   clear h7
   go_wp2_with fail
   go_ret
   exact ⟨zv (U HK),(U xD).trans ((U xY).mono (U xD).size)⟩
  have HN4:Hid (_ = res):=(if_neg (fun h=>by rw [h7] at h; cases h)).symm.trans (U ph)
  clear h7 ph
  have k0:=zb (U HX).1 (U xY) (U ut).1 0 _ rfl
  have k1:=zb (U HX).1 (U xY) (U ut).1 1 _ rfl
  have o0:=zb (U HX).2 (U xY) (U ut).2 0 _ rfl
  have o1:=zb (U HX).2 (U xY) (U ut).2 1 _ rfl
  have o2:=zb (U HX).2 (U xY) (U ut).2 2 _ rfl
  have o3:=zb (U HX).2 (U xY) (U ut).2 3 _ rfl
  have o4:=zb (U HX).2 (U xY) (U ut).2 4 _ rfl
  have o5:=zb (U HX).2 (U xY) (U ut).2 5 _ rfl
  simp only [Nat.zero_add] at k0 k1 o0 o1 o2 o3 o4 o5
  go_wp2_with fail
  refine (isQty_any F w4).mono ?_
  rintro e w5 ⟨rfl,rfl⟩
  cases h8:betB F 1 1000000
  ·have HK:Hid (7 = res):=by have:=U HN4; rw [if_pos h8] at this; exact this
   clear h8
   go_wp2_with fail
   go_ret
   exact ⟨zv (U HK),(U xD).trans ((U xY).mono (U xD).size)⟩
  have HN5:Hid (_ = res):=(if_neg (fun h=>by rw [h8] at h; cases h)).symm.trans (U HN4)
  have HQB:Hid (0 ≤ F∧F ≤ 1000000):=by
   simp only [betB,xc,xd] at h8
   exact ⟨by omega,h8.2⟩
  clear h8 HN4
  go_wp2_with fail
  refine (isTag_any L w5 (U qw)).mono ?_
  rintro e w6 ⟨rfl,rfl⟩
  cases h9:tagB L
  ·have HK:Hid (8 = res):=by have:=U HN5; rw [if_pos h9] at this; exact this
   clear h9
   go_wp2_with fail
   go_ret
   exact ⟨zv (U HK),(U xD).trans ((U xY).mono (U xD).size)⟩
  have HN6:Hid (_ = res):=(if_neg (fun h=>by rw [h9] at h; cases h)).symm.trans (U HN5)
  clear h9 HN5
  go_wp2_with fail
  refine (ew next _ l ⟨kk,s,ty,1,F,ii,pr,L⟩ w6 (zh (U HR) ((U xD).trans ((U xY).mono (U xD).size)) hb) (U vC) (U HG) (U uG).1 (U uG).2 (U HQB).1 (U HQB).2).mono ?_
  dsimp only
  rw [U HN6]
  rintro e w7 ⟨rfl,qj⟩
  have jJ:=Y (((U xD).trans ((U xY).mono (U xD).size)).trans (qj.mono ((U xD).trans ((U xY).mono (U xD).size)).size))
  clear qj
  go_wp2_with fail
  go_ret
  exact ⟨rfl,U jJ⟩
 have hlb:(li == 1) = false:=by rw [xb]; exact hli
 have ph:Hid (_ = res):=(if_neg (by simp [lifW,h5,hli])).symm.trans (U HN2)
 have xr:Hid (ym w2 w2):=Below.refl _ _
 clear h5 hli HN2
 go_wp2_with fail
 refine (hasPrice_any ⟨kk,s,ty,li,F,ii,pr,L⟩ w2).mono ?_
 rintro e w4 ⟨rfl,xy⟩
 have xY:=Y (eE (U xr) xy)
 clear xy k0 k1 o0 o1 o2 o3 o4 o5 xr
 cases h7:prcB ⟨kk,s,ty,li,F,ii,pr,L⟩
 ·have HK:Hid (6 = res):=by have:=U ph; rw [if_pos h7] at this; exact this
  clear h7
  go_wp2_with fail
  go_ret
  exact ⟨zv (U HK),(U xD).trans ((U xY).mono (U xD).size)⟩
 have HN4:Hid (_ = res):=(if_neg (fun h=>by rw [h7] at h; cases h)).symm.trans (U ph)
 clear h7 ph
 have k0:=zb (U HX).1 (U xY) (U ut).1 0 _ rfl
 have k1:=zb (U HX).1 (U xY) (U ut).1 1 _ rfl
 have o0:=zb (U HX).2 (U xY) (U ut).2 0 _ rfl
 have o1:=zb (U HX).2 (U xY) (U ut).2 1 _ rfl
 have o2:=zb (U HX).2 (U xY) (U ut).2 2 _ rfl
 have o3:=zb (U HX).2 (U xY) (U ut).2 3 _ rfl
 have o4:=zb (U HX).2 (U xY) (U ut).2 4 _ rfl
 have o5:=zb (U HX).2 (U xY) (U ut).2 5 _ rfl
 simp only [Nat.zero_add] at k0 k1 o0 o1 o2 o3 o4 o5
 go_wp2_with fail
 refine (isQty_any F w4).mono ?_
 rintro e w5 ⟨rfl,rfl⟩
 cases h8:betB F 1 1000000
 ·have HK:Hid (7 = res):=by have:=U HN4; rw [if_pos h8] at this; exact this
  clear h8
  go_wp2_with fail
  go_ret
  exact ⟨zv (U HK),(U xD).trans ((U xY).mono (U xD).size)⟩
 have HN5:Hid (_ = res):=(if_neg (fun h=>by rw [h8] at h; cases h)).symm.trans (U HN4)
 have HQB:Hid (0 ≤ F∧F ≤ 1000000):=by
  simp only [betB,xc,xd] at h8
  exact ⟨by omega,h8.2⟩
 clear h8 HN4
 go_wp2_with fail
 refine (isTag_any L w5 (U qw)).mono ?_
 rintro e w6 ⟨rfl,rfl⟩
 cases h9:tagB L
 ·have HK:Hid (8 = res):=by have:=U HN5; rw [if_pos h9] at this; exact this
  clear h9
  go_wp2_with fail
  go_ret
  exact ⟨zv (U HK),(U xD).trans ((U xY).mono (U xD).size)⟩
 have HN6:Hid (_ = res):=(if_neg (fun h=>by rw [h9] at h; cases h)).symm.trans (U HN5)
 clear h9 HN5
 go_wp2_with fail
 refine (ew next _ l ⟨kk,s,ty,li,F,ii,pr,L⟩ w6 (zh (U HR) ((U xD).trans ((U xY).mono (U xD).size)) hb) (U vC) (U HG) (U uG).1 (U uG).2 (U HQB).1 (U HQB).2).mono ?_
 dsimp only
 rw [U HN6]
 rintro e w7 ⟨rfl,qj⟩
 have jJ:=Y (((U xD).trans ((U xY).mono (U xD).size)).trans (qj.mono ((U xD).trans ((U xY).mono (U xD).size)).size))
 clear qj
 go_wp2_with fail
 go_ret
 exact ⟨rfl,U jJ⟩
end Go.Proofs.YtbakanofkghmiaaGreat
