/-
  The reasons that hang on what would come of an order, by the program: proved by walking the function.
-/
import Derived.Test.YtbakanofkghmiaaGreatTj19
set_option linter.unusedVariables false
set_option maxHeartbeats 6400000
set_option maxRecDepth 100000
namespace Go.Proofs.YtbakanofkghmiaaGreat
open Go.RowKit
theorem ba {c:Cm} {id:Int}:∀ (n:Nat) (l:List Od) (left:Int) (ts:List Ev),GoodL l→0 ≤ left→left ≤ 1000000→GoodL (matL c id n l left ts).1∧0 ≤ (matL c id n l left ts).2.1∧(matL c id n l left ts).2.1 ≤ 1000000
 | 0,l,left,ts,h,h0,Q=>⟨h,h0,Q⟩
 | n + 1,l,left,ts,h,h0,Q=>by
  rw [matL]
  by_cases hl:0 < left
  ·rw [if_pos hl]
   cases hf:pW l (othS c.s) with
   | none=>exact ⟨h,h0,Q⟩
   | some o =>
    simp only
    by_cases hm:az c o = true
    ·rw [if_pos hm]
     obtain ⟨vz,_⟩:=cN hf
     obtain ⟨k,hk⟩:=List.getElem?_of_mem vz
     have Z:=h.left o vz
     rw [plc_at h.rise hk,Int.toNat_natCast]
     exact ba n _ _ _ (cw h hk (by omega) (by omega)).1 (by omega) (by omega)
    ·rw [if_neg hm]; exact ⟨h,h0,Q⟩
  ·rw [if_neg hl]; exact ⟨h,h0,Q⟩
def matR (next:Int) (c:Cm) (hb:List Od × Int × List Ev):Int :=
 if c.t = 5∧0 < hb.2.2.length then 11 else if c.t = 4∧0 < hb.2.1 then 12 else if next = 1000000 then 13
 else if pP c.t = true∧0 < hb.2.1 then (if fullB (hb.1 ++ [{ ordO c next with left:=hb.2.1 }]) = true then 13 else 0) else 0
theorem matS_put {V:World} {mb B:Nat} {next:Int} {vq vt:Value} {l:List Od} {t:Od} {ts:List Ev} (ht:V.there mb 0 9) (F:∃ xp,V.heap[mb]? = some (.cells xp 157 (0,0))) (Z:ORow V B vq l) (he:ERow V B vt ts) (hB:B ≤ V.heap.size) :
  MatS mb B (V.setCells mb 0 [H next,vq,H t.id,H t.side,H t.ticks,H t.left,H t.life,yj t.tag,vt]) next vq l t vt ts:=by
 have hn:some mb ≠ vq.ownBlock:=zj Z F (by decide)
 have hm:some mb ≠ vt.ownBlock:=zj he F (by decide)
 have hr:=yV V mb 0 [H next,vq,H t.id,H t.side,H t.ticks,H t.left,H t.life,yj t.tag,vt] (fun j R=>ht j R)
 refine ⟨hr,fun j R=>⟨?_,?_⟩,?_,?_,?_,?_⟩
 ·obtain ⟨u,hu⟩:∃ u,[H next,vq,H t.id,H t.side,H t.ticks,H t.left,H t.life,yj t.tag,vt][j]? = some u:=⟨_,yF (by simpa using R)⟩
  rw [hr j u hu]; rfl
 ·have:=(ht j R).2
  simp only [World.setCells,World.frozen?_setCell]
  exact this
 ·simp only [World.setCells]
  exact zr (zr (zr (zr (zr (zr (zr (zr (zr Z hn _ _) hn _ _) hn _ _) hn _ _) hn _ _) hn _ _) hn _ _) hn _ _) hn _ _
 ·simp only [World.setCells]
  exact zr (zr (zr (zr (zr (zr (zr (zr (zr he hm _ _) hm _ _) hm _ _) hm _ _) hm _ _) hm _ _) hm _ _) hm _ _) hm _ _
 ·obtain ⟨xp,F⟩:=F
  simp only [World.setCells]
  obtain ⟨_,Q⟩:=zL V mb 0 (H next) F
  obtain ⟨_,Q⟩:=zL _ mb 1 vq Q
  obtain ⟨_,Q⟩:=zL _ mb 2 (H t.id) Q
  obtain ⟨_,Q⟩:=zL _ mb 3 (H t.side) Q
  obtain ⟨_,Q⟩:=zL _ mb 4 (H t.ticks) Q
  obtain ⟨_,Q⟩:=zL _ mb 5 (H t.left) Q
  obtain ⟨_,Q⟩:=zL _ mb 6 (H t.life) Q
  obtain ⟨_,Q⟩:=zL _ mb 7 (yj t.tag) Q
  exact zL _ mb 8 vt Q
 ·simp only [World.setCells,World.setCell,Array.size_modify]; exact hB
theorem below_kept {B0 B mb:Nat} {w W W':World} (h:Below B0 w W) (hk:KeptBut mb B W W') (hB:B0 ≤ B) (hm:B ≤ mb):Below B0 w W' :=
 ⟨hk.os.trans h.os,hk.tape.trans h.tape,hk.output.trans h.output,yL h.size hk.size,fun k xH=>(hk.block k (by omega) (by omega)).trans (h.block k xH)⟩
theorem dj (next:Int) (vb:Value) (l:List Od) (c:Cm) (w:World) (hr:RdR Od.vs 6 w vb l) (hs:SlOk vb) (hg:GoodL l) (h0:0 ≤ next) (Q:next ≤ 1000000) (jf:0 ≤ c.q) (qW:c.q ≤ 1000000) :
  Calls Tryz.prog 147 #[.agg #[H next,vb],noV c] w fun e w'=>e = yl (H (matR next c (matL c next 21 l c.q [])))∧ym w w':=by
 have HR:=Y hr
 have HG:=Y hg
 have vH:=Y hs
 have oC:=Y (ba (c:=c) (id:=next) 21 l c.q [] hg jf qW)
 have uB:Hid (0 ≤ next∧next ≤ 1000000∧0 ≤ c.q∧c.q ≤ 1000000):=⟨h0,Q,jf,qW⟩
 obtain ⟨a,E,rfl,xB,hc⟩:=hr
 clear hc hg hs h0 Q jf qW xB
 obtain ⟨kk,s,ty,li,O,ii,pr,K⟩:=c
 have HCA:Hid (∀ W:World,RdR Od.vs 6 W (.slice a l.length E) l→Calls Tryz.prog 112 #[.agg #[H next,.slice a l.length E],.agg #[H s,H ty,H li,H O,yi pr,yj K]] W _):=fun W hW=>match_any next _ l ⟨kk,s,ty,li,O,ii,pr,K⟩ W hW (U vH) (U HG) (U uB).1 (U uB).2.1 (U uB).2.2.1 (U uB).2.2.2
 generalize matL ⟨kk,s,ty,li,O,ii,pr,K⟩ next 21 l O [] = hb at oC HCA ⊢
 obtain ⟨FL,Fl,Ft⟩:=hb
 unfold noV
 simp only at *
 have xy:=zf w (D #[H next,.slice a l.length E] 28)
 have xY:((w.alloc (D #[H next,.slice a l.length E] 28)).alloc (D #[H s,H ty,H li,H O,yi pr,yj K] 112)).heap.size = w.heap.size + 1 + 1:=by rw [zf,xy]
 have r1:=zg w [H next,.slice a l.length E] 28
 have r2:=zg (w.alloc (D #[H next,.slice a l.length E] 28)) [H s,H ty,H li,H O,yi pr,yj K] 112
 rw [xy] at r2
 have qg:Below (w.heap.size + 1) (w.alloc (D #[H next,.slice a l.length E] 28)) ((w.alloc (D #[H next,.slice a l.length E] 28)).alloc (D #[H s,H ty,H li,H O,yi pr,yj K] 112)):=(Below.refl _ _).alloc (by rw [xy]; omega) _
 have xC:Hid (ym w ((w.alloc (D #[H next,.slice a l.length E] 28)).alloc (D #[H s,H ty,H li,H O,yi pr,yj K] 112))):=(dm _ _).alloc (by rw [xy]; omega) _
 have HX:Hid (_∧_):=⟨zb r1 qg (by omega),r2⟩
 have qS:=Y xY
 clear xy xY r1 r2 qg
 go_enter Tryz.func147,Tryz.ntmps147
 refine ds fun tg xq=>?_
 go_wp2_with fail
 refine U xq _ _ ?_
 clear xq
 refine ds fun K2 jQ=>?_
 go_wp2_with fail
 generalize ((w.alloc (D #[H next,.slice a l.length E] 28)).alloc (D #[H s,H ty,H li,H O,yi pr,yj K] 112)) = X2 at xC HX qS ⊢
 have HX:Hid (X2.rangeAt w.heap.size 0 [H next,.slice a l.length E]∧X2.rangeAt (w.heap.size + 1) 0 [H s,H ty,H li,H O,yi pr,yj K]):=U HX
 refine (U HCA X2 (zl (U HR) (U xC) qt)).mono ?_
 rintro e w4 ⟨vq,vt,rfl,hoq,het,xz⟩
 obtain ⟨av,cv,rfl⟩:∃ a c,vt = .slice a Ft.length c:=by
  rcases het.2 with ⟨e,e2⟩ | ⟨g,E,xp,e,_⟩
  ·exact ⟨none,0,by rw [e,e2]⟩
  ·exact ⟨_,_,e⟩
 obtain ⟨aq,cq,rfl⟩:∃ a c,vq = .slice a FL.length c:=by
  rcases hoq.2 with ⟨e,e2⟩ | ⟨g,E,xp,e,_⟩
  ·exact ⟨none,0,by rw [e,e2]⟩
  ·exact ⟨_,_,e⟩
 have hal:=dm w4 (D #[H (next + 1),.slice aq FL.length cq,H next,H s,H (tk pr),H Fl,H li,yj K,.slice av Ft.length cv] 157)
 have kL:Hid (MatS w4.heap.size X2.heap.size (w4.alloc (D #[H (next + 1),.slice aq FL.length cq,H next,H s,H (tk pr),H Fl,H li,yj K,.slice av Ft.length cv] 157)) (next + 1) (.slice aq FL.length cq) FL ⟨next,s,tk pr,Fl,li,K⟩ (.slice av Ft.length cv) Ft):=⟨zg w4 [H (next + 1),.slice aq FL.length cq,H next,H s,H (tk pr),H Fl,H li,yj K,.slice av Ft.length cv] _,zt w4 [H (next + 1),.slice aq FL.length cq,H next,H s,H (tk pr),H Fl,H li,yj K,.slice av Ft.length cv] _,zk hoq hal,zG het hal,⟨_,heap_alloc_new w4 _⟩,yL xz.size (by rw [zf]; omega)⟩
 have kg:Hid (ym X2 (w4.alloc (D #[H (next + 1),.slice aq FL.length cq,H next,H s,H (tk pr),H Fl,H li,yj K,.slice av Ft.length cv] 157))):=xz.trans (hal.mono xz.size)
 have HMB:Hid (w.heap.size ≤ X2.heap.size∧X2.heap.size ≤ w4.heap.size):=⟨by have:=U qS; omega,xz.size⟩
 clear hal hoq het xz
 go_wp2_with fail
 refine U jQ _ _ ?_
 generalize (w4.alloc (D #[H (next + 1),.slice aq FL.length cq,H next,H s,H (tk pr),H Fl,H li,yj K,.slice av Ft.length cv] 157)) = W6 at kL kg ⊢
 generalize w4.heap.size = mb at kL HMB ⊢
 have hm:w.heap.size + 1 < X2.heap.size:=by have:=U qS; omega
 have k0:=zb (U HX).1 (U kg) (by omega) 0 _ rfl
 have o0:=zb (U HX).2 (U kg) (by omega) 0 _ rfl
 have o1:=zb (U HX).2 (U kg) (by omega) 1 _ rfl
 have o2:=zb (U HX).2 (U kg) (by omega) 2 _ rfl
 have o3:=zb (U HX).2 (U kg) (by omega) 3 _ rfl
 have o4:=zb (U HX).2 (U kg) (by omega) 4 _ rfl
 have o5:=zb (U HX).2 (U kg) (by omega) 5 _ rfl
 have y5:W6.cell? (J mb 5) = some (H Fl):=(U kL).cells 5 _ rfl
 have y8:W6.cell? (J mb 8) = some (.slice av Ft.length cv):=(U kL).cells 8 _ rfl
 simp only [Nat.zero_add] at k0 o0 o1 o2 o3 o4 o5
 have xJ:=Y ((U xC).trans ((U kg).mono (U xC).size))
 have HMR:Hid (matR next ⟨kk,s,ty,li,O,ii,pr,K⟩ (FL,Fl,Ft) = if ty = 5∧0 < Ft.length then 11 else if ty = 4∧0 < Fl then 12 else if next = 1000000 then 13 else if pP ty = true∧0 < Fl then (if fullB (FL ++ [⟨next,s,tk pr,Fl,li,K⟩]) = true then 13 else 0) else 0):=rfl
 clear HCA HX jQ
 by_cases uS:ty = 5∧0 < Ft.length
 ·obtain ⟨rfl,hl⟩:=uS
  have hl':(0:Int) < Ft.length:=by omega
  have HK:Hid (matR next ⟨kk,s,5,li,O,ii,pr,K⟩ (FL,Fl,Ft) = 11):=by have:=U HMR; rw [if_pos ⟨rfl,hl⟩] at this; exact this
  clear hl
  go_wp2_with fail
  go_ret
  exact ⟨zq (U HK).symm,U xJ⟩
 have vV:Hid (_ = _):=(U HMR).trans (if_neg uS)
 clear HMR
 by_cases h5:ty = 5
 ·subst h5
  have hl':¬ (0:Int) < Ft.length:=fun h=>uS ⟨rfl,by omega⟩
  have vw:Hid (_ = _):=(U vV).trans (if_neg (fun h=>by cases h.1))
  clear vV
  clear uS
  by_cases vQ:next = 1000000
  ·subst vQ
   have HK:Hid (matR 1000000 ⟨kk,s,5,li,O,ii,pr,K⟩ (FL,Fl,Ft) = 13):=by have:=U vw; rw [if_pos rfl] at this; exact this
   go_wp2_with fail
   go_ret
   exact ⟨zq (U HK).symm,U xJ⟩
  have hnb:(next == 1000000) = false:=by rw [xb]; exact vQ
  have kz:Hid (_ = _):=(U vw).trans (if_neg vQ)
  clear vQ vw
  go_wp2_with fail
  refine (cO ⟨kk,s,5,li,O,ii,pr,K⟩ W6).mono ?_
  rintro e w7 ⟨rfl,jb⟩
  dsimp only
  have HM7:=Y (bY (U kL) jb)
  have kw:=Y (dq (U xJ) jb)
  have y7:w7.cell? (J mb 5) = some (H Fl):=(U HM7).cells 5 _ rfl
  clear jb k0 o0 o1 o2 o3 o4 o5 y5 y8
  cases qz:pP 5
  ·have HK:Hid (matR next ⟨kk,s,5,li,O,ii,pr,K⟩ (FL,Fl,Ft) = 0):=by
    have:=U kz
    rw [if_neg (fun h=>by rw [qz] at h; cases h.1)] at this
    exact this
   clear qz
   go_wp2_with fail
   go_ret
   exact ⟨zq (U HK).symm,U kw⟩
  ·by_cases hFl:0 < Fl
   ·have HMRG:Hid (matR next ⟨kk,s,5,li,O,ii,pr,K⟩ (FL,Fl,Ft) = if fullB (FL ++ [⟨next,s,tk pr,Fl,li,K⟩]) = true then 13 else 0):=by
     have:=U kz
     rw [if_pos ⟨qz,hFl⟩] at this
     exact this
    clear qz
    go_wp2_with fail
    refine (rest_any mb X2.heap.size (next + 1) _ FL ⟨next,s,tk pr,Fl,li,K⟩ _ Ft w7 (U HM7) (by have:=(U oC).1.len; omega)).mono ?_
    rintro e w8 ⟨vq8,rfl,hM8,hK8⟩
    have pC:=Y hM8
    have vX:=Y (below_kept (U kw) hK8 (U HMB).1 (U HMB).2)
    clear hM8 hK8 y7
    go_wp2_with fail
    refine (isTooFull_any mb X2.heap.size (next + 1) vq8 _ ⟨next,s,tk pr,Fl,li,K⟩ _ Ft w8 (U pC) (by have:=(U oC).1.len; rw [yN]; simp only [List.length_cons,List.length_nil]; omega) (by
     intro o' vu
     have hfg:=U oC
     rcases List.mem_append.1 vu with h | h
     ·have:=hfg.1.left o' h; omega
     ·rw [List.mem_singleton] at h; subst h; exact hfg.2)).mono ?_
    rintro e w9 ⟨rfl,hb9⟩
    have ky:=Y (dq (U vX) hb9)
    clear hb9
    cases hfu:fullB (FL ++ [⟨next,s,tk pr,Fl,li,K⟩])
    ·have HK:Hid (matR next ⟨kk,s,5,li,O,ii,pr,K⟩ (FL,Fl,Ft) = 0):=by have:=U HMRG; rw [hfu] at this; exact this
     clear hfu
     go_wp2_with fail
     go_ret
     exact ⟨zq (U HK).symm,U ky⟩
    ·have HK:Hid (matR next ⟨kk,s,5,li,O,ii,pr,K⟩ (FL,Fl,Ft) = 13):=by have:=U HMRG; rw [hfu] at this; exact this
     clear hfu
     go_wp2_with fail
     go_ret
     exact ⟨zq (U HK).symm,U ky⟩
   ·have HK:Hid (matR next ⟨kk,s,5,li,O,ii,pr,K⟩ (FL,Fl,Ft) = 0):=by have:=U kz; rw [if_neg (fun h=>hFl h.2)] at this; exact this
    clear qz
    go_wp2_with fail
    go_ret
    exact ⟨zq (U HK).symm,U kw⟩
 have qc:(ty == 5) = false:=by rw [xb]; exact h5
 clear uS
 by_cases qq:ty = 4∧0 < Fl
 ·obtain ⟨rfl,hl⟩:=qq
  have HK:Hid (matR next ⟨kk,s,4,li,O,ii,pr,K⟩ (FL,Fl,Ft) = 12):=by have:=U vV; rw [if_pos ⟨rfl,hl⟩] at this; exact this
  clear h5 qc
  go_wp2_with fail
  go_ret
  exact ⟨zq (U HK).symm,U xJ⟩
 have vw:Hid (_ = _):=(U vV).trans (if_neg qq)
 clear vV
 by_cases h4:ty = 4
 ·subst h4
  have hl':¬ 0 < Fl:=fun h=>qq ⟨rfl,h⟩
  clear qq h5 qc
  by_cases vQ:next = 1000000
  ·subst vQ
   have HK:Hid (matR 1000000 ⟨kk,s,4,li,O,ii,pr,K⟩ (FL,Fl,Ft) = 13):=by have:=U vw; rw [if_pos rfl] at this; exact this
   go_wp2_with fail
   go_ret
   exact ⟨zq (U HK).symm,U xJ⟩
  have hnb:(next == 1000000) = false:=by rw [xb]; exact vQ
  have kz:Hid (_ = _):=(U vw).trans (if_neg vQ)
  clear vQ vw
  go_wp2_with fail
  refine (cO ⟨kk,s,4,li,O,ii,pr,K⟩ W6).mono ?_
  rintro e w7 ⟨rfl,jb⟩
  dsimp only
  have HM7:=Y (bY (U kL) jb)
  have kw:=Y (dq (U xJ) jb)
  have y7:w7.cell? (J mb 5) = some (H Fl):=(U HM7).cells 5 _ rfl
  clear jb k0 o0 o1 o2 o3 o4 o5 y5 y8
  cases qz:pP 4
  ·have HK:Hid (matR next ⟨kk,s,4,li,O,ii,pr,K⟩ (FL,Fl,Ft) = 0):=by
    have:=U kz
    rw [if_neg (fun h=>by rw [qz] at h; cases h.1)] at this
    exact this
   clear qz
   go_wp2_with fail
   go_ret
   exact ⟨zq (U HK).symm,U kw⟩
  ·exact absurd qz (by decide)
 have xz:(ty == 4) = false:=by rw [xb]; exact h4
 clear qq h5 h4
 by_cases vQ:next = 1000000
 ·subst vQ
  have HK:Hid (matR 1000000 ⟨kk,s,ty,li,O,ii,pr,K⟩ (FL,Fl,Ft) = 13):=by have:=U vw; rw [if_pos rfl] at this; exact this
  go_wp2_with fail
  go_ret
  exact ⟨zq (U HK).symm,U xJ⟩
 have hnb:(next == 1000000) = false:=by rw [xb]; exact vQ
 have kz:Hid (_ = _):=(U vw).trans (if_neg vQ)
 clear vQ vw
 go_wp2_with fail
 refine (cO ⟨kk,s,ty,li,O,ii,pr,K⟩ W6).mono ?_
 rintro e w7 ⟨rfl,jb⟩
 dsimp only
 have HM7:=Y (bY (U kL) jb)
 have kw:=Y (dq (U xJ) jb)
 have y7:w7.cell? (J mb 5) = some (H Fl):=(U HM7).cells 5 _ rfl
 clear jb k0 o0 o1 o2 o3 o4 o5 y5 y8
 cases qz:pP ty
 ·have HK:Hid (matR next ⟨kk,s,ty,li,O,ii,pr,K⟩ (FL,Fl,Ft) = 0):=by
   have:=U kz
   rw [if_neg (fun h=>by rw [qz] at h; cases h.1)] at this
   exact this
  clear qz
  go_wp2_with fail
  go_ret
  exact ⟨zq (U HK).symm,U kw⟩
 ·by_cases hFl:0 < Fl
  ·have HMRG:Hid (matR next ⟨kk,s,ty,li,O,ii,pr,K⟩ (FL,Fl,Ft) = if fullB (FL ++ [⟨next,s,tk pr,Fl,li,K⟩]) = true then 13 else 0):=by
    have:=U kz
    rw [if_pos ⟨qz,hFl⟩] at this
    exact this
   clear qz
   go_wp2_with fail
   refine (rest_any mb X2.heap.size (next + 1) _ FL ⟨next,s,tk pr,Fl,li,K⟩ _ Ft w7 (U HM7) (by have:=(U oC).1.len; omega)).mono ?_
   rintro e w8 ⟨vq8,rfl,hM8,hK8⟩
   have pC:=Y hM8
   have vX:=Y (below_kept (U kw) hK8 (U HMB).1 (U HMB).2)
   clear hM8 hK8 y7
   go_wp2_with fail
   refine (isTooFull_any mb X2.heap.size (next + 1) vq8 _ ⟨next,s,tk pr,Fl,li,K⟩ _ Ft w8 (U pC) (by have:=(U oC).1.len; rw [yN]; simp only [List.length_cons,List.length_nil]; omega) (by
    intro o' vu
    have hfg:=U oC
    rcases List.mem_append.1 vu with h | h
    ·have:=hfg.1.left o' h; omega
    ·rw [List.mem_singleton] at h; subst h; exact hfg.2)).mono ?_
   rintro e w9 ⟨rfl,hb9⟩
   have ky:=Y (dq (U vX) hb9)
   clear hb9
   cases hfu:fullB (FL ++ [⟨next,s,tk pr,Fl,li,K⟩])
   ·have HK:Hid (matR next ⟨kk,s,ty,li,O,ii,pr,K⟩ (FL,Fl,Ft) = 0):=by have:=U HMRG; rw [hfu] at this; exact this
    clear hfu
    go_wp2_with fail
    go_ret
    exact ⟨zq (U HK).symm,U ky⟩
   ·have HK:Hid (matR next ⟨kk,s,ty,li,O,ii,pr,K⟩ (FL,Fl,Ft) = 13):=by have:=U HMRG; rw [hfu] at this; exact this
    clear hfu
    go_wp2_with fail
    go_ret
    exact ⟨zq (U HK).symm,U ky⟩
  ·have HK:Hid (matR next ⟨kk,s,ty,li,O,ii,pr,K⟩ (FL,Fl,Ft) = 0):=by have:=U kz; rw [if_neg (fun h=>hFl h.2)] at this; exact this
   clear qz
   go_wp2_with fail
   go_ret
   exact ⟨zq (U HK).symm,U kw⟩
end Go.Proofs.YtbakanofkghmiaaGreat
