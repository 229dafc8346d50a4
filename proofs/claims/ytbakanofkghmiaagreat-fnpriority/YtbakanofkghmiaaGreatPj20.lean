/-
  The reasons that hang on what would come of an order, by the program: proved by walking the function.
-/
import Derived.Test.YtbakanofkghmiaaGreatPj19
set_option linter.unusedVariables false
set_option maxHeartbeats 6400000
set_option maxRecDepth 100000
namespace Go.Proofs.YtbakanofkghmiaaGreat
open Go.RowKit
theorem cM {c:Cm} {id:Int}:∀ (n:Nat) (l:List Od) (left:Int) (ts:List Ev),GoodL l→0 ≤ left→left ≤ 1000000→GoodL (matL c id n l left ts).1∧0 ≤ (matL c id n l left ts).2.1∧(matL c id n l left ts).2.1 ≤ 1000000
 | 0,l,left,ts,h,h0,z=>⟨h,h0,z⟩
 | n + 1,l,left,ts,h,h0,z=>by
  rw [matL]
  by_cases hl:0 < left
  ·rw [if_pos hl]
   cases hf:aD l (othS c.s) with
   | none=>exact ⟨h,h0,z⟩
   | some o =>
    simp only
    by_cases hm:aI c o = true
    ·rw [if_pos hm]
     obtain ⟨vi,_⟩:=cX hf
     obtain ⟨k,hk⟩:=List.getElem?_of_mem vi
     have Y:=h.left o vi
     rw [plc_at h.rise hk,Int.toNat_natCast]
     exact cM n _ _ _ (dd h hk (by omega) (by omega)).1 (by omega) (by omega)
    ·rw [if_neg hm]; exact ⟨h,h0,z⟩
  ·rw [if_neg hl]; exact ⟨h,h0,z⟩
def matR (next:Int) (c:Cm) (xh:List Od × Int × List Ev):Int :=
 if c.t = 5∧0 < xh.2.2.length then 11 else if c.t = 4∧0 < xh.2.1 then 12 else if next = 1000000 then 13
 else if ay c.t = true∧0 < xh.2.1 then (if aZ (xh.1 ++ [{ ordO c next with left:=xh.2.1 }]) = true then 13 else 0) else 0
theorem matS_put {V:World} {N B:Nat} {next:Int} {vq vt:Value} {l:List Od} {t:Od} {ts:List Ev} (ht:V.there N 0 9) (hb:∃ xp,V.heap[N]? = some (.cells xp 157 (0,0))) (Y:ORow V B vq l) (he:ERow V B vt ts) (hB:B ≤ V.heap.size) :
  MatS N B (V.setCells N 0 [H next,vq,H t.id,H t.side,H t.ticks,H t.left,H t.life,yi t.tag,vt]) next vq l t vt ts:=by
 have hn:some N ≠ vq.ownBlock:=zo Y hb (by decide)
 have hm:some N ≠ vt.ownBlock:=zo he hb (by decide)
 have hr:=yU V N 0 [H next,vq,H t.id,H t.side,H t.ticks,H t.left,H t.life,yi t.tag,vt] (fun j L=>ht j L)
 refine ⟨hr,fun j L=>⟨?_,?_⟩,?_,?_,?_,?_⟩
 ·obtain ⟨u,hu⟩:∃ u,[H next,vq,H t.id,H t.side,H t.ticks,H t.left,H t.life,yi t.tag,vt][j]? = some u:=⟨_,yE (by simpa using L)⟩
  rw [hr j u hu]; rfl
 ·have:=(ht j L).2
  simp only [World.setCells,World.frozen?_setCell]
  exact this
 ·simp only [World.setCells]
  exact zw (zw (zw (zw (zw (zw (zw (zw (zw Y hn _ _) hn _ _) hn _ _) hn _ _) hn _ _) hn _ _) hn _ _) hn _ _) hn _ _
 ·simp only [World.setCells]
  exact zw (zw (zw (zw (zw (zw (zw (zw (zw he hm _ _) hm _ _) hm _ _) hm _ _) hm _ _) hm _ _) hm _ _) hm _ _) hm _ _
 ·obtain ⟨xp,hb⟩:=hb
  simp only [World.setCells]
  obtain ⟨_,z⟩:=zY V N 0 (H next) hb
  obtain ⟨_,z⟩:=zY _ N 1 vq z
  obtain ⟨_,z⟩:=zY _ N 2 (H t.id) z
  obtain ⟨_,z⟩:=zY _ N 3 (H t.side) z
  obtain ⟨_,z⟩:=zY _ N 4 (H t.ticks) z
  obtain ⟨_,z⟩:=zY _ N 5 (H t.left) z
  obtain ⟨_,z⟩:=zY _ N 6 (H t.life) z
  obtain ⟨_,z⟩:=zY _ N 7 (yi t.tag) z
  exact zY _ N 8 vt z
 ·simp only [World.setCells,World.setCell,Array.size_modify]; exact hB
theorem below_kept {B0 B N:Nat} {w W W':World} (h:Below B0 w W) (hk:KeptBut N B W W') (hB:B0 ≤ B) (hm:B ≤ N):Below B0 w W' :=
 ⟨hk.os.trans h.os,hk.tape.trans h.tape,hk.output.trans h.output,yK h.size hk.size,fun k xL=>(hk.block k (by omega) (by omega)).trans (h.block k xL)⟩
theorem ex (next:Int) (vb:Value) (l:List Od) (c:Cm) (w:World) (hr:RdR Od.vs 6 w vb l) (hs:SlOk vb) (hg:GoodL l) (h0:0 ≤ next) (z:next ≤ 1000000) (je:0 ≤ c.q) (qy:c.q ≤ 1000000) :
  Calls Tryz.prog 147 #[.agg #[H next,vb],noV c] w fun e w'=>e = yk (H (matR next c (matL c next 21 l c.q [])))∧yl w w':=by
 have HR:=Q hr
 have HG:=Q hg
 have uW:=Q hs
 have oG:=Q (cM (c:=c) (id:=next) 21 l c.q [] hg je qy)
 have ur:Hid (0 ≤ next∧next ≤ 1000000∧0 ≤ c.q∧c.q ≤ 1000000):=⟨h0,z,je,qy⟩
 obtain ⟨a,F,rfl,xD,hc⟩:=hr
 clear hc hg hs h0 z je qy xD
 obtain ⟨kk,s,ty,li,X,ii,pr,O⟩:=c
 have HCA:Hid (∀ W:World,RdR Od.vs 6 W (.slice a l.length F) l→Calls Tryz.prog 112 #[.agg #[H next,.slice a l.length F],.agg #[H s,H ty,H li,H X,yh pr,yi O]] W _):=fun W hW=>match_any next _ l ⟨kk,s,ty,li,X,ii,pr,O⟩ W hW (M uW) (M HG) (M ur).1 (M ur).2.1 (M ur).2.2.1 (M ur).2.2.2
 generalize matL ⟨kk,s,ty,li,X,ii,pr,O⟩ next 21 l X [] = xh at oG HCA ⊢
 obtain ⟨FL,Fl,Ft⟩:=xh
 unfold noV
 simp only at *
 have xz:=ze w (E #[H next,.slice a l.length F] 28)
 have xY:((w.alloc (E #[H next,.slice a l.length F] 28)).alloc (E #[H s,H ty,H li,H X,yh pr,yi O] 112)).heap.size = w.heap.size + 1 + 1:=by rw [ze,xz]
 have r1:=zg w [H next,.slice a l.length F] 28
 have r2:=zg (w.alloc (E #[H next,.slice a l.length F] 28)) [H s,H ty,H li,H X,yh pr,yi O] 112
 rw [xz] at r2
 have qg:Below (w.heap.size + 1) (w.alloc (E #[H next,.slice a l.length F] 28)) ((w.alloc (E #[H next,.slice a l.length F] 28)).alloc (E #[H s,H ty,H li,H X,yh pr,yi O] 112)):=(Below.refl _ _).alloc (by rw [xz]; omega) _
 have xC:Hid (yl w ((w.alloc (E #[H next,.slice a l.length F] 28)).alloc (E #[H s,H ty,H li,H X,yh pr,yi O] 112))):=(eD _ _).alloc (by rw [xz]; omega) _
 have HX:Hid (_∧_):=⟨zb r1 qg (by omega),r2⟩
 have vK:=Q xY
 clear xz xY r1 r2 qg
 go_enter Tryz.func147,Tryz.ntmps147
 refine eH fun h2 xu=>?_
 go_wp2_with fail
 refine M xu _ _ ?_
 clear xu
 refine eH fun K2 kw=>?_
 go_wp2_with fail
 generalize ((w.alloc (E #[H next,.slice a l.length F] 28)).alloc (E #[H s,H ty,H li,H X,yh pr,yi O] 112)) = X2 at xC HX vK ⊢
 have HX:Hid (X2.rangeAt w.heap.size 0 [H next,.slice a l.length F]∧X2.rangeAt (w.heap.size + 1) 0 [H s,H ty,H li,H X,yh pr,yi O]):=M HX
 refine (M HCA X2 (zh (M HR) (M xC) tg)).mono ?_
 rintro e w4 ⟨vq,vt,rfl,hoq,het,xy⟩
 obtain ⟨av,cv,rfl⟩:∃ a c,vt = .slice a Ft.length c:=by
  rcases het.2 with ⟨e,e2⟩ | ⟨g,F,xp,e,_⟩
  ·exact ⟨none,0,by rw [e,e2]⟩
  ·exact ⟨_,_,e⟩
 obtain ⟨aq,cq,rfl⟩:∃ a c,vq = .slice a FL.length c:=by
  rcases hoq.2 with ⟨e,e2⟩ | ⟨g,F,xp,e,_⟩
  ·exact ⟨none,0,by rw [e,e2]⟩
  ·exact ⟨_,_,e⟩
 have hal:=eD w4 (E #[H (next + 1),.slice aq FL.length cq,H next,H s,H (tk pr),H Fl,H li,yi O,.slice av Ft.length cv] 157)
 have kP:Hid (MatS w4.heap.size X2.heap.size (w4.alloc (E #[H (next + 1),.slice aq FL.length cq,H next,H s,H (tk pr),H Fl,H li,yi O,.slice av Ft.length cv] 157)) (next + 1) (.slice aq FL.length cq) FL ⟨next,s,tk pr,Fl,li,O⟩ (.slice av Ft.length cv) Ft):=⟨zg w4 [H (next + 1),.slice aq FL.length cq,H next,H s,H (tk pr),H Fl,H li,yi O,.slice av Ft.length cv] _,zH w4 [H (next + 1),.slice aq FL.length cq,H next,H s,H (tk pr),H Fl,H li,yi O,.slice av Ft.length cv] _,zj hoq hal,zK het hal,⟨_,heap_alloc_new w4 _⟩,yK xy.size (by rw [ze]; omega)⟩
 have vI:Hid (yl X2 (w4.alloc (E #[H (next + 1),.slice aq FL.length cq,H next,H s,H (tk pr),H Fl,H li,yi O,.slice av Ft.length cv] 157))):=xy.trans (hal.mono xy.size)
 have HMB:Hid (w.heap.size ≤ X2.heap.size∧X2.heap.size ≤ w4.heap.size):=⟨by have:=M vK; omega,xy.size⟩
 clear hal hoq het xy
 go_wp2_with fail
 refine M kw _ _ ?_
 generalize (w4.alloc (E #[H (next + 1),.slice aq FL.length cq,H next,H s,H (tk pr),H Fl,H li,yi O,.slice av Ft.length cv] 157)) = W6 at kP vI ⊢
 generalize w4.heap.size = N at kP HMB ⊢
 have hm:w.heap.size + 1 < X2.heap.size:=by have:=M vK; omega
 have k0:=zb (M HX).1 (M vI) (by omega) 0 _ rfl
 have o0:=zb (M HX).2 (M vI) (by omega) 0 _ rfl
 have o1:=zb (M HX).2 (M vI) (by omega) 1 _ rfl
 have o2:=zb (M HX).2 (M vI) (by omega) 2 _ rfl
 have o3:=zb (M HX).2 (M vI) (by omega) 3 _ rfl
 have o4:=zb (M HX).2 (M vI) (by omega) 4 _ rfl
 have o5:=zb (M HX).2 (M vI) (by omega) 5 _ rfl
 have y5:W6.cell? (J N 5) = some (H Fl):=(M kP).cells 5 _ rfl
 have y8:W6.cell? (J N 8) = some (.slice av Ft.length cv):=(M kP).cells 8 _ rfl
 simp only [Nat.zero_add] at k0 o0 o1 o2 o3 o4 o5
 have xJ:=Q ((M xC).trans ((M vI).mono (M xC).size))
 have HMR:Hid (matR next ⟨kk,s,ty,li,X,ii,pr,O⟩ (FL,Fl,Ft) = if ty = 5∧0 < Ft.length then 11 else if ty = 4∧0 < Fl then 12 else if next = 1000000 then 13 else if ay ty = true∧0 < Fl then (if aZ (FL ++ [⟨next,s,tk pr,Fl,li,O⟩]) = true then 13 else 0) else 0):=rfl
 clear HCA HX kw
 by_cases uL:ty = 5∧0 < Ft.length
 ·obtain ⟨rfl,hl⟩:=uL
  have hl':(0:Int) < Ft.length:=by omega
  have HK:Hid (matR next ⟨kk,s,5,li,X,ii,pr,O⟩ (FL,Fl,Ft) = 11):=by have:=M HMR; rw [if_pos ⟨rfl,hl⟩] at this; exact this
  clear hl
  go_wp2_with fail
  go_ret
  exact ⟨zv (M HK).symm,M xJ⟩
 have qa:Hid (_ = _):=(M HMR).trans (if_neg uL)
 clear HMR
 by_cases h5:ty = 5
 ·subst h5
  have hl':¬ (0:Int) < Ft.length:=fun h=>uL ⟨rfl,by omega⟩
  have vv:Hid (_ = _):=(M qa).trans (if_neg (fun h=>by cases h.1))
  clear qa
  clear uL
  by_cases vU:next = 1000000
  ·subst vU
   have HK:Hid (matR 1000000 ⟨kk,s,5,li,X,ii,pr,O⟩ (FL,Fl,Ft) = 13):=by have:=M vv; rw [if_pos rfl] at this; exact this
   go_wp2_with fail
   go_ret
   exact ⟨zv (M HK).symm,M xJ⟩
  have hnb:(next == 1000000) = false:=by rw [xa]; exact vU
  have kA:Hid (_ = _):=(M vv).trans (if_neg vU)
  clear vU vv
  go_wp2_with fail
  refine (dS ⟨kk,s,5,li,X,ii,pr,O⟩ W6).mono ?_
  rintro e w7 ⟨rfl,ja⟩
  dsimp only
  have HM7:=Q (dr (M kP) ja)
  have ku:=Q (eG (M xJ) ja)
  have y7:w7.cell? (J N 5) = some (H Fl):=(M HM7).cells 5 _ rfl
  clear ja k0 o0 o1 o2 o3 o4 o5 y5 y8
  cases qz:ay 5
  ·have HK:Hid (matR next ⟨kk,s,5,li,X,ii,pr,O⟩ (FL,Fl,Ft) = 0):=by
    have:=M kA
    rw [if_neg (fun h=>by rw [qz] at h; cases h.1)] at this
    exact this
   clear qz
   go_wp2_with fail
   go_ret
   exact ⟨zv (M HK).symm,M ku⟩
  ·by_cases hFl:0 < Fl
   ·have HMRG:Hid (matR next ⟨kk,s,5,li,X,ii,pr,O⟩ (FL,Fl,Ft) = if aZ (FL ++ [⟨next,s,tk pr,Fl,li,O⟩]) = true then 13 else 0):=by
     have:=M kA
     rw [if_pos ⟨qz,hFl⟩] at this
     exact this
    clear qz
    go_wp2_with fail
    refine (rest_any N X2.heap.size (next + 1) _ FL ⟨next,s,tk pr,Fl,li,O⟩ _ Ft w7 (M HM7) (by have:=(M oG).1.len; omega)).mono ?_
    rintro e w8 ⟨vq8,rfl,hM8,hK8⟩
    have pS:=Q hM8
    have HB8:=Q (below_kept (M ku) hK8 (M HMB).1 (M HMB).2)
    clear hM8 hK8 y7
    go_wp2_with fail
    refine (isTooFull_any N X2.heap.size (next + 1) vq8 _ ⟨next,s,tk pr,Fl,li,O⟩ _ Ft w8 (M pS) (by have:=(M oG).1.len; rw [yM]; simp only [List.length_cons,List.length_nil]; omega) (by
     intro o' vk
     have hfg:=M oG
     rcases List.mem_append.1 vk with h | h
     ·have:=hfg.1.left o' h; omega
     ·rw [List.mem_singleton] at h; subst h; exact hfg.2)).mono ?_
    rintro e w9 ⟨rfl,hb9⟩
    have jH:=Q (eG (M HB8) hb9)
    clear hb9
    cases hfu:aZ (FL ++ [⟨next,s,tk pr,Fl,li,O⟩])
    ·have HK:Hid (matR next ⟨kk,s,5,li,X,ii,pr,O⟩ (FL,Fl,Ft) = 0):=by have:=M HMRG; rw [hfu] at this; exact this
     clear hfu
     go_wp2_with fail
     go_ret
     exact ⟨zv (M HK).symm,M jH⟩
    ·have HK:Hid (matR next ⟨kk,s,5,li,X,ii,pr,O⟩ (FL,Fl,Ft) = 13):=by have:=M HMRG; rw [hfu] at this; exact this
     clear hfu
     go_wp2_with fail
     go_ret
     exact ⟨zv (M HK).symm,M jH⟩
   ·have HK:Hid (matR next ⟨kk,s,5,li,X,ii,pr,O⟩ (FL,Fl,Ft) = 0):=by have:=M kA; rw [if_neg (fun h=>hFl h.2)] at this; exact this
    clear qz
    go_wp2_with fail
    go_ret
    exact ⟨zv (M HK).symm,M ku⟩
 have uN:(ty == 5) = false:=by rw [xa]; exact h5
 clear uL
 by_cases qp:ty = 4∧0 < Fl
 ·obtain ⟨rfl,hl⟩:=qp
  have HK:Hid (matR next ⟨kk,s,4,li,X,ii,pr,O⟩ (FL,Fl,Ft) = 12):=by have:=M qa; rw [if_pos ⟨rfl,hl⟩] at this; exact this
  clear h5 uN
  go_wp2_with fail
  go_ret
  exact ⟨zv (M HK).symm,M xJ⟩
 have vv:Hid (_ = _):=(M qa).trans (if_neg qp)
 clear qa
 by_cases h4:ty = 4
 ·subst h4
  have hl':¬ 0 < Fl:=fun h=>qp ⟨rfl,h⟩
  clear qp h5 uN
  by_cases vU:next = 1000000
  ·subst vU
   have HK:Hid (matR 1000000 ⟨kk,s,4,li,X,ii,pr,O⟩ (FL,Fl,Ft) = 13):=by have:=M vv; rw [if_pos rfl] at this; exact this
   go_wp2_with fail
   go_ret
   exact ⟨zv (M HK).symm,M xJ⟩
  have hnb:(next == 1000000) = false:=by rw [xa]; exact vU
  have kA:Hid (_ = _):=(M vv).trans (if_neg vU)
  clear vU vv
  go_wp2_with fail
  refine (dS ⟨kk,s,4,li,X,ii,pr,O⟩ W6).mono ?_
  rintro e w7 ⟨rfl,ja⟩
  dsimp only
  have HM7:=Q (dr (M kP) ja)
  have ku:=Q (eG (M xJ) ja)
  have y7:w7.cell? (J N 5) = some (H Fl):=(M HM7).cells 5 _ rfl
  clear ja k0 o0 o1 o2 o3 o4 o5 y5 y8
  cases qz:ay 4
  ·have HK:Hid (matR next ⟨kk,s,4,li,X,ii,pr,O⟩ (FL,Fl,Ft) = 0):=by
    have:=M kA
    rw [if_neg (fun h=>by rw [qz] at h; cases h.1)] at this
    exact this
   clear qz
   go_wp2_with fail
   go_ret
   exact ⟨zv (M HK).symm,M ku⟩
  ·exact absurd qz (by decide)
 have xy:(ty == 4) = false:=by rw [xa]; exact h4
 clear qp h5 h4
 by_cases vU:next = 1000000
 ·subst vU
  have HK:Hid (matR 1000000 ⟨kk,s,ty,li,X,ii,pr,O⟩ (FL,Fl,Ft) = 13):=by have:=M vv; rw [if_pos rfl] at this; exact this
  go_wp2_with fail
  go_ret
  exact ⟨zv (M HK).symm,M xJ⟩
 have hnb:(next == 1000000) = false:=by rw [xa]; exact vU
 have kA:Hid (_ = _):=(M vv).trans (if_neg vU)
 clear vU vv
 go_wp2_with fail
 refine (dS ⟨kk,s,ty,li,X,ii,pr,O⟩ W6).mono ?_
 rintro e w7 ⟨rfl,ja⟩
 dsimp only
 have HM7:=Q (dr (M kP) ja)
 have ku:=Q (eG (M xJ) ja)
 have y7:w7.cell? (J N 5) = some (H Fl):=(M HM7).cells 5 _ rfl
 clear ja k0 o0 o1 o2 o3 o4 o5 y5 y8
 cases qz:ay ty
 ·have HK:Hid (matR next ⟨kk,s,ty,li,X,ii,pr,O⟩ (FL,Fl,Ft) = 0):=by
   have:=M kA
   rw [if_neg (fun h=>by rw [qz] at h; cases h.1)] at this
   exact this
  clear qz
  go_wp2_with fail
  go_ret
  exact ⟨zv (M HK).symm,M ku⟩
 ·by_cases hFl:0 < Fl
  ·have HMRG:Hid (matR next ⟨kk,s,ty,li,X,ii,pr,O⟩ (FL,Fl,Ft) = if aZ (FL ++ [⟨next,s,tk pr,Fl,li,O⟩]) = true then 13 else 0):=by
    have:=M kA
    rw [if_pos ⟨qz,hFl⟩] at this
    exact this
   clear qz
   go_wp2_with fail
   refine (rest_any N X2.heap.size (next + 1) _ FL ⟨next,s,tk pr,Fl,li,O⟩ _ Ft w7 (M HM7) (by have:=(M oG).1.len; omega)).mono ?_
   rintro e w8 ⟨vq8,rfl,hM8,hK8⟩
   have pS:=Q hM8
   have HB8:=Q (below_kept (M ku) hK8 (M HMB).1 (M HMB).2)
   clear hM8 hK8 y7
   go_wp2_with fail
   refine (isTooFull_any N X2.heap.size (next + 1) vq8 _ ⟨next,s,tk pr,Fl,li,O⟩ _ Ft w8 (M pS) (by have:=(M oG).1.len; rw [yM]; simp only [List.length_cons,List.length_nil]; omega) (by
    intro o' vk
    have hfg:=M oG
    rcases List.mem_append.1 vk with h | h
    ·have:=hfg.1.left o' h; omega
    ·rw [List.mem_singleton] at h; subst h; exact hfg.2)).mono ?_
   rintro e w9 ⟨rfl,hb9⟩
   have jH:=Q (eG (M HB8) hb9)
   clear hb9
   cases hfu:aZ (FL ++ [⟨next,s,tk pr,Fl,li,O⟩])
   ·have HK:Hid (matR next ⟨kk,s,ty,li,X,ii,pr,O⟩ (FL,Fl,Ft) = 0):=by have:=M HMRG; rw [hfu] at this; exact this
    clear hfu
    go_wp2_with fail
    go_ret
    exact ⟨zv (M HK).symm,M jH⟩
   ·have HK:Hid (matR next ⟨kk,s,ty,li,X,ii,pr,O⟩ (FL,Fl,Ft) = 13):=by have:=M HMRG; rw [hfu] at this; exact this
    clear hfu
    go_wp2_with fail
    go_ret
    exact ⟨zv (M HK).symm,M jH⟩
  ·have HK:Hid (matR next ⟨kk,s,ty,li,X,ii,pr,O⟩ (FL,Fl,Ft) = 0):=by have:=M kA; rw [if_neg (fun h=>hFl h.2)] at this; exact this
   clear qz
   go_wp2_with fail
   go_ret
   exact ⟨zv (M HK).symm,M ku⟩
end Go.Proofs.YtbakanofkghmiaaGreat
