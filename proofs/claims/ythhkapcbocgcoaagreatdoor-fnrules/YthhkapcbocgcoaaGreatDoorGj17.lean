/-
  The reasons that hang on what would come of an order, by the program: proved by walking the function.
-/
import Derived.Test.YthhkapcbocgcoaaGreatDoorGj16
set_option linter.unusedVariables false
set_option maxHeartbeats 6400000
set_option maxRecDepth 100000
namespace Go.Proofs.YthhkapcbocgcoaaGreatDoor
open Go.RowKit
theorem below_kept {B0 B mb:Nat} {w W W':World} (h:Below B0 w W) (E:KeptBut mb B W W') (hB:B0 ≤ B) (hm:B ≤ mb):Below B0 w W' :=
 ⟨E.os.trans h.os,E.tape.trans h.tape,E.output.trans h.output,yO h.size E.size,fun k xM=>(E.block k (by omega) (by omega)).trans (h.block k xM)⟩
theorem gS (next:Int) (vb:Value) (l:List Od) (c:Cm) (w:World) (hr:RdR Od.vs 6 w vb l) (hs:SlOk vb) (hg:GoodL l) (h0:0 ≤ next) (Q:next ≤ 1000000) (jO:0 ≤ c.q) (jl:c.q ≤ 1000000) :
  Calls Tryz.prog 206 #[.agg #[H next,vb],noV c] w fun e w'=>e = ym (H (matR next c (matL c next 21 l c.q [])))∧yn w w':=by
 have HR:=M hr
 have HG:=M hg
 have qn:=M hs
 have HFG:=M (eF (c:=c) (id:=next) 21 l c.q [] hg jO jl)
 have uO:Hid (0 ≤ next∧next ≤ 1000000∧0 ≤ c.q∧c.q ≤ 1000000):=⟨h0,Q,jO,jl⟩
 obtain ⟨a,cap,rfl,xD,hc⟩:=hr
 clear hc hg hs h0 Q jO jl xD
 obtain ⟨kk,s,ty,li,qt,ii,pr,tg⟩:=c
 have HCA:Hid (∀ W:World,RdR Od.vs 6 W (.slice a l.length cap) l→Calls Tryz.prog 210 #[.agg #[H next,.slice a l.length cap],.agg #[H s,H ty,H li,H qt,yj pr,yk tg]] W _):=fun W hW=>match_any next _ l ⟨kk,s,ty,li,qt,ii,pr,tg⟩ W hW (U qn) (U HG) (U uO).1 (U uO).2.1 (U uO).2.2.1 (U uO).2.2.2
 generalize matL ⟨kk,s,ty,li,qt,ii,pr,tg⟩ next 21 l qt [] = hR at HFG HCA ⊢
 obtain ⟨FL,Fl,Ft⟩:=hR
 unfold noV
 simp only at *
 have xF:=zi w (O #[H next,.slice a l.length cap] 27)
 have ug:((w.alloc (O #[H next,.slice a l.length cap] 27)).alloc (O #[H s,H ty,H li,H qt,yj pr,yk tg] 63)).heap.size = w.heap.size + 1 + 1:=by rw [zi,xF]
 have r1:=zm w [H next,.slice a l.length cap] 27
 have r2:=zm (w.alloc (O #[H next,.slice a l.length cap] 27)) [H s,H ty,H li,H qt,yj pr,yk tg] 63
 rw [xF] at r2
 have qi:Below (w.heap.size + 1) (w.alloc (O #[H next,.slice a l.length cap] 27)) ((w.alloc (O #[H next,.slice a l.length cap] 27)).alloc (O #[H s,H ty,H li,H qt,yj pr,yk tg] 63)):=(Below.refl _ _).alloc (by rw [xF]; omega) _
 have xt:Hid (yn w ((w.alloc (O #[H next,.slice a l.length cap] 27)).alloc (O #[H s,H ty,H li,H qt,yj pr,yk tg] 63))):=(gZ _ _).alloc (by rw [xF]; omega) _
 have HX:Hid (_∧_):=⟨zc r1 qi (by omega),r2⟩
 have vZ:=M ug
 clear xF ug r1 r2 qi
 go_enter Tryz.func206,Tryz.ntmps206
 refine ic fun xh xK=>?_
 go_wp2_with fail
 refine U xK _ _ ?_
 clear xK
 refine ic fun K2 kL=>?_
 go_wp2_with fail
 generalize ((w.alloc (O #[H next,.slice a l.length cap] 27)).alloc (O #[H s,H ty,H li,H qt,yj pr,yk tg] 63)) = X2 at xt HX vZ ⊢
 have HX:Hid (X2.rangeAt w.heap.size 0 [H next,.slice a l.length cap]∧X2.rangeAt (w.heap.size + 1) 0 [H s,H ty,H li,H qt,yj pr,yk tg]):=U HX
 refine (U HCA X2 (zh (U HR) (U xt) hU)).mono ?_
 rintro e w4 ⟨vq,vt,rfl,hoq,het,xy⟩
 obtain ⟨av,cv,rfl⟩:∃ a c,vt = .slice a Ft.length c:=by
  rcases het.2 with ⟨e,e2⟩ | ⟨g,cap,xz,e,_⟩
  ·exact ⟨none,0,by rw [e,e2]⟩
  ·exact ⟨_,_,e⟩
 obtain ⟨aq,cq,rfl⟩:∃ a c,vq = .slice a FL.length c:=by
  rcases hoq.2 with ⟨e,e2⟩ | ⟨g,cap,xz,e,_⟩
  ·exact ⟨none,0,by rw [e,e2]⟩
  ·exact ⟨_,_,e⟩
 have hal:=gZ w4 (O #[H (next + 1),.slice aq FL.length cq,H next,H s,H (tk pr),H Fl,H li,yk tg,.slice av Ft.length cv] 259)
 have HMS:Hid (MatS w4.heap.size X2.heap.size (w4.alloc (O #[H (next + 1),.slice aq FL.length cq,H next,H s,H (tk pr),H Fl,H li,yk tg,.slice av Ft.length cv] 259)) (next + 1) (.slice aq FL.length cq) FL ⟨next,s,tk pr,Fl,li,tg⟩ (.slice av Ft.length cv) Ft):=⟨zm w4 [H (next + 1),.slice aq FL.length cq,H next,H s,H (tk pr),H Fl,H li,yk tg,.slice av Ft.length cv] _,zM w4 [H (next + 1),.slice aq FL.length cq,H next,H s,H (tk pr),H Fl,H li,yk tg,.slice av Ft.length cv] _,zp hoq hal,zN het hal,⟨_,heap_alloc_new w4 _⟩,yO xy.size (by rw [zi]; omega)⟩
 have vV:Hid (yn X2 (w4.alloc (O #[H (next + 1),.slice aq FL.length cq,H next,H s,H (tk pr),H Fl,H li,yk tg,.slice av Ft.length cv] 259))):=xy.trans (hal.mono xy.size)
 have HMB:Hid (w.heap.size ≤ X2.heap.size∧X2.heap.size ≤ w4.heap.size):=⟨by have:=U vZ; omega,xy.size⟩
 clear hal hoq het xy
 go_wp2_with fail
 refine U kL _ _ ?_
 generalize (w4.alloc (O #[H (next + 1),.slice aq FL.length cq,H next,H s,H (tk pr),H Fl,H li,yk tg,.slice av Ft.length cv] 259)) = W6 at HMS vV ⊢
 generalize w4.heap.size = mb at HMS HMB ⊢
 have hm:w.heap.size + 1 < X2.heap.size:=by have:=U vZ; omega
 have k0:=zc (U HX).1 (U vV) (by omega) 0 _ rfl
 have o0:=zc (U HX).2 (U vV) (by omega) 0 _ rfl
 have o1:=zc (U HX).2 (U vV) (by omega) 1 _ rfl
 have o2:=zc (U HX).2 (U vV) (by omega) 2 _ rfl
 have o3:=zc (U HX).2 (U vV) (by omega) 3 _ rfl
 have o4:=zc (U HX).2 (U vV) (by omega) 4 _ rfl
 have o5:=zc (U HX).2 (U vV) (by omega) 5 _ rfl
 have y5:W6.cell? (J mb 5) = some (H Fl):=(U HMS).cells 5 _ rfl
 have y8:W6.cell? (J mb 8) = some (.slice av Ft.length cv):=(U HMS).cells 8 _ rfl
 simp only [Nat.zero_add] at k0 o0 o1 o2 o3 o4 o5
 have xI:=M ((U xt).trans ((U vV).mono (U xt).size))
 have HMR:Hid (matR next ⟨kk,s,ty,li,qt,ii,pr,tg⟩ (FL,Fl,Ft) = if ty = 5∧0 < Ft.length then 11 else if ty = 4∧0 < Fl then 12 else if next = 1000000 then 13 else if bR ty = true∧0 < Fl then (if cY (FL ++ [⟨next,s,tk pr,Fl,li,tg⟩]) = true then 13 else 0) else 0):=rfl
 clear HCA HX kL
 by_cases vK:ty = 5∧0 < Ft.length
 ·obtain ⟨rfl,hl⟩:=vK
  have hl':(0:Int) < Ft.length:=by omega
  have HK:Hid (matR next ⟨kk,s,5,li,qt,ii,pr,tg⟩ (FL,Fl,Ft) = 11):=by have:=U HMR; rw [if_pos ⟨rfl,hl⟩] at this; exact this
  clear hl
  go_wp2_with fail
  go_ret
  exact ⟨zw (U HK).symm,U xI⟩
 have bx:Hid (_ = _):=(U HMR).trans (if_neg vK)
 clear HMR
 by_cases h5:ty = 5
 ·subst h5
  have hl':¬ (0:Int) < Ft.length:=fun h=>vK ⟨rfl,by omega⟩
  have jG:Hid (_ = _):=(U bx).trans (if_neg (fun h=>by cases h.1))
  clear bx
  clear vK
  by_cases qm:next = 1000000
  ·subst qm
   have HK:Hid (matR 1000000 ⟨kk,s,5,li,qt,ii,pr,tg⟩ (FL,Fl,Ft) = 13):=by have:=U jG; rw [if_pos rfl] at this; exact this
   go_wp2_with fail
   go_ret
   exact ⟨zw (U HK).symm,U xI⟩
  have hnb:(next == 1000000) = false:=by rw [xe]; exact qm
  have oq:Hid (_ = _):=(U jG).trans (if_neg qm)
  clear qm jG
  go_wp2_with fail
  refine (fG ⟨kk,s,5,li,qt,ii,pr,tg⟩ W6).mono ?_
  rintro e w7 ⟨rfl,vQ⟩
  dsimp only
  have HM7:=M (fV (U HMS) vQ)
  have jn:=M (ia (U xI) vQ)
  have y7:w7.cell? (J mb 5) = some (H Fl):=(U HM7).cells 5 _ rfl
  clear vQ k0 o0 o1 o2 o3 o4 o5 y5 y8
  cases jP:bR 5
  ·have HK:Hid (matR next ⟨kk,s,5,li,qt,ii,pr,tg⟩ (FL,Fl,Ft) = 0):=by
    have:=U oq
    rw [if_neg (fun h=>by rw [jP] at h; cases h.1)] at this
    exact this
   clear jP
   go_wp2_with fail
   go_ret
   exact ⟨zw (U HK).symm,U jn⟩
  ·by_cases bE:0 < Fl
   ·have HMRG:Hid (matR next ⟨kk,s,5,li,qt,ii,pr,tg⟩ (FL,Fl,Ft) = if cY (FL ++ [⟨next,s,tk pr,Fl,li,tg⟩]) = true then 13 else 0):=by
     have:=U oq
     rw [if_pos ⟨jP,bE⟩] at this
     exact this
    clear jP
    go_wp2_with fail
    refine (rest_any mb X2.heap.size (next + 1) _ FL ⟨next,s,tk pr,Fl,li,tg⟩ _ Ft w7 (U HM7) (by have:=(U HFG).1.len; omega)).mono ?_
    rintro e w8 ⟨vq8,rfl,hM8,hK8⟩
    have HM8:=M hM8
    have HB8:=M (below_kept (U jn) hK8 (U HMB).1 (U HMB).2)
    clear hM8 hK8 y7
    go_wp2_with fail
    refine (isTooFull_any mb X2.heap.size (next + 1) vq8 _ ⟨next,s,tk pr,Fl,li,tg⟩ _ Ft w8 (U HM8) (by have:=(U HFG).1.len; rw [yQ]; simp only [List.length_cons,List.length_nil]; omega) (by
     intro o' vu
     have hfg:=U HFG
     rcases List.mem_append.1 vu with h | h
     ·have:=hfg.1.left o' h; omega
     ·rw [List.mem_singleton] at h; subst h; exact hfg.2)).mono ?_
    rintro e w9 ⟨rfl,hb9⟩
    have qI:=M (ia (U HB8) hb9)
    clear hb9
    cases hfu:cY (FL ++ [⟨next,s,tk pr,Fl,li,tg⟩])
    ·have HK:Hid (matR next ⟨kk,s,5,li,qt,ii,pr,tg⟩ (FL,Fl,Ft) = 0):=by have:=U HMRG; rw [hfu] at this; exact this
     clear hfu
     go_wp2_with fail
     go_ret
     exact ⟨zw (U HK).symm,U qI⟩
    ·have HK:Hid (matR next ⟨kk,s,5,li,qt,ii,pr,tg⟩ (FL,Fl,Ft) = 13):=by have:=U HMRG; rw [hfu] at this; exact this
     clear hfu
     go_wp2_with fail
     go_ret
     exact ⟨zw (U HK).symm,U qI⟩
   ·have HK:Hid (matR next ⟨kk,s,5,li,qt,ii,pr,tg⟩ (FL,Fl,Ft) = 0):=by have:=U oq; rw [if_neg (fun h=>bE h.2)] at this; exact this
    clear jP
    go_wp2_with fail
    go_ret
    exact ⟨zw (U HK).symm,U jn⟩
 have uj:(ty == 5) = false:=by rw [xe]; exact h5
 clear vK
 by_cases vX:ty = 4∧0 < Fl
 ·obtain ⟨rfl,hl⟩:=vX
  have HK:Hid (matR next ⟨kk,s,4,li,qt,ii,pr,tg⟩ (FL,Fl,Ft) = 12):=by have:=U bx; rw [if_pos ⟨rfl,hl⟩] at this; exact this
  clear h5 uj
  go_wp2_with fail
  go_ret
  exact ⟨zw (U HK).symm,U xI⟩
 have jG:Hid (_ = _):=(U bx).trans (if_neg vX)
 clear bx
 by_cases h4:ty = 4
 ·subst h4
  have hl':¬ 0 < Fl:=fun h=>vX ⟨rfl,h⟩
  clear vX h5 uj
  by_cases qm:next = 1000000
  ·subst qm
   have HK:Hid (matR 1000000 ⟨kk,s,4,li,qt,ii,pr,tg⟩ (FL,Fl,Ft) = 13):=by have:=U jG; rw [if_pos rfl] at this; exact this
   go_wp2_with fail
   go_ret
   exact ⟨zw (U HK).symm,U xI⟩
  have hnb:(next == 1000000) = false:=by rw [xe]; exact qm
  have oq:Hid (_ = _):=(U jG).trans (if_neg qm)
  clear qm jG
  go_wp2_with fail
  refine (fG ⟨kk,s,4,li,qt,ii,pr,tg⟩ W6).mono ?_
  rintro e w7 ⟨rfl,vQ⟩
  dsimp only
  have HM7:=M (fV (U HMS) vQ)
  have jn:=M (ia (U xI) vQ)
  have y7:w7.cell? (J mb 5) = some (H Fl):=(U HM7).cells 5 _ rfl
  clear vQ k0 o0 o1 o2 o3 o4 o5 y5 y8
  cases jP:bR 4
  ·have HK:Hid (matR next ⟨kk,s,4,li,qt,ii,pr,tg⟩ (FL,Fl,Ft) = 0):=by
    have:=U oq
    rw [if_neg (fun h=>by rw [jP] at h; cases h.1)] at this
    exact this
   clear jP
   go_wp2_with fail
   go_ret
   exact ⟨zw (U HK).symm,U jn⟩
  ·exact absurd jP (by decide)
 have xy:(ty == 4) = false:=by rw [xe]; exact h4
 clear vX h5 h4
 by_cases qm:next = 1000000
 ·subst qm
  have HK:Hid (matR 1000000 ⟨kk,s,ty,li,qt,ii,pr,tg⟩ (FL,Fl,Ft) = 13):=by have:=U jG; rw [if_pos rfl] at this; exact this
  go_wp2_with fail
  go_ret
  exact ⟨zw (U HK).symm,U xI⟩
 have hnb:(next == 1000000) = false:=by rw [xe]; exact qm
 have oq:Hid (_ = _):=(U jG).trans (if_neg qm)
 clear qm jG
 go_wp2_with fail
 refine (fG ⟨kk,s,ty,li,qt,ii,pr,tg⟩ W6).mono ?_
 rintro e w7 ⟨rfl,vQ⟩
 dsimp only
 have HM7:=M (fV (U HMS) vQ)
 have jn:=M (ia (U xI) vQ)
 have y7:w7.cell? (J mb 5) = some (H Fl):=(U HM7).cells 5 _ rfl
 clear vQ k0 o0 o1 o2 o3 o4 o5 y5 y8
 cases jP:bR ty
 ·have HK:Hid (matR next ⟨kk,s,ty,li,qt,ii,pr,tg⟩ (FL,Fl,Ft) = 0):=by
   have:=U oq
   rw [if_neg (fun h=>by rw [jP] at h; cases h.1)] at this
   exact this
  clear jP
  go_wp2_with fail
  go_ret
  exact ⟨zw (U HK).symm,U jn⟩
 ·by_cases bE:0 < Fl
  ·have HMRG:Hid (matR next ⟨kk,s,ty,li,qt,ii,pr,tg⟩ (FL,Fl,Ft) = if cY (FL ++ [⟨next,s,tk pr,Fl,li,tg⟩]) = true then 13 else 0):=by
    have:=U oq
    rw [if_pos ⟨jP,bE⟩] at this
    exact this
   clear jP
   go_wp2_with fail
   refine (rest_any mb X2.heap.size (next + 1) _ FL ⟨next,s,tk pr,Fl,li,tg⟩ _ Ft w7 (U HM7) (by have:=(U HFG).1.len; omega)).mono ?_
   rintro e w8 ⟨vq8,rfl,hM8,hK8⟩
   have HM8:=M hM8
   have HB8:=M (below_kept (U jn) hK8 (U HMB).1 (U HMB).2)
   clear hM8 hK8 y7
   go_wp2_with fail
   refine (isTooFull_any mb X2.heap.size (next + 1) vq8 _ ⟨next,s,tk pr,Fl,li,tg⟩ _ Ft w8 (U HM8) (by have:=(U HFG).1.len; rw [yQ]; simp only [List.length_cons,List.length_nil]; omega) (by
    intro o' vu
    have hfg:=U HFG
    rcases List.mem_append.1 vu with h | h
    ·have:=hfg.1.left o' h; omega
    ·rw [List.mem_singleton] at h; subst h; exact hfg.2)).mono ?_
   rintro e w9 ⟨rfl,hb9⟩
   have qI:=M (ia (U HB8) hb9)
   clear hb9
   cases hfu:cY (FL ++ [⟨next,s,tk pr,Fl,li,tg⟩])
   ·have HK:Hid (matR next ⟨kk,s,ty,li,qt,ii,pr,tg⟩ (FL,Fl,Ft) = 0):=by have:=U HMRG; rw [hfu] at this; exact this
    clear hfu
    go_wp2_with fail
    go_ret
    exact ⟨zw (U HK).symm,U qI⟩
   ·have HK:Hid (matR next ⟨kk,s,ty,li,qt,ii,pr,tg⟩ (FL,Fl,Ft) = 13):=by have:=U HMRG; rw [hfu] at this; exact this
    clear hfu
    go_wp2_with fail
    go_ret
    exact ⟨zw (U HK).symm,U qI⟩
  ·have HK:Hid (matR next ⟨kk,s,ty,li,qt,ii,pr,tg⟩ (FL,Fl,Ft) = 0):=by have:=U oq; rw [if_neg (fun h=>bE h.2)] at this; exact this
   clear jP
   go_wp2_with fail
   go_ret
   exact ⟨zw (U HK).symm,U jn⟩
def lifW (c:Cm):Bool:=!betB c.l 0 1 || (decide (c.l = 1) && !bR c.t)
def newR (next:Int) (l:List Od) (c:Cm):Int :=
 if betB c.s 1 2 = false then 3 else if betB c.t 1 5 = false then 4 else if lifW c = true then 5 else if prcB c = false then 6 else if betB c.q 1 1000000 = false then 7 else if tagB c.g = false then 8 else matR next c (matL c next 21 l c.q [])
theorem newRefusal_any (next:Int) (vb:Value) (l:List Od) (c:Cm) (w:World) (hr:RdR Od.vs 6 w vb l) (hs:SlOk vb) (hg:GoodL l) (h0:0 ≤ next) (Q:next ≤ 1000000) (ht:c.g.size ≤ maxLen) :
  Calls Tryz.prog 186 #[.agg #[H next,vb],noV c] w fun e w'=>e = ym (H (newR next l c))∧yn w w':=by
 have HR:=M hr
 have HG:=M hg
 have qn:=M hs
 have uO:Hid (0 ≤ next∧next ≤ 1000000):=⟨h0,Q⟩
 have ky:=M ht
 obtain ⟨a,cap,rfl,xD,hc⟩:=hr
 clear hc hg hs h0 Q ht xD
 generalize vN:newR next l c = res
 have HN0:Hid (_ = res):=vN
 clear vN
 obtain ⟨kk,s,ty,li,qt,ii,pr,tg⟩:=c
 unfold newR at HN0
 unfold noV
 simp only at *
 have xF:=zi w (O #[H next,.slice a l.length cap] 27)
 have ug:((w.alloc (O #[H next,.slice a l.length cap] 27)).alloc (O #[H s,H ty,H li,H qt,yj pr,yk tg] 63)).heap.size = w.heap.size + 1 + 1:=by rw [zi,xF]
 have r1:=zm w [H next,.slice a l.length cap] 27
 have r2:=zm (w.alloc (O #[H next,.slice a l.length cap] 27)) [H s,H ty,H li,H qt,yj pr,yk tg] 63
 rw [xF] at r2
 have qi:Below (w.heap.size + 1) (w.alloc (O #[H next,.slice a l.length cap] 27)) ((w.alloc (O #[H next,.slice a l.length cap] 27)).alloc (O #[H s,H ty,H li,H qt,yj pr,yk tg] 63)):=(Below.refl _ _).alloc (by rw [xF]; omega) _
 have xt:Hid (yn w ((w.alloc (O #[H next,.slice a l.length cap] 27)).alloc (O #[H s,H ty,H li,H qt,yj pr,yk tg] 63))):=(gZ _ _).alloc (by rw [xF]; omega) _
 have HX:Hid (_∧_):=⟨zc r1 qi (by omega),r2⟩
 have ul:Hid (w.heap.size < ((w.alloc (O #[H next,.slice a l.length cap] 27)).alloc (O #[H s,H ty,H li,H qt,yj pr,yk tg] 63)).heap.size∧w.heap.size + 1 < ((w.alloc (O #[H next,.slice a l.length cap] 27)).alloc (O #[H s,H ty,H li,H qt,yj pr,yk tg] 63)).heap.size):=⟨by omega,by omega⟩
 clear xF ug r1 r2 qi
 go_enter Tryz.func186,Tryz.ntmps186
 refine ic fun xh xK=>?_
 go_wp2_with fail
 refine U xK _ _ ?_
 clear xK
 generalize ((w.alloc (O #[H next,.slice a l.length cap] 27)).alloc (O #[H s,H ty,H li,H qt,yj pr,yk tg] 63)) = X2 at xt HX ul ⊢
 have HX:Hid (X2.rangeAt w.heap.size 0 [H next,.slice a l.length cap]∧X2.rangeAt (w.heap.size + 1) 0 [H s,H ty,H li,H qt,yj pr,yk tg]):=U HX
 have k0:=zc (U HX).1 (Below.refl _ _) (U ul).1 0 _ rfl
 have k1:=zc (U HX).1 (Below.refl _ _) (U ul).1 1 _ rfl
 have o0:=zc (U HX).2 (Below.refl _ _) (U ul).2 0 _ rfl
 have o1:=zc (U HX).2 (Below.refl _ _) (U ul).2 1 _ rfl
 have o2:=zc (U HX).2 (Below.refl _ _) (U ul).2 2 _ rfl
 have o3:=zc (U HX).2 (Below.refl _ _) (U ul).2 3 _ rfl
 have o4:=zc (U HX).2 (Below.refl _ _) (U ul).2 4 _ rfl
 have o5:=zc (U HX).2 (Below.refl _ _) (U ul).2 5 _ rfl
 simp only [Nat.zero_add] at k0 k1 o0 o1 o2 o3 o4 o5
 go_wp2_with fail
 refine (eQ s X2).mono ?_
 rintro e w' ⟨rfl,rfl⟩
 cases X:betB s 1 2
 ·have HK:Hid (3 = res):=by have:=U HN0; rw [if_pos X] at this; exact this
  clear X
  go_wp2_with fail
  go_ret
  exact ⟨zw (U HK),U xt⟩
 have HN1:Hid (_ = res):=(if_neg (fun h=>by rw [X] at h; cases h)).symm.trans (U HN0)
 clear X HN0
 go_wp2_with fail
 refine (isType_any ty w').mono ?_
 rintro e w1 ⟨rfl,rfl⟩
 cases h4:betB ty 1 5
 ·have HK:Hid (4 = res):=by have:=U HN1; rw [if_pos h4] at this; exact this
  clear h4
  go_wp2_with fail
  go_ret
  exact ⟨zw (U HK),U xt⟩
 have HN2:Hid (_ = res):=(if_neg (fun h=>by rw [h4] at h; cases h)).symm.trans (U HN1)
 clear h4 HN1
 go_wp2_with fail
 refine (eP li w1).mono ?_
 rintro e w2 ⟨rfl,rfl⟩
 cases h5:betB li 0 1
 ·have HK:Hid (5 = res):=by have:=U HN2; rw [if_pos (by simp [lifW,h5])] at this; exact this
  clear h5
  go_wp2_with fail
  go_ret
  exact ⟨zw (U HK),U xt⟩
 by_cases hli:li = 1
 ·subst hli
  go_wp2_with fail
  refine (fG ⟨kk,s,ty,1,qt,ii,pr,tg⟩ w2).mono ?_
  rintro e w3 ⟨rfl,xQ⟩
  dsimp only
  have xw:=M xQ
  clear xQ k0 k1 o0 o1 o2 o3 o4 o5
  cases h6:bR ty
  ·have HK:Hid (5 = res):=by have:=U HN2; rw [if_pos (by simp [lifW,h6])] at this; exact this
   clear h6 h5
   go_wp2_with fail
   go_ret
   exact ⟨zw (U HK),(U xt).trans ((U xw).mono (U xt).size)⟩
  have aw:Hid (_ = res):=(if_neg (by simp [lifW,h5,h6])).symm.trans (U HN2)
  clear h5 h6 HN2
  have k0:=zc (U HX).1 (U xw) (U ul).1 0 _ rfl
  have k1:=zc (U HX).1 (U xw) (U ul).1 1 _ rfl
  have o0:=zc (U HX).2 (U xw) (U ul).2 0 _ rfl
  have o1:=zc (U HX).2 (U xw) (U ul).2 1 _ rfl
  have o2:=zc (U HX).2 (U xw) (U ul).2 2 _ rfl
  have o3:=zc (U HX).2 (U xw) (U ul).2 3 _ rfl
  have o4:=zc (U HX).2 (U xw) (U ul).2 4 _ rfl
  have o5:=zc (U HX).2 (U xw) (U ul).2 5 _ rfl
  simp only [Nat.zero_add] at k0 k1 o0 o1 o2 o3 o4 o5
  go_wp2_with fail
  refine (hasPrice_any ⟨kk,s,ty,1,qt,ii,pr,tg⟩ w3).mono ?_
  rintro e w4 ⟨rfl,xy⟩
  have xO:=M (ia (U xw) xy)
  clear xy k0 k1 o0 o1 o2 o3 o4 o5 xw
  cases h7:prcB ⟨kk,s,ty,1,qt,ii,pr,tg⟩
  ·have HK:Hid (6 = res):=by have:=U aw; rw [if_pos h7] at this; exact this
   clear h7
   go_wp2_with fail
   go_ret
   exact ⟨zw (U HK),(U xt).trans ((U xO).mono (U xt).size)⟩
  have HN4:Hid (_ = res):=(if_neg (fun h=>by rw [h7] at h; cases h)).symm.trans (U aw)
  clear h7 aw
  have k0:=zc (U HX).1 (U xO) (U ul).1 0 _ rfl
  have k1:=zc (U HX).1 (U xO) (U ul).1 1 _ rfl
  have o0:=zc (U HX).2 (U xO) (U ul).2 0 _ rfl
  have o1:=zc (U HX).2 (U xO) (U ul).2 1 _ rfl
  have o2:=zc (U HX).2 (U xO) (U ul).2 2 _ rfl
  have o3:=zc (U HX).2 (U xO) (U ul).2 3 _ rfl
  have o4:=zc (U HX).2 (U xO) (U ul).2 4 _ rfl
  have o5:=zc (U HX).2 (U xO) (U ul).2 5 _ rfl
  simp only [Nat.zero_add] at k0 k1 o0 o1 o2 o3 o4 o5
  go_wp2_with fail
  refine (isQty_any qt w4).mono ?_
  rintro e w5 ⟨rfl,rfl⟩
  cases h8:betB qt 1 1000000
  ·have HK:Hid (7 = res):=by have:=U HN4; rw [if_pos h8] at this; exact this
   clear h8
   go_wp2_with fail
   go_ret
   exact ⟨zw (U HK),(U xt).trans ((U xO).mono (U xt).size)⟩
  have HN5:Hid (_ = res):=(if_neg (fun h=>by rw [h8] at h; cases h)).symm.trans (U HN4)
  have HQB:Hid (0 ≤ qt∧qt ≤ 1000000):=by
   simp only [betB,xf,xg] at h8
   exact ⟨by omega,h8.2⟩
  clear h8 HN4
  go_wp2_with fail
  refine (isTag_any tg w5 (U ky)).mono ?_
  rintro e w6 ⟨rfl,rfl⟩
  cases h9:tagB tg
  ·have HK:Hid (8 = res):=by have:=U HN5; rw [if_pos h9] at this; exact this
   clear h9
   go_wp2_with fail
   go_ret
   exact ⟨zw (U HK),(U xt).trans ((U xO).mono (U xt).size)⟩
  have HN6:Hid (_ = res):=(if_neg (fun h=>by rw [h9] at h; cases h)).symm.trans (U HN5)
  clear h9 HN5
  go_wp2_with fail
  refine (gS next _ l ⟨kk,s,ty,1,qt,ii,pr,tg⟩ w6 (zh (U HR) ((U xt).trans ((U xO).mono (U xt).size)) hU) (U qn) (U HG) (U uO).1 (U uO).2 (U HQB).1 (U HQB).2).mono ?_
  dsimp only
  rw [U HN6]
  rintro e w7 ⟨rfl,vQ⟩
  have jn:=M (((U xt).trans ((U xO).mono (U xt).size)).trans (vQ.mono ((U xt).trans ((U xO).mono (U xt).size)).size))
  clear vQ
  go_wp2_with fail
  go_ret
  exact ⟨rfl,U jn⟩
 have hlb:(li == 1) = false:=by rw [xe]; exact hli
 have aw:Hid (_ = res):=(if_neg (by simp [lifW,h5,hli])).symm.trans (U HN2)
 have xw:Hid (yn w2 w2):=Below.refl _ _
 clear h5 hli HN2
 go_wp2_with fail
 refine (hasPrice_any ⟨kk,s,ty,li,qt,ii,pr,tg⟩ w2).mono ?_
 rintro e w4 ⟨rfl,xy⟩
 have xO:=M (ia (U xw) xy)
 clear xy k0 k1 o0 o1 o2 o3 o4 o5 xw
 cases h7:prcB ⟨kk,s,ty,li,qt,ii,pr,tg⟩
 ·have HK:Hid (6 = res):=by have:=U aw; rw [if_pos h7] at this; exact this
  clear h7
  go_wp2_with fail
  go_ret
  exact ⟨zw (U HK),(U xt).trans ((U xO).mono (U xt).size)⟩
 have HN4:Hid (_ = res):=(if_neg (fun h=>by rw [h7] at h; cases h)).symm.trans (U aw)
 clear h7 aw
 have k0:=zc (U HX).1 (U xO) (U ul).1 0 _ rfl
 have k1:=zc (U HX).1 (U xO) (U ul).1 1 _ rfl
 have o0:=zc (U HX).2 (U xO) (U ul).2 0 _ rfl
 have o1:=zc (U HX).2 (U xO) (U ul).2 1 _ rfl
 have o2:=zc (U HX).2 (U xO) (U ul).2 2 _ rfl
 have o3:=zc (U HX).2 (U xO) (U ul).2 3 _ rfl
 have o4:=zc (U HX).2 (U xO) (U ul).2 4 _ rfl
 have o5:=zc (U HX).2 (U xO) (U ul).2 5 _ rfl
 simp only [Nat.zero_add] at k0 k1 o0 o1 o2 o3 o4 o5
 go_wp2_with fail
 refine (isQty_any qt w4).mono ?_
 rintro e w5 ⟨rfl,rfl⟩
 cases h8:betB qt 1 1000000
 ·have HK:Hid (7 = res):=by have:=U HN4; rw [if_pos h8] at this; exact this
  clear h8
  go_wp2_with fail
  go_ret
  exact ⟨zw (U HK),(U xt).trans ((U xO).mono (U xt).size)⟩
 have HN5:Hid (_ = res):=(if_neg (fun h=>by rw [h8] at h; cases h)).symm.trans (U HN4)
 have HQB:Hid (0 ≤ qt∧qt ≤ 1000000):=by
  simp only [betB,xf,xg] at h8
  exact ⟨by omega,h8.2⟩
 clear h8 HN4
 go_wp2_with fail
 refine (isTag_any tg w5 (U ky)).mono ?_
 rintro e w6 ⟨rfl,rfl⟩
 cases h9:tagB tg
 ·have HK:Hid (8 = res):=by have:=U HN5; rw [if_pos h9] at this; exact this
  clear h9
  go_wp2_with fail
  go_ret
  exact ⟨zw (U HK),(U xt).trans ((U xO).mono (U xt).size)⟩
 have HN6:Hid (_ = res):=(if_neg (fun h=>by rw [h9] at h; cases h)).symm.trans (U HN5)
 clear h9 HN5
 go_wp2_with fail
 refine (gS next _ l ⟨kk,s,ty,li,qt,ii,pr,tg⟩ w6 (zh (U HR) ((U xt).trans ((U xO).mono (U xt).size)) hU) (U qn) (U HG) (U uO).1 (U uO).2 (U HQB).1 (U HQB).2).mono ?_
 dsimp only
 rw [U HN6]
 rintro e w7 ⟨rfl,vQ⟩
 have jn:=M (((U xt).trans ((U xO).mono (U xt).size)).trans (vQ.mono ((U xt).trans ((U xO).mono (U xt).size)).size))
 clear vQ
 go_wp2_with fail
 go_ret
 exact ⟨rfl,U jn⟩
def idR (l:List Od) (id:Int):Int:=if plc l id < 0 then 9 else 0
def redR (l:List Od) (id qty:Int):Int:=if betB qty 1 1000000 = true then (if plc l id < 0 then 9 else match l[(plc l id).toNat]? with | some o=>if o.left ≤ qty then 10 else 0 | none=>0) else 7
theorem gh (l:List Od) (id:Int):plc l id = -1 ∨ ∃ (k:Nat) (o:Od),plc l id = k∧l[k]? = some o:=by
 rcases plcF_spec id l 0 with ⟨Q,_⟩ | ⟨i,o,Q,D,_⟩
 ·exact .inl Q
 ·exact .inr ⟨i,o,by rw [plc,Q]; congr 1; omega,D⟩
theorem idRefusal_any (next:Int) (v:Value) (l:List Od) (id:Int) (w:World) (hr:RdR Od.vs 6 w v l) :
  Calls Tryz.prog 187 #[.agg #[H next,v],H id] w fun e w'=>e = ym (H (idR l id))∧yn w w':=by
 have HR:=M hr
 obtain ⟨a,cap,rfl,xD,hc⟩:=hr
 have xZ:Hid (yn w (w.alloc (O #[H next,.slice a l.length cap] 27))):=gZ _ _
 clear hc
 go_enter Tryz.func187,Tryz.ntmps187
 go_wp2_with fail
 refine (fR next _ l id _ (zh (U HR) (U xZ) hU)).mono ?_
 rintro e w3 ⟨rfl,xQ⟩
 have xG:=M (ia (U xZ) xQ)
 clear xQ
 by_cases hp:plc l id < 0
 ·have HK:Hid (idR l id = 9):=if_pos hp
  go_wp2_with fail
  go_ret
  exact ⟨zw (U HK).symm,U xG⟩
 ·have HK:Hid (idR l id = 0):=if_neg hp
  go_wp2_with fail
  go_ret
  exact ⟨zw (U HK).symm,U xG⟩
end Go.Proofs.YthhkapcbocgcoaaGreatDoor
