/-
  The reasons that hang on what would come of an order, by the program: proved by walking the function.
-/
import Derived.Test.YtnphbkgfjanmgaaGreatDoorDj15
set_option linter.unusedVariables false
set_option maxHeartbeats 6400000
set_option maxRecDepth 100000
namespace Go.Proofs.YtnphbkgfjanmgaaGreatDoor
open Go.RowKit
theorem below_kept {B0 B mb:Nat} {w W W':World} (h:Below B0 w W) (hk:KeptBut mb B W W') (hB:B0 ≤ B) (hm:B ≤ mb):Below B0 w W' :=
 ⟨hk.os.trans h.os,hk.tape.trans h.tape,hk.output.trans h.output,yO h.size hk.size,fun k xJ=>(hk.block k (by omega) (by omega)).trans (h.block k xJ)⟩
theorem fj (next:Int) (vb:Value) (l:List Od) (c:Cm) (w:World) (hr:RdR Od.vs 6 w vb l) (hs:SlOk vb) (hg:GoodL l) (h0:0 ≤ next) (N:next ≤ 1000000) (pZ:0 ≤ c.q) (oK:c.q ≤ 1000000) :
  Calls Tryz.prog 202 #[.agg #[I next,vb],noV c] w fun e w'=>e = yn (I (matR next c (matL c next 21 l c.q [])))∧yp w w':=by
 have HR:=H hr
 have HG:=H hg
 have km:=H hs
 have HFG:=H (matL_good (c:=c) (id:=next) 21 l c.q [] hg pZ oK)
 have vO:Hid (0 ≤ next∧next ≤ 1000000∧0 ≤ c.q∧c.q ≤ 1000000):=⟨h0,N,pZ,oK⟩
 obtain ⟨a,cap,rfl,xA,hc⟩:=hr
 clear hc hg hs h0 N pZ oK xA
 obtain ⟨kk,s,ty,li,qt,ii,pr,tg⟩:=c
 have HCA:Hid (∀ W:World,RdR Od.vs 6 W (.slice a l.length cap) l→Calls Tryz.prog 211 #[.agg #[I next,.slice a l.length cap],.agg #[I s,I ty,I li,I qt,yk pr,yl tg]] W _):=fun W hW=>match_any next _ l ⟨kk,s,ty,li,qt,ii,pr,tg⟩ W hW (U km) (U HG) (U vO).1 (U vO).2.1 (U vO).2.2.1 (U vO).2.2.2
 generalize matL ⟨kk,s,ty,li,qt,ii,pr,tg⟩ next 21 l qt [] = cl at HFG HCA ⊢
 obtain ⟨FL,Fl,Ft⟩:=cl
 unfold noV
 simp only at *
 have xK:=zj w (L #[I next,.slice a l.length cap] 34)
 have uf:((w.alloc (L #[I next,.slice a l.length cap] 34)).alloc (L #[I s,I ty,I li,I qt,yk pr,yl tg] 85)).heap.size = w.heap.size + 1 + 1:=by rw [zj,xK]
 have r1:=zn w [I next,.slice a l.length cap] 34
 have r2:=zn (w.alloc (L #[I next,.slice a l.length cap] 34)) [I s,I ty,I li,I qt,yk pr,yl tg] 85
 rw [xK] at r2
 have qv:Below (w.heap.size + 1) (w.alloc (L #[I next,.slice a l.length cap] 34)) ((w.alloc (L #[I next,.slice a l.length cap] 34)).alloc (L #[I s,I ty,I li,I qt,yk pr,yl tg] 85)):=(Below.refl _ _).alloc (by rw [xK]; omega) _
 have xw:Hid (yp w ((w.alloc (L #[I next,.slice a l.length cap] 34)).alloc (L #[I s,I ty,I li,I qt,yk pr,yl tg] 85))):=(fw _ _).alloc (by rw [xK]; omega) _
 have HX:Hid (_∧_):=⟨zc r1 qv (by omega),r2⟩
 have qf:=H uf
 clear xK uf r1 r2 qv
 go_enter Tryz.func202,Tryz.ntmps202
 refine fD fun zb xU=>?_
 go_wp2_with fail
 refine U xU _ _ ?_
 clear xU
 refine fD fun K2 oP=>?_
 go_wp2_with fail
 generalize ((w.alloc (L #[I next,.slice a l.length cap] 34)).alloc (L #[I s,I ty,I li,I qt,yk pr,yl tg] 85)) = X2 at xw HX qf ⊢
 have HX:Hid (X2.rangeAt w.heap.size 0 [I next,.slice a l.length cap]∧X2.rangeAt (w.heap.size + 1) 0 [I s,I ty,I li,I qt,yk pr,yl tg]):=U HX
 refine (U HCA X2 (zh (U HR) (U xw) yb)).mono ?_
 rintro e w4 ⟨vq,vt,rfl,hoq,het,xy⟩
 obtain ⟨av,cv,rfl⟩:∃ a c,vt = .slice a Ft.length c:=by
  rcases het.2 with ⟨e,e2⟩ | ⟨g,cap,xF,e,_⟩
  ·exact ⟨none,0,by rw [e,e2]⟩
  ·exact ⟨_,_,e⟩
 obtain ⟨aq,cq,rfl⟩:∃ a c,vq = .slice a FL.length c:=by
  rcases hoq.2 with ⟨e,e2⟩ | ⟨g,cap,xF,e,_⟩
  ·exact ⟨none,0,by rw [e,e2]⟩
  ·exact ⟨_,_,e⟩
 have hal:=fw w4 (L #[I (next + 1),.slice aq FL.length cq,I next,I s,I (tk pr),I Fl,I li,yl tg,.slice av Ft.length cv] 254)
 have HMS:Hid (MatS w4.heap.size X2.heap.size (w4.alloc (L #[I (next + 1),.slice aq FL.length cq,I next,I s,I (tk pr),I Fl,I li,yl tg,.slice av Ft.length cv] 254)) (next + 1) (.slice aq FL.length cq) FL ⟨next,s,tk pr,Fl,li,tg⟩ (.slice av Ft.length cv) Ft):=⟨zn w4 [I (next + 1),.slice aq FL.length cq,I next,I s,I (tk pr),I Fl,I li,yl tg,.slice av Ft.length cv] _,zY w4 [I (next + 1),.slice aq FL.length cq,I next,I s,I (tk pr),I Fl,I li,yl tg,.slice av Ft.length cv] _,zM hoq hal,cN het hal,⟨_,heap_alloc_new w4 _⟩,yO xy.size (by rw [zj]; omega)⟩
 have qA:Hid (yp X2 (w4.alloc (L #[I (next + 1),.slice aq FL.length cq,I next,I s,I (tk pr),I Fl,I li,yl tg,.slice av Ft.length cv] 254))):=xy.trans (hal.mono xy.size)
 have HMB:Hid (w.heap.size ≤ X2.heap.size∧X2.heap.size ≤ w4.heap.size):=⟨by have:=U qf; omega,xy.size⟩
 clear hal hoq het xy
 go_wp2_with fail
 refine U oP _ _ ?_
 generalize (w4.alloc (L #[I (next + 1),.slice aq FL.length cq,I next,I s,I (tk pr),I Fl,I li,yl tg,.slice av Ft.length cv] 254)) = W6 at HMS qA ⊢
 generalize w4.heap.size = mb at HMS HMB ⊢
 have hm:w.heap.size + 1 < X2.heap.size:=by have:=U qf; omega
 have k0:=zc (U HX).1 (U qA) (by omega) 0 _ rfl
 have o0:=zc (U HX).2 (U qA) (by omega) 0 _ rfl
 have o1:=zc (U HX).2 (U qA) (by omega) 1 _ rfl
 have o2:=zc (U HX).2 (U qA) (by omega) 2 _ rfl
 have o3:=zc (U HX).2 (U qA) (by omega) 3 _ rfl
 have o4:=zc (U HX).2 (U qA) (by omega) 4 _ rfl
 have o5:=zc (U HX).2 (U qA) (by omega) 5 _ rfl
 have y5:W6.cell? (Q mb 5) = some (I Fl):=(U HMS).cells 5 _ rfl
 have y8:W6.cell? (Q mb 8) = some (.slice av Ft.length cv):=(U HMS).cells 8 _ rfl
 simp only [Nat.zero_add] at k0 o0 o1 o2 o3 o4 o5
 have ub:=H ((U xw).trans ((U qA).mono (U xw).size))
 have HMR:Hid (matR next ⟨kk,s,ty,li,qt,ii,pr,tg⟩ (FL,Fl,Ft) = if ty = 5∧0 < Ft.length then 11 else if ty = 4∧0 < Fl then 12 else if next = 1000000 then 13 else if aW ty = true∧0 < Fl then (if fullB (FL ++ [⟨next,s,tk pr,Fl,li,tg⟩]) = true then 13 else 0) else 0):=rfl
 clear HCA HX oP
 by_cases uR:ty = 5∧0 < Ft.length
 ·obtain ⟨rfl,hl⟩:=uR
  have px:(0:Int) < Ft.length:=by omega
  have HK:Hid (matR next ⟨kk,s,5,li,qt,ii,pr,tg⟩ (FL,Fl,Ft) = 11):=by have:=U HMR; rw [if_pos ⟨rfl,hl⟩] at this; exact this
  clear hl
  go_wp2_with fail
  go_ret
  exact ⟨zA (U HK).symm,U ub⟩
 have au:Hid (_ = _):=(U HMR).trans (if_neg uR)
 clear HMR
 by_cases h5:ty = 5
 ·subst h5
  have px:¬ (0:Int) < Ft.length:=fun h=>uR ⟨rfl,by omega⟩
  have xR:Hid (_ = _):=(U au).trans (if_neg (fun h=>by cases h.1))
  clear au
  clear uR
  by_cases qe:next = 1000000
  ·subst qe
   have HK:Hid (matR 1000000 ⟨kk,s,5,li,qt,ii,pr,tg⟩ (FL,Fl,Ft) = 13):=by have:=U xR; rw [if_pos rfl] at this; exact this
   go_wp2_with fail
   go_ret
   exact ⟨zA (U HK).symm,U ub⟩
  have hnb:(next == 1000000) = false:=by rw [xe]; exact qe
  have kW:Hid (_ = _):=(U xR).trans (if_neg qe)
  clear qe xR
  go_wp2_with fail
  refine (dP ⟨kk,s,5,li,qt,ii,pr,tg⟩ W6).mono ?_
  rintro e w7 ⟨rfl,qi⟩
  dsimp only
  have vI:=H (eb (U HMS) qi)
  have qV:=H (fC (U ub) qi)
  have y7:w7.cell? (Q mb 5) = some (I Fl):=(U vI).cells 5 _ rfl
  clear qi k0 o0 o1 o2 o3 o4 o5 y5 y8
  cases hrb:aW 5
  ·have HK:Hid (matR next ⟨kk,s,5,li,qt,ii,pr,tg⟩ (FL,Fl,Ft) = 0):=by
    have:=U kW
    rw [if_neg (fun h=>by rw [hrb] at h; cases h.1)] at this
    exact this
   clear hrb
   go_wp2_with fail
   go_ret
   exact ⟨zA (U HK).symm,U qV⟩
  ·by_cases hFl:0 < Fl
   ·have HMRG:Hid (matR next ⟨kk,s,5,li,qt,ii,pr,tg⟩ (FL,Fl,Ft) = if fullB (FL ++ [⟨next,s,tk pr,Fl,li,tg⟩]) = true then 13 else 0):=by
     have:=U kW
     rw [if_pos ⟨hrb,hFl⟩] at this
     exact this
    clear hrb
    go_wp2_with fail
    refine (rest_any mb X2.heap.size (next + 1) _ FL ⟨next,s,tk pr,Fl,li,tg⟩ _ Ft w7 (U vI) (by have:=(U HFG).1.len; omega)).mono ?_
    rintro e w8 ⟨vq8,rfl,hM8,hK8⟩
    have HM8:=H hM8
    have HB8:=H (below_kept (U qV) hK8 (U HMB).1 (U HMB).2)
    clear hM8 hK8 y7
    go_wp2_with fail
    refine (isTooFull_any mb X2.heap.size (next + 1) vq8 _ ⟨next,s,tk pr,Fl,li,tg⟩ _ Ft w8 (U HM8) (by have:=(U HFG).1.len; rw [yQ]; simp only [List.length_cons,List.length_nil]; omega) (by
     intro o' vM
     have hfg:=U HFG
     rcases List.mem_append.1 vM with h | h
     ·have:=hfg.1.left o' h; omega
     ·rw [List.mem_singleton] at h; subst h; exact hfg.2)).mono ?_
    rintro e w9 ⟨rfl,oG⟩
    have pB:=H (fC (U HB8) oG)
    clear oG
    cases hfu:fullB (FL ++ [⟨next,s,tk pr,Fl,li,tg⟩])
    ·have HK:Hid (matR next ⟨kk,s,5,li,qt,ii,pr,tg⟩ (FL,Fl,Ft) = 0):=by have:=U HMRG; rw [hfu] at this; exact this
     clear hfu
     go_wp2_with fail
     go_ret
     exact ⟨zA (U HK).symm,U pB⟩
    ·have HK:Hid (matR next ⟨kk,s,5,li,qt,ii,pr,tg⟩ (FL,Fl,Ft) = 13):=by have:=U HMRG; rw [hfu] at this; exact this
     clear hfu
     go_wp2_with fail
     go_ret
     exact ⟨zA (U HK).symm,U pB⟩
   ·have HK:Hid (matR next ⟨kk,s,5,li,qt,ii,pr,tg⟩ (FL,Fl,Ft) = 0):=by have:=U kW; rw [if_neg (fun h=>hFl h.2)] at this; exact this
    clear hrb
    go_wp2_with fail
    go_ret
    exact ⟨zA (U HK).symm,U qV⟩
 have uh:(ty == 5) = false:=by rw [xe]; exact h5
 clear uR
 by_cases uK:ty = 4∧0 < Fl
 ·obtain ⟨rfl,hl⟩:=uK
  have HK:Hid (matR next ⟨kk,s,4,li,qt,ii,pr,tg⟩ (FL,Fl,Ft) = 12):=by have:=U au; rw [if_pos ⟨rfl,hl⟩] at this; exact this
  clear h5 uh
  go_wp2_with fail
  go_ret
  exact ⟨zA (U HK).symm,U ub⟩
 have xR:Hid (_ = _):=(U au).trans (if_neg uK)
 clear au
 by_cases h4:ty = 4
 ·subst h4
  have px:¬ 0 < Fl:=fun h=>uK ⟨rfl,h⟩
  clear uK h5 uh
  by_cases qe:next = 1000000
  ·subst qe
   have HK:Hid (matR 1000000 ⟨kk,s,4,li,qt,ii,pr,tg⟩ (FL,Fl,Ft) = 13):=by have:=U xR; rw [if_pos rfl] at this; exact this
   go_wp2_with fail
   go_ret
   exact ⟨zA (U HK).symm,U ub⟩
  have hnb:(next == 1000000) = false:=by rw [xe]; exact qe
  have kW:Hid (_ = _):=(U xR).trans (if_neg qe)
  clear qe xR
  go_wp2_with fail
  refine (dP ⟨kk,s,4,li,qt,ii,pr,tg⟩ W6).mono ?_
  rintro e w7 ⟨rfl,qi⟩
  dsimp only
  have vI:=H (eb (U HMS) qi)
  have qV:=H (fC (U ub) qi)
  have y7:w7.cell? (Q mb 5) = some (I Fl):=(U vI).cells 5 _ rfl
  clear qi k0 o0 o1 o2 o3 o4 o5 y5 y8
  cases hrb:aW 4
  ·have HK:Hid (matR next ⟨kk,s,4,li,qt,ii,pr,tg⟩ (FL,Fl,Ft) = 0):=by
    have:=U kW
    rw [if_neg (fun h=>by rw [hrb] at h; cases h.1)] at this
    exact this
   clear hrb
   go_wp2_with fail
   go_ret
   exact ⟨zA (U HK).symm,U qV⟩
  ·exact absurd hrb (by decide)
 have xy:(ty == 4) = false:=by rw [xe]; exact h4
 clear uK h5 h4
 by_cases qe:next = 1000000
 ·subst qe
  have HK:Hid (matR 1000000 ⟨kk,s,ty,li,qt,ii,pr,tg⟩ (FL,Fl,Ft) = 13):=by have:=U xR; rw [if_pos rfl] at this; exact this
  go_wp2_with fail
  go_ret
  exact ⟨zA (U HK).symm,U ub⟩
 have hnb:(next == 1000000) = false:=by rw [xe]; exact qe
 have kW:Hid (_ = _):=(U xR).trans (if_neg qe)
 clear qe xR
 go_wp2_with fail
 refine (dP ⟨kk,s,ty,li,qt,ii,pr,tg⟩ W6).mono ?_
 rintro e w7 ⟨rfl,qi⟩
 dsimp only
 have vI:=H (eb (U HMS) qi)
 have qV:=H (fC (U ub) qi)
 have y7:w7.cell? (Q mb 5) = some (I Fl):=(U vI).cells 5 _ rfl
 clear qi k0 o0 o1 o2 o3 o4 o5 y5 y8
 cases hrb:aW ty
 ·have HK:Hid (matR next ⟨kk,s,ty,li,qt,ii,pr,tg⟩ (FL,Fl,Ft) = 0):=by
   have:=U kW
   rw [if_neg (fun h=>by rw [hrb] at h; cases h.1)] at this
   exact this
  clear hrb
  go_wp2_with fail
  go_ret
  exact ⟨zA (U HK).symm,U qV⟩
 ·by_cases hFl:0 < Fl
  ·have HMRG:Hid (matR next ⟨kk,s,ty,li,qt,ii,pr,tg⟩ (FL,Fl,Ft) = if fullB (FL ++ [⟨next,s,tk pr,Fl,li,tg⟩]) = true then 13 else 0):=by
    have:=U kW
    rw [if_pos ⟨hrb,hFl⟩] at this
    exact this
   clear hrb
   go_wp2_with fail
   refine (rest_any mb X2.heap.size (next + 1) _ FL ⟨next,s,tk pr,Fl,li,tg⟩ _ Ft w7 (U vI) (by have:=(U HFG).1.len; omega)).mono ?_
   rintro e w8 ⟨vq8,rfl,hM8,hK8⟩
   have HM8:=H hM8
   have HB8:=H (below_kept (U qV) hK8 (U HMB).1 (U HMB).2)
   clear hM8 hK8 y7
   go_wp2_with fail
   refine (isTooFull_any mb X2.heap.size (next + 1) vq8 _ ⟨next,s,tk pr,Fl,li,tg⟩ _ Ft w8 (U HM8) (by have:=(U HFG).1.len; rw [yQ]; simp only [List.length_cons,List.length_nil]; omega) (by
    intro o' vM
    have hfg:=U HFG
    rcases List.mem_append.1 vM with h | h
    ·have:=hfg.1.left o' h; omega
    ·rw [List.mem_singleton] at h; subst h; exact hfg.2)).mono ?_
   rintro e w9 ⟨rfl,oG⟩
   have pB:=H (fC (U HB8) oG)
   clear oG
   cases hfu:fullB (FL ++ [⟨next,s,tk pr,Fl,li,tg⟩])
   ·have HK:Hid (matR next ⟨kk,s,ty,li,qt,ii,pr,tg⟩ (FL,Fl,Ft) = 0):=by have:=U HMRG; rw [hfu] at this; exact this
    clear hfu
    go_wp2_with fail
    go_ret
    exact ⟨zA (U HK).symm,U pB⟩
   ·have HK:Hid (matR next ⟨kk,s,ty,li,qt,ii,pr,tg⟩ (FL,Fl,Ft) = 13):=by have:=U HMRG; rw [hfu] at this; exact this
    clear hfu
    go_wp2_with fail
    go_ret
    exact ⟨zA (U HK).symm,U pB⟩
  ·have HK:Hid (matR next ⟨kk,s,ty,li,qt,ii,pr,tg⟩ (FL,Fl,Ft) = 0):=by have:=U kW; rw [if_neg (fun h=>hFl h.2)] at this; exact this
   clear hrb
   go_wp2_with fail
   go_ret
   exact ⟨zA (U HK).symm,U qV⟩
def lifW (c:Cm):Bool:=!betB c.l 0 1 || (decide (c.l = 1) && !aW c.t)
def newR (next:Int) (l:List Od) (c:Cm):Int :=
 if betB c.s 1 2 = false then 3 else if betB c.t 1 5 = false then 4 else if lifW c = true then 5 else if prcB c = false then 6 else if betB c.q 1 1000000 = false then 7 else if tagB c.g = false then 8 else matR next c (matL c next 21 l c.q [])
theorem newRefusal_any (next:Int) (vb:Value) (l:List Od) (c:Cm) (w:World) (hr:RdR Od.vs 6 w vb l) (hs:SlOk vb) (hg:GoodL l) (h0:0 ≤ next) (N:next ≤ 1000000) (ht:c.g.size ≤ maxLen) :
  Calls Tryz.prog 177 #[.agg #[I next,vb],noV c] w fun e w'=>e = yn (I (newR next l c))∧yp w w':=by
 have HR:=H hr
 have HG:=H hg
 have km:=H hs
 have vO:Hid (0 ≤ next∧next ≤ 1000000):=⟨h0,N⟩
 have HTG:=H ht
 obtain ⟨a,cap,rfl,xA,hc⟩:=hr
 clear hc hg hs h0 N ht xA
 generalize hres:newR next l c = res
 have HN0:Hid (_ = res):=hres
 clear hres
 obtain ⟨kk,s,ty,li,qt,ii,pr,tg⟩:=c
 unfold newR at HN0
 unfold noV
 simp only at *
 have xK:=zj w (L #[I next,.slice a l.length cap] 34)
 have uf:((w.alloc (L #[I next,.slice a l.length cap] 34)).alloc (L #[I s,I ty,I li,I qt,yk pr,yl tg] 85)).heap.size = w.heap.size + 1 + 1:=by rw [zj,xK]
 have r1:=zn w [I next,.slice a l.length cap] 34
 have r2:=zn (w.alloc (L #[I next,.slice a l.length cap] 34)) [I s,I ty,I li,I qt,yk pr,yl tg] 85
 rw [xK] at r2
 have qv:Below (w.heap.size + 1) (w.alloc (L #[I next,.slice a l.length cap] 34)) ((w.alloc (L #[I next,.slice a l.length cap] 34)).alloc (L #[I s,I ty,I li,I qt,yk pr,yl tg] 85)):=(Below.refl _ _).alloc (by rw [xK]; omega) _
 have xw:Hid (yp w ((w.alloc (L #[I next,.slice a l.length cap] 34)).alloc (L #[I s,I ty,I li,I qt,yk pr,yl tg] 85))):=(fw _ _).alloc (by rw [xK]; omega) _
 have HX:Hid (_∧_):=⟨zc r1 qv (by omega),r2⟩
 have uu:Hid (w.heap.size < ((w.alloc (L #[I next,.slice a l.length cap] 34)).alloc (L #[I s,I ty,I li,I qt,yk pr,yl tg] 85)).heap.size∧w.heap.size + 1 < ((w.alloc (L #[I next,.slice a l.length cap] 34)).alloc (L #[I s,I ty,I li,I qt,yk pr,yl tg] 85)).heap.size):=⟨by omega,by omega⟩
 clear xK uf r1 r2 qv
 go_enter Tryz.func177,Tryz.ntmps177
 refine fD fun zb xU=>?_
 go_wp2_with fail
 refine U xU _ _ ?_
 clear xU
 generalize ((w.alloc (L #[I next,.slice a l.length cap] 34)).alloc (L #[I s,I ty,I li,I qt,yk pr,yl tg] 85)) = X2 at xw HX uu ⊢
 have HX:Hid (X2.rangeAt w.heap.size 0 [I next,.slice a l.length cap]∧X2.rangeAt (w.heap.size + 1) 0 [I s,I ty,I li,I qt,yk pr,yl tg]):=U HX
 have k0:=zc (U HX).1 (Below.refl _ _) (U uu).1 0 _ rfl
 have k1:=zc (U HX).1 (Below.refl _ _) (U uu).1 1 _ rfl
 have o0:=zc (U HX).2 (Below.refl _ _) (U uu).2 0 _ rfl
 have o1:=zc (U HX).2 (Below.refl _ _) (U uu).2 1 _ rfl
 have o2:=zc (U HX).2 (Below.refl _ _) (U uu).2 2 _ rfl
 have o3:=zc (U HX).2 (Below.refl _ _) (U uu).2 3 _ rfl
 have o4:=zc (U HX).2 (Below.refl _ _) (U uu).2 4 _ rfl
 have o5:=zc (U HX).2 (Below.refl _ _) (U uu).2 5 _ rfl
 simp only [Nat.zero_add] at k0 k1 o0 o1 o2 o3 o4 o5
 go_wp2_with fail
 refine (cZ s X2).mono ?_
 rintro e w' ⟨rfl,rfl⟩
 cases h3:betB s 1 2
 ·have HK:Hid (3 = res):=by have:=U HN0; rw [if_pos h3] at this; exact this
  clear h3
  go_wp2_with fail
  go_ret
  exact ⟨zA (U HK),U xw⟩
 have HN1:Hid (_ = res):=(if_neg (fun h=>by rw [h3] at h; cases h)).symm.trans (U HN0)
 clear h3 HN0
 go_wp2_with fail
 refine (isType_any ty w').mono ?_
 rintro e w1 ⟨rfl,rfl⟩
 cases h4:betB ty 1 5
 ·have HK:Hid (4 = res):=by have:=U HN1; rw [if_pos h4] at this; exact this
  clear h4
  go_wp2_with fail
  go_ret
  exact ⟨zA (U HK),U xw⟩
 have HN2:Hid (_ = res):=(if_neg (fun h=>by rw [h4] at h; cases h)).symm.trans (U HN1)
 clear h4 HN1
 go_wp2_with fail
 refine (cY li w1).mono ?_
 rintro e w2 ⟨rfl,rfl⟩
 cases h5:betB li 0 1
 ·have HK:Hid (5 = res):=by have:=U HN2; rw [if_pos (by simp [lifW,h5])] at this; exact this
  clear h5
  go_wp2_with fail
  go_ret
  exact ⟨zA (U HK),U xw⟩
 by_cases hli:li = 1
 ·subst hli
  go_wp2_with fail
  refine (dP ⟨kk,s,ty,1,qt,ii,pr,tg⟩ w2).mono ?_
  rintro e w3 ⟨rfl,xQ⟩
  dsimp only
  have xE:=H xQ
  clear xQ k0 k1 o0 o1 o2 o3 o4 o5
  cases h6:aW ty
  ·have HK:Hid (5 = res):=by have:=U HN2; rw [if_pos (by simp [lifW,h6])] at this; exact this
   clear h6 h5
   go_wp2_with fail
   go_ret
   exact ⟨zA (U HK),(U xw).trans ((U xE).mono (U xw).size)⟩
  have oB:Hid (_ = res):=(if_neg (by simp [lifW,h5,h6])).symm.trans (U HN2)
  clear h5 h6 HN2
  have k0:=zc (U HX).1 (U xE) (U uu).1 0 _ rfl
  have k1:=zc (U HX).1 (U xE) (U uu).1 1 _ rfl
  have o0:=zc (U HX).2 (U xE) (U uu).2 0 _ rfl
  have o1:=zc (U HX).2 (U xE) (U uu).2 1 _ rfl
  have o2:=zc (U HX).2 (U xE) (U uu).2 2 _ rfl
  have o3:=zc (U HX).2 (U xE) (U uu).2 3 _ rfl
  have o4:=zc (U HX).2 (U xE) (U uu).2 4 _ rfl
  have o5:=zc (U HX).2 (U xE) (U uu).2 5 _ rfl
  simp only [Nat.zero_add] at k0 k1 o0 o1 o2 o3 o4 o5
  go_wp2_with fail
  refine (hasPrice_any ⟨kk,s,ty,1,qt,ii,pr,tg⟩ w3).mono ?_
  rintro e w4 ⟨rfl,xy⟩
  have xH:=H (fC (U xE) xy)
  clear xy k0 k1 o0 o1 o2 o3 o4 o5 xE
  cases h7:prcB ⟨kk,s,ty,1,qt,ii,pr,tg⟩
  ·have HK:Hid (6 = res):=by have:=U oB; rw [if_pos h7] at this; exact this
   clear h7
   go_wp2_with fail
   go_ret
   exact ⟨zA (U HK),(U xw).trans ((U xH).mono (U xw).size)⟩
  have HN4:Hid (_ = res):=(if_neg (fun h=>by rw [h7] at h; cases h)).symm.trans (U oB)
  clear h7 oB
  have k0:=zc (U HX).1 (U xH) (U uu).1 0 _ rfl
  have k1:=zc (U HX).1 (U xH) (U uu).1 1 _ rfl
  have o0:=zc (U HX).2 (U xH) (U uu).2 0 _ rfl
  have o1:=zc (U HX).2 (U xH) (U uu).2 1 _ rfl
  have o2:=zc (U HX).2 (U xH) (U uu).2 2 _ rfl
  have o3:=zc (U HX).2 (U xH) (U uu).2 3 _ rfl
  have o4:=zc (U HX).2 (U xH) (U uu).2 4 _ rfl
  have o5:=zc (U HX).2 (U xH) (U uu).2 5 _ rfl
  simp only [Nat.zero_add] at k0 k1 o0 o1 o2 o3 o4 o5
  go_wp2_with fail
  refine (isQty_any qt w4).mono ?_
  rintro e w5 ⟨rfl,rfl⟩
  cases h8:betB qt 1 1000000
  ·have HK:Hid (7 = res):=by have:=U HN4; rw [if_pos h8] at this; exact this
   clear h8
   go_wp2_with fail
   go_ret
   exact ⟨zA (U HK),(U xw).trans ((U xH).mono (U xw).size)⟩
  have HN5:Hid (_ = res):=(if_neg (fun h=>by rw [h8] at h; cases h)).symm.trans (U HN4)
  have HQB:Hid (0 ≤ qt∧qt ≤ 1000000):=by
   simp only [betB,xf,xg] at h8
   exact ⟨by omega,h8.2⟩
  clear h8 HN4
  go_wp2_with fail
  refine (isTag_any tg w5 (U HTG)).mono ?_
  rintro e w6 ⟨rfl,rfl⟩
  cases h9:tagB tg
  ·have HK:Hid (8 = res):=by have:=U HN5; rw [if_pos h9] at this; exact this
   clear h9
   go_wp2_with fail
   go_ret
   exact ⟨zA (U HK),(U xw).trans ((U xH).mono (U xw).size)⟩
  have HN6:Hid (_ = res):=(if_neg (fun h=>by rw [h9] at h; cases h)).symm.trans (U HN5)
  clear h9 HN5
  go_wp2_with fail
  refine (fj next _ l ⟨kk,s,ty,1,qt,ii,pr,tg⟩ w6 (zh (U HR) ((U xw).trans ((U xH).mono (U xw).size)) yb) (U km) (U HG) (U vO).1 (U vO).2 (U HQB).1 (U HQB).2).mono ?_
  dsimp only
  rw [U HN6]
  rintro e w7 ⟨rfl,qi⟩
  have qV:=H (((U xw).trans ((U xH).mono (U xw).size)).trans (qi.mono ((U xw).trans ((U xH).mono (U xw).size)).size))
  clear qi
  go_wp2_with fail
  go_ret
  exact ⟨rfl,U qV⟩
 have hlb:(li == 1) = false:=by rw [xe]; exact hli
 have oB:Hid (_ = res):=(if_neg (by simp [lifW,h5,hli])).symm.trans (U HN2)
 have xE:Hid (yp w2 w2):=Below.refl _ _
 clear h5 hli HN2
 go_wp2_with fail
 refine (hasPrice_any ⟨kk,s,ty,li,qt,ii,pr,tg⟩ w2).mono ?_
 rintro e w4 ⟨rfl,xy⟩
 have xH:=H (fC (U xE) xy)
 clear xy k0 k1 o0 o1 o2 o3 o4 o5 xE
 cases h7:prcB ⟨kk,s,ty,li,qt,ii,pr,tg⟩
 ·have HK:Hid (6 = res):=by have:=U oB; rw [if_pos h7] at this; exact this
  clear h7
  go_wp2_with fail
  go_ret
  exact ⟨zA (U HK),(U xw).trans ((U xH).mono (U xw).size)⟩
 have HN4:Hid (_ = res):=(if_neg (fun h=>by rw [h7] at h; cases h)).symm.trans (U oB)
 clear h7 oB
 have k0:=zc (U HX).1 (U xH) (U uu).1 0 _ rfl
 have k1:=zc (U HX).1 (U xH) (U uu).1 1 _ rfl
 have o0:=zc (U HX).2 (U xH) (U uu).2 0 _ rfl
 have o1:=zc (U HX).2 (U xH) (U uu).2 1 _ rfl
 have o2:=zc (U HX).2 (U xH) (U uu).2 2 _ rfl
 have o3:=zc (U HX).2 (U xH) (U uu).2 3 _ rfl
 have o4:=zc (U HX).2 (U xH) (U uu).2 4 _ rfl
 have o5:=zc (U HX).2 (U xH) (U uu).2 5 _ rfl
 simp only [Nat.zero_add] at k0 k1 o0 o1 o2 o3 o4 o5
 go_wp2_with fail
 refine (isQty_any qt w4).mono ?_
 rintro e w5 ⟨rfl,rfl⟩
 cases h8:betB qt 1 1000000
 ·have HK:Hid (7 = res):=by have:=U HN4; rw [if_pos h8] at this; exact this
  clear h8
  go_wp2_with fail
  go_ret
  exact ⟨zA (U HK),(U xw).trans ((U xH).mono (U xw).size)⟩
 have HN5:Hid (_ = res):=(if_neg (fun h=>by rw [h8] at h; cases h)).symm.trans (U HN4)
 have HQB:Hid (0 ≤ qt∧qt ≤ 1000000):=by
  simp only [betB,xf,xg] at h8
  exact ⟨by omega,h8.2⟩
 clear h8 HN4
 go_wp2_with fail
 refine (isTag_any tg w5 (U HTG)).mono ?_
 rintro e w6 ⟨rfl,rfl⟩
 cases h9:tagB tg
 ·have HK:Hid (8 = res):=by have:=U HN5; rw [if_pos h9] at this; exact this
  clear h9
  go_wp2_with fail
  go_ret
  exact ⟨zA (U HK),(U xw).trans ((U xH).mono (U xw).size)⟩
 have HN6:Hid (_ = res):=(if_neg (fun h=>by rw [h9] at h; cases h)).symm.trans (U HN5)
 clear h9 HN5
 go_wp2_with fail
 refine (fj next _ l ⟨kk,s,ty,li,qt,ii,pr,tg⟩ w6 (zh (U HR) ((U xw).trans ((U xH).mono (U xw).size)) yb) (U km) (U HG) (U vO).1 (U vO).2 (U HQB).1 (U HQB).2).mono ?_
 dsimp only
 rw [U HN6]
 rintro e w7 ⟨rfl,qi⟩
 have qV:=H (((U xw).trans ((U xH).mono (U xw).size)).trans (qi.mono ((U xw).trans ((U xH).mono (U xw).size)).size))
 clear qi
 go_wp2_with fail
 go_ret
 exact ⟨rfl,U qV⟩
def idR (l:List Od) (id:Int):Int:=if plc l id < 0 then 9 else 0
def redR (l:List Od) (id qty:Int):Int:=if betB qty 1 1000000 = true then (if plc l id < 0 then 9 else match l[(plc l id).toNat]? with | some o=>if o.left ≤ qty then 10 else 0 | none=>0) else 7
theorem plc_cases (l:List Od) (id:Int):plc l id = -1 ∨ ∃ (k:Nat) (o:Od),plc l id = k∧l[k]? = some o:=by
 rcases plcF_spec id l 0 with ⟨N,_⟩ | ⟨i,o,N,Y,_⟩
 ·exact .inl N
 ·exact .inr ⟨i,o,by rw [plc,N]; congr 1; omega,Y⟩
theorem idRefusal_any (next:Int) (v:Value) (l:List Od) (id:Int) (w:World) (hr:RdR Od.vs 6 w v l) :
  Calls Tryz.prog 178 #[.agg #[I next,v],I id] w fun e w'=>e = yn (I (idR l id))∧yp w w':=by
 have HR:=H hr
 obtain ⟨a,cap,rfl,xA,hc⟩:=hr
 have xW:Hid (yp w (w.alloc (L #[I next,.slice a l.length cap] 34))):=fw _ _
 clear hc
 go_enter Tryz.func178,Tryz.ntmps178
 go_wp2_with fail
 refine (dY next _ l id _ (zh (U HR) (U xW) yb)).mono ?_
 rintro e w3 ⟨rfl,xQ⟩
 have xN:=H (fC (U xW) xQ)
 clear xQ
 by_cases hp:plc l id < 0
 ·have HK:Hid (idR l id = 9):=if_pos hp
  go_wp2_with fail
  go_ret
  exact ⟨zA (U HK).symm,U xN⟩
 ·have HK:Hid (idR l id = 0):=if_neg hp
  go_wp2_with fail
  go_ret
  exact ⟨zA (U HK).symm,U xN⟩
end Go.Proofs.YtnphbkgfjanmgaaGreatDoor
