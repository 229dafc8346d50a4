/-
  The reasons that hang on what would come of an order, by the program: proved by walking the function.
-/
import Derived.Test.YtnphbkgfjanmgaaGreatDoorBj15
set_option linter.unusedVariables false
set_option maxHeartbeats 6400000
set_option maxRecDepth 100000
namespace Go.Proofs.YtnphbkgfjanmgaaGreatDoor
open Go.RowKit
theorem below_kept {B0 B mb:Nat} {w W W':World} (h:Below B0 w W) (hk:KeptBut mb B W W') (hB:B0 ≤ B) (hm:B ≤ mb):Below B0 w W' :=
 ⟨hk.os.trans h.os,hk.tape.trans h.tape,hk.output.trans h.output,yN h.size hk.size,fun k xI=>(hk.block k (by omega) (by omega)).trans (h.block k xI)⟩
theorem fw (next:Int) (vb:Value) (l:List Od) (c:Cm) (w:World) (hr:RdR Od.vs 6 w vb l) (hs:SlOk vb) (hg:GoodL l) (h0:0 ≤ next) (Q:next ≤ 1000000) (ah:0 ≤ c.q) (oO:c.q ≤ 1000000) :
  Calls Tryz.prog 202 #[.agg #[I next,vb],noV c] w fun e w'=>e = ym (I (matR next c (matL c next 21 l c.q [])))∧yn w w':=by
 have HR:=M hr
 have HG:=M hg
 have km:=M hs
 have HFG:=M (matL_good (c:=c) (id:=next) 21 l c.q [] hg ah oO)
 have vO:Hid (0 ≤ next∧next ≤ 1000000∧0 ≤ c.q∧c.q ≤ 1000000):=⟨h0,Q,ah,oO⟩
 obtain ⟨a,cap,rfl,xA,hc⟩:=hr
 clear hc hg hs h0 Q ah oO xA
 obtain ⟨kk,s,ty,li,qt,ii,pr,tg⟩:=c
 have HCA:Hid (∀ W:World,RdR Od.vs 6 W (.slice a l.length cap) l→Calls Tryz.prog 211 #[.agg #[I next,.slice a l.length cap],.agg #[I s,I ty,I li,I qt,yj pr,yk tg]] W _):=fun W hW=>match_any next _ l ⟨kk,s,ty,li,qt,ii,pr,tg⟩ W hW (H km) (H HG) (H vO).1 (H vO).2.1 (H vO).2.2.1 (H vO).2.2.2
 generalize matL ⟨kk,s,ty,li,qt,ii,pr,tg⟩ next 21 l qt [] = cl at HFG HCA ⊢
 obtain ⟨FL,Fl,Ft⟩:=cl
 unfold noV
 simp only at *
 have xK:=zi w (A #[I next,.slice a l.length cap] 34)
 have ue:((w.alloc (A #[I next,.slice a l.length cap] 34)).alloc (A #[I s,I ty,I li,I qt,yj pr,yk tg] 85)).heap.size = w.heap.size + 1 + 1:=by rw [zi,xK]
 have r1:=zn w [I next,.slice a l.length cap] 34
 have r2:=zn (w.alloc (A #[I next,.slice a l.length cap] 34)) [I s,I ty,I li,I qt,yj pr,yk tg] 85
 rw [xK] at r2
 have qz:Below (w.heap.size + 1) (w.alloc (A #[I next,.slice a l.length cap] 34)) ((w.alloc (A #[I next,.slice a l.length cap] 34)).alloc (A #[I s,I ty,I li,I qt,yj pr,yk tg] 85)):=(Below.refl _ _).alloc (by rw [xK]; omega) _
 have xu:Hid (yn w ((w.alloc (A #[I next,.slice a l.length cap] 34)).alloc (A #[I s,I ty,I li,I qt,yj pr,yk tg] 85))):=(fE _ _).alloc (by rw [xK]; omega) _
 have HX:Hid (_∧_):=⟨zc r1 qz (by omega),r2⟩
 have qf:=M ue
 clear xK ue r1 r2 qz
 go_enter Tryz.func202,Tryz.ntmps202
 refine fI fun hR xU=>?_
 go_wp2_with fail
 refine H xU _ _ ?_
 clear xU
 refine fI fun K2 oU=>?_
 go_wp2_with fail
 generalize ((w.alloc (A #[I next,.slice a l.length cap] 34)).alloc (A #[I s,I ty,I li,I qt,yj pr,yk tg] 85)) = X2 at xu HX qf ⊢
 have HX:Hid (X2.rangeAt w.heap.size 0 [I next,.slice a l.length cap]∧X2.rangeAt (w.heap.size + 1) 0 [I s,I ty,I li,I qt,yj pr,yk tg]):=H HX
 refine (H HCA X2 (zh (H HR) (H xu) ya)).mono ?_
 rintro e w4 ⟨vq,vt,rfl,hoq,het,xw⟩
 obtain ⟨av,cv,rfl⟩:∃ a c,vt = .slice a Ft.length c:=by
  rcases het.2 with ⟨e,e2⟩ | ⟨g,cap,xF,e,_⟩
  ·exact ⟨none,0,by rw [e,e2]⟩
  ·exact ⟨_,_,e⟩
 obtain ⟨aq,cq,rfl⟩:∃ a c,vq = .slice a FL.length c:=by
  rcases hoq.2 with ⟨e,e2⟩ | ⟨g,cap,xF,e,_⟩
  ·exact ⟨none,0,by rw [e,e2]⟩
  ·exact ⟨_,_,e⟩
 have hal:=fE w4 (A #[I (next + 1),.slice aq FL.length cq,I next,I s,I (tk pr),I Fl,I li,yk tg,.slice av Ft.length cv] 254)
 have HMS:Hid (MatS w4.heap.size X2.heap.size (w4.alloc (A #[I (next + 1),.slice aq FL.length cq,I next,I s,I (tk pr),I Fl,I li,yk tg,.slice av Ft.length cv] 254)) (next + 1) (.slice aq FL.length cq) FL ⟨next,s,tk pr,Fl,li,tg⟩ (.slice av Ft.length cv) Ft):=⟨zn w4 [I (next + 1),.slice aq FL.length cq,I next,I s,I (tk pr),I Fl,I li,yk tg,.slice av Ft.length cv] _,zY w4 [I (next + 1),.slice aq FL.length cq,I next,I s,I (tk pr),I Fl,I li,yk tg,.slice av Ft.length cv] _,zM hoq hal,cU het hal,⟨_,heap_alloc_new w4 _⟩,yN xw.size (by rw [zi]; omega)⟩
 have qw:Hid (yn X2 (w4.alloc (A #[I (next + 1),.slice aq FL.length cq,I next,I s,I (tk pr),I Fl,I li,yk tg,.slice av Ft.length cv] 254))):=xw.trans (hal.mono xw.size)
 have HMB:Hid (w.heap.size ≤ X2.heap.size∧X2.heap.size ≤ w4.heap.size):=⟨by have:=H qf; omega,xw.size⟩
 clear hal hoq het xw
 go_wp2_with fail
 refine H oU _ _ ?_
 generalize (w4.alloc (A #[I (next + 1),.slice aq FL.length cq,I next,I s,I (tk pr),I Fl,I li,yk tg,.slice av Ft.length cv] 254)) = W6 at HMS qw ⊢
 generalize w4.heap.size = mb at HMS HMB ⊢
 have hm:w.heap.size + 1 < X2.heap.size:=by have:=H qf; omega
 have k0:=zc (H HX).1 (H qw) (by omega) 0 _ rfl
 have o0:=zc (H HX).2 (H qw) (by omega) 0 _ rfl
 have o1:=zc (H HX).2 (H qw) (by omega) 1 _ rfl
 have o2:=zc (H HX).2 (H qw) (by omega) 2 _ rfl
 have o3:=zc (H HX).2 (H qw) (by omega) 3 _ rfl
 have o4:=zc (H HX).2 (H qw) (by omega) 4 _ rfl
 have o5:=zc (H HX).2 (H qw) (by omega) 5 _ rfl
 have y5:W6.cell? (U mb 5) = some (I Fl):=(H HMS).cells 5 _ rfl
 have y8:W6.cell? (U mb 8) = some (.slice av Ft.length cv):=(H HMS).cells 8 _ rfl
 simp only [Nat.zero_add] at k0 o0 o1 o2 o3 o4 o5
 have ua:=M ((H xu).trans ((H qw).mono (H xu).size))
 have HMR:Hid (matR next ⟨kk,s,ty,li,qt,ii,pr,tg⟩ (FL,Fl,Ft) = if ty = 5∧0 < Ft.length then 11 else if ty = 4∧0 < Fl then 12 else if next = 1000000 then 13 else if ba ty = true∧0 < Fl then (if fullB (FL ++ [⟨next,s,tk pr,Fl,li,tg⟩]) = true then 13 else 0) else 0):=rfl
 clear HCA HX oU
 by_cases uS:ty = 5∧0 < Ft.length
 ·obtain ⟨rfl,hl⟩:=uS
  have pB:(0:Int) < Ft.length:=by omega
  have HK:Hid (matR next ⟨kk,s,5,li,qt,ii,pr,tg⟩ (FL,Fl,Ft) = 11):=by have:=H HMR; rw [if_pos ⟨rfl,hl⟩] at this; exact this
  clear hl
  go_wp2_with fail
  go_ret
  exact ⟨zy (H HK).symm,H ua⟩
 have az:Hid (_ = _):=(H HMR).trans (if_neg uS)
 clear HMR
 by_cases h5:ty = 5
 ·subst h5
  have pB:¬ (0:Int) < Ft.length:=fun h=>uS ⟨rfl,by omega⟩
  have xQ:Hid (_ = _):=(H az).trans (if_neg (fun h=>by cases h.1))
  clear az
  clear uS
  by_cases qe:next = 1000000
  ·subst qe
   have HK:Hid (matR 1000000 ⟨kk,s,5,li,qt,ii,pr,tg⟩ (FL,Fl,Ft) = 13):=by have:=H xQ; rw [if_pos rfl] at this; exact this
   go_wp2_with fail
   go_ret
   exact ⟨zy (H HK).symm,H ua⟩
  have hnb:(next == 1000000) = false:=by rw [xd]; exact qe
  have kZ:Hid (_ = _):=(H xQ).trans (if_neg qe)
  clear qe xQ
  go_wp2_with fail
  refine (dU ⟨kk,s,5,li,qt,ii,pr,tg⟩ W6).mono ?_
  rintro e w7 ⟨rfl,vX⟩
  dsimp only
  have vI:=M (ei (H HMS) vX)
  have qx:=M (fH (H ua) vX)
  have y7:w7.cell? (U mb 5) = some (I Fl):=(H vI).cells 5 _ rfl
  clear vX k0 o0 o1 o2 o3 o4 o5 y5 y8
  cases hrb:ba 5
  ·have HK:Hid (matR next ⟨kk,s,5,li,qt,ii,pr,tg⟩ (FL,Fl,Ft) = 0):=by
    have:=H kZ
    rw [if_neg (fun h=>by rw [hrb] at h; cases h.1)] at this
    exact this
   clear hrb
   go_wp2_with fail
   go_ret
   exact ⟨zy (H HK).symm,H qx⟩
  ·by_cases hFl:0 < Fl
   ·have HMRG:Hid (matR next ⟨kk,s,5,li,qt,ii,pr,tg⟩ (FL,Fl,Ft) = if fullB (FL ++ [⟨next,s,tk pr,Fl,li,tg⟩]) = true then 13 else 0):=by
     have:=H kZ
     rw [if_pos ⟨hrb,hFl⟩] at this
     exact this
    clear hrb
    go_wp2_with fail
    refine (rest_any mb X2.heap.size (next + 1) _ FL ⟨next,s,tk pr,Fl,li,tg⟩ _ Ft w7 (H vI) (by have:=(H HFG).1.len; omega)).mono ?_
    rintro e w8 ⟨vq8,rfl,hM8,hK8⟩
    have HM8:=M hM8
    have HB8:=M (below_kept (H qx) hK8 (H HMB).1 (H HMB).2)
    clear hM8 hK8 y7
    go_wp2_with fail
    refine (isTooFull_any mb X2.heap.size (next + 1) vq8 _ ⟨next,s,tk pr,Fl,li,tg⟩ _ Ft w8 (H HM8) (by have:=(H HFG).1.len; rw [yP]; simp only [List.length_cons,List.length_nil]; omega) (by
     intro o' vM
     have hfg:=H HFG
     rcases List.mem_append.1 vM with h | h
     ·have:=hfg.1.left o' h; omega
     ·rw [List.mem_singleton] at h; subst h; exact hfg.2)).mono ?_
    rintro e w9 ⟨rfl,oK⟩
    have pF:=M (fH (H HB8) oK)
    clear oK
    cases hfu:fullB (FL ++ [⟨next,s,tk pr,Fl,li,tg⟩])
    ·have HK:Hid (matR next ⟨kk,s,5,li,qt,ii,pr,tg⟩ (FL,Fl,Ft) = 0):=by have:=H HMRG; rw [hfu] at this; exact this
     clear hfu
     go_wp2_with fail
     go_ret
     exact ⟨zy (H HK).symm,H pF⟩
    ·have HK:Hid (matR next ⟨kk,s,5,li,qt,ii,pr,tg⟩ (FL,Fl,Ft) = 13):=by have:=H HMRG; rw [hfu] at this; exact this
     clear hfu
     go_wp2_with fail
     go_ret
     exact ⟨zy (H HK).symm,H pF⟩
   ·have HK:Hid (matR next ⟨kk,s,5,li,qt,ii,pr,tg⟩ (FL,Fl,Ft) = 0):=by have:=H kZ; rw [if_neg (fun h=>hFl h.2)] at this; exact this
    clear hrb
    go_wp2_with fail
    go_ret
    exact ⟨zy (H HK).symm,H qx⟩
 have uf:(ty == 5) = false:=by rw [xd]; exact h5
 clear uS
 by_cases uO:ty = 4∧0 < Fl
 ·obtain ⟨rfl,hl⟩:=uO
  have HK:Hid (matR next ⟨kk,s,4,li,qt,ii,pr,tg⟩ (FL,Fl,Ft) = 12):=by have:=H az; rw [if_pos ⟨rfl,hl⟩] at this; exact this
  clear h5 uf
  go_wp2_with fail
  go_ret
  exact ⟨zy (H HK).symm,H ua⟩
 have xQ:Hid (_ = _):=(H az).trans (if_neg uO)
 clear az
 by_cases h4:ty = 4
 ·subst h4
  have pB:¬ 0 < Fl:=fun h=>uO ⟨rfl,h⟩
  clear uO h5 uf
  by_cases qe:next = 1000000
  ·subst qe
   have HK:Hid (matR 1000000 ⟨kk,s,4,li,qt,ii,pr,tg⟩ (FL,Fl,Ft) = 13):=by have:=H xQ; rw [if_pos rfl] at this; exact this
   go_wp2_with fail
   go_ret
   exact ⟨zy (H HK).symm,H ua⟩
  have hnb:(next == 1000000) = false:=by rw [xd]; exact qe
  have kZ:Hid (_ = _):=(H xQ).trans (if_neg qe)
  clear qe xQ
  go_wp2_with fail
  refine (dU ⟨kk,s,4,li,qt,ii,pr,tg⟩ W6).mono ?_
  rintro e w7 ⟨rfl,vX⟩
  dsimp only
  have vI:=M (ei (H HMS) vX)
  have qx:=M (fH (H ua) vX)
  have y7:w7.cell? (U mb 5) = some (I Fl):=(H vI).cells 5 _ rfl
  clear vX k0 o0 o1 o2 o3 o4 o5 y5 y8
  cases hrb:ba 4
  ·have HK:Hid (matR next ⟨kk,s,4,li,qt,ii,pr,tg⟩ (FL,Fl,Ft) = 0):=by
    have:=H kZ
    rw [if_neg (fun h=>by rw [hrb] at h; cases h.1)] at this
    exact this
   clear hrb
   go_wp2_with fail
   go_ret
   exact ⟨zy (H HK).symm,H qx⟩
  ·exact absurd hrb (by decide)
 have xw:(ty == 4) = false:=by rw [xd]; exact h4
 clear uO h5 h4
 by_cases qe:next = 1000000
 ·subst qe
  have HK:Hid (matR 1000000 ⟨kk,s,ty,li,qt,ii,pr,tg⟩ (FL,Fl,Ft) = 13):=by have:=H xQ; rw [if_pos rfl] at this; exact this
  go_wp2_with fail
  go_ret
  exact ⟨zy (H HK).symm,H ua⟩
 have hnb:(next == 1000000) = false:=by rw [xd]; exact qe
 have kZ:Hid (_ = _):=(H xQ).trans (if_neg qe)
 clear qe xQ
 go_wp2_with fail
 refine (dU ⟨kk,s,ty,li,qt,ii,pr,tg⟩ W6).mono ?_
 rintro e w7 ⟨rfl,vX⟩
 dsimp only
 have vI:=M (ei (H HMS) vX)
 have qx:=M (fH (H ua) vX)
 have y7:w7.cell? (U mb 5) = some (I Fl):=(H vI).cells 5 _ rfl
 clear vX k0 o0 o1 o2 o3 o4 o5 y5 y8
 cases hrb:ba ty
 ·have HK:Hid (matR next ⟨kk,s,ty,li,qt,ii,pr,tg⟩ (FL,Fl,Ft) = 0):=by
   have:=H kZ
   rw [if_neg (fun h=>by rw [hrb] at h; cases h.1)] at this
   exact this
  clear hrb
  go_wp2_with fail
  go_ret
  exact ⟨zy (H HK).symm,H qx⟩
 ·by_cases hFl:0 < Fl
  ·have HMRG:Hid (matR next ⟨kk,s,ty,li,qt,ii,pr,tg⟩ (FL,Fl,Ft) = if fullB (FL ++ [⟨next,s,tk pr,Fl,li,tg⟩]) = true then 13 else 0):=by
    have:=H kZ
    rw [if_pos ⟨hrb,hFl⟩] at this
    exact this
   clear hrb
   go_wp2_with fail
   refine (rest_any mb X2.heap.size (next + 1) _ FL ⟨next,s,tk pr,Fl,li,tg⟩ _ Ft w7 (H vI) (by have:=(H HFG).1.len; omega)).mono ?_
   rintro e w8 ⟨vq8,rfl,hM8,hK8⟩
   have HM8:=M hM8
   have HB8:=M (below_kept (H qx) hK8 (H HMB).1 (H HMB).2)
   clear hM8 hK8 y7
   go_wp2_with fail
   refine (isTooFull_any mb X2.heap.size (next + 1) vq8 _ ⟨next,s,tk pr,Fl,li,tg⟩ _ Ft w8 (H HM8) (by have:=(H HFG).1.len; rw [yP]; simp only [List.length_cons,List.length_nil]; omega) (by
    intro o' vM
    have hfg:=H HFG
    rcases List.mem_append.1 vM with h | h
    ·have:=hfg.1.left o' h; omega
    ·rw [List.mem_singleton] at h; subst h; exact hfg.2)).mono ?_
   rintro e w9 ⟨rfl,oK⟩
   have pF:=M (fH (H HB8) oK)
   clear oK
   cases hfu:fullB (FL ++ [⟨next,s,tk pr,Fl,li,tg⟩])
   ·have HK:Hid (matR next ⟨kk,s,ty,li,qt,ii,pr,tg⟩ (FL,Fl,Ft) = 0):=by have:=H HMRG; rw [hfu] at this; exact this
    clear hfu
    go_wp2_with fail
    go_ret
    exact ⟨zy (H HK).symm,H pF⟩
   ·have HK:Hid (matR next ⟨kk,s,ty,li,qt,ii,pr,tg⟩ (FL,Fl,Ft) = 13):=by have:=H HMRG; rw [hfu] at this; exact this
    clear hfu
    go_wp2_with fail
    go_ret
    exact ⟨zy (H HK).symm,H pF⟩
  ·have HK:Hid (matR next ⟨kk,s,ty,li,qt,ii,pr,tg⟩ (FL,Fl,Ft) = 0):=by have:=H kZ; rw [if_neg (fun h=>hFl h.2)] at this; exact this
   clear hrb
   go_wp2_with fail
   go_ret
   exact ⟨zy (H HK).symm,H qx⟩
def lifW (c:Cm):Bool:=!betB c.l 0 1 || (decide (c.l = 1) && !ba c.t)
def newR (next:Int) (l:List Od) (c:Cm):Int :=
 if betB c.s 1 2 = false then 3 else if betB c.t 1 5 = false then 4 else if lifW c = true then 5 else if prcB c = false then 6 else if betB c.q 1 1000000 = false then 7 else if tagB c.g = false then 8 else matR next c (matL c next 21 l c.q [])
theorem newRefusal_any (next:Int) (vb:Value) (l:List Od) (c:Cm) (w:World) (hr:RdR Od.vs 6 w vb l) (hs:SlOk vb) (hg:GoodL l) (h0:0 ≤ next) (Q:next ≤ 1000000) (ht:c.g.size ≤ maxLen) :
  Calls Tryz.prog 177 #[.agg #[I next,vb],noV c] w fun e w'=>e = ym (I (newR next l c))∧yn w w':=by
 have HR:=M hr
 have HG:=M hg
 have km:=M hs
 have vO:Hid (0 ≤ next∧next ≤ 1000000):=⟨h0,Q⟩
 have HTG:=M ht
 obtain ⟨a,cap,rfl,xA,hc⟩:=hr
 clear hc hg hs h0 Q ht xA
 generalize hres:newR next l c = res
 have HN0:Hid (_ = res):=hres
 clear hres
 obtain ⟨kk,s,ty,li,qt,ii,pr,tg⟩:=c
 unfold newR at HN0
 unfold noV
 simp only at *
 have xK:=zi w (A #[I next,.slice a l.length cap] 34)
 have ue:((w.alloc (A #[I next,.slice a l.length cap] 34)).alloc (A #[I s,I ty,I li,I qt,yj pr,yk tg] 85)).heap.size = w.heap.size + 1 + 1:=by rw [zi,xK]
 have r1:=zn w [I next,.slice a l.length cap] 34
 have r2:=zn (w.alloc (A #[I next,.slice a l.length cap] 34)) [I s,I ty,I li,I qt,yj pr,yk tg] 85
 rw [xK] at r2
 have qz:Below (w.heap.size + 1) (w.alloc (A #[I next,.slice a l.length cap] 34)) ((w.alloc (A #[I next,.slice a l.length cap] 34)).alloc (A #[I s,I ty,I li,I qt,yj pr,yk tg] 85)):=(Below.refl _ _).alloc (by rw [xK]; omega) _
 have xu:Hid (yn w ((w.alloc (A #[I next,.slice a l.length cap] 34)).alloc (A #[I s,I ty,I li,I qt,yj pr,yk tg] 85))):=(fE _ _).alloc (by rw [xK]; omega) _
 have HX:Hid (_∧_):=⟨zc r1 qz (by omega),r2⟩
 have uu:Hid (w.heap.size < ((w.alloc (A #[I next,.slice a l.length cap] 34)).alloc (A #[I s,I ty,I li,I qt,yj pr,yk tg] 85)).heap.size∧w.heap.size + 1 < ((w.alloc (A #[I next,.slice a l.length cap] 34)).alloc (A #[I s,I ty,I li,I qt,yj pr,yk tg] 85)).heap.size):=⟨by omega,by omega⟩
 clear xK ue r1 r2 qz
 go_enter Tryz.func177,Tryz.ntmps177
 refine fI fun hR xU=>?_
 go_wp2_with fail
 refine H xU _ _ ?_
 clear xU
 generalize ((w.alloc (A #[I next,.slice a l.length cap] 34)).alloc (A #[I s,I ty,I li,I qt,yj pr,yk tg] 85)) = X2 at xu HX uu ⊢
 have HX:Hid (X2.rangeAt w.heap.size 0 [I next,.slice a l.length cap]∧X2.rangeAt (w.heap.size + 1) 0 [I s,I ty,I li,I qt,yj pr,yk tg]):=H HX
 have k0:=zc (H HX).1 (Below.refl _ _) (H uu).1 0 _ rfl
 have k1:=zc (H HX).1 (Below.refl _ _) (H uu).1 1 _ rfl
 have o0:=zc (H HX).2 (Below.refl _ _) (H uu).2 0 _ rfl
 have o1:=zc (H HX).2 (Below.refl _ _) (H uu).2 1 _ rfl
 have o2:=zc (H HX).2 (Below.refl _ _) (H uu).2 2 _ rfl
 have o3:=zc (H HX).2 (Below.refl _ _) (H uu).2 3 _ rfl
 have o4:=zc (H HX).2 (Below.refl _ _) (H uu).2 4 _ rfl
 have o5:=zc (H HX).2 (Below.refl _ _) (H uu).2 5 _ rfl
 simp only [Nat.zero_add] at k0 k1 o0 o1 o2 o3 o4 o5
 go_wp2_with fail
 refine (dw s X2).mono ?_
 rintro e w' ⟨rfl,rfl⟩
 cases h3:betB s 1 2
 ·have HK:Hid (3 = res):=by have:=H HN0; rw [if_pos h3] at this; exact this
  clear h3
  go_wp2_with fail
  go_ret
  exact ⟨zy (H HK),H xu⟩
 have HN1:Hid (_ = res):=(if_neg (fun h=>by rw [h3] at h; cases h)).symm.trans (H HN0)
 clear h3 HN0
 go_wp2_with fail
 refine (isType_any ty w').mono ?_
 rintro e w1 ⟨rfl,rfl⟩
 cases h4:betB ty 1 5
 ·have HK:Hid (4 = res):=by have:=H HN1; rw [if_pos h4] at this; exact this
  clear h4
  go_wp2_with fail
  go_ret
  exact ⟨zy (H HK),H xu⟩
 have HN2:Hid (_ = res):=(if_neg (fun h=>by rw [h4] at h; cases h)).symm.trans (H HN1)
 clear h4 HN1
 go_wp2_with fail
 refine (dv li w1).mono ?_
 rintro e w2 ⟨rfl,rfl⟩
 cases h5:betB li 0 1
 ·have HK:Hid (5 = res):=by have:=H HN2; rw [if_pos (by simp [lifW,h5])] at this; exact this
  clear h5
  go_wp2_with fail
  go_ret
  exact ⟨zy (H HK),H xu⟩
 by_cases hli:li = 1
 ·subst hli
  go_wp2_with fail
  refine (dU ⟨kk,s,ty,1,qt,ii,pr,tg⟩ w2).mono ?_
  rintro e w3 ⟨rfl,xM⟩
  dsimp only
  have xy:=M xM
  clear xM k0 k1 o0 o1 o2 o3 o4 o5
  cases h6:ba ty
  ·have HK:Hid (5 = res):=by have:=H HN2; rw [if_pos (by simp [lifW,h6])] at this; exact this
   clear h6 h5
   go_wp2_with fail
   go_ret
   exact ⟨zy (H HK),(H xu).trans ((H xy).mono (H xu).size)⟩
  have oF:Hid (_ = res):=(if_neg (by simp [lifW,h5,h6])).symm.trans (H HN2)
  clear h5 h6 HN2
  have k0:=zc (H HX).1 (H xy) (H uu).1 0 _ rfl
  have k1:=zc (H HX).1 (H xy) (H uu).1 1 _ rfl
  have o0:=zc (H HX).2 (H xy) (H uu).2 0 _ rfl
  have o1:=zc (H HX).2 (H xy) (H uu).2 1 _ rfl
  have o2:=zc (H HX).2 (H xy) (H uu).2 2 _ rfl
  have o3:=zc (H HX).2 (H xy) (H uu).2 3 _ rfl
  have o4:=zc (H HX).2 (H xy) (H uu).2 4 _ rfl
  have o5:=zc (H HX).2 (H xy) (H uu).2 5 _ rfl
  simp only [Nat.zero_add] at k0 k1 o0 o1 o2 o3 o4 o5
  go_wp2_with fail
  refine (hasPrice_any ⟨kk,s,ty,1,qt,ii,pr,tg⟩ w3).mono ?_
  rintro e w4 ⟨rfl,xw⟩
  have xG:=M (fH (H xy) xw)
  clear xw k0 k1 o0 o1 o2 o3 o4 o5 xy
  cases h7:prcB ⟨kk,s,ty,1,qt,ii,pr,tg⟩
  ·have HK:Hid (6 = res):=by have:=H oF; rw [if_pos h7] at this; exact this
   clear h7
   go_wp2_with fail
   go_ret
   exact ⟨zy (H HK),(H xu).trans ((H xG).mono (H xu).size)⟩
  have HN4:Hid (_ = res):=(if_neg (fun h=>by rw [h7] at h; cases h)).symm.trans (H oF)
  clear h7 oF
  have k0:=zc (H HX).1 (H xG) (H uu).1 0 _ rfl
  have k1:=zc (H HX).1 (H xG) (H uu).1 1 _ rfl
  have o0:=zc (H HX).2 (H xG) (H uu).2 0 _ rfl
  have o1:=zc (H HX).2 (H xG) (H uu).2 1 _ rfl
  have o2:=zc (H HX).2 (H xG) (H uu).2 2 _ rfl
  have o3:=zc (H HX).2 (H xG) (H uu).2 3 _ rfl
  have o4:=zc (H HX).2 (H xG) (H uu).2 4 _ rfl
  have o5:=zc (H HX).2 (H xG) (H uu).2 5 _ rfl
  simp only [Nat.zero_add] at k0 k1 o0 o1 o2 o3 o4 o5
  go_wp2_with fail
  refine (isQty_any qt w4).mono ?_
  rintro e w5 ⟨rfl,rfl⟩
  cases h8:betB qt 1 1000000
  ·have HK:Hid (7 = res):=by have:=H HN4; rw [if_pos h8] at this; exact this
   clear h8
   go_wp2_with fail
   go_ret
   exact ⟨zy (H HK),(H xu).trans ((H xG).mono (H xu).size)⟩
  have HN5:Hid (_ = res):=(if_neg (fun h=>by rw [h8] at h; cases h)).symm.trans (H HN4)
  have HQB:Hid (0 ≤ qt∧qt ≤ 1000000):=by
   simp only [betB,xe,xf] at h8
   exact ⟨by omega,h8.2⟩
  clear h8 HN4
  go_wp2_with fail
  refine (isTag_any tg w5 (H HTG)).mono ?_
  rintro e w6 ⟨rfl,rfl⟩
  cases h9:tagB tg
  ·have HK:Hid (8 = res):=by have:=H HN5; rw [if_pos h9] at this; exact this
   clear h9
   go_wp2_with fail
   go_ret
   exact ⟨zy (H HK),(H xu).trans ((H xG).mono (H xu).size)⟩
  have HN6:Hid (_ = res):=(if_neg (fun h=>by rw [h9] at h; cases h)).symm.trans (H HN5)
  clear h9 HN5
  go_wp2_with fail
  refine (fw next _ l ⟨kk,s,ty,1,qt,ii,pr,tg⟩ w6 (zh (H HR) ((H xu).trans ((H xG).mono (H xu).size)) ya) (H km) (H HG) (H vO).1 (H vO).2 (H HQB).1 (H HQB).2).mono ?_
  dsimp only
  rw [H HN6]
  rintro e w7 ⟨rfl,vX⟩
  have qx:=M (((H xu).trans ((H xG).mono (H xu).size)).trans (vX.mono ((H xu).trans ((H xG).mono (H xu).size)).size))
  clear vX
  go_wp2_with fail
  go_ret
  exact ⟨rfl,H qx⟩
 have hlb:(li == 1) = false:=by rw [xd]; exact hli
 have oF:Hid (_ = res):=(if_neg (by simp [lifW,h5,hli])).symm.trans (H HN2)
 have xy:Hid (yn w2 w2):=Below.refl _ _
 clear h5 hli HN2
 go_wp2_with fail
 refine (hasPrice_any ⟨kk,s,ty,li,qt,ii,pr,tg⟩ w2).mono ?_
 rintro e w4 ⟨rfl,xw⟩
 have xG:=M (fH (H xy) xw)
 clear xw k0 k1 o0 o1 o2 o3 o4 o5 xy
 cases h7:prcB ⟨kk,s,ty,li,qt,ii,pr,tg⟩
 ·have HK:Hid (6 = res):=by have:=H oF; rw [if_pos h7] at this; exact this
  clear h7
  go_wp2_with fail
  go_ret
  exact ⟨zy (H HK),(H xu).trans ((H xG).mono (H xu).size)⟩
 have HN4:Hid (_ = res):=(if_neg (fun h=>by rw [h7] at h; cases h)).symm.trans (H oF)
 clear h7 oF
 have k0:=zc (H HX).1 (H xG) (H uu).1 0 _ rfl
 have k1:=zc (H HX).1 (H xG) (H uu).1 1 _ rfl
 have o0:=zc (H HX).2 (H xG) (H uu).2 0 _ rfl
 have o1:=zc (H HX).2 (H xG) (H uu).2 1 _ rfl
 have o2:=zc (H HX).2 (H xG) (H uu).2 2 _ rfl
 have o3:=zc (H HX).2 (H xG) (H uu).2 3 _ rfl
 have o4:=zc (H HX).2 (H xG) (H uu).2 4 _ rfl
 have o5:=zc (H HX).2 (H xG) (H uu).2 5 _ rfl
 simp only [Nat.zero_add] at k0 k1 o0 o1 o2 o3 o4 o5
 go_wp2_with fail
 refine (isQty_any qt w4).mono ?_
 rintro e w5 ⟨rfl,rfl⟩
 cases h8:betB qt 1 1000000
 ·have HK:Hid (7 = res):=by have:=H HN4; rw [if_pos h8] at this; exact this
  clear h8
  go_wp2_with fail
  go_ret
  exact ⟨zy (H HK),(H xu).trans ((H xG).mono (H xu).size)⟩
 have HN5:Hid (_ = res):=(if_neg (fun h=>by rw [h8] at h; cases h)).symm.trans (H HN4)
 have HQB:Hid (0 ≤ qt∧qt ≤ 1000000):=by
  simp only [betB,xe,xf] at h8
  exact ⟨by omega,h8.2⟩
 clear h8 HN4
 go_wp2_with fail
 refine (isTag_any tg w5 (H HTG)).mono ?_
 rintro e w6 ⟨rfl,rfl⟩
 cases h9:tagB tg
 ·have HK:Hid (8 = res):=by have:=H HN5; rw [if_pos h9] at this; exact this
  clear h9
  go_wp2_with fail
  go_ret
  exact ⟨zy (H HK),(H xu).trans ((H xG).mono (H xu).size)⟩
 have HN6:Hid (_ = res):=(if_neg (fun h=>by rw [h9] at h; cases h)).symm.trans (H HN5)
 clear h9 HN5
 go_wp2_with fail
 refine (fw next _ l ⟨kk,s,ty,li,qt,ii,pr,tg⟩ w6 (zh (H HR) ((H xu).trans ((H xG).mono (H xu).size)) ya) (H km) (H HG) (H vO).1 (H vO).2 (H HQB).1 (H HQB).2).mono ?_
 dsimp only
 rw [H HN6]
 rintro e w7 ⟨rfl,vX⟩
 have qx:=M (((H xu).trans ((H xG).mono (H xu).size)).trans (vX.mono ((H xu).trans ((H xG).mono (H xu).size)).size))
 clear vX
 go_wp2_with fail
 go_ret
 exact ⟨rfl,H qx⟩
def idR (l:List Od) (id:Int):Int:=if plc l id < 0 then 9 else 0
def redR (l:List Od) (id qty:Int):Int:=if betB qty 1 1000000 = true then (if plc l id < 0 then 9 else match l[(plc l id).toNat]? with | some o=>if o.left ≤ qty then 10 else 0 | none=>0) else 7
theorem plc_cases (l:List Od) (id:Int):plc l id = -1 ∨ ∃ (k:Nat) (o:Od),plc l id = k∧l[k]? = some o:=by
 rcases plcF_spec id l 0 with ⟨Q,_⟩ | ⟨i,o,Q,E,_⟩
 ·exact .inl Q
 ·exact .inr ⟨i,o,by rw [plc,Q]; congr 1; omega,E⟩
theorem idRefusal_any (next:Int) (v:Value) (l:List Od) (id:Int) (w:World) (hr:RdR Od.vs 6 w v l) :
  Calls Tryz.prog 178 #[.agg #[I next,v],I id] w fun e w'=>e = ym (I (idR l id))∧yn w w':=by
 have HR:=M hr
 obtain ⟨a,cap,rfl,xA,hc⟩:=hr
 have xS:Hid (yn w (w.alloc (A #[I next,.slice a l.length cap] 34))):=fE _ _
 clear hc
 go_enter Tryz.func178,Tryz.ntmps178
 go_wp2_with fail
 refine (ef next _ l id _ (zh (H HR) (H xS) ya)).mono ?_
 rintro e w3 ⟨rfl,xM⟩
 have xL:=M (fH (H xS) xM)
 clear xM
 by_cases hp:plc l id < 0
 ·have HK:Hid (idR l id = 9):=if_pos hp
  go_wp2_with fail
  go_ret
  exact ⟨zy (H HK).symm,H xL⟩
 ·have HK:Hid (idR l id = 0):=if_neg hp
  go_wp2_with fail
  go_ret
  exact ⟨zy (H HK).symm,H xL⟩
end Go.Proofs.YtnphbkgfjanmgaaGreatDoor
