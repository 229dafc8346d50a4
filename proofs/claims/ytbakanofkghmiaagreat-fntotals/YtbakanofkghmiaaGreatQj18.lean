/-
  The reasons that hang on what would come of an order, by the program: proved by walking the function.
-/
import Derived.Test.YtbakanofkghmiaaGreatQj17
set_option linter.unusedVariables false
set_option maxHeartbeats 6400000
set_option maxRecDepth 100000
namespace Go.Proofs.YtbakanofkghmiaaGreat
open Go.RowKit
theorem cN {c:Cm} {id:Int}:∀ (n:Nat) (l:List Od) (left:Int) (ts:List Ev),GoodL l→0 ≤ left→left ≤ 1000000→GoodL (matL c id n l left ts).1∧0 ≤ (matL c id n l left ts).2.1∧(matL c id n l left ts).2.1 ≤ 1000000
 | 0,l,left,ts,h,h0,Q=>⟨h,h0,Q⟩
 | n + 1,l,left,ts,h,h0,Q=>by
  rw [matL]
  by_cases hl:0 < left
  ·rw [if_pos hl]
   cases hf:aV l (othS c.s) with
   | none=>exact ⟨h,h0,Q⟩
   | some o =>
    simp only
    by_cases hm:bz c o = true
    ·rw [if_pos hm]
     obtain ⟨vD,_⟩:=dO hf
     obtain ⟨k,hk⟩:=List.getElem?_of_mem vD
     have Z:=h.left o vD
     rw [plc_at h.rise hk,Int.toNat_natCast]
     exact cN n _ _ _ (dv h hk (by omega) (by omega)).1 (by omega) (by omega)
    ·rw [if_neg hm]; exact ⟨h,h0,Q⟩
  ·rw [if_neg hl]; exact ⟨h,h0,Q⟩
def matR (next:Int) (c:Cm) (ty:List Od × Int × List Ev):Int :=
 if c.t = 5∧0 < ty.2.2.length then 11 else if c.t = 4∧0 < ty.2.1 then 12 else if next = 1000000 then 13
 else if aO c.t = true∧0 < ty.2.1 then (if fullB (ty.1 ++ [{ ordO c next with left:=ty.2.1 }]) = true then 13 else 0) else 0
theorem matS_put {V:World} {mb B:Nat} {next:Int} {vq vt:Value} {l:List Od} {t:Od} {ts:List Ev} (ht:V.there mb 0 9) (X:∃ xu,V.heap[mb]? = some (.cells xu 157 (0,0))) (Z:ORow V B vq l) (he:ERow V B vt ts) (hB:B ≤ V.heap.size) :
  MatS mb B (V.setCells mb 0 [H next,vq,H t.id,H t.side,H t.ticks,H t.left,H t.life,yk t.tag,vt]) next vq l t vt ts:=by
 have hn:some mb ≠ vq.ownBlock:=zl Z X (by decide)
 have hm:some mb ≠ vt.ownBlock:=zl he X (by decide)
 have hr:=yY V mb 0 [H next,vq,H t.id,H t.side,H t.ticks,H t.left,H t.life,yk t.tag,vt] (fun j R=>ht j R)
 refine ⟨hr,fun j R=>⟨?_,?_⟩,?_,?_,?_,?_⟩
 ·obtain ⟨u,hu⟩:∃ u,[H next,vq,H t.id,H t.side,H t.ticks,H t.left,H t.life,yk t.tag,vt][j]? = some u:=⟨_,yI (by simpa using R)⟩
  rw [hr j u hu]; rfl
 ·have:=(ht j R).2
  simp only [World.setCells,World.frozen?_setCell]
  exact this
 ·simp only [World.setCells]
  exact zv (zv (zv (zv (zv (zv (zv (zv (zv Z hn _ _) hn _ _) hn _ _) hn _ _) hn _ _) hn _ _) hn _ _) hn _ _) hn _ _
 ·simp only [World.setCells]
  exact zv (zv (zv (zv (zv (zv (zv (zv (zv he hm _ _) hm _ _) hm _ _) hm _ _) hm _ _) hm _ _) hm _ _) hm _ _) hm _ _
 ·obtain ⟨xu,X⟩:=X
  simp only [World.setCells]
  obtain ⟨_,Q⟩:=zO V mb 0 (H next) X
  obtain ⟨_,Q⟩:=zO _ mb 1 vq Q
  obtain ⟨_,Q⟩:=zO _ mb 2 (H t.id) Q
  obtain ⟨_,Q⟩:=zO _ mb 3 (H t.side) Q
  obtain ⟨_,Q⟩:=zO _ mb 4 (H t.ticks) Q
  obtain ⟨_,Q⟩:=zO _ mb 5 (H t.left) Q
  obtain ⟨_,Q⟩:=zO _ mb 6 (H t.life) Q
  obtain ⟨_,Q⟩:=zO _ mb 7 (yk t.tag) Q
  exact zO _ mb 8 vt Q
 ·simp only [World.setCells,World.setCell,Array.size_modify]; exact hB
theorem below_kept {B0 B mb:Nat} {w W W':World} (h:Below B0 w W) (hk:KeptBut mb B W W') (hB:B0 ≤ B) (hm:B ≤ mb):Below B0 w W' :=
 ⟨hk.os.trans h.os,hk.tape.trans h.tape,hk.output.trans h.output,yO h.size hk.size,fun k xL=>(hk.block k (by omega) (by omega)).trans (h.block k xL)⟩
theorem eA (next:Int) (vb:Value) (l:List Od) (c:Cm) (w:World) (hr:RdR Od.vs 6 w vb l) (hs:SlOk vb) (hg:GoodL l) (h0:0 ≤ next) (Q:next ≤ 1000000) (jp:0 ≤ c.q) (jq:c.q ≤ 1000000) :
  Calls Tryz.prog 147 #[.agg #[H next,vb],noV c] w fun e w'=>e = ym (H (matR next c (matL c next 21 l c.q [])))∧yn w w':=by
 have HR:=Y hr
 have HG:=Y hg
 have vP:=Y hs
 have oU:=Y (cN (c:=c) (id:=next) 21 l c.q [] hg jp jq)
 have uH:Hid (0 ≤ next∧next ≤ 1000000∧0 ≤ c.q∧c.q ≤ 1000000):=⟨h0,Q,jp,jq⟩
 obtain ⟨a,A,rfl,xG,hc⟩:=hr
 clear hc hg hs h0 Q jp jq xG
 obtain ⟨kk,s,F,li,L,ii,pr,O⟩:=c
 have HCA:Hid (∀ W:World,RdR Od.vs 6 W (.slice a l.length A) l→Calls Tryz.prog 112 #[.agg #[H next,.slice a l.length A],.agg #[H s,H F,H li,H L,yj pr,yk O]] W _):=fun W hW=>match_any next _ l ⟨kk,s,F,li,L,ii,pr,O⟩ W hW (U vP) (U HG) (U uH).1 (U uH).2.1 (U uH).2.2.1 (U uH).2.2.2
 generalize matL ⟨kk,s,F,li,L,ii,pr,O⟩ next 21 l L [] = ty at oU HCA ⊢
 obtain ⟨FL,Fl,Ft⟩:=ty
 unfold noV
 simp only at *
 have xC:=zh w (E #[H next,.slice a l.length A] 28)
 have ua:((w.alloc (E #[H next,.slice a l.length A] 28)).alloc (E #[H s,H F,H li,H L,yj pr,yk O] 112)).heap.size = w.heap.size + 1 + 1:=by rw [zh,xC]
 have r1:=zi w [H next,.slice a l.length A] 28
 have r2:=zi (w.alloc (E #[H next,.slice a l.length A] 28)) [H s,H F,H li,H L,yj pr,yk O] 112
 rw [xC] at r2
 have qe:Below (w.heap.size + 1) (w.alloc (E #[H next,.slice a l.length A] 28)) ((w.alloc (E #[H next,.slice a l.length A] 28)).alloc (E #[H s,H F,H li,H L,yj pr,yk O] 112)):=(Below.refl _ _).alloc (by rw [xC]; omega) _
 have xE:Hid (yn w ((w.alloc (E #[H next,.slice a l.length A] 28)).alloc (E #[H s,H F,H li,H L,yj pr,yk O] 112))):=(eE _ _).alloc (by rw [xC]; omega) _
 have HX:Hid (_∧_):=⟨zb r1 qe (by omega),r2⟩
 have qw:=Y ua
 clear xC ua r1 r2 qe
 go_enter Tryz.func147,Tryz.ntmps147
 refine eI fun hR xv=>?_
 go_wp2_with fail
 refine U xv _ _ ?_
 clear xv
 refine eI fun K2 kg=>?_
 go_wp2_with fail
 generalize ((w.alloc (E #[H next,.slice a l.length A] 28)).alloc (E #[H s,H F,H li,H L,yj pr,yk O] 112)) = X2 at xE HX qw ⊢
 have HX:Hid (X2.rangeAt w.heap.size 0 [H next,.slice a l.length A]∧X2.rangeAt (w.heap.size + 1) 0 [H s,H F,H li,H L,yj pr,yk O]):=U HX
 refine (U HCA X2 (zn (U HR) (U xE) tg)).mono ?_
 rintro e w4 ⟨vq,vt,rfl,hoq,het,xD⟩
 obtain ⟨av,cv,rfl⟩:∃ a c,vt = .slice a Ft.length c:=by
  rcases het.2 with ⟨e,e2⟩ | ⟨g,A,xu,e,_⟩
  ·exact ⟨none,0,by rw [e,e2]⟩
  ·exact ⟨_,_,e⟩
 obtain ⟨aq,cq,rfl⟩:∃ a c,vq = .slice a FL.length c:=by
  rcases hoq.2 with ⟨e,e2⟩ | ⟨g,A,xu,e,_⟩
  ·exact ⟨none,0,by rw [e,e2]⟩
  ·exact ⟨_,_,e⟩
 have aA:=eE w4 (E #[H (next + 1),.slice aq FL.length cq,H next,H s,H (tk pr),H Fl,H li,yk O,.slice av Ft.length cv] 157)
 have oi:Hid (MatS w4.heap.size X2.heap.size (w4.alloc (E #[H (next + 1),.slice aq FL.length cq,H next,H s,H (tk pr),H Fl,H li,yk O,.slice av Ft.length cv] 157)) (next + 1) (.slice aq FL.length cq) FL ⟨next,s,tk pr,Fl,li,O⟩ (.slice av Ft.length cv) Ft):=⟨zi w4 [H (next + 1),.slice aq FL.length cq,H next,H s,H (tk pr),H Fl,H li,yk O,.slice av Ft.length cv] _,zw w4 [H (next + 1),.slice aq FL.length cq,H next,H s,H (tk pr),H Fl,H li,yk O,.slice av Ft.length cv] _,zm hoq aA,zJ het aA,⟨_,heap_alloc_new w4 _⟩,yO xD.size (by rw [zh]; omega)⟩
 have oe:Hid (yn X2 (w4.alloc (E #[H (next + 1),.slice aq FL.length cq,H next,H s,H (tk pr),H Fl,H li,yk O,.slice av Ft.length cv] 157))):=xD.trans (aA.mono xD.size)
 have HMB:Hid (w.heap.size ≤ X2.heap.size∧X2.heap.size ≤ w4.heap.size):=⟨by have:=U qw; omega,xD.size⟩
 clear aA hoq het xD
 go_wp2_with fail
 refine U kg _ _ ?_
 generalize (w4.alloc (E #[H (next + 1),.slice aq FL.length cq,H next,H s,H (tk pr),H Fl,H li,yk O,.slice av Ft.length cv] 157)) = W6 at oi oe ⊢
 generalize w4.heap.size = mb at oi HMB ⊢
 have hm:w.heap.size + 1 < X2.heap.size:=by have:=U qw; omega
 have k0:=zb (U HX).1 (U oe) (by omega) 0 _ rfl
 have o0:=zb (U HX).2 (U oe) (by omega) 0 _ rfl
 have o1:=zb (U HX).2 (U oe) (by omega) 1 _ rfl
 have o2:=zb (U HX).2 (U oe) (by omega) 2 _ rfl
 have o3:=zb (U HX).2 (U oe) (by omega) 3 _ rfl
 have o4:=zb (U HX).2 (U oe) (by omega) 4 _ rfl
 have o5:=zb (U HX).2 (U oe) (by omega) 5 _ rfl
 have y5:W6.cell? (J mb 5) = some (H Fl):=(U oi).cells 5 _ rfl
 have y8:W6.cell? (J mb 8) = some (.slice av Ft.length cv):=(U oi).cells 8 _ rfl
 simp only [Nat.zero_add] at k0 o0 o1 o2 o3 o4 o5
 have xK:=Y ((U xE).trans ((U oe).mono (U xE).size))
 have HMR:Hid (matR next ⟨kk,s,F,li,L,ii,pr,O⟩ (FL,Fl,Ft) = if F = 5∧0 < Ft.length then 11 else if F = 4∧0 < Fl then 12 else if next = 1000000 then 13 else if aO F = true∧0 < Fl then (if fullB (FL ++ [⟨next,s,tk pr,Fl,li,O⟩]) = true then 13 else 0) else 0):=rfl
 clear HCA HX kg
 by_cases uZ:F = 5∧0 < Ft.length
 ·obtain ⟨rfl,hl⟩:=uZ
  have hl':(0:Int) < Ft.length:=by omega
  have HK:Hid (matR next ⟨kk,s,5,li,L,ii,pr,O⟩ (FL,Fl,Ft) = 11):=by have:=U HMR; rw [if_pos ⟨rfl,hl⟩] at this; exact this
  clear hl
  go_wp2_with fail
  go_ret
  exact ⟨zt (U HK).symm,U xK⟩
 have qd:Hid (_ = _):=(U HMR).trans (if_neg uZ)
 clear HMR
 by_cases h5:F = 5
 ·subst h5
  have hl':¬ (0:Int) < Ft.length:=fun h=>uZ ⟨rfl,by omega⟩
  have vC:Hid (_ = _):=(U qd).trans (if_neg (fun h=>by cases h.1))
  clear qd
  clear uZ
  by_cases vY:next = 1000000
  ·subst vY
   have HK:Hid (matR 1000000 ⟨kk,s,5,li,L,ii,pr,O⟩ (FL,Fl,Ft) = 13):=by have:=U vC; rw [if_pos rfl] at this; exact this
   go_wp2_with fail
   go_ret
   exact ⟨zt (U HK).symm,U xK⟩
  have hnb:(next == 1000000) = false:=by rw [xe]; exact vY
  have kS:Hid (_ = _):=(U vC).trans (if_neg vY)
  clear vY vC
  go_wp2_with fail
  refine (dP ⟨kk,s,5,li,L,ii,pr,O⟩ W6).mono ?_
  rintro e w7 ⟨rfl,jn⟩
  dsimp only
  have HM7:=Y (dp (U oi) jn)
  have jK:=Y (eH (U xK) jn)
  have y7:w7.cell? (J mb 5) = some (H Fl):=(U HM7).cells 5 _ rfl
  clear jn k0 o0 o1 o2 o3 o4 o5 y5 y8
  cases qK:aO 5
  ·have HK:Hid (matR next ⟨kk,s,5,li,L,ii,pr,O⟩ (FL,Fl,Ft) = 0):=by
    have:=U kS
    rw [if_neg (fun h=>by rw [qK] at h; cases h.1)] at this
    exact this
   clear qK
   go_wp2_with fail
   go_ret
   exact ⟨zt (U HK).symm,U jK⟩
  ·by_cases hFl:0 < Fl
   ·have HMRG:Hid (matR next ⟨kk,s,5,li,L,ii,pr,O⟩ (FL,Fl,Ft) = if fullB (FL ++ [⟨next,s,tk pr,Fl,li,O⟩]) = true then 13 else 0):=by
     have:=U kS
     rw [if_pos ⟨qK,hFl⟩] at this
     exact this
    clear qK
    go_wp2_with fail
    refine (rest_any mb X2.heap.size (next + 1) _ FL ⟨next,s,tk pr,Fl,li,O⟩ _ Ft w7 (U HM7) (by have:=(U oU).1.len; omega)).mono ?_
    rintro e w8 ⟨vq8,rfl,hM8,hK8⟩
    have aw:=Y hM8
    have qf:=Y (below_kept (U jK) hK8 (U HMB).1 (U HMB).2)
    clear hM8 hK8 y7
    go_wp2_with fail
    refine (isTooFull_any mb X2.heap.size (next + 1) vq8 _ ⟨next,s,tk pr,Fl,li,O⟩ _ Ft w8 (U aw) (by have:=(U oU).1.len; rw [yQ]; simp only [List.length_cons,List.length_nil]; omega) (by
     intro o' vB
     have hfg:=U oU
     rcases List.mem_append.1 vB with h | h
     ·have:=hfg.1.left o' h; omega
     ·rw [List.mem_singleton] at h; subst h; exact hfg.2)).mono ?_
    rintro e w9 ⟨rfl,hb9⟩
    have kR:=Y (eH (U qf) hb9)
    clear hb9
    cases hfu:fullB (FL ++ [⟨next,s,tk pr,Fl,li,O⟩])
    ·have HK:Hid (matR next ⟨kk,s,5,li,L,ii,pr,O⟩ (FL,Fl,Ft) = 0):=by have:=U HMRG; rw [hfu] at this; exact this
     clear hfu
     go_wp2_with fail
     go_ret
     exact ⟨zt (U HK).symm,U kR⟩
    ·have HK:Hid (matR next ⟨kk,s,5,li,L,ii,pr,O⟩ (FL,Fl,Ft) = 13):=by have:=U HMRG; rw [hfu] at this; exact this
     clear hfu
     go_wp2_with fail
     go_ret
     exact ⟨zt (U HK).symm,U kR⟩
   ·have HK:Hid (matR next ⟨kk,s,5,li,L,ii,pr,O⟩ (FL,Fl,Ft) = 0):=by have:=U kS; rw [if_neg (fun h=>hFl h.2)] at this; exact this
    clear qK
    go_wp2_with fail
    go_ret
    exact ⟨zt (U HK).symm,U jK⟩
 have vG:(F == 5) = false:=by rw [xe]; exact h5
 clear uZ
 by_cases qD:F = 4∧0 < Fl
 ·obtain ⟨rfl,hl⟩:=qD
  have HK:Hid (matR next ⟨kk,s,4,li,L,ii,pr,O⟩ (FL,Fl,Ft) = 12):=by have:=U qd; rw [if_pos ⟨rfl,hl⟩] at this; exact this
  clear h5 vG
  go_wp2_with fail
  go_ret
  exact ⟨zt (U HK).symm,U xK⟩
 have vC:Hid (_ = _):=(U qd).trans (if_neg qD)
 clear qd
 by_cases h4:F = 4
 ·subst h4
  have hl':¬ 0 < Fl:=fun h=>qD ⟨rfl,h⟩
  clear qD h5 vG
  by_cases vY:next = 1000000
  ·subst vY
   have HK:Hid (matR 1000000 ⟨kk,s,4,li,L,ii,pr,O⟩ (FL,Fl,Ft) = 13):=by have:=U vC; rw [if_pos rfl] at this; exact this
   go_wp2_with fail
   go_ret
   exact ⟨zt (U HK).symm,U xK⟩
  have hnb:(next == 1000000) = false:=by rw [xe]; exact vY
  have kS:Hid (_ = _):=(U vC).trans (if_neg vY)
  clear vY vC
  go_wp2_with fail
  refine (dP ⟨kk,s,4,li,L,ii,pr,O⟩ W6).mono ?_
  rintro e w7 ⟨rfl,jn⟩
  dsimp only
  have HM7:=Y (dp (U oi) jn)
  have jK:=Y (eH (U xK) jn)
  have y7:w7.cell? (J mb 5) = some (H Fl):=(U HM7).cells 5 _ rfl
  clear jn k0 o0 o1 o2 o3 o4 o5 y5 y8
  cases qK:aO 4
  ·have HK:Hid (matR next ⟨kk,s,4,li,L,ii,pr,O⟩ (FL,Fl,Ft) = 0):=by
    have:=U kS
    rw [if_neg (fun h=>by rw [qK] at h; cases h.1)] at this
    exact this
   clear qK
   go_wp2_with fail
   go_ret
   exact ⟨zt (U HK).symm,U jK⟩
  ·exact absurd qK (by decide)
 have xD:(F == 4) = false:=by rw [xe]; exact h4
 clear qD h5 h4
 by_cases vY:next = 1000000
 ·subst vY
  have HK:Hid (matR 1000000 ⟨kk,s,F,li,L,ii,pr,O⟩ (FL,Fl,Ft) = 13):=by have:=U vC; rw [if_pos rfl] at this; exact this
  go_wp2_with fail
  go_ret
  exact ⟨zt (U HK).symm,U xK⟩
 have hnb:(next == 1000000) = false:=by rw [xe]; exact vY
 have kS:Hid (_ = _):=(U vC).trans (if_neg vY)
 clear vY vC
 go_wp2_with fail
 refine (dP ⟨kk,s,F,li,L,ii,pr,O⟩ W6).mono ?_
 rintro e w7 ⟨rfl,jn⟩
 dsimp only
 have HM7:=Y (dp (U oi) jn)
 have jK:=Y (eH (U xK) jn)
 have y7:w7.cell? (J mb 5) = some (H Fl):=(U HM7).cells 5 _ rfl
 clear jn k0 o0 o1 o2 o3 o4 o5 y5 y8
 cases qK:aO F
 ·have HK:Hid (matR next ⟨kk,s,F,li,L,ii,pr,O⟩ (FL,Fl,Ft) = 0):=by
   have:=U kS
   rw [if_neg (fun h=>by rw [qK] at h; cases h.1)] at this
   exact this
  clear qK
  go_wp2_with fail
  go_ret
  exact ⟨zt (U HK).symm,U jK⟩
 ·by_cases hFl:0 < Fl
  ·have HMRG:Hid (matR next ⟨kk,s,F,li,L,ii,pr,O⟩ (FL,Fl,Ft) = if fullB (FL ++ [⟨next,s,tk pr,Fl,li,O⟩]) = true then 13 else 0):=by
    have:=U kS
    rw [if_pos ⟨qK,hFl⟩] at this
    exact this
   clear qK
   go_wp2_with fail
   refine (rest_any mb X2.heap.size (next + 1) _ FL ⟨next,s,tk pr,Fl,li,O⟩ _ Ft w7 (U HM7) (by have:=(U oU).1.len; omega)).mono ?_
   rintro e w8 ⟨vq8,rfl,hM8,hK8⟩
   have aw:=Y hM8
   have qf:=Y (below_kept (U jK) hK8 (U HMB).1 (U HMB).2)
   clear hM8 hK8 y7
   go_wp2_with fail
   refine (isTooFull_any mb X2.heap.size (next + 1) vq8 _ ⟨next,s,tk pr,Fl,li,O⟩ _ Ft w8 (U aw) (by have:=(U oU).1.len; rw [yQ]; simp only [List.length_cons,List.length_nil]; omega) (by
    intro o' vB
    have hfg:=U oU
    rcases List.mem_append.1 vB with h | h
    ·have:=hfg.1.left o' h; omega
    ·rw [List.mem_singleton] at h; subst h; exact hfg.2)).mono ?_
   rintro e w9 ⟨rfl,hb9⟩
   have kR:=Y (eH (U qf) hb9)
   clear hb9
   cases hfu:fullB (FL ++ [⟨next,s,tk pr,Fl,li,O⟩])
   ·have HK:Hid (matR next ⟨kk,s,F,li,L,ii,pr,O⟩ (FL,Fl,Ft) = 0):=by have:=U HMRG; rw [hfu] at this; exact this
    clear hfu
    go_wp2_with fail
    go_ret
    exact ⟨zt (U HK).symm,U kR⟩
   ·have HK:Hid (matR next ⟨kk,s,F,li,L,ii,pr,O⟩ (FL,Fl,Ft) = 13):=by have:=U HMRG; rw [hfu] at this; exact this
    clear hfu
    go_wp2_with fail
    go_ret
    exact ⟨zt (U HK).symm,U kR⟩
  ·have HK:Hid (matR next ⟨kk,s,F,li,L,ii,pr,O⟩ (FL,Fl,Ft) = 0):=by have:=U kS; rw [if_neg (fun h=>hFl h.2)] at this; exact this
   clear qK
   go_wp2_with fail
   go_ret
   exact ⟨zt (U HK).symm,U jK⟩
def lifW (c:Cm):Bool:=!betB c.l 0 1 || (decide (c.l = 1) && !aO c.t)
def newR (next:Int) (l:List Od) (c:Cm):Int :=
 if betB c.s 1 2 = false then 3 else if betB c.t 1 5 = false then 4 else if lifW c = true then 5 else if prcB c = false then 6 else if betB c.q 1 1000000 = false then 7 else if tagB c.g = false then 8 else matR next c (matL c next 21 l c.q [])
theorem newRefusal_any (next:Int) (vb:Value) (l:List Od) (c:Cm) (w:World) (hr:RdR Od.vs 6 w vb l) (hs:SlOk vb) (hg:GoodL l) (h0:0 ≤ next) (Q:next ≤ 1000000) (ht:c.g.size ≤ maxLen) :
  Calls Tryz.prog 108 #[.agg #[H next,vb],noV c] w fun e w'=>e = ym (H (newR next l c))∧yn w w':=by
 have HR:=Y hr
 have HG:=Y hg
 have vP:=Y hs
 have uH:Hid (0 ≤ next∧next ≤ 1000000):=⟨h0,Q⟩
 have qn:=Y ht
 obtain ⟨a,A,rfl,xG,hc⟩:=hr
 clear hc hg hs h0 Q ht xG
 generalize vO:newR next l c = res
 have HN0:Hid (_ = res):=vO
 clear vO
 obtain ⟨kk,s,F,li,L,ii,pr,O⟩:=c
 unfold newR at HN0
 unfold noV
 simp only at *
 have xC:=zh w (E #[H next,.slice a l.length A] 28)
 have ua:((w.alloc (E #[H next,.slice a l.length A] 28)).alloc (E #[H s,H F,H li,H L,yj pr,yk O] 112)).heap.size = w.heap.size + 1 + 1:=by rw [zh,xC]
 have r1:=zi w [H next,.slice a l.length A] 28
 have r2:=zi (w.alloc (E #[H next,.slice a l.length A] 28)) [H s,H F,H li,H L,yj pr,yk O] 112
 rw [xC] at r2
 have qe:Below (w.heap.size + 1) (w.alloc (E #[H next,.slice a l.length A] 28)) ((w.alloc (E #[H next,.slice a l.length A] 28)).alloc (E #[H s,H F,H li,H L,yj pr,yk O] 112)):=(Below.refl _ _).alloc (by rw [xC]; omega) _
 have xE:Hid (yn w ((w.alloc (E #[H next,.slice a l.length A] 28)).alloc (E #[H s,H F,H li,H L,yj pr,yk O] 112))):=(eE _ _).alloc (by rw [xC]; omega) _
 have HX:Hid (_∧_):=⟨zb r1 qe (by omega),r2⟩
 have uv:Hid (w.heap.size < ((w.alloc (E #[H next,.slice a l.length A] 28)).alloc (E #[H s,H F,H li,H L,yj pr,yk O] 112)).heap.size∧w.heap.size + 1 < ((w.alloc (E #[H next,.slice a l.length A] 28)).alloc (E #[H s,H F,H li,H L,yj pr,yk O] 112)).heap.size):=⟨by omega,by omega⟩
 clear xC ua r1 r2 qe
 go_enter Tryz.func108,Tryz.ntmps108
 refine eI fun hR xv=>?_
 go_wp2_with fail
 refine U xv _ _ ?_
 clear xv
 generalize ((w.alloc (E #[H next,.slice a l.length A] 28)).alloc (E #[H s,H F,H li,H L,yj pr,yk O] 112)) = X2 at xE HX uv ⊢
 have HX:Hid (X2.rangeAt w.heap.size 0 [H next,.slice a l.length A]∧X2.rangeAt (w.heap.size + 1) 0 [H s,H F,H li,H L,yj pr,yk O]):=U HX
 have k0:=zb (U HX).1 (Below.refl _ _) (U uv).1 0 _ rfl
 have k1:=zb (U HX).1 (Below.refl _ _) (U uv).1 1 _ rfl
 have o0:=zb (U HX).2 (Below.refl _ _) (U uv).2 0 _ rfl
 have o1:=zb (U HX).2 (Below.refl _ _) (U uv).2 1 _ rfl
 have o2:=zb (U HX).2 (Below.refl _ _) (U uv).2 2 _ rfl
 have o3:=zb (U HX).2 (Below.refl _ _) (U uv).2 3 _ rfl
 have o4:=zb (U HX).2 (Below.refl _ _) (U uv).2 4 _ rfl
 have o5:=zb (U HX).2 (Below.refl _ _) (U uv).2 5 _ rfl
 simp only [Nat.zero_add] at k0 k1 o0 o1 o2 o3 o4 o5
 go_wp2_with fail
 refine (isSide_any s X2).mono ?_
 rintro e w' ⟨rfl,rfl⟩
 cases h3:betB s 1 2
 ·have HK:Hid (3 = res):=by have:=U HN0; rw [if_pos h3] at this; exact this
  clear h3
  go_wp2_with fail
  go_ret
  exact ⟨zt (U HK),U xE⟩
 have HN1:Hid (_ = res):=(if_neg (fun h=>by rw [h3] at h; cases h)).symm.trans (U HN0)
 clear h3 HN0
 go_wp2_with fail
 refine (isType_any F w').mono ?_
 rintro e w1 ⟨rfl,rfl⟩
 cases h4:betB F 1 5
 ·have HK:Hid (4 = res):=by have:=U HN1; rw [if_pos h4] at this; exact this
  clear h4
  go_wp2_with fail
  go_ret
  exact ⟨zt (U HK),U xE⟩
 have HN2:Hid (_ = res):=(if_neg (fun h=>by rw [h4] at h; cases h)).symm.trans (U HN1)
 clear h4 HN1
 go_wp2_with fail
 refine (isLife_any li w1).mono ?_
 rintro e w2 ⟨rfl,rfl⟩
 cases h5:betB li 0 1
 ·have HK:Hid (5 = res):=by have:=U HN2; rw [if_pos (by simp [lifW,h5])] at this; exact this
  clear h5
  go_wp2_with fail
  go_ret
  exact ⟨zt (U HK),U xE⟩
 by_cases hli:li = 1
 ·subst hli
  go_wp2_with fail
  refine (dP ⟨kk,s,F,1,L,ii,pr,O⟩ w2).mono ?_
  rintro e w3 ⟨rfl,um⟩
  dsimp only
  have xw:=Y um
  clear um k0 k1 o0 o1 o2 o3 o4 o5
  cases h6:aO F
  ·have HK:Hid (5 = res):=by have:=U HN2; rw [if_pos (by simp [lifW,h6])] at this; exact this
   clear h6 h5
   go_wp2_with fail
   go_ret
   exact ⟨zt (U HK),(U xE).trans ((U xw).mono (U xE).size)⟩
  have pv:Hid (_ = res):=(if_neg (by simp [lifW,h5,h6])).symm.trans (U HN2)
  clear h5 h6 HN2
  have k0:=zb (U HX).1 (U xw) (U uv).1 0 _ rfl
  have k1:=zb (U HX).1 (U xw) (U uv).1 1 _ rfl
  have o0:=zb (U HX).2 (U xw) (U uv).2 0 _ rfl
  have o1:=zb (U HX).2 (U xw) (U uv).2 1 _ rfl
  have o2:=zb (U HX).2 (U xw) (U uv).2 2 _ rfl
  have o3:=zb (U HX).2 (U xw) (U uv).2 3 _ rfl
  have o4:=zb (U HX).2 (U xw) (U uv).2 4 _ rfl
  have o5:=zb (U HX).2 (U xw) (U uv).2 5 _ rfl
  simp only [Nat.zero_add] at k0 k1 o0 o1 o2 o3 o4 o5
  go_wp2_with fail
  refine (hasPrice_any ⟨kk,s,F,1,L,ii,pr,O⟩ w3).mono ?_
  rintro e w4 ⟨rfl,xD⟩
  have ud:=Y (eH (U xw) xD)
  clear xD k0 k1 o0 o1 o2 o3 o4 o5 xw
  cases h7:prcB ⟨kk,s,F,1,L,ii,pr,O⟩
  ·have HK:Hid (6 = res):=by have:=U pv; rw [if_pos h7] at this; exact this
   clear h7
   go_wp2_with fail
   go_ret
   exact ⟨zt (U HK),(U xE).trans ((U ud).mono (U xE).size)⟩
  have HN4:Hid (_ = res):=(if_neg (fun h=>by rw [h7] at h; cases h)).symm.trans (U pv)
  clear h7 pv
  have k0:=zb (U HX).1 (U ud) (U uv).1 0 _ rfl
  have k1:=zb (U HX).1 (U ud) (U uv).1 1 _ rfl
  have o0:=zb (U HX).2 (U ud) (U uv).2 0 _ rfl
  have o1:=zb (U HX).2 (U ud) (U uv).2 1 _ rfl
  have o2:=zb (U HX).2 (U ud) (U uv).2 2 _ rfl
  have o3:=zb (U HX).2 (U ud) (U uv).2 3 _ rfl
  have o4:=zb (U HX).2 (U ud) (U uv).2 4 _ rfl
  have o5:=zb (U HX).2 (U ud) (U uv).2 5 _ rfl
  simp only [Nat.zero_add] at k0 k1 o0 o1 o2 o3 o4 o5
  go_wp2_with fail
  refine (isQty_any L w4).mono ?_
  rintro e w5 ⟨rfl,rfl⟩
  cases h8:betB L 1 1000000
  ·have HK:Hid (7 = res):=by have:=U HN4; rw [if_pos h8] at this; exact this
   clear h8
   go_wp2_with fail
   go_ret
   exact ⟨zt (U HK),(U xE).trans ((U ud).mono (U xE).size)⟩
  have HN5:Hid (_ = res):=(if_neg (fun h=>by rw [h8] at h; cases h)).symm.trans (U HN4)
  have HQB:Hid (0 ≤ L∧L ≤ 1000000):=by
   simp only [betB,xh,xj] at h8
   exact ⟨by omega,h8.2⟩
  clear h8 HN4
  go_wp2_with fail
  refine (isTag_any O w5 (U qn)).mono ?_
  rintro e w6 ⟨rfl,rfl⟩
  cases h9:tagB O
  ·have HK:Hid (8 = res):=by have:=U HN5; rw [if_pos h9] at this; exact this
   clear h9
   go_wp2_with fail
   go_ret
   exact ⟨zt (U HK),(U xE).trans ((U ud).mono (U xE).size)⟩
  have HN6:Hid (_ = res):=(if_neg (fun h=>by rw [h9] at h; cases h)).symm.trans (U HN5)
  clear h9 HN5
  go_wp2_with fail
  refine (eA next _ l ⟨kk,s,F,1,L,ii,pr,O⟩ w6 (zn (U HR) ((U xE).trans ((U ud).mono (U xE).size)) tg) (U vP) (U HG) (U uH).1 (U uH).2 (U HQB).1 (U HQB).2).mono ?_
  dsimp only
  rw [U HN6]
  rintro e w7 ⟨rfl,jn⟩
  have jK:=Y (((U xE).trans ((U ud).mono (U xE).size)).trans (jn.mono ((U xE).trans ((U ud).mono (U xE).size)).size))
  clear jn
  go_wp2_with fail
  go_ret
  exact ⟨rfl,U jK⟩
 have hlb:(li == 1) = false:=by rw [xe]; exact hli
 have pv:Hid (_ = res):=(if_neg (by simp [lifW,h5,hli])).symm.trans (U HN2)
 have xw:Hid (yn w2 w2):=Below.refl _ _
 clear h5 hli HN2
 go_wp2_with fail
 refine (hasPrice_any ⟨kk,s,F,li,L,ii,pr,O⟩ w2).mono ?_
 rintro e w4 ⟨rfl,xD⟩
 have ud:=Y (eH (U xw) xD)
 clear xD k0 k1 o0 o1 o2 o3 o4 o5 xw
 cases h7:prcB ⟨kk,s,F,li,L,ii,pr,O⟩
 ·have HK:Hid (6 = res):=by have:=U pv; rw [if_pos h7] at this; exact this
  clear h7
  go_wp2_with fail
  go_ret
  exact ⟨zt (U HK),(U xE).trans ((U ud).mono (U xE).size)⟩
 have HN4:Hid (_ = res):=(if_neg (fun h=>by rw [h7] at h; cases h)).symm.trans (U pv)
 clear h7 pv
 have k0:=zb (U HX).1 (U ud) (U uv).1 0 _ rfl
 have k1:=zb (U HX).1 (U ud) (U uv).1 1 _ rfl
 have o0:=zb (U HX).2 (U ud) (U uv).2 0 _ rfl
 have o1:=zb (U HX).2 (U ud) (U uv).2 1 _ rfl
 have o2:=zb (U HX).2 (U ud) (U uv).2 2 _ rfl
 have o3:=zb (U HX).2 (U ud) (U uv).2 3 _ rfl
 have o4:=zb (U HX).2 (U ud) (U uv).2 4 _ rfl
 have o5:=zb (U HX).2 (U ud) (U uv).2 5 _ rfl
 simp only [Nat.zero_add] at k0 k1 o0 o1 o2 o3 o4 o5
 go_wp2_with fail
 refine (isQty_any L w4).mono ?_
 rintro e w5 ⟨rfl,rfl⟩
 cases h8:betB L 1 1000000
 ·have HK:Hid (7 = res):=by have:=U HN4; rw [if_pos h8] at this; exact this
  clear h8
  go_wp2_with fail
  go_ret
  exact ⟨zt (U HK),(U xE).trans ((U ud).mono (U xE).size)⟩
 have HN5:Hid (_ = res):=(if_neg (fun h=>by rw [h8] at h; cases h)).symm.trans (U HN4)
 have HQB:Hid (0 ≤ L∧L ≤ 1000000):=by
  simp only [betB,xh,xj] at h8
  exact ⟨by omega,h8.2⟩
 clear h8 HN4
 go_wp2_with fail
 refine (isTag_any O w5 (U qn)).mono ?_
 rintro e w6 ⟨rfl,rfl⟩
 cases h9:tagB O
 ·have HK:Hid (8 = res):=by have:=U HN5; rw [if_pos h9] at this; exact this
  clear h9
  go_wp2_with fail
  go_ret
  exact ⟨zt (U HK),(U xE).trans ((U ud).mono (U xE).size)⟩
 have HN6:Hid (_ = res):=(if_neg (fun h=>by rw [h9] at h; cases h)).symm.trans (U HN5)
 clear h9 HN5
 go_wp2_with fail
 refine (eA next _ l ⟨kk,s,F,li,L,ii,pr,O⟩ w6 (zn (U HR) ((U xE).trans ((U ud).mono (U xE).size)) tg) (U vP) (U HG) (U uH).1 (U uH).2 (U HQB).1 (U HQB).2).mono ?_
 dsimp only
 rw [U HN6]
 rintro e w7 ⟨rfl,jn⟩
 have jK:=Y (((U xE).trans ((U ud).mono (U xE).size)).trans (jn.mono ((U xE).trans ((U ud).mono (U xE).size)).size))
 clear jn
 go_wp2_with fail
 go_ret
 exact ⟨rfl,U jK⟩
end Go.Proofs.YtbakanofkghmiaaGreat
