/-
  The reasons that hang on what would come of an order, by the program: proved by walking the function.
-/
import Derived.Test.YtdliebbfcmdmaaaGreatMj16
set_option linter.unusedVariables false
set_option maxHeartbeats 6400000
set_option maxRecDepth 100000
namespace Go.Proofs.YtdliebbfcmdmaaaGreat
open Go.RowKit
theorem bV {c:Cm} {id:Int}:∀ (n:Nat) (l:List Od) (left:Int) (ts:List Ev),GoodL l→0 ≤ left→left ≤ 1000000→GoodL (matL c id n l left ts).1∧0 ≤ (matL c id n l left ts).2.1∧(matL c id n l left ts).2.1 ≤ 1000000
 | 0,l,left,ts,h,h0,Q=>⟨h,h0,Q⟩
 | n + 1,l,left,ts,h,h0,Q=>by
  rw [matL]
  by_cases hl:0 < left
  ·rw [if_pos hl]
   cases hf:aJ l (othS c.s) with
   | none=>exact ⟨h,h0,Q⟩
   | some o =>
    simp only
    by_cases hm:aO c o = true
    ·rw [if_pos hm]
     obtain ⟨vn,_⟩:=de hf
     obtain ⟨k,hk⟩:=List.getElem?_of_mem vn
     have Z:=h.left o vn
     rw [plc_at h.rise hk,Int.toNat_natCast]
     exact bV n _ _ _ (cM h hk (by omega) (by omega)).1 (by omega) (by omega)
    ·rw [if_neg hm]; exact ⟨h,h0,Q⟩
  ·rw [if_neg hl]; exact ⟨h,h0,Q⟩
def matR (next:Int) (c:Cm) (qt:List Od × Int × List Ev):Int :=
 if c.t = 5∧0 < qt.2.2.length then 11 else if c.t = 4∧0 < qt.2.1 then 12 else if next = 1000000 then 13
 else if aA c.t = true∧0 < qt.2.1 then (if aU (qt.1 ++ [{ ordO c next with left:=qt.2.1 }]) = true then 13 else 0) else 0
theorem matS_put {V:World} {mb B:Nat} {next:Int} {vq vt:Value} {l:List Od} {t:Od} {ts:List Ev} (ht:V.there mb 0 9) (L:∃ xr,V.heap[mb]? = some (.cells xr 105 (0,0))) (Z:ORow V B vq l) (he:ERow V B vt ts) (hB:B ≤ V.heap.size) :
  MatS mb B (V.setCells mb 0 [H next,vq,H t.id,H t.side,H t.ticks,H t.left,H t.life,yk t.tag,vt]) next vq l t vt ts:=by
 have hn:some mb ≠ vq.ownBlock:=zj Z L (by decide)
 have hm:some mb ≠ vt.ownBlock:=zj he L (by decide)
 have hr:=yX V mb 0 [H next,vq,H t.id,H t.side,H t.ticks,H t.left,H t.life,yk t.tag,vt] (fun j R=>ht j R)
 refine ⟨hr,fun j R=>⟨?_,?_⟩,?_,?_,?_,?_⟩
 ·obtain ⟨u,hu⟩:∃ u,[H next,vq,H t.id,H t.side,H t.ticks,H t.left,H t.life,yk t.tag,vt][j]? = some u:=⟨_,yH (by simpa using R)⟩
  rw [hr j u hu]; rfl
 ·have:=(ht j R).2
  simp only [World.setCells,World.frozen?_setCell]
  exact this
 ·simp only [World.setCells]
  exact zr (zr (zr (zr (zr (zr (zr (zr (zr Z hn _ _) hn _ _) hn _ _) hn _ _) hn _ _) hn _ _) hn _ _) hn _ _) hn _ _
 ·simp only [World.setCells]
  exact zr (zr (zr (zr (zr (zr (zr (zr (zr he hm _ _) hm _ _) hm _ _) hm _ _) hm _ _) hm _ _) hm _ _) hm _ _) hm _ _
 ·obtain ⟨xr,L⟩:=L
  simp only [World.setCells]
  obtain ⟨_,Q⟩:=zM V mb 0 (H next) L
  obtain ⟨_,Q⟩:=zM _ mb 1 vq Q
  obtain ⟨_,Q⟩:=zM _ mb 2 (H t.id) Q
  obtain ⟨_,Q⟩:=zM _ mb 3 (H t.side) Q
  obtain ⟨_,Q⟩:=zM _ mb 4 (H t.ticks) Q
  obtain ⟨_,Q⟩:=zM _ mb 5 (H t.left) Q
  obtain ⟨_,Q⟩:=zM _ mb 6 (H t.life) Q
  obtain ⟨_,Q⟩:=zM _ mb 7 (yk t.tag) Q
  exact zM _ mb 8 vt Q
 ·simp only [World.setCells,World.setCell,Array.size_modify]; exact hB
theorem below_kept {B0 B mb:Nat} {w W W':World} (h:Below B0 w W) (hk:KeptBut mb B W W') (hB:B0 ≤ B) (hm:B ≤ mb):Below B0 w W' :=
 ⟨hk.os.trans h.os,hk.tape.trans h.tape,hk.output.trans h.output,yN h.size hk.size,fun k xK=>(hk.block k (by omega) (by omega)).trans (h.block k xK)⟩
theorem dY (next:Int) (vb:Value) (l:List Od) (c:Cm) (w:World) (hr:RdR Od.vs 6 w vb l) (hs:SlOk vb) (hg:GoodL l) (h0:0 ≤ next) (Q:next ≤ 1000000) (jm:0 ≤ c.q) (jn:c.q ≤ 1000000) :
  Calls Tryz.prog 81 #[.agg #[H next,vb],noV c] w fun e w'=>e = ym (H (matR next c (matL c next 21 l c.q [])))∧yn w w':=by
 have HR:=Y hr
 have HG:=Y hg
 have vR:=Y hs
 have oU:=Y (bV (c:=c) (id:=next) 21 l c.q [] hg jm jn)
 have uG:Hid (0 ≤ next∧next ≤ 1000000∧0 ≤ c.q∧c.q ≤ 1000000):=⟨h0,Q,jm,jn⟩
 obtain ⟨a,A,rfl,xD,hc⟩:=hr
 clear hc hg hs h0 Q jm jn xD
 obtain ⟨kk,s,X,li,F,ii,pr,O⟩:=c
 have HCA:Hid (∀ W:World,RdR Od.vs 6 W (.slice a l.length A) l→Calls Tryz.prog 54 #[.agg #[H next,.slice a l.length A],.agg #[H s,H X,H li,H F,yj pr,yk O]] W _):=fun W hW=>match_any next _ l ⟨kk,s,X,li,F,ii,pr,O⟩ W hW (U vR) (U HG) (U uG).1 (U uG).2.1 (U uG).2.2.1 (U uG).2.2.2
 generalize matL ⟨kk,s,X,li,F,ii,pr,O⟩ next 21 l F [] = qt at oU HCA ⊢
 obtain ⟨FL,Fl,Ft⟩:=qt
 unfold noV
 simp only at *
 have xA:=ze w (E #[H next,.slice a l.length A] 31)
 have uc:((w.alloc (E #[H next,.slice a l.length A] 31)).alloc (E #[H s,H X,H li,H F,yj pr,yk O] 74)).heap.size = w.heap.size + 1 + 1:=by rw [ze,xA]
 have r1:=zg w [H next,.slice a l.length A] 31
 have r2:=zg (w.alloc (E #[H next,.slice a l.length A] 31)) [H s,H X,H li,H F,yj pr,yk O] 74
 rw [xA] at r2
 have qm:Below (w.heap.size + 1) (w.alloc (E #[H next,.slice a l.length A] 31)) ((w.alloc (E #[H next,.slice a l.length A] 31)).alloc (E #[H s,H X,H li,H F,yj pr,yk O] 74)):=(Below.refl _ _).alloc (by rw [xA]; omega) _
 have xF:Hid (yn w ((w.alloc (E #[H next,.slice a l.length A] 31)).alloc (E #[H s,H X,H li,H F,yj pr,yk O] 74))):=(ed _ _).alloc (by rw [xA]; omega) _
 have HX:Hid (_∧_):=⟨zb r1 qm (by omega),r2⟩
 have qY:=Y uc
 clear xA uc r1 r2 qm
 go_enter Tryz.func81,Tryz.ntmps81
 refine ei fun hR xu=>?_
 go_wp2_with fail
 refine U xu _ _ ?_
 clear xu
 refine ei fun K2 kg=>?_
 go_wp2_with fail
 generalize ((w.alloc (E #[H next,.slice a l.length A] 31)).alloc (E #[H s,H X,H li,H F,yj pr,yk O] 74)) = X2 at xF HX qY ⊢
 have HX:Hid (X2.rangeAt w.heap.size 0 [H next,.slice a l.length A]∧X2.rangeAt (w.heap.size + 1) 0 [H s,H X,H li,H F,yj pr,yk O]):=U HX
 refine (U HCA X2 (zl (U HR) (U xF) tg)).mono ?_
 rintro e w4 ⟨vq,vt,rfl,hoq,het,xC⟩
 obtain ⟨av,cv,rfl⟩:∃ a c,vt = .slice a Ft.length c:=by
  rcases het.2 with ⟨e,e2⟩ | ⟨g,A,xr,e,_⟩
  ·exact ⟨none,0,by rw [e,e2]⟩
  ·exact ⟨_,_,e⟩
 obtain ⟨aq,cq,rfl⟩:∃ a c,vq = .slice a FL.length c:=by
  rcases hoq.2 with ⟨e,e2⟩ | ⟨g,A,xr,e,_⟩
  ·exact ⟨none,0,by rw [e,e2]⟩
  ·exact ⟨_,_,e⟩
 have oX:=ed w4 (E #[H (next + 1),.slice aq FL.length cq,H next,H s,H (tk pr),H Fl,H li,yk O,.slice av Ft.length cv] 105)
 have oh:Hid (MatS w4.heap.size X2.heap.size (w4.alloc (E #[H (next + 1),.slice aq FL.length cq,H next,H s,H (tk pr),H Fl,H li,yk O,.slice av Ft.length cv] 105)) (next + 1) (.slice aq FL.length cq) FL ⟨next,s,tk pr,Fl,li,O⟩ (.slice av Ft.length cv) Ft):=⟨zg w4 [H (next + 1),.slice aq FL.length cq,H next,H s,H (tk pr),H Fl,H li,yk O,.slice av Ft.length cv] _,zu w4 [H (next + 1),.slice aq FL.length cq,H next,H s,H (tk pr),H Fl,H li,yk O,.slice av Ft.length cv] _,zk hoq oX,zG het oX,⟨_,heap_alloc_new w4 _⟩,yN xC.size (by rw [ze]; omega)⟩
 have og:Hid (yn X2 (w4.alloc (E #[H (next + 1),.slice aq FL.length cq,H next,H s,H (tk pr),H Fl,H li,yk O,.slice av Ft.length cv] 105))):=xC.trans (oX.mono xC.size)
 have HMB:Hid (w.heap.size ≤ X2.heap.size∧X2.heap.size ≤ w4.heap.size):=⟨by have:=U qY; omega,xC.size⟩
 clear oX hoq het xC
 go_wp2_with fail
 refine U kg _ _ ?_
 generalize (w4.alloc (E #[H (next + 1),.slice aq FL.length cq,H next,H s,H (tk pr),H Fl,H li,yk O,.slice av Ft.length cv] 105)) = W6 at oh og ⊢
 generalize w4.heap.size = mb at oh HMB ⊢
 have hm:w.heap.size + 1 < X2.heap.size:=by have:=U qY; omega
 have k0:=zb (U HX).1 (U og) (by omega) 0 _ rfl
 have o0:=zb (U HX).2 (U og) (by omega) 0 _ rfl
 have o1:=zb (U HX).2 (U og) (by omega) 1 _ rfl
 have o2:=zb (U HX).2 (U og) (by omega) 2 _ rfl
 have o3:=zb (U HX).2 (U og) (by omega) 3 _ rfl
 have o4:=zb (U HX).2 (U og) (by omega) 4 _ rfl
 have o5:=zb (U HX).2 (U og) (by omega) 5 _ rfl
 have y5:W6.cell? (J mb 5) = some (H Fl):=(U oh).cells 5 _ rfl
 have y8:W6.cell? (J mb 8) = some (.slice av Ft.length cv):=(U oh).cells 8 _ rfl
 simp only [Nat.zero_add] at k0 o0 o1 o2 o3 o4 o5
 have xE:=Y ((U xF).trans ((U og).mono (U xF).size))
 have HMR:Hid (matR next ⟨kk,s,X,li,F,ii,pr,O⟩ (FL,Fl,Ft) = if X = 5∧0 < Ft.length then 11 else if X = 4∧0 < Fl then 12 else if next = 1000000 then 13 else if aA X = true∧0 < Fl then (if aU (FL ++ [⟨next,s,tk pr,Fl,li,O⟩]) = true then 13 else 0) else 0):=rfl
 clear HCA HX kg
 by_cases uX:X = 5∧0 < Ft.length
 ·obtain ⟨rfl,hl⟩:=uX
  have hl':(0:Int) < Ft.length:=by omega
  have HK:Hid (matR next ⟨kk,s,5,li,F,ii,pr,O⟩ (FL,Fl,Ft) = 11):=by have:=U HMR; rw [if_pos ⟨rfl,hl⟩] at this; exact this
  clear hl
  go_wp2_with fail
  go_ret
  exact ⟨zp (U HK).symm,U xE⟩
 have qe:Hid (_ = _):=(U HMR).trans (if_neg uX)
 clear HMR
 by_cases h5:X = 5
 ·subst h5
  have hl':¬ (0:Int) < Ft.length:=fun h=>uX ⟨rfl,by omega⟩
  have vD:Hid (_ = _):=(U qe).trans (if_neg (fun h=>by cases h.1))
  clear qe
  clear uX
  by_cases qa:next = 1000000
  ·subst qa
   have HK:Hid (matR 1000000 ⟨kk,s,5,li,F,ii,pr,O⟩ (FL,Fl,Ft) = 13):=by have:=U vD; rw [if_pos rfl] at this; exact this
   go_wp2_with fail
   go_ret
   exact ⟨zp (U HK).symm,U xE⟩
  have hnb:(next == 1000000) = false:=by rw [xd]; exact qa
  have kR:Hid (_ = _):=(U vD).trans (if_neg qa)
  clear qa vD
  go_wp2_with fail
  refine (dv ⟨kk,s,5,li,F,ii,pr,O⟩ W6).mono ?_
  rintro e w7 ⟨rfl,jk⟩
  dsimp only
  have HM7:=Y (da (U oh) jk)
  have jA:=Y (eh (U xE) jk)
  have y7:w7.cell? (J mb 5) = some (H Fl):=(U HM7).cells 5 _ rfl
  clear jk k0 o0 o1 o2 o3 o4 o5 y5 y8
  cases qA:aA 5
  ·have HK:Hid (matR next ⟨kk,s,5,li,F,ii,pr,O⟩ (FL,Fl,Ft) = 0):=by
    have:=U kR
    rw [if_neg (fun h=>by rw [qA] at h; cases h.1)] at this
    exact this
   clear qA
   go_wp2_with fail
   go_ret
   exact ⟨zp (U HK).symm,U jA⟩
  ·by_cases hFl:0 < Fl
   ·have HMRG:Hid (matR next ⟨kk,s,5,li,F,ii,pr,O⟩ (FL,Fl,Ft) = if aU (FL ++ [⟨next,s,tk pr,Fl,li,O⟩]) = true then 13 else 0):=by
     have:=U kR
     rw [if_pos ⟨qA,hFl⟩] at this
     exact this
    clear qA
    go_wp2_with fail
    refine (rest_any mb X2.heap.size (next + 1) _ FL ⟨next,s,tk pr,Fl,li,O⟩ _ Ft w7 (U HM7) (by have:=(U oU).1.len; omega)).mono ?_
    rintro e w8 ⟨vq8,rfl,hM8,hK8⟩
    have af:=Y hM8
    have vQ:=Y (below_kept (U jA) hK8 (U HMB).1 (U HMB).2)
    clear hM8 hK8 y7
    go_wp2_with fail
    refine (isTooFull_any mb X2.heap.size (next + 1) vq8 _ ⟨next,s,tk pr,Fl,li,O⟩ _ Ft w8 (U af) (by have:=(U oU).1.len; rw [yP]; simp only [List.length_cons,List.length_nil]; omega) (by
     intro o' vC
     have hfg:=U oU
     rcases List.mem_append.1 vC with h | h
     ·have:=hfg.1.left o' h; omega
     ·rw [List.mem_singleton] at h; subst h; exact hfg.2)).mono ?_
    rintro e w9 ⟨rfl,hb9⟩
    have kQ:=Y (eh (U vQ) hb9)
    clear hb9
    cases hfu:aU (FL ++ [⟨next,s,tk pr,Fl,li,O⟩])
    ·have HK:Hid (matR next ⟨kk,s,5,li,F,ii,pr,O⟩ (FL,Fl,Ft) = 0):=by have:=U HMRG; rw [hfu] at this; exact this
     clear hfu
     go_wp2_with fail
     go_ret
     exact ⟨zp (U HK).symm,U kQ⟩
    ·have HK:Hid (matR next ⟨kk,s,5,li,F,ii,pr,O⟩ (FL,Fl,Ft) = 13):=by have:=U HMRG; rw [hfu] at this; exact this
     clear hfu
     go_wp2_with fail
     go_ret
     exact ⟨zp (U HK).symm,U kQ⟩
   ·have HK:Hid (matR next ⟨kk,s,5,li,F,ii,pr,O⟩ (FL,Fl,Ft) = 0):=by have:=U kR; rw [if_neg (fun h=>hFl h.2)] at this; exact this
    clear qA
    go_wp2_with fail
    go_ret
    exact ⟨zp (U HK).symm,U jA⟩
 have qj:(X == 5) = false:=by rw [xd]; exact h5
 clear uX
 by_cases qy:X = 4∧0 < Fl
 ·obtain ⟨rfl,hl⟩:=qy
  have HK:Hid (matR next ⟨kk,s,4,li,F,ii,pr,O⟩ (FL,Fl,Ft) = 12):=by have:=U qe; rw [if_pos ⟨rfl,hl⟩] at this; exact this
  clear h5 qj
  go_wp2_with fail
  go_ret
  exact ⟨zp (U HK).symm,U xE⟩
 have vD:Hid (_ = _):=(U qe).trans (if_neg qy)
 clear qe
 by_cases h4:X = 4
 ·subst h4
  have hl':¬ 0 < Fl:=fun h=>qy ⟨rfl,h⟩
  clear qy h5 qj
  by_cases qa:next = 1000000
  ·subst qa
   have HK:Hid (matR 1000000 ⟨kk,s,4,li,F,ii,pr,O⟩ (FL,Fl,Ft) = 13):=by have:=U vD; rw [if_pos rfl] at this; exact this
   go_wp2_with fail
   go_ret
   exact ⟨zp (U HK).symm,U xE⟩
  have hnb:(next == 1000000) = false:=by rw [xd]; exact qa
  have kR:Hid (_ = _):=(U vD).trans (if_neg qa)
  clear qa vD
  go_wp2_with fail
  refine (dv ⟨kk,s,4,li,F,ii,pr,O⟩ W6).mono ?_
  rintro e w7 ⟨rfl,jk⟩
  dsimp only
  have HM7:=Y (da (U oh) jk)
  have jA:=Y (eh (U xE) jk)
  have y7:w7.cell? (J mb 5) = some (H Fl):=(U HM7).cells 5 _ rfl
  clear jk k0 o0 o1 o2 o3 o4 o5 y5 y8
  cases qA:aA 4
  ·have HK:Hid (matR next ⟨kk,s,4,li,F,ii,pr,O⟩ (FL,Fl,Ft) = 0):=by
    have:=U kR
    rw [if_neg (fun h=>by rw [qA] at h; cases h.1)] at this
    exact this
   clear qA
   go_wp2_with fail
   go_ret
   exact ⟨zp (U HK).symm,U jA⟩
  ·exact absurd qA (by decide)
 have xC:(X == 4) = false:=by rw [xd]; exact h4
 clear qy h5 h4
 by_cases qa:next = 1000000
 ·subst qa
  have HK:Hid (matR 1000000 ⟨kk,s,X,li,F,ii,pr,O⟩ (FL,Fl,Ft) = 13):=by have:=U vD; rw [if_pos rfl] at this; exact this
  go_wp2_with fail
  go_ret
  exact ⟨zp (U HK).symm,U xE⟩
 have hnb:(next == 1000000) = false:=by rw [xd]; exact qa
 have kR:Hid (_ = _):=(U vD).trans (if_neg qa)
 clear qa vD
 go_wp2_with fail
 refine (dv ⟨kk,s,X,li,F,ii,pr,O⟩ W6).mono ?_
 rintro e w7 ⟨rfl,jk⟩
 dsimp only
 have HM7:=Y (da (U oh) jk)
 have jA:=Y (eh (U xE) jk)
 have y7:w7.cell? (J mb 5) = some (H Fl):=(U HM7).cells 5 _ rfl
 clear jk k0 o0 o1 o2 o3 o4 o5 y5 y8
 cases qA:aA X
 ·have HK:Hid (matR next ⟨kk,s,X,li,F,ii,pr,O⟩ (FL,Fl,Ft) = 0):=by
   have:=U kR
   rw [if_neg (fun h=>by rw [qA] at h; cases h.1)] at this
   exact this
  clear qA
  go_wp2_with fail
  go_ret
  exact ⟨zp (U HK).symm,U jA⟩
 ·by_cases hFl:0 < Fl
  ·have HMRG:Hid (matR next ⟨kk,s,X,li,F,ii,pr,O⟩ (FL,Fl,Ft) = if aU (FL ++ [⟨next,s,tk pr,Fl,li,O⟩]) = true then 13 else 0):=by
    have:=U kR
    rw [if_pos ⟨qA,hFl⟩] at this
    exact this
   clear qA
   go_wp2_with fail
   refine (rest_any mb X2.heap.size (next + 1) _ FL ⟨next,s,tk pr,Fl,li,O⟩ _ Ft w7 (U HM7) (by have:=(U oU).1.len; omega)).mono ?_
   rintro e w8 ⟨vq8,rfl,hM8,hK8⟩
   have af:=Y hM8
   have vQ:=Y (below_kept (U jA) hK8 (U HMB).1 (U HMB).2)
   clear hM8 hK8 y7
   go_wp2_with fail
   refine (isTooFull_any mb X2.heap.size (next + 1) vq8 _ ⟨next,s,tk pr,Fl,li,O⟩ _ Ft w8 (U af) (by have:=(U oU).1.len; rw [yP]; simp only [List.length_cons,List.length_nil]; omega) (by
    intro o' vC
    have hfg:=U oU
    rcases List.mem_append.1 vC with h | h
    ·have:=hfg.1.left o' h; omega
    ·rw [List.mem_singleton] at h; subst h; exact hfg.2)).mono ?_
   rintro e w9 ⟨rfl,hb9⟩
   have kQ:=Y (eh (U vQ) hb9)
   clear hb9
   cases hfu:aU (FL ++ [⟨next,s,tk pr,Fl,li,O⟩])
   ·have HK:Hid (matR next ⟨kk,s,X,li,F,ii,pr,O⟩ (FL,Fl,Ft) = 0):=by have:=U HMRG; rw [hfu] at this; exact this
    clear hfu
    go_wp2_with fail
    go_ret
    exact ⟨zp (U HK).symm,U kQ⟩
   ·have HK:Hid (matR next ⟨kk,s,X,li,F,ii,pr,O⟩ (FL,Fl,Ft) = 13):=by have:=U HMRG; rw [hfu] at this; exact this
    clear hfu
    go_wp2_with fail
    go_ret
    exact ⟨zp (U HK).symm,U kQ⟩
  ·have HK:Hid (matR next ⟨kk,s,X,li,F,ii,pr,O⟩ (FL,Fl,Ft) = 0):=by have:=U kR; rw [if_neg (fun h=>hFl h.2)] at this; exact this
   clear qA
   go_wp2_with fail
   go_ret
   exact ⟨zp (U HK).symm,U jA⟩
end Go.Proofs.YtdliebbfcmdmaaaGreat
