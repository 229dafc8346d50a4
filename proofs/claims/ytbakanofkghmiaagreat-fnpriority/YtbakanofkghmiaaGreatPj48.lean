/-
  A command done on a book, by the model, whichever way it goes: put together.
-/
import Derived.Test.YtbakanofkghmiaaGreatPj44
import Derived.Test.YtbakanofkghmiaaGreatPj45
import Derived.Test.YtbakanofkghmiaaGreatPj46
import Derived.Test.YtbakanofkghmiaaGreatPj47
set_option linter.unusedVariables false
set_option maxHeartbeats 6400000
set_option maxRecDepth 100000
namespace Go.Proofs.YtbakanofkghmiaaGreat
open Go.RowKit
theorem l04Step_any (next:Int) (vb:Value) (l:List Od) (c:Cm) (w:World) (hr:RdR Od.vs 6 w vb l) (hs:SlOk vb) (hg:GoodL l) (uu:∀ x ∈ l,x.side = 1 ∨ x.side = 2) (h0:0 ≤ next) (z:next ≤ 1000000) (ht:c.g.size ≤ maxLen) :
  Calls Tryz.prog 44 #[.agg #[H next,vb],cmV c] w fun e w'=>∃ vq vg,e = yk (.tuple #[.agg #[H (stN next l c),vq],vg])∧ORow w' w.heap.size vq (stL next l c)∧ERow w' w.heap.size vg (stE next l c)∧yl w w':=by
 by_cases uR:refR next l c = 0
 ·rcases de uR with hk | hk | hk | hk
  ·exact l04Step_a next vb l c w ⟨uR,hk⟩ hr hs hg uu h0 z ht
  ·exact l04Step_c next vb l c w ⟨uR,hk⟩ hr hs hg uu h0 z ht
  ·exact l04Step_d next vb l c w ⟨uR,hk⟩ hr hs hg uu h0 z ht
  ·exact l04Step_y next vb l c w ⟨uR,hk⟩ hr hs hg uu h0 z ht
 ·exact l04Step_r next vb l c w uR hr hs hg uu h0 z ht
theorem specStepBook_any (next:Int) (vb:Value) (l:List Od) (c:Cm) (w:World) (hr:RdR Od.vs 6 w vb l) (hs:SlOk vb) (hgt:∀ o ∈ l,o.tag.size ≤ maxLen) (ht:c.g.size ≤ maxLen) :
  Calls Tryz.prog 17 #[.agg #[H next,vb],cmV c] w fun e w'=>∃ vq vg,e = yk (.tuple #[.agg #[H (spN next l c),vq],vg,H (reaC next l)])∧ORow w' w.heap.size vq (spL next l c)∧ERow w' w.heap.size vg (spE next l c)∧yl w w':=by
 have HR:=Q hr
 have uW:=Q hs
 have HGT:=Q hgt
 have qU:=Q ht
 obtain ⟨a,F,rfl,xD,hc⟩:=hr
 clear hc hs hgt ht xD
 have kY:=Q (fun (xV:okS next l = true) (W:World) hW=>l04Step_any next (.slice a l.length F) l c W hW (M uW) (cP xV).1 (okS_sides xV) (cP xV).2.1 (cP xV).2.2 (M qU))
 have uB:Hid (spN next l c = if okS next l = true then stN next l c else 0):=rfl
 have qT:Hid (spL next l c = if okS next l = true then stL next l c else []):=rfl
 have uA:Hid (spE next l c = if okS next l = true then stE next l c else []):=rfl
 have uk:Hid (reaC next l = if okS next l = true then 0 else 1):=rfl
 obtain ⟨kk,s,ty,li,X,ii,pr,O⟩:=c
 generalize spN next l ⟨kk,s,ty,li,X,ii,pr,O⟩ = sN at uB ⊢
 generalize spL next l ⟨kk,s,ty,li,X,ii,pr,O⟩ = sL at qT ⊢
 generalize spE next l ⟨kk,s,ty,li,X,ii,pr,O⟩ = sE at uA ⊢
 generalize reaC next l = sC at uk ⊢
 generalize stN next l ⟨kk,s,ty,li,X,ii,pr,O⟩ = tN at uB kY
 generalize stL next l ⟨kk,s,ty,li,X,ii,pr,O⟩ = tL at qT kY
 generalize stE next l ⟨kk,s,ty,li,X,ii,pr,O⟩ = tE at uA kY
 unfold cmV at kY ⊢
 simp only at kY qU ⊢
 have HB:=Q (box3 w [H next,.slice a l.length F] (yu kk s ty li X ii pr O) [H 0,.slice none 0 0] 28 43 28)
 go_enter Tryz.func17,Tryz.ntmps17
 refine eH fun h2 xu=>?_
 go_wp2_with fail
 refine M xu _ _ ?_
 clear xu
 change Hid ((((w.alloc (E #[H next,.slice a l.length F] 28)).alloc (E (yu kk s ty li X ii pr O).toArray 43)).alloc (E #[H 0,.slice none 0 0] 28)).heap.size = w.heap.size + 3∧World.rangeAt (((w.alloc (E #[H next,.slice a l.length F] 28)).alloc (E (yu kk s ty li X ii pr O).toArray 43)).alloc (E #[H 0,.slice none 0 0] 28)) w.heap.size 0 [H next,.slice a l.length F]∧World.rangeAt (((w.alloc (E #[H next,.slice a l.length F] 28)).alloc (E (yu kk s ty li X ii pr O).toArray 43)).alloc (E #[H 0,.slice none 0 0] 28)) (w.heap.size + 1) 0 (yu kk s ty li X ii pr O)∧World.rangeAt (((w.alloc (E #[H next,.slice a l.length F] 28)).alloc (E (yu kk s ty li X ii pr O).toArray 43)).alloc (E #[H 0,.slice none 0 0] 28)) (w.heap.size + 1 + 1) 0 [H 0,.slice none 0 0]∧World.there (((w.alloc (E #[H next,.slice a l.length F] 28)).alloc (E (yu kk s ty li X ii pr O).toArray 43)).alloc (E #[H 0,.slice none 0 0] 28)) (w.heap.size + 1 + 1) 0 2∧yl w (((w.alloc (E #[H next,.slice a l.length F] 28)).alloc (E (yu kk s ty li X ii pr O).toArray 43)).alloc (E #[H 0,.slice none 0 0] 28))) at HB
 generalize (((w.alloc (E #[H next,.slice a l.length F] 28)).alloc (E (yu kk s ty li X ii pr O).toArray 43)).alloc (E #[H 0,.slice none 0 0] 28)) = qt at HB ⊢
 have xE:Hid (∀ W:World,yl qt W→W.cell? (yn w 0) = some (H next)∧W.cell? (yn w 1) = some (.slice a l.length F)∧W.cell? (J (w.heap.size + 1) 0) = some (H kk)∧W.cell? (J (w.heap.size + 1) 1) = some (H s)∧W.cell? (J (w.heap.size + 1) 2) = some (H ty)∧W.cell? (J (w.heap.size + 1) 3) = some (H li)∧W.cell? (J (w.heap.size + 1) 4) = some (H X)∧W.cell? (J (w.heap.size + 1) 5) = some (H ii)∧W.cell? (J (w.heap.size + 1) 6) = some (yh pr)∧W.cell? (J (w.heap.size + 1) 7) = some (yi O)):=fun W hW =>
  have p:=zb (M HB).2.1 hW (by have:=(M HB).1; omega)
  have q:=zb (M HB).2.2.1 hW (by have:=(M HB).1; omega)
  ⟨p 0 _ rfl,p 1 _ rfl,q 0 _ rfl,q 1 _ rfl,q 2 _ rfl,q 3 _ rfl,q 4 _ rfl,q 5 _ rfl,q 6 _ rfl,q 7 _ rfl⟩
 obtain ⟨z0,z1,y0,y1,y2,y3,y4,y5,y6,y7⟩:=M xE qt (Below.refl _ _)
 refine eH fun h2 xu=>?_
 go_wp2_with fail
 refine (specBookOK_any next _ l qt (zh (M HR) (M HB).2.2.2.2.2 tg) (M HGT)).mono ?_
 rintro e w3 ⟨rfl,uf⟩
 have xM:=Q uf
 clear uf z0 z1 y0 y1 y2 y3 y4 y5 y6 y7
 have uU:w.heap.size + 1 + 1 < qt.heap.size:=by have:=(M HB).1; omega
 cases xV:okS next l
 ·have HK:Hid (sN = 0∧sL = []∧sE = []∧sC = 1):=⟨by rw [M uB,xV]; rfl,by rw [M qT,xV]; rfl,by rw [M uA,xV]; rfl,by rw [M uk,xV]; rfl⟩
  have oQ:=eD w3 (E #[] 46)
  have xS:=Q (eG (M xM) oQ)
  have qE:=Q (zf (M HB).2.2.2.2.1 (M xS) uU)
  have oI:=Q (zb (M HB).2.2.2.1 (M xS) uU)
  have kN:Hid (ERow (w3.alloc (E #[] 46)) w.heap.size (.slice (some (yn w3 0)) 0 0) []):=World.ownsRow_made w3 #[] 0 (by have:=(M HB).2.2.2.2.2.size; have:=(M xM).size; omega) (by decide) rfl
  have x0:World.cell? (w3.alloc (E #[] 46)) (J (w.heap.size + 1 + 1) 0) = some (H 0):=M oI 0 _ rfl
  have x1:World.cell? (w3.alloc (E #[] 46)) (J (w.heap.size + 1 + 1) 1) = some (.slice none 0 0):=M oI 1 _ rfl
  have q0:World.frozen? (w3.alloc (E #[] 46)) (J (w.heap.size + 1 + 1) 0) = false:=(M qE 0 (by omega)).2
  have q1:World.frozen? (w3.alloc (E #[] 46)) (J (w.heap.size + 1 + 1) 1) = false:=(M qE 1 (by omega)).2
  have hne3:some (w.heap.size + 1 + 1) ≠ (Value.slice (some (yn w3 0)) 0 0).ownBlock:=by simp only [Value.ownBlock,ne_eq,Option.some.injEq]; have:=(M xM).size; omega
  have HEF:Hid (ERow (((w3.alloc (E #[] 46)).setCell (J (w.heap.size + 1 + 1) 0) (H 0)).setCell (J (w.heap.size + 1 + 1) 1) (.slice none 0 0)) w.heap.size (.slice (some (yn w3 0)) 0 0) []):=zw (zw (M kN) hne3 0 _) hne3 1 _
  have HW:Hid (yl w (((w3.alloc (E #[] 46)).setCell (J (w.heap.size + 1 + 1) 0) (H 0)).setCell (J (w.heap.size + 1 + 1) 1) (.slice none 0 0))):=(((M HB).2.2.2.2.2.trans ((M xS).mono (M HB).2.2.2.2.2.size)).setCell (p:=(J (w.heap.size + 1 + 1) 0)) (show w.heap.size ≤ w.heap.size + 1 + 1 by omega) _).setCell (p:=(J (w.heap.size + 1 + 1) 1)) (show w.heap.size ≤ w.heap.size + 1 + 1 by omega) _
  have jQ:Hid ((((w3.alloc (E #[] 46)).setCell (J (w.heap.size + 1 + 1) 0) (H 0)).setCell (J (w.heap.size + 1 + 1) 1) (.slice none 0 0)).cell? (J (w.heap.size + 1 + 1) 0) = some (H 0)):=(yI _ _ _ _ (zI (by decide))).trans (yJ _ _ _ x0)
  have qm:Hid ((((w3.alloc (E #[] 46)).setCell (J (w.heap.size + 1 + 1) 0) (H 0)).setCell (J (w.heap.size + 1 + 1) 1) (.slice none 0 0)).cell? (J (w.heap.size + 1 + 1) 1) = some (.slice none 0 0)):=yJ _ _ _ ((yI _ _ _ _ (zI (by decide))).trans x1)
  clear xV uB qT uA uk kY oQ hne3
  go_wp2_with fail
  have d0:=M jQ
  have d1:=M qm
  try simp only [Exit.inBlock,Exit.then]
  refine bodyPost_ret (by simp [results,Tryz.results17,go_sem,d0,d1]; try rfl) rfl ?_
  obtain ⟨rfl,rfl,rfl,rfl⟩:=M HK
  exact ⟨_,_,rfl,World.ownsRow_nil _ _ _ _,M HEF,M HW⟩
 have HK:Hid (sN = tN∧sL = tL∧sE = tE∧sC = 0):=⟨by rw [M uB,if_pos xV],by rw [M qT,if_pos xV],by rw [M uA,if_pos xV],by rw [M uk,if_pos xV]⟩
 have HDO1:=Q (M kY xV)
 have oy:=(cP xV).1.len
 clear xV uB qT uA uk kY
 obtain ⟨z0,z1,y0,y1,y2,y3,y4,y5,y6,y7⟩:=M xE w3 (M xM)
 go_wp2_with fail
 refine M xu _ _ ?_
 clear xu
 refine eH fun h2 xu=>?_
 go_wp2_with fail
 refine (M HDO1 w3 (zh (M HR) ((M HB).2.2.2.2.2.trans ((M xM).mono (M HB).2.2.2.2.2.size)) tg)).mono ?_
 rintro e w4 ⟨vq4,vg4,rfl,hq4,km,xy⟩
 obtain ⟨aq,cq,rfl⟩:=zO hq4
 obtain ⟨ag,cg,rfl⟩:=zO km
 have oQ:=eD w4 (E #[H tN,.slice aq tL.length cq] 28)
 have uS:=Q ((M xM).trans ((eG xy oQ).mono (M xM).size))
 have HQ4:=Q (zj hq4 oQ)
 have oH:=Q (zK km oQ)
 have h3:w.heap.size + 1 + 1 < w3.heap.size:=yG uU (M xM).size
 have vw:=Q (zf (M HB).2.2.2.2.1 (M uS) uU)
 have HRW:Hid (World.rangeAt (w4.alloc (E #[H tN,.slice aq tL.length cq] 28)) w4.heap.size 0 [H tN,.slice aq tL.length cq]):=zg w4 [H tN,.slice aq tL.length cq] _
 clear oQ xy hq4 km z0 z1 y0 y1 y2 y3 y4 y5 y6 y7
 go_wp2_with fail
 refine M xu _ _ ?_
 clear xu
 generalize hWW:(w4.alloc (E #[H tN,.slice aq tL.length cq] 28)) = ho at uS HQ4 oH vw HRW ⊢
 clear hWW
 obtain ⟨p0,x0,f0⟩:=zd (M vw) (j:=0) (by omega)
 obtain ⟨p1,x1,f1⟩:=zd (M vw) (j:=1) (by omega)
 have k0:ho.cell? (yn w4 0) = some (H tN):=M HRW 0 _ rfl
 have k1:ho.cell? (yn w4 1) = some (.slice aq tL.length cq):=M HRW 1 _ rfl
 have af:=(M HB).2.2.2.2.2.trans ((M uS).mono (M HB).2.2.2.2.2.size)
 have HW:Hid (yl w ((ho.setCell (J (w.heap.size + 1 + 1) 0) (H tN)).setCell (J (w.heap.size + 1 + 1) 1) (.slice aq tL.length cq))):=(af.setCell (p:=(J (w.heap.size + 1 + 1) 0)) (show w.heap.size ≤ w.heap.size + 1 + 1 by omega) _).setCell (p:=(J (w.heap.size + 1 + 1) 1)) (show w.heap.size ≤ w.heap.size + 1 + 1 by omega) _
 have HQF:Hid (ORow ((ho.setCell (J (w.heap.size + 1 + 1) 0) (H tN)).setCell (J (w.heap.size + 1 + 1) 1) (.slice aq tL.length cq)) w.heap.size (.slice aq tL.length cq) tL):=zA (br (br (M HQ4) h3 0 _) h3 1 _) (by omega)
 have HGF:Hid (ERow ((ho.setCell (J (w.heap.size + 1 + 1) 0) (H tN)).setCell (J (w.heap.size + 1 + 1) 1) (.slice aq tL.length cq)) w.heap.size (.slice ag tE.length cg) tE):=zA (bX (bX (M oH) h3 0 _) h3 1 _) (by omega)
 have jQ:Hid (((ho.setCell (J (w.heap.size + 1 + 1) 0) (H tN)).setCell (J (w.heap.size + 1 + 1) 1) (.slice aq tL.length cq)).cell? (J (w.heap.size + 1 + 1) 0) = some (H tN)):=(yI _ _ _ _ (zI (by decide))).trans (yJ _ _ _ x0)
 have qm:Hid (((ho.setCell (J (w.heap.size + 1 + 1) 0) (H tN)).setCell (J (w.heap.size + 1 + 1) 1) (.slice aq tL.length cq)).cell? (J (w.heap.size + 1 + 1) 1) = some (.slice aq tL.length cq)):=yJ _ _ _ ((yI _ _ _ _ (zI (by decide))).trans x1)
 clear af
 go_wp2_with fail
 have d0:=M jQ
 have d1:=M qm
 try simp only [Exit.inBlock,Exit.then]
 refine bodyPost_ret (by simp [results,Tryz.results17,go_sem,d0,d1]; try rfl) rfl ?_
 obtain ⟨rfl,rfl,rfl,rfl⟩:=M HK
 exact ⟨_,_,rfl,M HQF,M HGF,M HW⟩
theorem look_only {d i:Nat}:∀ {ks:List (Nat × Nat)} {j:Nat},ks.lookup j = some d→ks.all (fun p=>p.2 != d || p.1 == i) = true→j = i
 | [],_,h,_=>by cases h
 | (a,b) :: r,j,h,D=>by
  rw [List.lookup_cons] at h
  simp only [List.all_cons,xb] at D
  by_cases e:j = a
  ·subst e
   simp at h
   subst h
   have:=D.1
   simp at this
   exact this
  ·have:(j == a) = false:=by rw [xa]; exact e
   rw [this] at h
   exact look_only h D.2
def DL (vs:List Value) (ks:List (Nat × Nat)) (S:Nat) (n mb rc:Int) (l hj:List Od) (eF:List Ev) (p:Prop) (W:World) (j:Nat) (v:Value):Prop :=
 match ks.lookup j with
 | none=>∀ u,vs[j]? = some u→v = u
 | some 1=>¬ p→∃ ad cp,v = .agg #[H n,.slice (some ad) l.length cp]∧RdR Od.vs 6 W (.slice (some ad) l.length cp) l
 | some 2=>∃ aq cq ag cg,v = .tuple #[.agg #[H mb,.slice aq hj.length cq],.slice ag eF.length cg,H rc]∧ORow W S (.slice aq hj.length cq) hj∧ERow W S (.slice ag eF.length cg) eF
 | some 3=>∃ aq cq,v = .agg #[H mb,.slice aq hj.length cq]∧ORow W S (.slice aq hj.length cq) hj
 | some 4=>∃ ag cg,v = .slice ag eF.length cg∧ERow W S (.slice ag eF.length cg) eF
 | some 5=>∃ b,v = I b 0∧S ≤ b∧b < W.heap.size∧W.there b 0 2∧(∃ xp,W.heap[b]? = some (.cells xp 28 (0,0)))∧(p→∃ aq cq,W.rangeAt b 0 [H mb,.slice aq hj.length cq]∧ORow W S (.slice aq hj.length cq) hj)
 | some _=>True
section
variable {vs:List Value} {ks:List (Nat × Nat)} {S:Nat} {n mb rc:Int} {l hj:List Od} {eF:List Ev} {p:Prop} {W W':World} {j d:Nat} {v u:Value}
theorem bA (h:DL vs ks S n mb rc l hj eF p W j v) (hk:ks.lookup j = none) (hu:vs[j]? = some u):v = u:=by
 rw [DL,hk] at h; exact h u hu
theorem bz (hk:ks.lookup j = none) (hu:vs[j]? = some v):DL vs ks S n mb rc l hj eF p W j v:=by
 rw [DL,hk]; intro u h; rw [hu] at h; cases h; rfl
theorem dl_2 (h:DL vs ks S n mb rc l hj eF p W j v) (hk:ks.lookup j = some 2):∃ aq cq ag cg,v = .tuple #[.agg #[H mb,.slice aq hj.length cq],.slice ag eF.length cg,H rc]∧ORow W S (.slice aq hj.length cq) hj∧ERow W S (.slice ag eF.length cg) eF:=by
 rw [DL,hk] at h; exact h
theorem dl_mk2 (hk:ks.lookup j = some 2) (h:∃ aq cq ag cg,v = .tuple #[.agg #[H mb,.slice aq hj.length cq],.slice ag eF.length cg,H rc]∧ORow W S (.slice aq hj.length cq) hj∧ERow W S (.slice ag eF.length cg) eF):DL vs ks S n mb rc l hj eF p W j v:=by
 rw [DL,hk]; exact h
theorem dl_3 (h:DL vs ks S n mb rc l hj eF p W j v) (hk:ks.lookup j = some 3):∃ aq cq,v = .agg #[H mb,.slice aq hj.length cq]∧ORow W S (.slice aq hj.length cq) hj:=by
 rw [DL,hk] at h; exact h
theorem dl_mk3 (hk:ks.lookup j = some 3) (h:∃ aq cq,v = .agg #[H mb,.slice aq hj.length cq]∧ORow W S (.slice aq hj.length cq) hj):DL vs ks S n mb rc l hj eF p W j v:=by
 rw [DL,hk]; exact h
theorem dl_4 (h:DL vs ks S n mb rc l hj eF p W j v) (hk:ks.lookup j = some 4):∃ ag cg,v = .slice ag eF.length cg∧ERow W S (.slice ag eF.length cg) eF:=by
 rw [DL,hk] at h; exact h
theorem dl_mk4 (hk:ks.lookup j = some 4) (h:∃ ag cg,v = .slice ag eF.length cg∧ERow W S (.slice ag eF.length cg) eF):DL vs ks S n mb rc l hj eF p W j v:=by
 rw [DL,hk]; exact h
theorem dl_5 (h:DL vs ks S n mb rc l hj eF p W j v) (hk:ks.lookup j = some 5):∃ b,v = I b 0∧S ≤ b∧b < W.heap.size∧W.there b 0 2∧(∃ xp,W.heap[b]? = some (.cells xp 28 (0,0)))∧(p→∃ aq cq,W.rangeAt b 0 [H mb,.slice aq hj.length cq]∧ORow W S (.slice aq hj.length cq) hj):=by
 rw [DL,hk] at h; exact h
theorem dl_mk5 (hk:ks.lookup j = some 5) (hp:¬ p) (hS:S ≤ W.heap.size):DL vs ks S n mb rc l hj eF p (W.alloc (E #[H 0,.slice none 0 0] 28)) j (ym W 0):=by
 rw [DL,hk]; exact ⟨W.heap.size,rfl,hS,by rw [ze]; omega,zH W [H 0,.slice none 0 0] _,⟨_,heap_alloc_new W _⟩,fun h=>absurd h hp⟩
theorem dl_mk9 (hk:ks.lookup j = some 9):DL vs ks S n mb rc l hj eF p W j v:=by rw [DL,hk]; trivial
theorem dl_grow:∀ p W W' j v,yl W W'→DL vs ks S n mb rc l hj eF p W j v→DL vs ks S n mb rc l hj eF p W' j v:=by
 intro p W W' j v hb h
 unfold DL at h ⊢
 split
 ·next hk=>rw [hk] at h; exact h
 ·next hk=>rw [hk] at h; intro hp; obtain ⟨ad,cp,z,K⟩:=h hp; exact ⟨ad,cp,z,zh K hb tg⟩
 ·next hk=>rw [hk] at h; obtain ⟨aq,cq,ag,cg,z,K,h3⟩:=h; exact ⟨aq,cq,ag,cg,z,zj K hb,zK h3 hb⟩
 ·next hk=>rw [hk] at h; obtain ⟨aq,cq,z,K⟩:=h; exact ⟨aq,cq,z,zj K hb⟩
 ·next hk=>rw [hk] at h; obtain ⟨ag,cg,z,K⟩:=h; exact ⟨ag,cg,z,zK K hb⟩
 ·next hk=>rw [hk] at h; obtain ⟨b,z,K,h3,h4,⟨xp,h5⟩,h6⟩:=h; exact ⟨b,z,K,yG h3 hb.size,zf h4 hb h3,⟨xp,(hb.block b h3).trans h5⟩,fun hp=>by obtain ⟨aq,cq,h7,h8⟩:=h6 hp; exact ⟨aq,cq,zb h7 hb h3,zj h8 hb⟩⟩
 ·trivial
theorem dl_store {b:Nat} {aq:Option Addr} {cq:Nat} (hS:S ≤ b) (xG:W.there b 0 2) (xL:b < W.heap.size) (vF:∃ xp,W.heap[b]? = some (.cells xp 28 (0,0))) (Y:ORow W S (.slice aq hj.length cq) hj) (h5:ks.lookup j = some 5→v = I b 0) (h:DL vs ks S n mb rc l hj eF False W j v):DL vs ks S n mb rc l hj eF True (W.setCells b 0 [H mb,.slice aq hj.length cq]) j v:=by
 have hO:∀ {v hj},ORow W S v hj→ORow (W.setCells b 0 [H mb,.slice aq hj.length cq]) S v hj:=fun h=>dk (zo h vF (by decide)) _ _ _ h
 have hO':∀ {v:Value} {L':List Od},ORow W S v L'→ORow (W.setCells b 0 [H mb,.slice aq hj.length cq]) S v L':=fun h=>dk (zo h vF (by decide)) _ _ _ h
 have hE:∀ {v:Value} {E':List Ev},ERow W S v E'→ERow (W.setCells b 0 [H mb,.slice aq hj.length cq]) S v E':=fun h=>dk (zo h vF (by decide)) _ _ _ h
 unfold DL at h ⊢
 split
 ·next hk=>rw [hk] at h; exact h
 ·next hk=>intro hp; exact absurd trivial hp
 ·next hk=>rw [hk] at h; obtain ⟨aq,cq,ag,cg,z,K,h3⟩:=h; exact ⟨aq,cq,ag,cg,z,hO' K,hE h3⟩
 ·next hk=>rw [hk] at h; obtain ⟨aq,cq,z,K⟩:=h; exact ⟨aq,cq,z,hO' K⟩
 ·next hk=>rw [hk] at h; obtain ⟨ag,cg,z,K⟩:=h; exact ⟨ag,cg,z,hE K⟩
 ·next hk =>
  refine ⟨b,h5 hk,hS,by rw [cy]; exact xL,yY xG _ _ _,?_,fun _=>⟨aq,cq,yU W b 0 _ (fun j L=>xG j L),hO' Y⟩⟩
  obtain ⟨xp,hc⟩:=vF
  exact kind_setC W b _ 0 hc
 ·trivial
end
theorem rg_write2 {base W W':World} {k:Nat} {xd:Prop→World→Nat→Value→Prop} {x:List Bool} {f:Nat→Value} (hb:yl base W') (h:∀ j,x[j]? = some true→xd (x[k]? = some true) W j (f j)) (hk:x[k]? = some false) (hm:∀ j,j ≠ k→x[j]? = some true→xd False W j (f j)→xd True W' j (f j)) (hv:xd True W' k (f k)) :
  yl base W'∧∀ j,(x.set k true)[j]? = some true→xd ((x.set k true)[k]? = some true) W' j (f j):=by
 have e:((x.set k true)[k]? = some true) = True:=by
  rw [List.getElem?_set_self (yD.1 hk).1]; simp
 refine ⟨hb,fun j L=>?_⟩
 rw [e]
 by_cases hji:j = k
 ·subst hji; exact hv
 ·rw [yT (fun e=>hji e.symm)] at L
  refine hm j hji L ?_
  have:=h j L
  rw [hk] at this
  simpa using this
end Go.Proofs.YtbakanofkghmiaaGreat
