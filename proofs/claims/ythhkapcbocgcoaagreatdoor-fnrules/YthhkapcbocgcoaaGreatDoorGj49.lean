/-
  StepBook by the model: proved by walking the function.
-/
import Derived.Test.YthhkapcbocgcoaaGreatDoorGj48
set_option linter.unusedVariables false
set_option maxHeartbeats 6400000
set_option maxRecDepth 100000
namespace Go.Proofs.YthhkapcbocgcoaaGreatDoor
open Go.RowKit
theorem specStepBook_any (next:Int) (vb:Value) (l:List Od) (c:Cm) (w:World) (hr:RdR Od.vs 6 w vb l) (hs:SlOk vb) (kC:∀ o ∈ l,o.tag.size ≤ maxLen) (ht:c.g.size ≤ maxLen) :
  Calls Tryz.prog 6 #[.agg #[H next,vb],cmV c] w fun e w'=>∃ vq vg,e = ym (.tuple #[.agg #[H (spN next l c),vq],vg,H (reaC next l)])∧ORow w' w.heap.size vq (spL next l c)∧ERow w' w.heap.size vg (spE next l c)∧yn w w':=by
 have HR:=M hr
 have qn:=M hs
 have HGT:=M kC
 have ky:=M ht
 obtain ⟨a,cap,rfl,xD,hc⟩:=hr
 clear hc hs kC ht xD
 have HDO:=M (fun (un:okS next l = true) (W:World) hW=>l04Step_any next (.slice a l.length cap) l c W hW (U qn) (okS_good un).1 (okS_sides un) (okS_good un).2.1 (okS_good un).2.2 (U ky))
 have vW:Hid (spN next l c = if okS next l = true then stN next l c else 0):=rfl
 have HSL2:Hid (spL next l c = if okS next l = true then stL next l c else []):=rfl
 have vO:Hid (spE next l c = if okS next l = true then stE next l c else []):=rfl
 have uw:Hid (reaC next l = if okS next l = true then 0 else 1):=rfl
 obtain ⟨kk,s,ty,li,qt,ii,pr,tg⟩:=c
 generalize spN next l ⟨kk,s,ty,li,qt,ii,pr,tg⟩ = sN at vW ⊢
 generalize spL next l ⟨kk,s,ty,li,qt,ii,pr,tg⟩ = sL at HSL2 ⊢
 generalize spE next l ⟨kk,s,ty,li,qt,ii,pr,tg⟩ = sE at vO ⊢
 generalize reaC next l = sC at uw ⊢
 generalize stN next l ⟨kk,s,ty,li,qt,ii,pr,tg⟩ = tN at vW HDO
 generalize stL next l ⟨kk,s,ty,li,qt,ii,pr,tg⟩ = tL at HSL2 HDO
 generalize stE next l ⟨kk,s,ty,li,qt,ii,pr,tg⟩ = tE at vO HDO
 unfold cmV at HDO ⊢
 simp only at HDO ky ⊢
 have HB:=M (box3 w [H next,.slice a l.length cap] (yx kk s ty li qt ii pr tg) [H 0,.slice none 0 0] 27 33 27)
 go_enter Tryz.func6,Tryz.ntmps6
 refine ic fun xh xK=>?_
 go_wp2_with fail
 refine U xK _ _ ?_
 clear xK
 change Hid ((((w.alloc (O #[H next,.slice a l.length cap] 27)).alloc (O (yx kk s ty li qt ii pr tg).toArray 33)).alloc (O #[H 0,.slice none 0 0] 27)).heap.size = w.heap.size + 3∧World.rangeAt (((w.alloc (O #[H next,.slice a l.length cap] 27)).alloc (O (yx kk s ty li qt ii pr tg).toArray 33)).alloc (O #[H 0,.slice none 0 0] 27)) w.heap.size 0 [H next,.slice a l.length cap]∧World.rangeAt (((w.alloc (O #[H next,.slice a l.length cap] 27)).alloc (O (yx kk s ty li qt ii pr tg).toArray 33)).alloc (O #[H 0,.slice none 0 0] 27)) (w.heap.size + 1) 0 (yx kk s ty li qt ii pr tg)∧World.rangeAt (((w.alloc (O #[H next,.slice a l.length cap] 27)).alloc (O (yx kk s ty li qt ii pr tg).toArray 33)).alloc (O #[H 0,.slice none 0 0] 27)) (w.heap.size + 1 + 1) 0 [H 0,.slice none 0 0]∧World.there (((w.alloc (O #[H next,.slice a l.length cap] 27)).alloc (O (yx kk s ty li qt ii pr tg).toArray 33)).alloc (O #[H 0,.slice none 0 0] 27)) (w.heap.size + 1 + 1) 0 2∧yn w (((w.alloc (O #[H next,.slice a l.length cap] 27)).alloc (O (yx kk s ty li qt ii pr tg).toArray 33)).alloc (O #[H 0,.slice none 0 0] 27))) at HB
 generalize (((w.alloc (O #[H next,.slice a l.length cap] 27)).alloc (O (yx kk s ty li qt ii pr tg).toArray 33)).alloc (O #[H 0,.slice none 0 0] 27)) = h3 at HB ⊢
 have xL:Hid (∀ W:World,yn h3 W→W.cell? (yq w 0) = some (H next)∧W.cell? (yq w 1) = some (.slice a l.length cap)∧W.cell? (J (w.heap.size + 1) 0) = some (H kk)∧W.cell? (J (w.heap.size + 1) 1) = some (H s)∧W.cell? (J (w.heap.size + 1) 2) = some (H ty)∧W.cell? (J (w.heap.size + 1) 3) = some (H li)∧W.cell? (J (w.heap.size + 1) 4) = some (H qt)∧W.cell? (J (w.heap.size + 1) 5) = some (H ii)∧W.cell? (J (w.heap.size + 1) 6) = some (yj pr)∧W.cell? (J (w.heap.size + 1) 7) = some (yk tg)):=fun W hW =>
  have p:=zc (U HB).2.1 hW (by have:=(U HB).1; omega)
  have q:=zc (U HB).2.2.1 hW (by have:=(U HB).1; omega)
  ⟨p 0 _ rfl,p 1 _ rfl,q 0 _ rfl,q 1 _ rfl,q 2 _ rfl,q 3 _ rfl,q 4 _ rfl,q 5 _ rfl,q 6 _ rfl,q 7 _ rfl⟩
 obtain ⟨z0,z1,y0,y1,y2,y3,y4,y5,y6,y7⟩:=U xL h3 (Below.refl _ _)
 refine ic fun xh xK=>?_
 go_wp2_with fail
 refine (specBookOK_any next _ l h3 (zh (U HR) (U HB).2.2.2.2.2 hU) (U HGT)).mono ?_
 rintro e w3 ⟨rfl,xQ⟩
 have xG:=M xQ
 clear xQ z0 z1 y0 y1 y2 y3 y4 y5 y6 y7
 have vL:w.heap.size + 1 + 1 < h3.heap.size:=by have:=(U HB).1; omega
 cases un:okS next l
 ·have HK:Hid (sN = 0∧sL = []∧sE = []∧sC = 1):=⟨by rw [U vW,un]; rfl,by rw [U HSL2,un]; rfl,by rw [U vO,un]; rfl,by rw [U uw,un]; rfl⟩
  have bF:=gZ w3 (O #[] 37)
  have xO:=M (ia (U xG) bF)
  have jx:=M (zk (U HB).2.2.2.2.1 (U xO) vL)
  have pe:=M (zc (U HB).2.2.2.1 (U xO) vL)
  have HEA:Hid (ERow (w3.alloc (O #[] 37)) w.heap.size (.slice (some (yq w3 0)) 0 0) []):=World.ownsRow_made w3 #[] 0 (by have:=(U HB).2.2.2.2.2.size; have:=(U xG).size; omega) (by decide) rfl
  have x0:World.cell? (w3.alloc (O #[] 37)) (J (w.heap.size + 1 + 1) 0) = some (H 0):=U pe 0 _ rfl
  have x1:World.cell? (w3.alloc (O #[] 37)) (J (w.heap.size + 1 + 1) 1) = some (.slice none 0 0):=U pe 1 _ rfl
  have q0:World.frozen? (w3.alloc (O #[] 37)) (J (w.heap.size + 1 + 1) 0) = false:=(U jx 0 (by omega)).2
  have q1:World.frozen? (w3.alloc (O #[] 37)) (J (w.heap.size + 1 + 1) 1) = false:=(U jx 1 (by omega)).2
  have hne3:some (w.heap.size + 1 + 1) ≠ (Value.slice (some (yq w3 0)) 0 0).ownBlock:=by simp only [Value.ownBlock,ne_eq,Option.some.injEq]; have:=(U xG).size; omega
  have HEF:Hid (ERow (((w3.alloc (O #[] 37)).setCell (J (w.heap.size + 1 + 1) 0) (H 0)).setCell (J (w.heap.size + 1 + 1) 1) (.slice none 0 0)) w.heap.size (.slice (some (yq w3 0)) 0 0) []):=cw (cw (U HEA) hne3 0 _) hne3 1 _
  have HW:Hid (yn w (((w3.alloc (O #[] 37)).setCell (J (w.heap.size + 1 + 1) 0) (H 0)).setCell (J (w.heap.size + 1 + 1) 1) (.slice none 0 0))):=(((U HB).2.2.2.2.2.trans ((U xO).mono (U HB).2.2.2.2.2.size)).setCell (p:=(J (w.heap.size + 1 + 1) 0)) (show w.heap.size ≤ w.heap.size + 1 + 1 by omega) _).setCell (p:=(J (w.heap.size + 1 + 1) 1)) (show w.heap.size ≤ w.heap.size + 1 + 1 by omega) _
  have kI:Hid ((((w3.alloc (O #[] 37)).setCell (J (w.heap.size + 1 + 1) 0) (H 0)).setCell (J (w.heap.size + 1 + 1) 1) (.slice none 0 0)).cell? (J (w.heap.size + 1 + 1) 0) = some (H 0)):=(yM _ _ _ _ (bZ (by decide))).trans (yN _ _ _ x0)
  have qJ:Hid ((((w3.alloc (O #[] 37)).setCell (J (w.heap.size + 1 + 1) 0) (H 0)).setCell (J (w.heap.size + 1 + 1) 1) (.slice none 0 0)).cell? (J (w.heap.size + 1 + 1) 1) = some (.slice none 0 0)):=yN _ _ _ ((yM _ _ _ _ (bZ (by decide))).trans x1)
  clear un vW HSL2 vO uw HDO bF hne3
  go_wp2_with fail
  have d0:=U kI
  have d1:=U qJ
  try simp only [Exit.inBlock,Exit.then]
  refine bodyPost_ret (by simp [results,Tryz.results6,go_sem,d0,d1]; try rfl) rfl ?_
  obtain ⟨rfl,rfl,rfl,rfl⟩:=U HK
  exact ⟨_,_,rfl,World.ownsRow_nil _ _ _ _,U HEF,U HW⟩
 have HK:Hid (sN = tN∧sL = tL∧sE = tE∧sC = 0):=⟨by rw [U vW,if_pos un],by rw [U HSL2,if_pos un],by rw [U vO,if_pos un],by rw [U uw,if_pos un]⟩
 have HDO1:=M (U HDO un)
 have aT:=(okS_good un).1.len
 clear un vW HSL2 vO uw HDO
 obtain ⟨z0,z1,y0,y1,y2,y3,y4,y5,y6,y7⟩:=U xL w3 (U xG)
 go_wp2_with fail
 refine U xK _ _ ?_
 clear xK
 refine ic fun xh xK=>?_
 go_wp2_with fail
 refine (U HDO1 w3 (zh (U HR) ((U HB).2.2.2.2.2.trans ((U xG).mono (U HB).2.2.2.2.2.size)) hU)).mono ?_
 rintro e w4 ⟨vq4,vg4,rfl,hq4,jt,xy⟩
 obtain ⟨aq,cq,rfl⟩:=cT hq4
 obtain ⟨ag,cg,rfl⟩:=cT jt
 have bF:=gZ w4 (O #[H tN,.slice aq tL.length cq] 27)
 have vG:=M ((U xG).trans ((ia xy bF).mono (U xG).size))
 have HQ4:=M (zp hq4 bF)
 have uk:=M (zN jt bF)
 have X:w.heap.size + 1 + 1 < w3.heap.size:=yK vL (U xG).size
 have qd:=M (zk (U HB).2.2.2.2.1 (U vG) vL)
 have pE:Hid (World.rangeAt (w4.alloc (O #[H tN,.slice aq tL.length cq] 27)) w4.heap.size 0 [H tN,.slice aq tL.length cq]):=zm w4 [H tN,.slice aq tL.length cq] _
 clear bF xy hq4 jt z0 z1 y0 y1 y2 y3 y4 y5 y6 y7
 go_wp2_with fail
 refine U xK _ _ ?_
 clear xK
 generalize hWW:(w4.alloc (O #[H tN,.slice aq tL.length cq] 27)) = ho at vG HQ4 uk qd pE ⊢
 clear hWW
 obtain ⟨p0,x0,f0⟩:=zg (U qd) (j:=0) (by omega)
 obtain ⟨p1,x1,f1⟩:=zg (U qd) (j:=1) (by omega)
 have k0:ho.cell? (yq w4 0) = some (H tN):=U pE 0 _ rfl
 have k1:ho.cell? (yq w4 1) = some (.slice aq tL.length cq):=U pE 1 _ rfl
 have aN:=(U HB).2.2.2.2.2.trans ((U vG).mono (U HB).2.2.2.2.2.size)
 have HW:Hid (yn w ((ho.setCell (J (w.heap.size + 1 + 1) 0) (H tN)).setCell (J (w.heap.size + 1 + 1) 1) (.slice aq tL.length cq))):=(aN.setCell (p:=(J (w.heap.size + 1 + 1) 0)) (show w.heap.size ≤ w.heap.size + 1 + 1 by omega) _).setCell (p:=(J (w.heap.size + 1 + 1) 1)) (show w.heap.size ≤ w.heap.size + 1 + 1 by omega) _
 have HQF:Hid (ORow ((ho.setCell (J (w.heap.size + 1 + 1) 0) (H tN)).setCell (J (w.heap.size + 1 + 1) 1) (.slice aq tL.length cq)) w.heap.size (.slice aq tL.length cq) tL):=zR (dw (dw (U HQ4) X 0 _) X 1 _) (by omega)
 have qV:Hid (ERow ((ho.setCell (J (w.heap.size + 1 + 1) 0) (H tN)).setCell (J (w.heap.size + 1 + 1) 1) (.slice aq tL.length cq)) w.heap.size (.slice ag tE.length cg) tE):=zR (ed (ed (U uk) X 0 _) X 1 _) (by omega)
 have kI:Hid (((ho.setCell (J (w.heap.size + 1 + 1) 0) (H tN)).setCell (J (w.heap.size + 1 + 1) 1) (.slice aq tL.length cq)).cell? (J (w.heap.size + 1 + 1) 0) = some (H tN)):=(yM _ _ _ _ (bZ (by decide))).trans (yN _ _ _ x0)
 have qJ:Hid (((ho.setCell (J (w.heap.size + 1 + 1) 0) (H tN)).setCell (J (w.heap.size + 1 + 1) 1) (.slice aq tL.length cq)).cell? (J (w.heap.size + 1 + 1) 1) = some (.slice aq tL.length cq)):=yN _ _ _ ((yM _ _ _ _ (bZ (by decide))).trans x1)
 clear aN
 go_wp2_with fail
 have d0:=U kI
 have d1:=U qJ
 try simp only [Exit.inBlock,Exit.then]
 refine bodyPost_ret (by simp [results,Tryz.results6,go_sem,d0,d1]; try rfl) rfl ?_
 obtain ⟨rfl,rfl,rfl,rfl⟩:=U HK
 exact ⟨_,_,rfl,U HQF,U qV,U HW⟩
theorem look_only {d i:Nat}:∀ {ks:List (Nat × Nat)} {j:Nat},ks.lookup j = some d→ks.all (fun p=>p.2 != d || p.1 == i) = true→j = i
 | [],_,h,_=>by cases h
 | (a,b) :: r,j,h,K=>by
  rw [List.lookup_cons] at h
  simp only [List.all_cons,xf] at K
  by_cases e:j = a
  ·subst e
   simp at h
   subst h
   have:=K.1
   simp at this
   exact this
  ·have:(j == a) = false:=by rw [xe]; exact e
   rw [this] at h
   exact look_only h K.2
def DL (vs:List Value) (ks:List (Nat × Nat)) (S:Nat) (n N rc:Int) (l L:List Od) (hk:List Ev) (p:Prop) (W:World) (j:Nat) (v:Value):Prop :=
 match ks.lookup j with
 | none=>∀ u,vs[j]? = some u→v = u
 | some 1=>¬ p→∃ ad cp,v = .agg #[H n,.slice (some ad) l.length cp]∧RdR Od.vs 6 W (.slice (some ad) l.length cp) l
 | some 2=>∃ aq cq ag cg,v = .tuple #[.agg #[H N,.slice aq L.length cq],.slice ag hk.length cg,H rc]∧ORow W S (.slice aq L.length cq) L∧ERow W S (.slice ag hk.length cg) hk
 | some 3=>∃ aq cq,v = .agg #[H N,.slice aq L.length cq]∧ORow W S (.slice aq L.length cq) L
 | some 4=>∃ ag cg,v = .slice ag hk.length cg∧ERow W S (.slice ag hk.length cg) hk
 | some 5=>∃ b,v = I b 0∧S ≤ b∧b < W.heap.size∧W.there b 0 2∧(∃ xz,W.heap[b]? = some (.cells xz 27 (0,0)))∧(p→∃ aq cq,W.rangeAt b 0 [H N,.slice aq L.length cq]∧ORow W S (.slice aq L.length cq) L)
 | some _=>True
section
variable {vs:List Value} {ks:List (Nat × Nat)} {S:Nat} {n N rc:Int} {l L:List Od} {hk:List Ev} {p:Prop} {W W':World} {j d:Nat} {v u:Value}
theorem dl_val (h:DL vs ks S n N rc l L hk p W j v) (E:ks.lookup j = none) (hu:vs[j]? = some u):v = u:=by
 rw [DL,E] at h; exact h u hu
theorem dl_mkv (E:ks.lookup j = none) (hu:vs[j]? = some v):DL vs ks S n N rc l L hk p W j v:=by
 rw [DL,E]; intro u h; rw [hu] at h; cases h; rfl
theorem dl_2 (h:DL vs ks S n N rc l L hk p W j v) (E:ks.lookup j = some 2):∃ aq cq ag cg,v = .tuple #[.agg #[H N,.slice aq L.length cq],.slice ag hk.length cg,H rc]∧ORow W S (.slice aq L.length cq) L∧ERow W S (.slice ag hk.length cg) hk:=by
 rw [DL,E] at h; exact h
theorem dl_mk2 (E:ks.lookup j = some 2) (h:∃ aq cq ag cg,v = .tuple #[.agg #[H N,.slice aq L.length cq],.slice ag hk.length cg,H rc]∧ORow W S (.slice aq L.length cq) L∧ERow W S (.slice ag hk.length cg) hk):DL vs ks S n N rc l L hk p W j v:=by
 rw [DL,E]; exact h
theorem dl_3 (h:DL vs ks S n N rc l L hk p W j v) (E:ks.lookup j = some 3):∃ aq cq,v = .agg #[H N,.slice aq L.length cq]∧ORow W S (.slice aq L.length cq) L:=by
 rw [DL,E] at h; exact h
theorem dl_mk3 (E:ks.lookup j = some 3) (h:∃ aq cq,v = .agg #[H N,.slice aq L.length cq]∧ORow W S (.slice aq L.length cq) L):DL vs ks S n N rc l L hk p W j v:=by
 rw [DL,E]; exact h
theorem dl_4 (h:DL vs ks S n N rc l L hk p W j v) (E:ks.lookup j = some 4):∃ ag cg,v = .slice ag hk.length cg∧ERow W S (.slice ag hk.length cg) hk:=by
 rw [DL,E] at h; exact h
theorem dl_mk4 (E:ks.lookup j = some 4) (h:∃ ag cg,v = .slice ag hk.length cg∧ERow W S (.slice ag hk.length cg) hk):DL vs ks S n N rc l L hk p W j v:=by
 rw [DL,E]; exact h
theorem dl_5 (h:DL vs ks S n N rc l L hk p W j v) (E:ks.lookup j = some 5):∃ b,v = I b 0∧S ≤ b∧b < W.heap.size∧W.there b 0 2∧(∃ xz,W.heap[b]? = some (.cells xz 27 (0,0)))∧(p→∃ aq cq,W.rangeAt b 0 [H N,.slice aq L.length cq]∧ORow W S (.slice aq L.length cq) L):=by
 rw [DL,E] at h; exact h
theorem dl_mk5 (E:ks.lookup j = some 5) (hp:¬ p) (hS:S ≤ W.heap.size):DL vs ks S n N rc l L hk p (W.alloc (O #[H 0,.slice none 0 0] 27)) j (yp W 0):=by
 rw [DL,E]; exact ⟨W.heap.size,rfl,hS,by rw [zi]; omega,zM W [H 0,.slice none 0 0] _,⟨_,heap_alloc_new W _⟩,fun h=>absurd h hp⟩
theorem dl_mk9 (E:ks.lookup j = some 9):DL vs ks S n N rc l L hk p W j v:=by rw [DL,E]; trivial
theorem dl_grow:∀ p W W' j v,yn W W'→DL vs ks S n N rc l L hk p W j v→DL vs ks S n N rc l L hk p W' j v:=by
 intro p W W' j v A h
 unfold DL at h ⊢
 split
 ·next E=>rw [E] at h; exact h
 ·next E=>rw [E] at h; intro hp; obtain ⟨ad,cp,Q,D⟩:=h hp; exact ⟨ad,cp,Q,zh D A hU⟩
 ·next E=>rw [E] at h; obtain ⟨aq,cq,ag,cg,Q,D,X⟩:=h; exact ⟨aq,cq,ag,cg,Q,zp D A,zN X A⟩
 ·next E=>rw [E] at h; obtain ⟨aq,cq,Q,D⟩:=h; exact ⟨aq,cq,Q,zp D A⟩
 ·next E=>rw [E] at h; obtain ⟨ag,cg,Q,D⟩:=h; exact ⟨ag,cg,Q,zN D A⟩
 ·next E=>rw [E] at h; obtain ⟨b,Q,D,X,h4,⟨xz,h5⟩,h6⟩:=h; exact ⟨b,Q,D,yK X A.size,zk h4 A X,⟨xz,(A.block b X).trans h5⟩,fun hp=>by obtain ⟨aq,cq,h7,h8⟩:=h6 hp; exact ⟨aq,cq,zc h7 A X,zp h8 A⟩⟩
 ·trivial
theorem dl_store {b:Nat} {aq:Option Addr} {cq:Nat} (hS:S ≤ b) (xV:W.there b 0 2) (xM:b < W.heap.size) (qG:∃ xz,W.heap[b]? = some (.cells xz 27 (0,0))) (Y:ORow W S (.slice aq L.length cq) L) (h5:ks.lookup j = some 5→v = I b 0) (h:DL vs ks S n N rc l L hk False W j v):DL vs ks S n N rc l L hk True (W.setCells b 0 [H N,.slice aq L.length cq]) j v:=by
 have hO:∀ {v L},ORow W S v L→ORow (W.setCells b 0 [H N,.slice aq L.length cq]) S v L:=fun h=>gk (df h qG (by decide)) _ _ _ h
 have hO':∀ {v:Value} {L':List Od},ORow W S v L'→ORow (W.setCells b 0 [H N,.slice aq L.length cq]) S v L':=fun h=>gk (df h qG (by decide)) _ _ _ h
 have hE:∀ {v:Value} {E':List Ev},ERow W S v E'→ERow (W.setCells b 0 [H N,.slice aq L.length cq]) S v E':=fun h=>gk (df h qG (by decide)) _ _ _ h
 unfold DL at h ⊢
 split
 ·next E=>rw [E] at h; exact h
 ·next E=>intro hp; exact absurd trivial hp
 ·next E=>rw [E] at h; obtain ⟨aq,cq,ag,cg,Q,D,X⟩:=h; exact ⟨aq,cq,ag,cg,Q,hO' D,hE X⟩
 ·next E=>rw [E] at h; obtain ⟨aq,cq,Q,D⟩:=h; exact ⟨aq,cq,Q,hO' D⟩
 ·next E=>rw [E] at h; obtain ⟨ag,cg,Q,D⟩:=h; exact ⟨ag,cg,Q,hE D⟩
 ·next E =>
  refine ⟨b,h5 E,hS,by rw [eA]; exact xM,xc xV _ _ _,?_,fun _=>⟨aq,cq,yY W b 0 _ (fun j hj=>xV j hj),hO' Y⟩⟩
  obtain ⟨xz,hc⟩:=qG
  exact kind_setC W b _ 0 hc
 ·trivial
end
theorem rg_write2 {base W W':World} {k:Nat} {h2:Prop→World→Nat→Value→Prop} {x:List Bool} {f:Nat→Value} (A:yn base W') (h:∀ j,x[j]? = some true→h2 (x[k]? = some true) W j (f j)) (E:x[k]? = some false) (hm:∀ j,j ≠ k→x[j]? = some true→h2 False W j (f j)→h2 True W' j (f j)) (hv:h2 True W' k (f k)) :
  yn base W'∧∀ j,(x.set k true)[j]? = some true→h2 ((x.set k true)[k]? = some true) W' j (f j):=by
 have e:((x.set k true)[k]? = some true) = True:=by
  rw [List.getElem?_set_self (yH.1 E).1]; simp
 refine ⟨A,fun j hj=>?_⟩
 rw [e]
 by_cases hji:j = k
 ·subst hji; exact hv
 ·rw [yX (fun e=>hji e.symm)] at hj
  refine hm j hji hj ?_
  have:=h j hj
  rw [E] at this
  simpa using this
theorem smBook_same (n:Int) (va vb:Value) (l:List Od) (w:World) (ha:RdR Od.vs 6 w va l) (A:RdR Od.vs 6 w vb l) :
  Calls Tryz.prog 10 #[.agg #[H n,va],.agg #[H n,vb]] w fun e w'=>e = ym (.bool true)∧yn w w':=by
 obtain ⟨aa,ca,rfl,hl,hca⟩:=ha
 obtain ⟨ab,cb,rfl,_,hcb⟩:=A
 have xr:∀ (k:Nat) (c:Od),l[k]? = some c→∃ b off b' jQ,aa = some (J b off)∧ab = some (J b' jQ)∧b < w.heap.size∧b' < w.heap.size∧w.rangeAt b (off + k * 6) c.vs∧w.rangeAt b' (jQ + k * 6) c.vs:=by
  intro k c E
  have xC:l ≠ []:=by intro h; rw [h] at E; simp at E
  obtain ⟨b,off,Q,D,X⟩:=hca xC
  obtain ⟨b',jQ,aM,og,h3'⟩:=hcb xC
  exact ⟨b,off,b',jQ,Q,aM,D,og,X k c E,h3' k c E⟩
 have HC:=M xr
 clear xr hca hcb
 have Q:=gZ w (O #[H n,.slice aa l.length ca] 27)
 have x1:=zy w [H n,.slice aa l.length ca] 27
 have s1:=zi w (O #[H n,.slice aa l.length ca] 27)
 have D:Below (w.alloc (O #[H n,.slice aa l.length ca] 27)).heap.size (w.alloc (O #[H n,.slice aa l.length ca] 27)) ((w.alloc (O #[H n,.slice aa l.length ca] 27)).alloc (O #[H n,.slice ab l.length cb] 27)):=gZ _ _
 have x2:=zy (w.alloc (O #[H n,.slice aa l.length ca] 27)) [H n,.slice ab l.length cb] 27
 have s2:=zi (w.alloc (O #[H n,.slice aa l.length ca] 27)) (O #[H n,.slice ab l.length cb] 27)
 have x1':=zl x1 D (by rw [s1]; omega)
 have xt:=M (ia Q D)
 rw [s1] at x2 s2
 have HX:Hid (_∧_∧_):=⟨x1',x2,s2⟩
 clear Q x1 s1 D x2 s2 x1'
 go_enter Tryz.func10,Tryz.ntmps10
 go_wp2_with fail
 generalize ((w.alloc (O #[H n,.slice aa l.length ca] 27)).alloc (O #[H n,.slice ab l.length cb] 27)) = W2 at xt HX ⊢
 go_loopw [5] (fun i wr=>∃ k:Nat,k ≤ l.length∧i = H k∧yn W2 wr) (fun i _=>l.length - (intOf i).toNat)
 case atStart=>exact ⟨0,Nat.zero_le _,rfl,Below.refl _ _⟩
 case round =>
  obtain ⟨k,E,rfl,xi⟩:=hrel
  have HB:=M xi
  obtain ⟨r1,r2,ug⟩:=U HX
  have d1:=zb (zl r1 xi (by omega)) 1 rfl
  have d2:=zb (zl r2 xi (by omega)) 1 rfl
  clear r1 r2 xi
  by_cases xM:k < l.length
  ·obtain ⟨c,uV⟩:∃ c,l[k]? = some c:=⟨_,yI xM⟩
   obtain ⟨b,off,b',jQ,rfl,rfl,A,hb',xo,qQ⟩:=U HC k c uV
   obtain ⟨p0,p1,p2,p3,p4,p5⟩:=zC (zc (zc xo (U xt) A) (U HB) (yK A (U xt).size))
   obtain ⟨q0,q1,q2,q3,q4,q5⟩:=zC (zc (zc qQ (U xt) hb') (U HB) (yK hb' (U xt).size))
   have vj:(k:Int) < l.length:=by omega
   clear uV xo qQ A hb'
   go_wp2_with fail
   go_quiet (fail)
   go_wp2_with fail
   go_roundw
   case rel=>exact ⟨k + 1,by omega,by go_num,dI (U HB) nq⟩
   case measure=>simp [intOf]; omega
  ·go_wp2_with fail
   go_ret
   exact ⟨rfl,(U xt).trans ((U HB).mono (U xt).size)⟩
end Go.Proofs.YthhkapcbocgcoaaGreatDoor
