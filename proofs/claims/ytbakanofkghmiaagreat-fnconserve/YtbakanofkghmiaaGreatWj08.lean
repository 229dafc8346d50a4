/-
  The front of a tree: proved by walking the function.
-/
import Derived.Test.YtbakanofkghmiaaGreatWj07
set_option linter.unusedVariables false
set_option maxHeartbeats 6400000
set_option maxRecDepth 100000
namespace Go.Proofs.YtbakanofkghmiaaGreat
open Go.RowKit
theorem best_s {S:TS}:∀ {t:Tr} {v:Nat},Rep S.nd t v→t ≠ .nil→v ∈ t.hs∧((S.nd v).be = 0→t.hs.head? = some v)∧((S.nd v).be ≠ 0→∃ l,Rep S.nd l (S.nd v).be∧l ≠ .nil∧l.hs.head? = t.hs.head?∧l.hs.length < t.hs.length∧∀ a ∈ l.hs,a ∈ t.hs)
 | .nil,_,_,h=>absurd rfl h
 | .node h l r,v,⟨e,h0,G,E⟩,_=>by
  subst e
  refine ⟨by simp [Tr.hs],fun F=>?_,fun F=>⟨l,G,?_,?_,?_,fun a ha=>by simp [Tr.hs,ha]⟩⟩
  ·rw [F] at G; obtain rfl:=rep_nil G; rfl
  ·rintro rfl; exact F G
  ·cases l with
   | nil=>exact absurd G F
   | node a l' r'=>simp [Tr.hs]
  ·simp [Tr.hs]
def FrI_s (S:TS) (hd:Option Nat) (w0:World) (k:Nat) (p:Value) (wr:World):Prop:=∃ (t:Tr) (v:Nat),p = H v∧Rep S.nd t v∧t ≠ .nil∧t.hs.head? = hd∧t.hs.length ≤ k∧(∀ a ∈ t.hs,a < 21)∧w0 = wr
theorem front_s (b:Nat) (sd:Int) (seq:List Od) (w:World) (h:aS 179 false w b sd seq) (hn:seq.length ≤ 20) :
  Calls Tryz.prog 126 #[I b 0] w fun e w'=>e = ym (frOf (quOf false seq))∧yn w w':=by
 obtain ⟨S,t,hT,hi,hq,qK⟩:=h
 have hou:=tree_orders hi hq
 have qJ:∀ a ∈ t.hs,a < 21:=fun a ha=>by have:=(hi.range a ha).2; omega
 have HT:=Y hT
 have jZ:=hT.root
 have jB:=tm_lt hT
 by_cases pU:S.root = 0
 ·have ht:=hi.rep
  rw [pU] at ht jZ
  obtain rfl:=rep_nil ht
  have HF:Hid (frOf (quOf false seq) = .tuple #[zOdv,.bool false]):=by show _ = _; rw [← hou]; rfl
  clear hi hq qK hou hT ht qJ
  go_enter Tryz.func126,Tryz.ntmps126
  go_wp2_with fail
  go_returns
  refine ⟨by rw [U HF]; rfl,?_⟩
  go_grown
 ·have xB:t ≠ .nil:=by rintro rfl; exact pU hi.rep
  have HI:=Y hi
  have HQ:=Y hq
  have HOU:=Y hou
  have HH:=Y qJ
  have HNE:=Y xB
  have hr0':¬ ((S.root:Int) = 0):=by omega
  clear hi hq qK hou hT qJ xB
  go_enter Tryz.func126,Tryz.ntmps126
  go_wp2_with fail
  go_loopg [4] (t.hs.length) (fun k p wr=>FrI_s S t.hs.head? (w.alloc (eF (yv 0 0 0 0 0 ⟨#[]⟩).toArray 49)) k p wr)
  case atStart=>exact ⟨t,S.root,rfl,(U HI).rep,U HNE,rfl,Nat.le_refl _,U HH,rfl⟩
  case round =>
   obtain ⟨t1,v,rfl,G,E,h3,h4,h5,rfl⟩:=hrel
   obtain ⟨b1,b2,b3⟩:=best_s G E
   have hv21:=h5 v b1
   have hv21':(v:Int) < 21:=by omega
   have qm:=bu (U HT) (Below.heap_alloc w (eF (yv 0 0 0 0 0 ⟨#[]⟩).toArray 49) b jB)
   obtain ⟨-,-,-,-,n4,-,n6,-⟩:=zL (qm.nd v hv21)
   have H3:=Y h3
   have H4:=Y h4
   have H5:=Y h5
   by_cases kT:(S.nd v).be = 0
   ·have oV:=b2 kT
    rw [h3] at oV
    have hvm:v ∈ t.hs:=List.mem_of_head? oV
    have hQ:=(U HQ).q v hvm
    obtain ⟨e,rest,hqs⟩:∃ e rest,qs seq (S.nd v).ticks = e :: rest:=by
     cases hqq:qs seq (S.nd v).ticks with
     | nil=>exact absurd hqq hQ.ne
     | cons e rest=>exact ⟨e,rest,rfl⟩
    have hch:=hQ.chain
    rw [hqs] at hch
    obtain ⟨he,he0,-⟩:=hch
    have he21:e < 21:=by
     have:=(bT (S.nd v).ticks seq 1 e (by have h:e ∈ qs seq (S.nd v).ticks:=(by rw [hqs]; simp); exact h)).2.1
     omega
    have he21':(e:Int) < 21:=by omega
    have HF:Hid (frOf (quOf false seq) = .tuple #[(S.qo e).od.val,.bool true]):=by
     show _ = _
     rw [← U HOU]
     obtain ⟨tl,htl⟩:∃ tl,t.hs = v :: tl:=by
      cases hh:t.hs with
      | nil=>rw [hh] at oV; simp at oV
      | cons a r=>rw [hh] at oV; simp at oV; rw [oV]; exact ⟨r,rfl⟩
     rw [htl,List.flatMap_cons,hqs]
     rfl
    obtain ⟨q0,q1,q2,q3,q4,q5,-⟩:=dF (qm.qo e he21)
    rw [he] at n6
    rw [kT] at n4
    clear G E h3 h4 h5 b1 b2 b3 qm oV hvm hQ hqs he kT
    go_wp2_with fail
    go_region
    go_wp2_with fail
    go_returns
    refine ⟨by rw [U HF]; rfl,?_⟩
    go_grown
   ·obtain ⟨l,l1,l2,l3,l4,l5⟩:=b3 kT
    have hbe':¬ (((S.nd v).be:Int) = 0):=by omega
    have HL:Hid (Rep S.nd l (S.nd v).be∧l ≠ .nil∧l.hs.head? = t1.hs.head?∧l.hs.length < t1.hs.length∧∀ a ∈ l.hs,a ∈ t1.hs):=⟨l1,l2,l3,l4,l5⟩
    clear G E h3 h4 h5 b1 b2 b3 qm l1 l2 l3 l4 l5 kT
    go_wp2_with fail
    go_roundg (l.hs.length)
    case measure=>have:=U H4; have:=(U HL).2.2.2.1; omega
    case rel=>exact ⟨l,_,rfl,(U HL).1,(U HL).2.1,(U HL).2.2.1.trans (U H3),Nat.le_refl _,fun a ha=>U H5 a ((U HL).2.2.2.2 a ha),rfl⟩
def cj (b:Nat):Value:=.agg #[.func (.func 126) #[I b 0] #[],.func (.func 127) #[I b 0] #[],.func (.func 128) #[I b 0] #[]]
theorem ask_s (b:Nat) (w:World) :
  Calls Tryz.prog 77 #[I b 0] w fun e w'=>e = ym (cj b)∧yn w w':=by
 have hmf:∀ (fn:Fn) (first A:Array Value) (w:World),(Instr.makeFunc fn first A).run Tryz.prog w = .ok (.func fn first A) w:=fun _ _ _ _=>rfl
 go_enter Tryz.func77,Tryz.ntmps77
 go_wp2_with fail
 go_returns
 refine ⟨rfl,?_⟩
 go_grown
theorem sideOf_buy (next:Int) (v:Value) (l:List Od) (w:World) (hr:RdR Od.vs 6 w v l) (hn:l.length ≤ 20) (hl:∀ o' ∈ l,0 ≤ o'.left∧o'.left ≤ 1000000) :
  Calls Tryz.prog 38 #[.agg #[H next,v],H 1] w fun e w' =>
   ∃ b,e = ym (ch b)∧aS 176 true w' b 1 (zx l 1)∧w.heap.size ≤ b∧yn w w':=by
 have HR:=Y hr
 have HL:=Y hl
 obtain ⟨a,A,rfl,xE,hc⟩:=hr
 have xA:=zh w (eF #[H next,.slice a l.length A] 28)
 have r1:=zi (w.alloc (eF #[H next,.slice a l.length A] 28)) [.nilFunc,.nilFunc,.nilFunc] 81
 have t1:=cS (n:=3) (heap_alloc_new (w.alloc (eF #[H next,.slice a l.length A] 28)) (eF #[.nilFunc,.nilFunc,.nilFunc] 81)) (by simp)
 rw [xA] at r1 t1
 have ua:((w.alloc (eF #[H next,.slice a l.length A] 28)).alloc (eF #[.nilFunc,.nilFunc,.nilFunc] 81)).heap.size = w.heap.size + 1 + 1:=by rw [zh,xA]
 have vn:Hid (yn w ((w.alloc (eF #[H next,.slice a l.length A] 28)).alloc (eF #[.nilFunc,.nilFunc,.nilFunc] 81))) :=
  (eD _ _).alloc (by rw [xA]; omega) _
 have HX:Hid (_∧_):=⟨r1,t1⟩
 have jf:=Y ua
 clear r1 t1 xA ua hc hl
 go_enter Tryz.func38,Tryz.ntmps38
 go_wp2_with fail
 generalize ((w.alloc (eF #[H next,.slice a l.length A] 28)).alloc (eF #[.nilFunc,.nilFunc,.nilFunc] 81)) = W2 at vn HX jf ⊢
 refine (plant_b _ l 1 W2 (zn (U HR) (U vn) qt) hn (U HL)).mono ?_
 rintro e w1 ⟨rfl,ob,xW⟩
 have vU:=Y ob
 have xU:=Y xW
 clear ob xW
 go_wp2_with fail
 refine (ask_b W2.heap.size w1).mono ?_
 rintro e w2 ⟨rfl,xY⟩
 have pG:=Y (zG (U vU) (xY.block _ (bz (U vU))))
 have qU:=(U xU).trans (xY.mono (U xU).size)
 obtain ⟨x1,x2⟩:=U HX
 have y1:=zb x1 qU (by rw [U jf]; omega)
 have y2:=zg x2 qU (by rw [U jf]; omega)
 have xD:=Y (D (U vn) qU)
 have c0:w2.cell? (J (w.heap.size + 1) 0) = some .nilFunc:=y1 0 _ rfl
 have c1:w2.cell? (J (w.heap.size + 1) 1) = some .nilFunc:=y1 1 _ rfl
 have c2:w2.cell? (J (w.heap.size + 1) 2) = some .nilFunc:=y1 2 _ rfl
 have f0:w2.frozen? (J (w.heap.size + 1) 0) = false:=(y2 0 (by omega)).2
 have f1:w2.frozen? (J (w.heap.size + 1) 1) = false:=(y2 1 (by omega)).2
 have f2:w2.frozen? (J (w.heap.size + 1) 2) = false:=(y2 2 (by omega)).2
 clear xY qU x1 x2 y1 y2
 unfold ch
 generalize hF0:Value.func (.func 122) #[yp W2 0] #[] = F0
 generalize hF1:Value.func (.func 123) #[yp W2 0] #[] = F1
 generalize hF2:Value.func (.func 124) #[yp W2 0] #[] = F2
 have qy:∀ (W:World) (o:Nat) (m:Mode),((store (J (w.heap.size + 1) o) F0 m).run Tryz.prog W = stored Tryz.prog W (J (w.heap.size + 1) o) F0 m)∧((store (J (w.heap.size + 1) o) F1 m).run Tryz.prog W = stored Tryz.prog W (J (w.heap.size + 1) o) F1 m)∧((store (J (w.heap.size + 1) o) F2 m).run Tryz.prog W = stored Tryz.prog W (J (w.heap.size + 1) o) F2 m):=fun W o m=>by
  subst hF0 hF1 hF2
  exact ⟨run_store _ W _ _ m rfl,run_store _ W _ _ m rfl,run_store _ W _ _ m rfl⟩
 have hst0:=fun W o m=>(qy W o m).1
 have hst1:=fun W o m=>(qy W o m).2.1
 have hst2:=fun W o m=>(qy W o m).2.2
 clear qy
 go_wp2_with fail
 have hn01:((J (w.heap.size + 1) 0):Addr) ≠ (J (w.heap.size + 1) 1):=fun e=>by simp at e
 have hn02:((J (w.heap.size + 1) 0):Addr) ≠ (J (w.heap.size + 1) 2):=fun e=>by simp at e
 have hn12:((J (w.heap.size + 1) 1):Addr) ≠ (J (w.heap.size + 1) 2):=fun e=>by simp at e
 have d2:(((w2.setCell (J (w.heap.size + 1) 0) F0).setCell (J (w.heap.size + 1) 1) F1).setCell (J (w.heap.size + 1) 2) F2).cell? (J (w.heap.size + 1) 2) = some F2 :=
  yM _ _ _ ((yL _ _ _ _ hn12).trans ((yL _ _ _ _ hn02).trans c2))
 have d1:(((w2.setCell (J (w.heap.size + 1) 0) F0).setCell (J (w.heap.size + 1) 1) F1).setCell (J (w.heap.size + 1) 2) F2).cell? (J (w.heap.size + 1) 1) = some F1 :=
  (yL _ _ _ _ hn12.symm).trans (yM _ _ _ ((yL _ _ _ _ hn01).trans c1))
 have d0:(((w2.setCell (J (w.heap.size + 1) 0) F0).setCell (J (w.heap.size + 1) 1) F1).setCell (J (w.heap.size + 1) 2) F2).cell? (J (w.heap.size + 1) 0) = some F0 :=
  (yL _ _ _ _ hn02.symm).trans ((yL _ _ _ _ hn01.symm).trans (yM _ _ _ c0))
 have xB:W2.heap.size ≠ w.heap.size + 1:=by rw [U jf]; omega
 have HT5:=Y (zG (U pG) (w':=((w2.setCell (J (w.heap.size + 1) 0) F0).setCell (J (w.heap.size + 1) 1) F1).setCell (J (w.heap.size + 1) 2) F2) ((yS _ _ _ _ xB).trans ((yS _ _ _ _ xB).trans (yS _ _ _ _ xB))))
 have km:=Y ((((U xD).setCell (p:=(J (w.heap.size + 1) 0)) (by simp) F0).setCell (p:=(J (w.heap.size + 1) 1)) (by simp) F1).setCell (p:=(J (w.heap.size + 1) 2)) (by simp) F2)
 generalize ((w2.setCell (J (w.heap.size + 1) 0) F0).setCell (J (w.heap.size + 1) 1) F1).setCell (J (w.heap.size + 1) 2) F2 = W5 at *
 try simp only [Exit.inBlock,Exit.then]
 refine bodyPost_ret (by simp [results,Tryz.results38,go_sem,d0,d1,d2]; try rfl) rfl ?_
 refine ⟨W2.heap.size,?_,U HT5,by rw [U jf]; omega,U km⟩
 subst hF0 hF1 hF2
 rfl
theorem sideOf_sell (next:Int) (sd:Int) (uD:¬ sd = 1) (v:Value) (l:List Od) (w:World) (hr:RdR Od.vs 6 w v l) (hn:l.length ≤ 20) (hl:∀ o' ∈ l,0 ≤ o'.left∧o'.left ≤ 1000000) :
  Calls Tryz.prog 38 #[.agg #[H next,v],H sd] w fun e w' =>
   ∃ b,e = ym (cj b)∧aS 179 false w' b sd (zx l sd)∧w.heap.size ≤ b∧yn w w':=by
 have HR:=Y hr
 have HL:=Y hl
 obtain ⟨a,A,rfl,xE,hc⟩:=hr
 have xA:=zh w (eF #[H next,.slice a l.length A] 28)
 have r1:=zi (w.alloc (eF #[H next,.slice a l.length A] 28)) [.nilFunc,.nilFunc,.nilFunc] 81
 have t1:=cS (n:=3) (heap_alloc_new (w.alloc (eF #[H next,.slice a l.length A] 28)) (eF #[.nilFunc,.nilFunc,.nilFunc] 81)) (by simp)
 rw [xA] at r1 t1
 have ua:((w.alloc (eF #[H next,.slice a l.length A] 28)).alloc (eF #[.nilFunc,.nilFunc,.nilFunc] 81)).heap.size = w.heap.size + 1 + 1:=by rw [zh,xA]
 have vn:Hid (yn w ((w.alloc (eF #[H next,.slice a l.length A] 28)).alloc (eF #[.nilFunc,.nilFunc,.nilFunc] 81))) :=
  (eD _ _).alloc (by rw [xA]; omega) _
 have HX:Hid (_∧_):=⟨r1,t1⟩
 have jf:=Y ua
 clear r1 t1 xA ua hc hl
 go_enter Tryz.func38,Tryz.ntmps38
 go_wp2_with fail
 generalize ((w.alloc (eF #[H next,.slice a l.length A] 28)).alloc (eF #[.nilFunc,.nilFunc,.nilFunc] 81)) = W2 at vn HX jf ⊢
 refine (plant_s _ l sd W2 (zn (U HR) (U vn) qt) hn (U HL)).mono ?_
 rintro e w1 ⟨rfl,ob,xW⟩
 have vU:=Y ob
 have xU:=Y xW
 clear ob xW
 go_wp2_with fail
 refine (ask_s W2.heap.size w1).mono ?_
 rintro e w2 ⟨rfl,xY⟩
 have pG:=Y (zG (U vU) (xY.block _ (bz (U vU))))
 have qU:=(U xU).trans (xY.mono (U xU).size)
 obtain ⟨x1,x2⟩:=U HX
 have y1:=zb x1 qU (by rw [U jf]; omega)
 have y2:=zg x2 qU (by rw [U jf]; omega)
 have xD:=Y (D (U vn) qU)
 have c0:w2.cell? (J (w.heap.size + 1) 0) = some .nilFunc:=y1 0 _ rfl
 have c1:w2.cell? (J (w.heap.size + 1) 1) = some .nilFunc:=y1 1 _ rfl
 have c2:w2.cell? (J (w.heap.size + 1) 2) = some .nilFunc:=y1 2 _ rfl
 have f0:w2.frozen? (J (w.heap.size + 1) 0) = false:=(y2 0 (by omega)).2
 have f1:w2.frozen? (J (w.heap.size + 1) 1) = false:=(y2 1 (by omega)).2
 have f2:w2.frozen? (J (w.heap.size + 1) 2) = false:=(y2 2 (by omega)).2
 clear xY qU x1 x2 y1 y2
 unfold cj
 generalize hF0:Value.func (.func 126) #[yp W2 0] #[] = F0
 generalize hF1:Value.func (.func 127) #[yp W2 0] #[] = F1
 generalize hF2:Value.func (.func 128) #[yp W2 0] #[] = F2
 have qy:∀ (W:World) (o:Nat) (m:Mode),((store (J (w.heap.size + 1) o) F0 m).run Tryz.prog W = stored Tryz.prog W (J (w.heap.size + 1) o) F0 m)∧((store (J (w.heap.size + 1) o) F1 m).run Tryz.prog W = stored Tryz.prog W (J (w.heap.size + 1) o) F1 m)∧((store (J (w.heap.size + 1) o) F2 m).run Tryz.prog W = stored Tryz.prog W (J (w.heap.size + 1) o) F2 m):=fun W o m=>by
  subst hF0 hF1 hF2
  exact ⟨run_store _ W _ _ m rfl,run_store _ W _ _ m rfl,run_store _ W _ _ m rfl⟩
 have hst0:=fun W o m=>(qy W o m).1
 have hst1:=fun W o m=>(qy W o m).2.1
 have hst2:=fun W o m=>(qy W o m).2.2
 clear qy
 go_wp2_with fail
 have hn01:((J (w.heap.size + 1) 0):Addr) ≠ (J (w.heap.size + 1) 1):=fun e=>by simp at e
 have hn02:((J (w.heap.size + 1) 0):Addr) ≠ (J (w.heap.size + 1) 2):=fun e=>by simp at e
 have hn12:((J (w.heap.size + 1) 1):Addr) ≠ (J (w.heap.size + 1) 2):=fun e=>by simp at e
 have d2:(((w2.setCell (J (w.heap.size + 1) 0) F0).setCell (J (w.heap.size + 1) 1) F1).setCell (J (w.heap.size + 1) 2) F2).cell? (J (w.heap.size + 1) 2) = some F2 :=
  yM _ _ _ ((yL _ _ _ _ hn12).trans ((yL _ _ _ _ hn02).trans c2))
 have d1:(((w2.setCell (J (w.heap.size + 1) 0) F0).setCell (J (w.heap.size + 1) 1) F1).setCell (J (w.heap.size + 1) 2) F2).cell? (J (w.heap.size + 1) 1) = some F1 :=
  (yL _ _ _ _ hn12.symm).trans (yM _ _ _ ((yL _ _ _ _ hn01).trans c1))
 have d0:(((w2.setCell (J (w.heap.size + 1) 0) F0).setCell (J (w.heap.size + 1) 1) F1).setCell (J (w.heap.size + 1) 2) F2).cell? (J (w.heap.size + 1) 0) = some F0 :=
  (yL _ _ _ _ hn02.symm).trans ((yL _ _ _ _ hn01.symm).trans (yM _ _ _ c0))
 have xB:W2.heap.size ≠ w.heap.size + 1:=by rw [U jf]; omega
 have HT5:=Y (zG (U pG) (w':=((w2.setCell (J (w.heap.size + 1) 0) F0).setCell (J (w.heap.size + 1) 1) F1).setCell (J (w.heap.size + 1) 2) F2) ((yS _ _ _ _ xB).trans ((yS _ _ _ _ xB).trans (yS _ _ _ _ xB))))
 have km:=Y ((((U xD).setCell (p:=(J (w.heap.size + 1) 0)) (by simp) F0).setCell (p:=(J (w.heap.size + 1) 1)) (by simp) F1).setCell (p:=(J (w.heap.size + 1) 2)) (by simp) F2)
 generalize ((w2.setCell (J (w.heap.size + 1) 0) F0).setCell (J (w.heap.size + 1) 1) F1).setCell (J (w.heap.size + 1) 2) F2 = W5 at *
 try simp only [Exit.inBlock,Exit.then]
 refine bodyPost_ret (by simp [results,Tryz.results38,go_sem,d0,d1,d2]; try rfl) rfl ?_
 refine ⟨W2.heap.size,?_,U HT5,by rw [U jf]; omega,U km⟩
 subst hF0 hF1 hF2
 rfl
def hdO (q:List Od):Od:=(q.head?).getD zOd
def hdF (q:List Od):Bool:=(q.head?).isSome
theorem frOf_eq (q:List Od):frOf q = .tuple #[.agg (yv ((hdO q).id) ((hdO q).side) ((hdO q).ticks) ((hdO q).left) ((hdO q).life) ((hdO q).tag)).toArray,.bool (hdF q)]:=by
 unfold frOf hdO hdF
 cases q.head? <;> rfl
def noV (c:Cm):Value:=.agg #[H c.s,H c.t,H c.l,H c.q,yj c.p,yk c.g]
def aO (t:Int):Bool:=decide (t = 1) || decide (t = 5)
def prcB (c:Cm):Bool:=if c.t = 2 then decide (fbit c.p = 0) else tkOk c.p
def aZ (c:Cm) (o:Od):Bool:=if c.t = 2 then true else if c.s = 1 then decide (o.ticks ≤ tk c.p) else decide (tk c.p ≤ o.ticks)
def ordO (c:Cm) (id:Int):Od:=⟨id,c.s,tk c.p,c.q,c.l,c.g⟩
def othS (s:Int):Int:=if s = 1 then 2 else 1
theorem isType_any (t:Int) (w:World) :
  Calls Tryz.prog 144 #[H t] w fun e w'=>e = ym (.bool (betB t 1 5))∧w' = w:=by
 go_enter Tryz.func144,Tryz.ntmps144
 go_wp2_with fail
 refine (dU t 1 5 w).mono ?_
 rintro e w' ⟨rfl,rfl⟩
 go_wp2_with fail
 go_ret
 exact ⟨rfl,rfl⟩
theorem isQty_any (t:Int) (w:World) :
  Calls Tryz.prog 146 #[H t] w fun e w'=>e = ym (.bool (betB t 1 1000000))∧w' = w:=by
 go_enter Tryz.func146,Tryz.ntmps146
 go_wp2_with fail
 refine (dU t 1 1000000 w).mono ?_
 rintro e w' ⟨rfl,rfl⟩
 go_wp2_with fail
 go_ret
 exact ⟨rfl,rfl⟩
theorem otherSide_any (s:Int) (w:World) :
  Calls Tryz.prog 149 #[H s] w fun e w'=>e = ym (H (othS s))∧w' = w:=by
 by_cases h:s = 1
 ·subst h
  go_enter Tryz.func149,Tryz.ntmps149
  go_wp2_with fail
  go_ret
  exact ⟨rfl,rfl⟩
 ·have h':(s == 1) = false:=by simpa using h
  have HS:Hid (othS s = 1):=if_neg h
  go_enter Tryz.func149,Tryz.ntmps149
  go_wp2_with fail
  go_ret
  exact ⟨zr (U HS).symm,rfl⟩
theorem dT (c:Cm) (w:World) :
  Calls Tryz.prog 114 #[noV c] w fun e w'=>e = ym (.bool (aO c.t))∧yn w w':=by
 obtain ⟨k,s,t,l,q,i,p,g⟩:=c
 unfold noV
 simp only
 by_cases G:t = 1
 ·subst G
  go_enter Tryz.func114,Tryz.ntmps114
  go_wp2_with fail
  go_ret
  exact ⟨rfl,by go_grown⟩
 ·have b1:(t == 1) = false:=by simpa using G
  by_cases h5:t = 5
  ·subst h5
   go_enter Tryz.func114,Tryz.ntmps114
   go_wp2_with fail
   go_ret
   exact ⟨rfl,by go_grown⟩
  ·have b5:(t == 5) = false:=by simpa using h5
   have HR:Hid (aO t = false):=by show aO t = false; simp [aO,G,h5]
   go_enter Tryz.func114,Tryz.ntmps114
   go_wp2_with fail
   go_ret
   exact ⟨zB (U HR).symm,by go_grown⟩
theorem hasPrice_any (c:Cm) (w:World) :
  Calls Tryz.prog 145 #[noV c] w fun e w'=>e = ym (.bool (prcB c))∧yn w w':=by
 obtain ⟨k,s,t,l,q,i,p,g⟩:=c
 unfold noV
 simp only
 have HB:Hid (yn w (w.alloc (eF #[H s,H t,H l,H q,yj p,yk g] 112))):=eD _ _
 by_cases E:t = 2
 ·subst E
  have HP:Hid (prcB ⟨k,s,2,l,q,i,p,g⟩ = decide (fbit p = 0)):=if_pos rfl
  go_enter Tryz.func145,Tryz.ntmps145
  go_wp2_with fail
  refine (floatBits_any p _).mono ?_
  rintro e w' ⟨rfl,rfl⟩
  go_wp2_with fail
  go_ret
  exact ⟨zB (by rw [U HP,Bool.eq_iff_iff]; simp),U HB⟩
 ·have b2:(t == 2) = false:=by simpa using E
  have HP:Hid (prcB ⟨k,s,t,l,q,i,p,g⟩ = tkOk p):=if_neg E
  go_enter Tryz.func145,Tryz.ntmps145
  go_wp2_with fail
  refine (dW p _).mono ?_
  rintro e w' ⟨rfl,rfl⟩
  go_wp2_with fail
  go_ret
  exact ⟨zB (U HP).symm,U HB⟩
theorem meets_any (c:Cm) (o:Od) (w:World) :
  Calls Tryz.prog 150 #[noV c,.agg (yv o.id o.side o.ticks o.left o.life o.tag).toArray] w fun e w'=>e = ym (.bool (aZ c o))∧yn w w':=by
 obtain ⟨k,s,t,l,q,i,p,g⟩:=c
 obtain ⟨id,side,ticks,left,life,tag⟩:=o
 unfold noV
 simp only
 have HB:Hid (yn w ((w.alloc (eF #[H s,H t,H l,H q,yj p,yk g] 112)).alloc (eF (yv id side ticks left life tag).toArray 49))):=(eD _ _).alloc (by rw [zh]; omega) _
 by_cases E:t = 2
 ·subst E
  have HP:Hid (aZ ⟨k,s,2,l,q,i,p,g⟩ ⟨id,side,ticks,left,life,tag⟩ = true):=if_pos rfl
  go_enter Tryz.func150,Tryz.ntmps150
  go_wp2_with fail
  go_ret
  exact ⟨zB (U HP).symm,U HB⟩
 ·have b2:(t == 2) = false:=by simpa using E
  by_cases G:s = 1
  ·subst G
   have HP:Hid (aZ ⟨k,1,t,l,q,i,p,g⟩ ⟨id,side,ticks,left,life,tag⟩ = decide (ticks ≤ tk p)):=by show _ = _; rw [aZ,if_neg E]; rfl
   go_enter Tryz.func150,Tryz.ntmps150
   go_wp2_with fail
   refine (dW p _).mono ?_
   rintro e w' ⟨rfl,rfl⟩
   go_wp2_with fail
   go_ret
   exact ⟨zB (U HP).symm,U HB⟩
  ·have b1:(s == 1) = false:=by simpa using G
   have HP:Hid (aZ ⟨k,s,t,l,q,i,p,g⟩ ⟨id,side,ticks,left,life,tag⟩ = decide (tk p ≤ ticks)):=by show _ = _; rw [aZ,if_neg E,if_neg G]
   go_enter Tryz.func150,Tryz.ntmps150
   go_wp2_with fail
   refine (dW p _).mono ?_
   rintro e w' ⟨rfl,rfl⟩
   go_wp2_with fail
   go_ret
   exact ⟨zB (U HP).symm,U HB⟩
theorem order_any (c:Cm) (id:Int) (w:World) :
  Calls Tryz.prog 148 #[noV c,H id] w fun e w'=>e = ym (.agg (yv id c.s (tk c.p) c.q c.l c.g).toArray)∧yn w w':=by
 obtain ⟨k,s,t,l,q,i,p,g⟩:=c
 unfold noV
 simp only
 go_enter Tryz.func148,Tryz.ntmps148
 go_wp2_with fail
 refine (dW p _).mono ?_
 rintro e w' ⟨rfl,rfl⟩
 go_wp2_with fail
 go_returns
 refine ⟨rfl,?_⟩
 go_grown
theorem toldNew_any (c:Cm) (w:World) :
  Calls Tryz.prog 113 #[noV c] w fun e w'=>e = ym (.agg (yw 1 c.s c.t c.l c.q 0 c.p c.g).toArray)∧yn w w':=by
 obtain ⟨k,s,t,l,q,i,p,g⟩:=c
 unfold noV
 have hsf:=sfl
 simp only
 go_enter Tryz.func113,Tryz.ntmps113
 go_wp2_with fail
 go_returns
 refine ⟨rfl,?_⟩
 go_grown
theorem toldCancel_any (i:Int) (w:World) :
  Calls Tryz.prog 185 #[.agg #[H i]] w fun e w'=>e = ym (.agg (yw 2 0 0 0 0 i 0 ⟨#[]⟩).toArray)∧yn w w':=by
 have hsf:=sfl
 go_enter Tryz.func185,Tryz.ntmps185
 go_wp2_with fail
 go_returns
 refine ⟨rfl,?_⟩
 go_grown
theorem toldReduce_any (i q:Int) (w:World) :
  Calls Tryz.prog 186 #[.agg #[H i,H q]] w fun e w'=>e = ym (.agg (yw 3 0 0 0 q i 0 ⟨#[]⟩).toArray)∧yn w w':=by
 have hsf:=sfl
 go_enter Tryz.func186,Tryz.ntmps186
 go_wp2_with fail
 go_returns
 refine ⟨rfl,?_⟩
 go_grown
theorem toldDay_any (w:World) :
  Calls Tryz.prog 187 #[.agg #[]] w fun e w'=>e = ym (.agg (yw 4 0 0 0 0 0 0 ⟨#[]⟩).toArray)∧yn w w':=by
 have hsf:=sfl
 go_enter Tryz.func187,Tryz.ntmps187
 go_wp2_with fail
 go_returns
 refine ⟨rfl,?_⟩
 go_grown
structure Ev where
 kind:Int
 cmd:Cm
 id:Int
 other:Int
 qty:Int
 price:Int
 reason:Int
def cmV (c:Cm):Value:=.agg (yw c.k c.s c.t c.l c.q c.i c.p c.g).toArray
def evV (e:Ev):Value:=.agg (yu e.kind e.cmd.k e.cmd.s e.cmd.t e.cmd.l e.cmd.q e.cmd.i e.cmd.p e.cmd.g e.id e.other e.qty e.price e.reason).toArray
def vlV (e:Ev):Value:=.agg #[H e.kind,H e.id,H e.other,H e.qty,H e.price,H e.reason,H e.cmd.k,H e.cmd.s,H e.cmd.t,H e.cmd.l,H e.cmd.q,H e.cmd.i,.int .u64 (fbit e.cmd.p),yk e.cmd.g]
def Ev.vs (e:Ev):List Value:=(yu e.kind e.cmd.k e.cmd.s e.cmd.t e.cmd.l e.cmd.q e.cmd.i e.cmd.p e.cmd.g e.id e.other e.qty e.price e.reason)
theorem Ev.len (e:Ev):e.vs.length = 14:=rfl
def zCm:Cm:=⟨0,0,0,0,0,0,0,⟨#[]⟩⟩
end Go.Proofs.YtbakanofkghmiaaGreat
