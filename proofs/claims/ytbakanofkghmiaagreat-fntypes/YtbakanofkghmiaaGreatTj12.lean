/-
  Whether the numbers of orders rise, proved by walking the function; a side's tree planted and asked; whether the sides meet.
-/
import Derived.Test.YtbakanofkghmiaaGreatTj09
import Derived.Test.YtbakanofkghmiaaGreatTj11
set_option linter.unusedVariables false
set_option maxHeartbeats 6400000
set_option maxRecDepth 100000
namespace Go.Proofs.YtbakanofkghmiaaGreat
open Go.RowKit
theorem sideOf_buy (next:Int) (v:Value) (l:List Od) (w:World) (hr:RdR Od.vs 6 w v l) (hn:l.length ≤ 20) (hl:∀ o' ∈ l,0 ≤ o'.left∧o'.left ≤ 1000000) :
  Calls Tryz.prog 38 #[.agg #[H next,v],H 1] w fun e w' =>
   ∃ b,e = yl (aS b)∧pS 176 true w' b 1 (zw l 1)∧w.heap.size ≤ b∧ym w w':=by
 have HR:=Y hr
 have HL:=Y hl
 obtain ⟨a,E,rfl,xB,hc⟩:=hr
 have xy:=zf w (D #[H next,.slice a l.length E] 28)
 have r1:=zg (w.alloc (D #[H next,.slice a l.length E] 28)) [.nilFunc,.nilFunc,.nilFunc] 81
 have t1:=bu (n:=3) (heap_alloc_new (w.alloc (D #[H next,.slice a l.length E] 28)) (D #[.nilFunc,.nilFunc,.nilFunc] 81)) (by simp)
 rw [xy] at r1 t1
 have xY:((w.alloc (D #[H next,.slice a l.length E] 28)).alloc (D #[.nilFunc,.nilFunc,.nilFunc] 81)).heap.size = w.heap.size + 1 + 1:=by rw [zf,xy]
 have vf:Hid (ym w ((w.alloc (D #[H next,.slice a l.length E] 28)).alloc (D #[.nilFunc,.nilFunc,.nilFunc] 81))) :=
  (dm _ _).alloc (by rw [xy]; omega) _
 have HX:Hid (_∧_):=⟨r1,t1⟩
 have qS:=Y xY
 clear r1 t1 xy xY hc hl
 go_enter Tryz.func38,Tryz.ntmps38
 go_wp2_with fail
 generalize ((w.alloc (D #[H next,.slice a l.length E] 28)).alloc (D #[.nilFunc,.nilFunc,.nilFunc] 81)) = W2 at vf HX qS ⊢
 refine (plant_b _ l 1 W2 (zl (U HR) (U vf) qt) hn (U HL)).mono ?_
 rintro e w1 ⟨rfl,kI,xS⟩
 have vN:=Y kI
 have xT:=Y xS
 clear kI xS
 go_wp2_with fail
 refine (ask_b W2.heap.size w1).mono ?_
 rintro e w2 ⟨rfl,xU⟩
 have oV:=Y (zE (U vN) (xU.block _ (au (U vN))))
 have jZ:=(U xT).trans (xU.mono (U xT).size)
 obtain ⟨x1,x2⟩:=U HX
 have y1:=zb x1 jZ (by rw [U qS]; omega)
 have y2:=ze x2 jZ (by rw [U qS]; omega)
 have xC:=Y (dq (U vf) jZ)
 have c0:w2.cell? (J (w.heap.size + 1) 0) = some .nilFunc:=y1 0 _ rfl
 have c1:w2.cell? (J (w.heap.size + 1) 1) = some .nilFunc:=y1 1 _ rfl
 have c2:w2.cell? (J (w.heap.size + 1) 2) = some .nilFunc:=y1 2 _ rfl
 have f0:w2.frozen? (J (w.heap.size + 1) 0) = false:=(y2 0 (by omega)).2
 have f1:w2.frozen? (J (w.heap.size + 1) 1) = false:=(y2 1 (by omega)).2
 have f2:w2.frozen? (J (w.heap.size + 1) 2) = false:=(y2 2 (by omega)).2
 clear xU jZ x1 x2 y1 y2
 unfold aS
 generalize hF0:Value.func (.func 122) #[yn W2 0] #[] = F0
 generalize hF1:Value.func (.func 123) #[yn W2 0] #[] = F1
 generalize hF2:Value.func (.func 124) #[yn W2 0] #[] = F2
 have vy:∀ (W:World) (o:Nat) (m:Mode),((store (J (w.heap.size + 1) o) F0 m).run Tryz.prog W = stored Tryz.prog W (J (w.heap.size + 1) o) F0 m)∧((store (J (w.heap.size + 1) o) F1 m).run Tryz.prog W = stored Tryz.prog W (J (w.heap.size + 1) o) F1 m)∧((store (J (w.heap.size + 1) o) F2 m).run Tryz.prog W = stored Tryz.prog W (J (w.heap.size + 1) o) F2 m):=fun W o m=>by
  subst hF0 hF1 hF2
  exact ⟨run_store _ W _ _ m rfl,run_store _ W _ _ m rfl,run_store _ W _ _ m rfl⟩
 have hst0:=fun W o m=>(vy W o m).1
 have hst1:=fun W o m=>(vy W o m).2.1
 have hst2:=fun W o m=>(vy W o m).2.2
 clear vy
 go_wp2_with fail
 have hn01:((J (w.heap.size + 1) 0):Addr) ≠ (J (w.heap.size + 1) 1):=fun e=>by simp at e
 have hn02:((J (w.heap.size + 1) 0):Addr) ≠ (J (w.heap.size + 1) 2):=fun e=>by simp at e
 have hn12:((J (w.heap.size + 1) 1):Addr) ≠ (J (w.heap.size + 1) 2):=fun e=>by simp at e
 have d2:(((w2.setCell (J (w.heap.size + 1) 0) F0).setCell (J (w.heap.size + 1) 1) F1).setCell (J (w.heap.size + 1) 2) F2).cell? (J (w.heap.size + 1) 2) = some F2 :=
  yK _ _ _ ((yJ _ _ _ _ hn12).trans ((yJ _ _ _ _ hn02).trans c2))
 have d1:(((w2.setCell (J (w.heap.size + 1) 0) F0).setCell (J (w.heap.size + 1) 1) F1).setCell (J (w.heap.size + 1) 2) F2).cell? (J (w.heap.size + 1) 1) = some F1 :=
  (yJ _ _ _ _ hn12.symm).trans (yK _ _ _ ((yJ _ _ _ _ hn01).trans c1))
 have d0:(((w2.setCell (J (w.heap.size + 1) 0) F0).setCell (J (w.heap.size + 1) 1) F1).setCell (J (w.heap.size + 1) 2) F2).cell? (J (w.heap.size + 1) 0) = some F0 :=
  (yJ _ _ _ _ hn02.symm).trans ((yJ _ _ _ _ hn01.symm).trans (yK _ _ _ c0))
 have xA:W2.heap.size ≠ w.heap.size + 1:=by rw [U qS]; omega
 have HT5:=Y (zE (U oV) (w':=((w2.setCell (J (w.heap.size + 1) 0) F0).setCell (J (w.heap.size + 1) 1) F1).setCell (J (w.heap.size + 1) 2) F2) ((yQ _ _ _ _ xA).trans ((yQ _ _ _ _ xA).trans (yQ _ _ _ _ xA))))
 have kf:=Y ((((U xC).setCell (p:=(J (w.heap.size + 1) 0)) (by simp) F0).setCell (p:=(J (w.heap.size + 1) 1)) (by simp) F1).setCell (p:=(J (w.heap.size + 1) 2)) (by simp) F2)
 generalize ((w2.setCell (J (w.heap.size + 1) 0) F0).setCell (J (w.heap.size + 1) 1) F1).setCell (J (w.heap.size + 1) 2) F2 = W5 at *
 try simp only [Exit.inBlock,Exit.then]
 refine bodyPost_ret (by simp [results,Tryz.results38,go_sem,d0,d1,d2]; try rfl) rfl ?_
 refine ⟨W2.heap.size,?_,U HT5,by rw [U qS]; omega,U kf⟩
 subst hF0 hF1 hF2
 rfl
theorem sideOf_sell (next:Int) (sd:Int) (uD:¬ sd = 1) (v:Value) (l:List Od) (w:World) (hr:RdR Od.vs 6 w v l) (hn:l.length ≤ 20) (hl:∀ o' ∈ l,0 ≤ o'.left∧o'.left ≤ 1000000) :
  Calls Tryz.prog 38 #[.agg #[H next,v],H sd] w fun e w' =>
   ∃ b,e = yl (aT b)∧pS 179 false w' b sd (zw l sd)∧w.heap.size ≤ b∧ym w w':=by
 have HR:=Y hr
 have HL:=Y hl
 obtain ⟨a,E,rfl,xB,hc⟩:=hr
 have xy:=zf w (D #[H next,.slice a l.length E] 28)
 have r1:=zg (w.alloc (D #[H next,.slice a l.length E] 28)) [.nilFunc,.nilFunc,.nilFunc] 81
 have t1:=bu (n:=3) (heap_alloc_new (w.alloc (D #[H next,.slice a l.length E] 28)) (D #[.nilFunc,.nilFunc,.nilFunc] 81)) (by simp)
 rw [xy] at r1 t1
 have xY:((w.alloc (D #[H next,.slice a l.length E] 28)).alloc (D #[.nilFunc,.nilFunc,.nilFunc] 81)).heap.size = w.heap.size + 1 + 1:=by rw [zf,xy]
 have vf:Hid (ym w ((w.alloc (D #[H next,.slice a l.length E] 28)).alloc (D #[.nilFunc,.nilFunc,.nilFunc] 81))) :=
  (dm _ _).alloc (by rw [xy]; omega) _
 have HX:Hid (_∧_):=⟨r1,t1⟩
 have qS:=Y xY
 clear r1 t1 xy xY hc hl
 go_enter Tryz.func38,Tryz.ntmps38
 go_wp2_with fail
 generalize ((w.alloc (D #[H next,.slice a l.length E] 28)).alloc (D #[.nilFunc,.nilFunc,.nilFunc] 81)) = W2 at vf HX qS ⊢
 refine (plant_s _ l sd W2 (zl (U HR) (U vf) qt) hn (U HL)).mono ?_
 rintro e w1 ⟨rfl,kI,xS⟩
 have vN:=Y kI
 have xT:=Y xS
 clear kI xS
 go_wp2_with fail
 refine (ask_s W2.heap.size w1).mono ?_
 rintro e w2 ⟨rfl,xU⟩
 have oV:=Y (zE (U vN) (xU.block _ (au (U vN))))
 have jZ:=(U xT).trans (xU.mono (U xT).size)
 obtain ⟨x1,x2⟩:=U HX
 have y1:=zb x1 jZ (by rw [U qS]; omega)
 have y2:=ze x2 jZ (by rw [U qS]; omega)
 have xC:=Y (dq (U vf) jZ)
 have c0:w2.cell? (J (w.heap.size + 1) 0) = some .nilFunc:=y1 0 _ rfl
 have c1:w2.cell? (J (w.heap.size + 1) 1) = some .nilFunc:=y1 1 _ rfl
 have c2:w2.cell? (J (w.heap.size + 1) 2) = some .nilFunc:=y1 2 _ rfl
 have f0:w2.frozen? (J (w.heap.size + 1) 0) = false:=(y2 0 (by omega)).2
 have f1:w2.frozen? (J (w.heap.size + 1) 1) = false:=(y2 1 (by omega)).2
 have f2:w2.frozen? (J (w.heap.size + 1) 2) = false:=(y2 2 (by omega)).2
 clear xU jZ x1 x2 y1 y2
 unfold aT
 generalize hF0:Value.func (.func 126) #[yn W2 0] #[] = F0
 generalize hF1:Value.func (.func 127) #[yn W2 0] #[] = F1
 generalize hF2:Value.func (.func 128) #[yn W2 0] #[] = F2
 have vy:∀ (W:World) (o:Nat) (m:Mode),((store (J (w.heap.size + 1) o) F0 m).run Tryz.prog W = stored Tryz.prog W (J (w.heap.size + 1) o) F0 m)∧((store (J (w.heap.size + 1) o) F1 m).run Tryz.prog W = stored Tryz.prog W (J (w.heap.size + 1) o) F1 m)∧((store (J (w.heap.size + 1) o) F2 m).run Tryz.prog W = stored Tryz.prog W (J (w.heap.size + 1) o) F2 m):=fun W o m=>by
  subst hF0 hF1 hF2
  exact ⟨run_store _ W _ _ m rfl,run_store _ W _ _ m rfl,run_store _ W _ _ m rfl⟩
 have hst0:=fun W o m=>(vy W o m).1
 have hst1:=fun W o m=>(vy W o m).2.1
 have hst2:=fun W o m=>(vy W o m).2.2
 clear vy
 go_wp2_with fail
 have hn01:((J (w.heap.size + 1) 0):Addr) ≠ (J (w.heap.size + 1) 1):=fun e=>by simp at e
 have hn02:((J (w.heap.size + 1) 0):Addr) ≠ (J (w.heap.size + 1) 2):=fun e=>by simp at e
 have hn12:((J (w.heap.size + 1) 1):Addr) ≠ (J (w.heap.size + 1) 2):=fun e=>by simp at e
 have d2:(((w2.setCell (J (w.heap.size + 1) 0) F0).setCell (J (w.heap.size + 1) 1) F1).setCell (J (w.heap.size + 1) 2) F2).cell? (J (w.heap.size + 1) 2) = some F2 :=
  yK _ _ _ ((yJ _ _ _ _ hn12).trans ((yJ _ _ _ _ hn02).trans c2))
 have d1:(((w2.setCell (J (w.heap.size + 1) 0) F0).setCell (J (w.heap.size + 1) 1) F1).setCell (J (w.heap.size + 1) 2) F2).cell? (J (w.heap.size + 1) 1) = some F1 :=
  (yJ _ _ _ _ hn12.symm).trans (yK _ _ _ ((yJ _ _ _ _ hn01).trans c1))
 have d0:(((w2.setCell (J (w.heap.size + 1) 0) F0).setCell (J (w.heap.size + 1) 1) F1).setCell (J (w.heap.size + 1) 2) F2).cell? (J (w.heap.size + 1) 0) = some F0 :=
  (yJ _ _ _ _ hn02.symm).trans ((yJ _ _ _ _ hn01.symm).trans (yK _ _ _ c0))
 have xA:W2.heap.size ≠ w.heap.size + 1:=by rw [U qS]; omega
 have HT5:=Y (zE (U oV) (w':=((w2.setCell (J (w.heap.size + 1) 0) F0).setCell (J (w.heap.size + 1) 1) F1).setCell (J (w.heap.size + 1) 2) F2) ((yQ _ _ _ _ xA).trans ((yQ _ _ _ _ xA).trans (yQ _ _ _ _ xA))))
 have kf:=Y ((((U xC).setCell (p:=(J (w.heap.size + 1) 0)) (by simp) F0).setCell (p:=(J (w.heap.size + 1) 1)) (by simp) F1).setCell (p:=(J (w.heap.size + 1) 2)) (by simp) F2)
 generalize ((w2.setCell (J (w.heap.size + 1) 0) F0).setCell (J (w.heap.size + 1) 1) F1).setCell (J (w.heap.size + 1) 2) F2 = W5 at *
 try simp only [Exit.inBlock,Exit.then]
 refine bodyPost_ret (by simp [results,Tryz.results38,go_sem,d0,d1,d2]; try rfl) rfl ?_
 refine ⟨W2.heap.size,?_,U HT5,by rw [U qS]; omega,U kf⟩
 subst hF0 hF1 hF2
 rfl
def hdO (q:List Od):Od:=(q.head?).getD zOd
def hdF (q:List Od):Bool:=(q.head?).isSome
theorem frOf_eq (q:List Od):frOf q = .tuple #[.agg (yu ((hdO q).id) ((hdO q).side) ((hdO q).ticks) ((hdO q).left) ((hdO q).life) ((hdO q).tag)).toArray,.bool (hdF q)]:=by
 unfold frOf hdO hdF
 cases q.head? <;> rfl
def noV (c:Cm):Value:=.agg #[H c.s,H c.t,H c.l,H c.q,yi c.p,yj c.g]
def pP (t:Int):Bool:=decide (t = 1) || decide (t = 5)
def prcB (c:Cm):Bool:=if c.t = 2 then decide (fbit c.p = 0) else tkOk c.p
def az (c:Cm) (o:Od):Bool:=if c.t = 2 then true else if c.s = 1 then decide (o.ticks ≤ tk c.p) else decide (tk c.p ≤ o.ticks)
def ordO (c:Cm) (id:Int):Od:=⟨id,c.s,tk c.p,c.q,c.l,c.g⟩
def othS (s:Int):Int:=if s = 1 then 2 else 1
theorem isType_any (t:Int) (w:World) :
  Calls Tryz.prog 144 #[H t] w fun e w'=>e = yl (.bool (betB t 1 5))∧w' = w:=by
 go_enter Tryz.func144,Tryz.ntmps144
 go_wp2_with fail
 refine (cP t 1 5 w).mono ?_
 rintro e w' ⟨rfl,rfl⟩
 go_wp2_with fail
 go_ret
 exact ⟨rfl,rfl⟩
theorem isQty_any (t:Int) (w:World) :
  Calls Tryz.prog 146 #[H t] w fun e w'=>e = yl (.bool (betB t 1 1000000))∧w' = w:=by
 go_enter Tryz.func146,Tryz.ntmps146
 go_wp2_with fail
 refine (cP t 1 1000000 w).mono ?_
 rintro e w' ⟨rfl,rfl⟩
 go_wp2_with fail
 go_ret
 exact ⟨rfl,rfl⟩
theorem otherSide_any (s:Int) (w:World) :
  Calls Tryz.prog 149 #[H s] w fun e w'=>e = yl (H (othS s))∧w' = w:=by
 by_cases h:s = 1
 ·subst h
  go_enter Tryz.func149,Tryz.ntmps149
  go_wp2_with fail
  go_ret
  exact ⟨rfl,rfl⟩
 ·have h':(s == 1) = false:=by simpa using h
  have HS:Hid (othS s = 1):=if_neg h
  go_enter Tryz.func149,Tryz.ntmps149
  go_wp2_with fail
  go_ret
  exact ⟨zq (U HS).symm,rfl⟩
theorem cO (c:Cm) (w:World) :
  Calls Tryz.prog 114 #[noV c] w fun e w'=>e = yl (.bool (pP c.t))∧ym w w':=by
 obtain ⟨k,s,t,l,q,i,p,g⟩:=c
 unfold noV
 simp only
 by_cases Q:t = 1
 ·subst Q
  go_enter Tryz.func114,Tryz.ntmps114
  go_wp2_with fail
  go_ret
  exact ⟨rfl,by go_grown⟩
 ·have b1:(t == 1) = false:=by simpa using Q
  by_cases h5:t = 5
  ·subst h5
   go_enter Tryz.func114,Tryz.ntmps114
   go_wp2_with fail
   go_ret
   exact ⟨rfl,by go_grown⟩
  ·have b5:(t == 5) = false:=by simpa using h5
   have HR:Hid (pP t = false):=by show pP t = false; simp [pP,Q,h5]
   go_enter Tryz.func114,Tryz.ntmps114
   go_wp2_with fail
   go_ret
   exact ⟨zy (U HR).symm,by go_grown⟩
theorem hasPrice_any (c:Cm) (w:World) :
  Calls Tryz.prog 145 #[noV c] w fun e w'=>e = yl (.bool (prcB c))∧ym w w':=by
 obtain ⟨k,s,t,l,q,i,p,g⟩:=c
 unfold noV
 simp only
 have HB:Hid (ym w (w.alloc (D #[H s,H t,H l,H q,yi p,yj g] 112))):=dm _ _
 by_cases N:t = 2
 ·subst N
  have HP:Hid (prcB ⟨k,s,2,l,q,i,p,g⟩ = decide (fbit p = 0)):=if_pos rfl
  go_enter Tryz.func145,Tryz.ntmps145
  go_wp2_with fail
  refine (floatBits_any p _).mono ?_
  rintro e w' ⟨rfl,rfl⟩
  go_wp2_with fail
  go_ret
  exact ⟨zy (by rw [U HP,Bool.eq_iff_iff]; simp),U HB⟩
 ·have b2:(t == 2) = false:=by simpa using N
  have HP:Hid (prcB ⟨k,s,t,l,q,i,p,g⟩ = tkOk p):=if_neg N
  go_enter Tryz.func145,Tryz.ntmps145
  go_wp2_with fail
  refine (cR p _).mono ?_
  rintro e w' ⟨rfl,rfl⟩
  go_wp2_with fail
  go_ret
  exact ⟨zy (U HP).symm,U HB⟩
theorem meets_any (c:Cm) (o:Od) (w:World) :
  Calls Tryz.prog 150 #[noV c,.agg (yu o.id o.side o.ticks o.left o.life o.tag).toArray] w fun e w'=>e = yl (.bool (az c o))∧ym w w':=by
 obtain ⟨k,s,t,l,q,i,p,g⟩:=c
 obtain ⟨id,side,ticks,left,life,tag⟩:=o
 unfold noV
 simp only
 have HB:Hid (ym w ((w.alloc (D #[H s,H t,H l,H q,yi p,yj g] 112)).alloc (D (yu id side ticks left life tag).toArray 49))):=(dm _ _).alloc (by rw [zf]; omega) _
 by_cases N:t = 2
 ·subst N
  have HP:Hid (az ⟨k,s,2,l,q,i,p,g⟩ ⟨id,side,ticks,left,life,tag⟩ = true):=if_pos rfl
  go_enter Tryz.func150,Tryz.ntmps150
  go_wp2_with fail
  go_ret
  exact ⟨zy (U HP).symm,U HB⟩
 ·have b2:(t == 2) = false:=by simpa using N
  by_cases Q:s = 1
  ·subst Q
   have HP:Hid (az ⟨k,1,t,l,q,i,p,g⟩ ⟨id,side,ticks,left,life,tag⟩ = decide (ticks ≤ tk p)):=by show _ = _; rw [az,if_neg N]; rfl
   go_enter Tryz.func150,Tryz.ntmps150
   go_wp2_with fail
   refine (cR p _).mono ?_
   rintro e w' ⟨rfl,rfl⟩
   go_wp2_with fail
   go_ret
   exact ⟨zy (U HP).symm,U HB⟩
  ·have b1:(s == 1) = false:=by simpa using Q
   have HP:Hid (az ⟨k,s,t,l,q,i,p,g⟩ ⟨id,side,ticks,left,life,tag⟩ = decide (tk p ≤ ticks)):=by show _ = _; rw [az,if_neg N,if_neg Q]
   go_enter Tryz.func150,Tryz.ntmps150
   go_wp2_with fail
   refine (cR p _).mono ?_
   rintro e w' ⟨rfl,rfl⟩
   go_wp2_with fail
   go_ret
   exact ⟨zy (U HP).symm,U HB⟩
theorem order_any (c:Cm) (id:Int) (w:World) :
  Calls Tryz.prog 148 #[noV c,H id] w fun e w'=>e = yl (.agg (yu id c.s (tk c.p) c.q c.l c.g).toArray)∧ym w w':=by
 obtain ⟨k,s,t,l,q,i,p,g⟩:=c
 unfold noV
 simp only
 go_enter Tryz.func148,Tryz.ntmps148
 go_wp2_with fail
 refine (cR p _).mono ?_
 rintro e w' ⟨rfl,rfl⟩
 go_wp2_with fail
 go_returns
 refine ⟨rfl,?_⟩
 go_grown
theorem toldNew_any (c:Cm) (w:World) :
  Calls Tryz.prog 113 #[noV c] w fun e w'=>e = yl (.agg (yv 1 c.s c.t c.l c.q 0 c.p c.g).toArray)∧ym w w':=by
 obtain ⟨k,s,t,l,q,i,p,g⟩:=c
 unfold noV
 have hsf:=sfl
 simp only
 go_enter Tryz.func113,Tryz.ntmps113
 go_wp2_with fail
 go_returns
 refine ⟨rfl,?_⟩
 go_grown
theorem toldCancel_any (i:Int) (w:World) :
  Calls Tryz.prog 185 #[.agg #[H i]] w fun e w'=>e = yl (.agg (yv 2 0 0 0 0 i 0 ⟨#[]⟩).toArray)∧ym w w':=by
 have hsf:=sfl
 go_enter Tryz.func185,Tryz.ntmps185
 go_wp2_with fail
 go_returns
 refine ⟨rfl,?_⟩
 go_grown
theorem toldReduce_any (i q:Int) (w:World) :
  Calls Tryz.prog 186 #[.agg #[H i,H q]] w fun e w'=>e = yl (.agg (yv 3 0 0 0 q i 0 ⟨#[]⟩).toArray)∧ym w w':=by
 have hsf:=sfl
 go_enter Tryz.func186,Tryz.ntmps186
 go_wp2_with fail
 go_returns
 refine ⟨rfl,?_⟩
 go_grown
theorem toldDay_any (w:World) :
  Calls Tryz.prog 187 #[.agg #[]] w fun e w'=>e = yl (.agg (yv 4 0 0 0 0 0 0 ⟨#[]⟩).toArray)∧ym w w':=by
 have hsf:=sfl
 go_enter Tryz.func187,Tryz.ntmps187
 go_wp2_with fail
 go_returns
 refine ⟨rfl,?_⟩
 go_grown
structure Ev where
 kind:Int
 cmd:Cm
 id:Int
 other:Int
 qty:Int
 price:Int
 reason:Int
def cmV (c:Cm):Value:=.agg (yv c.k c.s c.t c.l c.q c.i c.p c.g).toArray
def evV (e:Ev):Value:=.agg (yt e.kind e.cmd.k e.cmd.s e.cmd.t e.cmd.l e.cmd.q e.cmd.i e.cmd.p e.cmd.g e.id e.other e.qty e.price e.reason).toArray
def vlV (e:Ev):Value:=.agg #[H e.kind,H e.id,H e.other,H e.qty,H e.price,H e.reason,H e.cmd.k,H e.cmd.s,H e.cmd.t,H e.cmd.l,H e.cmd.q,H e.cmd.i,.int .u64 (fbit e.cmd.p),yj e.cmd.g]
def Ev.vs (e:Ev):List Value:=(yt e.kind e.cmd.k e.cmd.s e.cmd.t e.cmd.l e.cmd.q e.cmd.i e.cmd.p e.cmd.g e.id e.other e.qty e.price e.reason)
theorem Ev.len (e:Ev):e.vs.length = 14:=rfl
def zCm:Cm:=⟨0,0,0,0,0,0,0,⟨#[]⟩⟩
theorem cS (w:World) (cs:List Value) (t:TypeId):(w.alloc (Obj.cells cs.toArray t)).rangeAt w.heap.size 0 cs:=fun j u h=>by
 rw [cell_of_row _ w.heap.size (0 + j) cs.toArray t (0,0) (heap_alloc_new w _)]
 simpa using h
theorem cM (w:World) (o:Obj):(w.alloc o).heap.size = w.heap.size + 1:=by simp
theorem there_madeV (w:World) (cs:List Value) (t:TypeId):(w.alloc (Obj.cells cs.toArray t)).there w.heap.size 0 cs.length:=bu (heap_alloc_new w _) (by simp)
theorem valueOf_any (e:Ev) (w:World) :
  Calls Tryz.prog 138 #[evV e] w fun x w'=>x = yl (vlV e)∧ym w w':=by
 obtain ⟨ut,⟨k,s,t,l,q,i,p,g⟩,id,xL,qty,xQ,xG⟩:=e
 unfold evV vlV
 have hsf:=sfl
 simp only
 generalize hfb:fbit p = fp
 have HFB:=Y (fun W=>hfb ▸ floatBits_any p W)
 clear hfb
 have xy:(w.alloc (D (yt ut k s t l q i p g id xL qty xQ xG).toArray 46)).heap.size = w.heap.size + 1:=cM _ _
 have xY:((w.alloc (D (yt ut k s t l q i p g id xL qty xQ xG).toArray 46)).alloc (D #[H 0,H 0,H 0,H 0,H 0,H 0,H 0,H 0,H 0,H 0,H 0,H 0,.int .u64 0,yj ⟨#[]⟩] 187)).heap.size = w.heap.size + 2:=by rw [cM,xy]
 have jg:(((w.alloc (D (yt ut k s t l q i p g id xL qty xQ xG).toArray 46)).alloc (D #[H 0,H 0,H 0,H 0,H 0,H 0,H 0,H 0,H 0,H 0,H 0,H 0,.int .u64 0,yj ⟨#[]⟩] 187)).alloc (D (yv k s t l q i p g).toArray 43)).heap.size = w.heap.size + 3:=by rw [cM,xY]
 have b1:Below (w.heap.size + 1) (w.alloc (D (yt ut k s t l q i p g id xL qty xQ xG).toArray 46)) (((w.alloc (D (yt ut k s t l q i p g id xL qty xQ xG).toArray 46)).alloc (D #[H 0,H 0,H 0,H 0,H 0,H 0,H 0,H 0,H 0,H 0,H 0,H 0,.int .u64 0,yj ⟨#[]⟩] 187)).alloc (D (yv k s t l q i p g).toArray 43)):=(((Below.refl _ _).alloc (by rw [xy]; omega) _).alloc (by rw [xY]; omega) _)
 have b2:Below (w.heap.size + 2) ((w.alloc (D (yt ut k s t l q i p g id xL qty xQ xG).toArray 46)).alloc (D #[H 0,H 0,H 0,H 0,H 0,H 0,H 0,H 0,H 0,H 0,H 0,H 0,.int .u64 0,yj ⟨#[]⟩] 187)) (((w.alloc (D (yt ut k s t l q i p g id xL qty xQ xG).toArray 46)).alloc (D #[H 0,H 0,H 0,H 0,H 0,H 0,H 0,H 0,H 0,H 0,H 0,H 0,.int .u64 0,yj ⟨#[]⟩] 187)).alloc (D (yv k s t l q i p g).toArray 43)):=((Below.refl _ _).alloc (by rw [xY]; omega) _)
 have r1:=zb (cS w (yt ut k s t l q i p g id xL qty xQ xG) 46) b1 (by omega)
 have t2:=there_madeV (w.alloc (D (yt ut k s t l q i p g id xL qty xQ xG).toArray 46)) [H 0,H 0,H 0,H 0,H 0,H 0,H 0,H 0,H 0,H 0,H 0,H 0,.int .u64 0,yj ⟨#[]⟩] 187
 have r3:=cS ((w.alloc (D (yt ut k s t l q i p g id xL qty xQ xG).toArray 46)).alloc (D #[H 0,H 0,H 0,H 0,H 0,H 0,H 0,H 0,H 0,H 0,H 0,H 0,.int .u64 0,yj ⟨#[]⟩] 187)) (yv k s t l q i p g) 43
 rw [xy] at t2
 rw [xY] at r3
 have t2':=ze t2 b2 (by omega)
 have xW:Hid (ym w (((w.alloc (D (yt ut k s t l q i p g id xL qty xQ xG).toArray 46)).alloc (D #[H 0,H 0,H 0,H 0,H 0,H 0,H 0,H 0,H 0,H 0,H 0,H 0,.int .u64 0,yj ⟨#[]⟩] 187)).alloc (D (yv k s t l q i p g).toArray 43))):=((dm _ _).alloc (by rw [xy]; omega) _).alloc (by rw [xY]; omega) _
 have HX:Hid (_∧_∧_):=⟨r1,t2',r3⟩
 clear r1 t2 t2' r3 b1 b2 xy xY jg
 go_enter Tryz.func138,Tryz.ntmps138
 go_wp2_with fail
 generalize (((w.alloc (D (yt ut k s t l q i p g id xL qty xQ xG).toArray 46)).alloc (D #[H 0,H 0,H 0,H 0,H 0,H 0,H 0,H 0,H 0,H 0,H 0,H 0,.int .u64 0,yj ⟨#[]⟩] 187)).alloc (D (yv k s t l q i p g).toArray 43)) = WW at xW HX ⊢
 obtain ⟨js,jh,hr3⟩:=U HX
 have x0:=js 0 _ rfl
 have x1:=js 1 _ rfl
 have x2:=js 2 _ rfl
 have x3:=js 3 _ rfl
 have x4:=js 4 _ rfl
 have x5:=js 5 _ rfl
 have x6:=js 6 _ rfl
 have x7:=js 7 _ rfl
 have x8:=js 8 _ rfl
 have x9:=js 9 _ rfl
 have x10:=js 10 _ rfl
 have x11:=js 11 _ rfl
 have x12:=js 12 _ rfl
 have x13:=js 13 _ rfl
 have y0:=hr3 0 _ rfl
 have y1:=hr3 1 _ rfl
 have y2:=hr3 2 _ rfl
 have y3:=hr3 3 _ rfl
 have y4:=hr3 4 _ rfl
 have y5:=hr3 5 _ rfl
 have y6:=hr3 6 _ rfl
 have y7:=hr3 7 _ rfl
 simp only [Nat.zero_add] at x0 x1 x2 x3 x4 x5 x6 x7 x8 x9 x10 x11 x12 x13 y0 y1 y2 y3 y4 y5 y6 y7
 obtain ⟨v0,z0,f0⟩:=zD jh 0 (by decide)
 obtain ⟨v1,z1,f1⟩:=zD jh 1 (by decide)
 obtain ⟨v2,z2,f2⟩:=zD jh 2 (by decide)
 obtain ⟨v3,z3,f3⟩:=zD jh 3 (by decide)
 obtain ⟨v4,z4,f4⟩:=zD jh 4 (by decide)
 obtain ⟨v5,z5,f5⟩:=zD jh 5 (by decide)
 obtain ⟨v6,z6,f6⟩:=zD jh 6 (by decide)
 obtain ⟨v7,z7,f7⟩:=zD jh 7 (by decide)
 obtain ⟨v8,z8,f8⟩:=zD jh 8 (by decide)
 obtain ⟨v9,z9,f9⟩:=zD jh 9 (by decide)
 obtain ⟨v10,z10,f10⟩:=zD jh 10 (by decide)
 obtain ⟨v11,z11,f11⟩:=zD jh 11 (by decide)
 obtain ⟨v12,z12,f12⟩:=zD jh 12 (by decide)
 obtain ⟨v13,z13,f13⟩:=zD jh 13 (by decide)
 simp only [Nat.zero_add] at z0 f0 z1 f1 z2 f2 z3 f3 z4 f4 z5 f5 z6 f6 z7 f7 z8 f8 z9 f9 z10 f10 z11 f11 z12 f12 z13 f13
 have HT:=Y jh
 clear js jh hr3 HX
 refine wp_region_still_tail 30 (by kernel_rfl) (by kernel_rfl) ?_
 simp only [yR,List.take_zero,yS,List.drop_zero]
 repeat still_step
 still_call (U HFB _)
 repeat still_step
 refine wpStill_nil ?_
 go_wp2_with fail
 change bodyPost _ _ _ _ _ (WW.setCells (w.heap.size + 1) 0 [H ut,H id,H xL,H qty,H xQ,H xG,H k,H s,H t,H l,H q,H i,.int .u64 fp,yj g]).drew
 have jw:=Y (yV WW (w.heap.size + 1) 0 [H ut,H id,H xL,H qty,H xQ,H xG,H k,H s,H t,H l,H q,H i,.int .u64 fp,yj g] (fun j R=>U HT j R))
 have uv:=Y (zm (w.heap.size + 1) (by omega) [H ut,H id,H xL,H qty,H xQ,H xG,H k,H s,H t,H l,H q,H i,.int .u64 fp,yj g] 0 WW (U xW))
 generalize WW.setCells (w.heap.size + 1) 0 [H ut,H id,H xL,H qty,H xQ,H xG,H k,H s,H t,H l,H q,H i,.int .u64 fp,yj g] = WE at jw uv ⊢
 obtain ⟨d0,d1,d2,d3,d4,d5,d6,d7,d8,d9,d10,d11,d12,d13⟩:=yD (U jw)
 try simp only [Exit.inBlock,Exit.then]
 refine bodyPost_ret (by simp [results,Tryz.results138,go_sem,d0,d1,d2,d3,d4,d5,d6,d7,d8,d9,d10,d11,d12,d13]; try rfl) rfl ?_
 exact ⟨rfl,(U uv).drew⟩
def sideL_b (b:Nat):List Value:=[.func (.func 122) #[I b 0] #[],.func (.func 123) #[I b 0] #[],.func (.func 124) #[I b 0] #[]]
def sideL_s (b:Nat):List Value:=[.func (.func 126) #[I b 0] #[],.func (.func 127) #[I b 0] #[],.func (.func 128) #[I b 0] #[]]
abbrev Tb (w:World) (b:Nat) (q:List Od):Prop:=pS 176 true w b 1 q
abbrev Ts (w:World) (b:Nat) (q:List Od):Prop:=pS 179 false w b 2 q
section
variable {W0 w w':World} {BV:Value} {q1 q2:List Od} {x:List Bool} {v33 v34 v35 v36 v5 v6:Value} {b1 b2 p5 p6:Nat}
theorem zt (w:World) (cs:List Value) (t:TypeId):(w.alloc (Obj.cells cs.toArray t)).there w.heap.size 0 cs.length:=bu (heap_alloc_new w _) (by simp)
end

end Go.Proofs.YtbakanofkghmiaaGreat
