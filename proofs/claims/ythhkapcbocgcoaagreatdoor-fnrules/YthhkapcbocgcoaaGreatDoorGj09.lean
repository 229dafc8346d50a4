/-
  Whether the numbers of orders rise, proved by walking the function; a side's tree planted and asked; whether the sides meet.
-/
import Derived.Test.YthhkapcbocgcoaaGreatDoorGj08
set_option linter.unusedVariables false
set_option maxHeartbeats 6400000
set_option maxRecDepth 100000
namespace Go.Proofs.YthhkapcbocgcoaaGreatDoor
open Go.RowKit
def idsR (next:Int):Int→List Od→Bool
 | _,[]=>true
 | last,o :: r=>decide (last < o.id) && decide (o.id < next) && idsR next o.id r
theorem idsRise_any (next:Int) (v:Value) (l:List Od) (w:World) (hr:RdR Od.vs 6 w v l) :
  Calls Tryz.prog 73 #[.agg #[H next,v]] w fun e w'=>e = ym (.bool (idsR next 0 l))∧yn w w':=by
 obtain ⟨a,cap,rfl,xD,hc⟩:=hr
 have xr:∀ (k:Nat) (c:Od),l[k]? = some c→∃ b off,a = some (J b off)∧b < w.heap.size∧w.rangeAt b (off + k * 6) c.vs:=by
  intro k c E
  obtain ⟨b,off,Q,D,X⟩:=hc (by intro h; rw [h] at E; simp at E)
  exact ⟨b,off,Q,D,X k c E⟩
 have HC:=M xr
 clear xr hc
 have xZ:Hid (yn w (w.alloc (O #[H next,.slice a l.length cap] 27))):=gZ _ _
 have pd:Hid ((w.alloc (O #[H next,.slice a l.length cap] 27)).cell? (yq w 0) = some (H next)∧w.heap.size < (w.alloc (O #[H next,.slice a l.length cap] 27)).heap.size):=⟨zm w [H next,.slice a l.length cap] 27 0 _ rfl,by rw [zi]; omega⟩
 go_enter Tryz.func73,Tryz.ntmps73
 go_wp2_with fail
 generalize (w.alloc (O #[H next,.slice a l.length cap] 27)) = W1 at xZ pd ⊢
 have xF:=(U pd).2
 go_loopw [3,9] (fun lv iv wr=>∃ (k:Nat) (last:Int),lv = H last∧k ≤ l.length∧iv = H k∧Hid (idsR next 0 l = idsR next last (l.drop k))∧yn W1 wr) (fun _ iv _=>l.length - (intOf iv).toNat)
 case atStart=>exact ⟨0,0,rfl,Nat.zero_le _,rfl,by simp [Hid],Below.refl _ _⟩
 case round =>
  obtain ⟨k,last,rfl,E,rfl,hids,xi⟩:=hrel
  have HB:=M xi
  clear xi
  by_cases xM:k < l.length
  ·obtain ⟨c,uV⟩:∃ c,l[k]? = some c:=⟨_,yI xM⟩
   have vR:l.drop k = c :: l.drop (k + 1):=by
    obtain ⟨Q,rfl⟩:=yH.1 uV
    exact xd Q
   have HI:Hid (idsR next 0 l = (decide (last < c.id) && decide (c.id < next) && idsR next c.id (l.drop (k + 1)))):=by
    have:=U hids
    rw [vR] at this
    exact this
   obtain ⟨b,off,rfl,A,xo⟩:=U HC k c uV
   obtain ⟨g0,g1,g2,g3,g4,g5⟩:=zC (zc xo ((U xZ).trans ((U HB).mono (U xZ).size)) A)
   have hbox:=((U HB).cell (p:=(yq w 0)) xF).trans (U pd).1
   have vj:(k:Int) < l.length:=by omega
   have pz:=(U HB).size
   have hboxW:(wr.alloc (O (yw c.id c.side c.ticks c.left c.life c.tag).toArray 65)).cell? (yq w 0) = some (H next):=(Below.cell ((Below.refl wr.heap.size wr).alloc hU _) (p:=(yq w 0)) (show w.heap.size < wr.heap.size by omega)).trans hbox
   clear uV xo A vR hids
   by_cases Q:last < c.id
   ·have aM:decide (c.id ≤ last) = false:=by simpa using Q
    by_cases D:c.id < next
    ·have og:¬ (next ≤ c.id):=by omega
     have HN:Hid (idsR next 0 l = idsR next c.id (l.drop (k + 1))):=by
      have:=U HI
      rw [decide_eq_true Q,decide_eq_true D,Bool.true_and,Bool.true_and] at this
      exact this
     go_wp2_with fail
     go_roundw
     case rel=>exact ⟨k + 1,c.id,rfl,by omega,by go_num,U HN,(U HB).alloc pz _⟩
     case measure=>simp [intOf]; omega
    ·have og:next ≤ c.id:=by omega
     have HN:Hid (idsR next 0 l = false):=by
      have:=U HI
      rw [decide_eq_false D,Bool.and_false,Bool.false_and] at this
      exact this
     go_wp2_with fail
     go_ret
     exact ⟨zo (U HN).symm,(U xZ).trans (((U HB).alloc pz _).mono (U xZ).size)⟩
   ·have aM:decide (c.id ≤ last) = true:=by simp; omega
    have HN:Hid (idsR next 0 l = false):=by
     have:=U HI
     rw [decide_eq_false Q,Bool.false_and,Bool.false_and] at this
     exact this
    go_wp2_with fail
    go_ret
    exact ⟨zo (U HN).symm,(U xZ).trans (((U HB).alloc pz _).mono (U xZ).size)⟩
  ·go_wp2_with fail
   go_ret
   have h:=U hids
   rw [xb (by omega)] at h
   exact ⟨zo (by rw [h]; rfl),(U xZ).trans ((U HB).mono (U xZ).size)⟩
theorem gG (next:Int) (v:Value) (l:List Od) (w:World) (hr:RdR Od.vs 6 w v l) (hn:l.length ≤ 20) (hl:∀ o' ∈ l,0 ≤ o'.left∧o'.left ≤ 1000000) :
  Calls Tryz.prog 75 #[.agg #[H next,v],H 1] w fun e w' =>
   ∃ b,e = ym (cP b)∧bY 197 true w' b 1 (zr l 1)∧w.heap.size ≤ b∧yn w w':=by
 have HR:=M hr
 have HL:=M hl
 obtain ⟨a,cap,rfl,xD,hc⟩:=hr
 have xF:=zi w (O #[H next,.slice a l.length cap] 27)
 have r1:=zm (w.alloc (O #[H next,.slice a l.length cap] 27)) [.nilFunc,.nilFunc,.nilFunc] 129
 have t1:=eC (n:=3) (heap_alloc_new (w.alloc (O #[H next,.slice a l.length cap] 27)) (O #[.nilFunc,.nilFunc,.nilFunc] 129)) (by simp)
 rw [xF] at r1 t1
 have ug:((w.alloc (O #[H next,.slice a l.length cap] 27)).alloc (O #[.nilFunc,.nilFunc,.nilFunc] 129)).heap.size = w.heap.size + 1 + 1:=by rw [zi,xF]
 have xZ:Hid (yn w ((w.alloc (O #[H next,.slice a l.length cap] 27)).alloc (O #[.nilFunc,.nilFunc,.nilFunc] 129))) :=
  (gZ _ _).alloc (by rw [xF]; omega) _
 have HX:Hid (_∧_):=⟨r1,t1⟩
 have vZ:=M ug
 clear r1 t1 xF ug hc hl
 go_enter Tryz.func75,Tryz.ntmps75
 go_wp2_with fail
 generalize ((w.alloc (O #[H next,.slice a l.length cap] 27)).alloc (O #[.nilFunc,.nilFunc,.nilFunc] 129)) = W2 at xZ HX vZ ⊢
 refine (plant_b _ l 1 W2 (zh (U HR) (U xZ) hU) hn (U HL)).mono ?_
 rintro e w1 ⟨rfl,htr,ub⟩
 have qd:=M htr
 have xU:=M ub
 clear htr ub
 go_wp2_with fail
 refine (ask_b W2.heap.size w1).mono ?_
 rintro e w2 ⟨rfl,xP⟩
 have aE:=M (zu (U qd) (xP.block _ (zG (U qd))))
 have kS:=(U xU).trans (xP.mono (U xU).size)
 obtain ⟨x1,x2⟩:=U HX
 have y1:=zc x1 kS (by rw [U vZ]; omega)
 have y2:=zk x2 kS (by rw [U vZ]; omega)
 have xt:=M (ia (U xZ) kS)
 have c0:w2.cell? (J (w.heap.size + 1) 0) = some .nilFunc:=y1 0 _ rfl
 have c1:w2.cell? (J (w.heap.size + 1) 1) = some .nilFunc:=y1 1 _ rfl
 have c2:w2.cell? (J (w.heap.size + 1) 2) = some .nilFunc:=y1 2 _ rfl
 have f0:w2.frozen? (J (w.heap.size + 1) 0) = false:=(y2 0 (by omega)).2
 have f1:w2.frozen? (J (w.heap.size + 1) 1) = false:=(y2 1 (by omega)).2
 have f2:w2.frozen? (J (w.heap.size + 1) 2) = false:=(y2 2 (by omega)).2
 clear xP kS x1 x2 y1 y2
 unfold cP
 generalize hF0:Value.func (.func 164) #[yp W2 0] #[] = F0
 generalize hF1:Value.func (.func 165) #[yp W2 0] #[] = F1
 generalize hF2:Value.func (.func 166) #[yp W2 0] #[] = F2
 have vd:∀ (W:World) (o:Nat) (m:Mode),((store (J (w.heap.size + 1) o) F0 m).run Tryz.prog W = stored Tryz.prog W (J (w.heap.size + 1) o) F0 m)∧((store (J (w.heap.size + 1) o) F1 m).run Tryz.prog W = stored Tryz.prog W (J (w.heap.size + 1) o) F1 m)∧((store (J (w.heap.size + 1) o) F2 m).run Tryz.prog W = stored Tryz.prog W (J (w.heap.size + 1) o) F2 m):=fun W o m=>by
  subst hF0 hF1 hF2
  exact ⟨run_store _ W _ _ m rfl,run_store _ W _ _ m rfl,run_store _ W _ _ m rfl⟩
 have hst0:=fun W o m=>(vd W o m).1
 have hst1:=fun W o m=>(vd W o m).2.1
 have hst2:=fun W o m=>(vd W o m).2.2
 clear vd
 go_wp2_with fail
 have hn01:((J (w.heap.size + 1) 0):Addr) ≠ (J (w.heap.size + 1) 1):=fun e=>by simp at e
 have hn02:((J (w.heap.size + 1) 0):Addr) ≠ (J (w.heap.size + 1) 2):=fun e=>by simp at e
 have hn12:((J (w.heap.size + 1) 1):Addr) ≠ (J (w.heap.size + 1) 2):=fun e=>by simp at e
 have d2:(((w2.setCell (J (w.heap.size + 1) 0) F0).setCell (J (w.heap.size + 1) 1) F1).setCell (J (w.heap.size + 1) 2) F2).cell? (J (w.heap.size + 1) 2) = some F2 :=
  yN _ _ _ ((yM _ _ _ _ hn12).trans ((yM _ _ _ _ hn02).trans c2))
 have d1:(((w2.setCell (J (w.heap.size + 1) 0) F0).setCell (J (w.heap.size + 1) 1) F1).setCell (J (w.heap.size + 1) 2) F2).cell? (J (w.heap.size + 1) 1) = some F1 :=
  (yM _ _ _ _ hn12.symm).trans (yN _ _ _ ((yM _ _ _ _ hn01).trans c1))
 have d0:(((w2.setCell (J (w.heap.size + 1) 0) F0).setCell (J (w.heap.size + 1) 1) F1).setCell (J (w.heap.size + 1) 2) F2).cell? (J (w.heap.size + 1) 0) = some F0 :=
  (yM _ _ _ _ hn02.symm).trans ((yM _ _ _ _ hn01.symm).trans (yN _ _ _ c0))
 have xC:W2.heap.size ≠ w.heap.size + 1:=by rw [U vZ]; omega
 have HT5:=M (zu (U aE) (w':=((w2.setCell (J (w.heap.size + 1) 0) F0).setCell (J (w.heap.size + 1) 1) F1).setCell (J (w.heap.size + 1) 2) F2) ((yT _ _ _ _ xC).trans ((yT _ _ _ _ xC).trans (yT _ _ _ _ xC))))
 have uE:=M ((((U xt).setCell (p:=(J (w.heap.size + 1) 0)) (by simp) F0).setCell (p:=(J (w.heap.size + 1) 1)) (by simp) F1).setCell (p:=(J (w.heap.size + 1) 2)) (by simp) F2)
 generalize ((w2.setCell (J (w.heap.size + 1) 0) F0).setCell (J (w.heap.size + 1) 1) F1).setCell (J (w.heap.size + 1) 2) F2 = W5 at *
 try simp only [Exit.inBlock,Exit.then]
 refine bodyPost_ret (by simp [results,Tryz.results75,go_sem,d0,d1,d2]; try rfl) rfl ?_
 refine ⟨W2.heap.size,?_,U HT5,by rw [U vZ]; omega,U uE⟩
 subst hF0 hF1 hF2
 rfl
theorem gw (next:Int) (sd:Int) (ui:¬ sd = 1) (v:Value) (l:List Od) (w:World) (hr:RdR Od.vs 6 w v l) (hn:l.length ≤ 20) (hl:∀ o' ∈ l,0 ≤ o'.left∧o'.left ≤ 1000000) :
  Calls Tryz.prog 75 #[.agg #[H next,v],H sd] w fun e w' =>
   ∃ b,e = ym (cQ b)∧bY 200 false w' b sd (zr l sd)∧w.heap.size ≤ b∧yn w w':=by
 have HR:=M hr
 have HL:=M hl
 obtain ⟨a,cap,rfl,xD,hc⟩:=hr
 have xF:=zi w (O #[H next,.slice a l.length cap] 27)
 have r1:=zm (w.alloc (O #[H next,.slice a l.length cap] 27)) [.nilFunc,.nilFunc,.nilFunc] 129
 have t1:=eC (n:=3) (heap_alloc_new (w.alloc (O #[H next,.slice a l.length cap] 27)) (O #[.nilFunc,.nilFunc,.nilFunc] 129)) (by simp)
 rw [xF] at r1 t1
 have ug:((w.alloc (O #[H next,.slice a l.length cap] 27)).alloc (O #[.nilFunc,.nilFunc,.nilFunc] 129)).heap.size = w.heap.size + 1 + 1:=by rw [zi,xF]
 have xZ:Hid (yn w ((w.alloc (O #[H next,.slice a l.length cap] 27)).alloc (O #[.nilFunc,.nilFunc,.nilFunc] 129))) :=
  (gZ _ _).alloc (by rw [xF]; omega) _
 have HX:Hid (_∧_):=⟨r1,t1⟩
 have vZ:=M ug
 clear r1 t1 xF ug hc hl
 go_enter Tryz.func75,Tryz.ntmps75
 go_wp2_with fail
 generalize ((w.alloc (O #[H next,.slice a l.length cap] 27)).alloc (O #[.nilFunc,.nilFunc,.nilFunc] 129)) = W2 at xZ HX vZ ⊢
 refine (plant_s _ l sd W2 (zh (U HR) (U xZ) hU) hn (U HL)).mono ?_
 rintro e w1 ⟨rfl,htr,ub⟩
 have qd:=M htr
 have xU:=M ub
 clear htr ub
 go_wp2_with fail
 refine (ask_s W2.heap.size w1).mono ?_
 rintro e w2 ⟨rfl,xP⟩
 have aE:=M (zu (U qd) (xP.block _ (zG (U qd))))
 have kS:=(U xU).trans (xP.mono (U xU).size)
 obtain ⟨x1,x2⟩:=U HX
 have y1:=zc x1 kS (by rw [U vZ]; omega)
 have y2:=zk x2 kS (by rw [U vZ]; omega)
 have xt:=M (ia (U xZ) kS)
 have c0:w2.cell? (J (w.heap.size + 1) 0) = some .nilFunc:=y1 0 _ rfl
 have c1:w2.cell? (J (w.heap.size + 1) 1) = some .nilFunc:=y1 1 _ rfl
 have c2:w2.cell? (J (w.heap.size + 1) 2) = some .nilFunc:=y1 2 _ rfl
 have f0:w2.frozen? (J (w.heap.size + 1) 0) = false:=(y2 0 (by omega)).2
 have f1:w2.frozen? (J (w.heap.size + 1) 1) = false:=(y2 1 (by omega)).2
 have f2:w2.frozen? (J (w.heap.size + 1) 2) = false:=(y2 2 (by omega)).2
 clear xP kS x1 x2 y1 y2
 unfold cQ
 generalize hF0:Value.func (.func 168) #[yp W2 0] #[] = F0
 generalize hF1:Value.func (.func 169) #[yp W2 0] #[] = F1
 generalize hF2:Value.func (.func 170) #[yp W2 0] #[] = F2
 have vd:∀ (W:World) (o:Nat) (m:Mode),((store (J (w.heap.size + 1) o) F0 m).run Tryz.prog W = stored Tryz.prog W (J (w.heap.size + 1) o) F0 m)∧((store (J (w.heap.size + 1) o) F1 m).run Tryz.prog W = stored Tryz.prog W (J (w.heap.size + 1) o) F1 m)∧((store (J (w.heap.size + 1) o) F2 m).run Tryz.prog W = stored Tryz.prog W (J (w.heap.size + 1) o) F2 m):=fun W o m=>by
  subst hF0 hF1 hF2
  exact ⟨run_store _ W _ _ m rfl,run_store _ W _ _ m rfl,run_store _ W _ _ m rfl⟩
 have hst0:=fun W o m=>(vd W o m).1
 have hst1:=fun W o m=>(vd W o m).2.1
 have hst2:=fun W o m=>(vd W o m).2.2
 clear vd
 go_wp2_with fail
 have hn01:((J (w.heap.size + 1) 0):Addr) ≠ (J (w.heap.size + 1) 1):=fun e=>by simp at e
 have hn02:((J (w.heap.size + 1) 0):Addr) ≠ (J (w.heap.size + 1) 2):=fun e=>by simp at e
 have hn12:((J (w.heap.size + 1) 1):Addr) ≠ (J (w.heap.size + 1) 2):=fun e=>by simp at e
 have d2:(((w2.setCell (J (w.heap.size + 1) 0) F0).setCell (J (w.heap.size + 1) 1) F1).setCell (J (w.heap.size + 1) 2) F2).cell? (J (w.heap.size + 1) 2) = some F2 :=
  yN _ _ _ ((yM _ _ _ _ hn12).trans ((yM _ _ _ _ hn02).trans c2))
 have d1:(((w2.setCell (J (w.heap.size + 1) 0) F0).setCell (J (w.heap.size + 1) 1) F1).setCell (J (w.heap.size + 1) 2) F2).cell? (J (w.heap.size + 1) 1) = some F1 :=
  (yM _ _ _ _ hn12.symm).trans (yN _ _ _ ((yM _ _ _ _ hn01).trans c1))
 have d0:(((w2.setCell (J (w.heap.size + 1) 0) F0).setCell (J (w.heap.size + 1) 1) F1).setCell (J (w.heap.size + 1) 2) F2).cell? (J (w.heap.size + 1) 0) = some F0 :=
  (yM _ _ _ _ hn02.symm).trans ((yM _ _ _ _ hn01.symm).trans (yN _ _ _ c0))
 have xC:W2.heap.size ≠ w.heap.size + 1:=by rw [U vZ]; omega
 have HT5:=M (zu (U aE) (w':=((w2.setCell (J (w.heap.size + 1) 0) F0).setCell (J (w.heap.size + 1) 1) F1).setCell (J (w.heap.size + 1) 2) F2) ((yT _ _ _ _ xC).trans ((yT _ _ _ _ xC).trans (yT _ _ _ _ xC))))
 have uE:=M ((((U xt).setCell (p:=(J (w.heap.size + 1) 0)) (by simp) F0).setCell (p:=(J (w.heap.size + 1) 1)) (by simp) F1).setCell (p:=(J (w.heap.size + 1) 2)) (by simp) F2)
 generalize ((w2.setCell (J (w.heap.size + 1) 0) F0).setCell (J (w.heap.size + 1) 1) F1).setCell (J (w.heap.size + 1) 2) F2 = W5 at *
 try simp only [Exit.inBlock,Exit.then]
 refine bodyPost_ret (by simp [results,Tryz.results75,go_sem,d0,d1,d2]; try rfl) rfl ?_
 refine ⟨W2.heap.size,?_,U HT5,by rw [U vZ]; omega,U uE⟩
 subst hF0 hF1 hF2
 rfl
def hdO (q:List Od):Od:=(q.head?).getD zOd
def hdF (q:List Od):Bool:=(q.head?).isSome
theorem frOf_eq (q:List Od):frOf q = .tuple #[.agg (yw ((hdO q).id) ((hdO q).side) ((hdO q).ticks) ((hdO q).left) ((hdO q).life) ((hdO q).tag)).toArray,.bool (hdF q)]:=by
 unfold frOf hdO hdF
 cases q.head? <;> rfl
def meetB (q1 q2:List Od):Bool:=hdF q1 && hdF q2 && decide ((hdO q2).ticks ≤ (hdO q1).ticks)
theorem sidesMeet_any (b1 b2:Nat) (sd1 sd2:Int) (s1 s2:List Od) (w:World) (Q:bY 197 true w b1 sd1 s1) (D:bY 200 false w b2 sd2 s2) (n1:s1.length ≤ 20) (n2:s2.length ≤ 20) :
  Calls Tryz.prog 77 #[cP b1,cQ b2] w fun e w'=>e = ym (.bool (meetB (quOf true s1) (quOf false s2)))∧yn w w':=by
 have H1:=M Q
 have H2:=M D
 have ub:=zG Q
 have xP:=zG D
 clear Q D
 unfold cP cQ
 have xF:=zi w (O #[.func (.func 164) #[I b1 0] #[],.func (.func 165) #[I b1 0] #[],.func (.func 166) #[I b1 0] #[]] 129)
 have r1:=zm (w.alloc (O #[.func (.func 164) #[I b1 0] #[],.func (.func 165) #[I b1 0] #[],.func (.func 166) #[I b1 0] #[]] 129)) [.func (.func 168) #[I b2 0] #[],.func (.func 169) #[I b2 0] #[],.func (.func 170) #[I b2 0] #[]] 129
 have ug:((w.alloc (O #[.func (.func 164) #[I b1 0] #[],.func (.func 165) #[I b1 0] #[],.func (.func 166) #[I b1 0] #[]] 129)).alloc (O #[.func (.func 168) #[I b2 0] #[],.func (.func 169) #[I b2 0] #[],.func (.func 170) #[I b2 0] #[]] 129)).heap.size = w.heap.size + 1 + 1:=by rw [zi,xF]
 have xZ:Hid (yn w ((w.alloc (O #[.func (.func 164) #[I b1 0] #[],.func (.func 165) #[I b1 0] #[],.func (.func 166) #[I b1 0] #[]] 129)).alloc (O #[.func (.func 168) #[I b2 0] #[],.func (.func 169) #[I b2 0] #[],.func (.func 170) #[I b2 0] #[]] 129))):=(gZ _ _).alloc (by rw [xF]; omega) _
 rw [xF] at r1
 have HX:=M (r1 0 _ rfl)
 have vZ:=M ug
 clear r1 xF ug
 go_enter Tryz.func77,Tryz.ntmps77
 go_wp2_with fail
 generalize ((w.alloc (O #[.func (.func 164) #[I b1 0] #[],.func (.func 165) #[I b1 0] #[],.func (.func 166) #[I b1 0] #[]] 129)).alloc (O #[.func (.func 168) #[I b2 0] #[],.func (.func 169) #[I b2 0] #[],.func (.func 170) #[I b2 0] #[]] 129)) = W2 at xZ HX vZ ⊢
 refine (front_b b1 sd1 s1 W2 (zu (U H1) ((U xZ).block _ ub)) n1).mono ?_
 rintro e w1 ⟨rfl,xQ⟩
 rw [frOf_eq]
 have xG:=M xQ
 have c0:=(xQ.cell (p:=(J (w.heap.size + 1) 0)) (by rw [U vZ]; simp)).trans (U HX)
 have hsz1:w.heap.size + 2 ≤ w1.heap.size:=by have:=xQ.size; rw [U vZ] at this; omega
 generalize jl:hdO (quOf true s1) = x
 generalize oR:hdF (quOf true s1) = f1
 have ou:Hid (hdO (quOf true s1) = x∧hdF (quOf true s1) = f1):=⟨jl,oR⟩
 clear xQ jl oR
 have c0':(w1.alloc (O (yw x.id x.side x.ticks x.left x.life x.tag).toArray 65)).cell? (J (w.heap.size + 1) 0) = _:=(Below.cell ((Below.refl w1.heap.size w1).alloc hU _) (p:=(J (w.heap.size + 1) 0)) (show w.heap.size + 1 < w1.heap.size by omega)).trans c0
 have vw:Hid (World.rangeAt (w1.alloc (O (yw x.id x.side x.ticks x.left x.life x.tag).toArray 65)) w1.heap.size 0 x.vs):=zm w1 x.vs 65
 have xO:Hid (yn W2 (w1.alloc (O (yw x.id x.side x.ticks x.left x.life x.tag).toArray 65))):=(U xG).alloc (U xG).size _
 have oe:Hid ((w1.alloc (O (yw x.id x.side x.ticks x.left x.life x.tag).toArray 65)).heap.size = w1.heap.size + 1):=zi _ _
 go_wp2_with fail
 generalize (w1.alloc (O (yw x.id x.side x.ticks x.left x.life x.tag).toArray 65)) = W4 at c0' vw xO oe ⊢
 have HB04:=M ((U xZ).trans ((U xO).mono (U xZ).size))
 refine (front_s b2 sd2 s2 W4 (zu (U H2) ((U HB04).block _ xP)) n2).mono ?_
 rintro e w5 ⟨rfl,uj⟩
 rw [frOf_eq]
 have uE:=M (ia (U HB04) uj)
 obtain ⟨-,-,t2,-⟩:=zC (zc (U vw) uj (by rw [U oe]; omega))
 have hsz5:w1.heap.size < w5.heap.size:=by have:=uj.size; rw [U oe] at this; omega
 generalize hq2:hdO (quOf false s2) = y
 generalize hf2:hdF (quOf false s2) = f2
 have HQ2:Hid (hdO (quOf false s2) = y∧hdF (quOf false s2) = f2):=⟨hq2,hf2⟩
 clear uj hq2 hf2
 have t2':(w5.alloc (O (yw y.id y.side y.ticks y.left y.life y.tag).toArray 65)).cell? (yq w1 (0 + 2)) = _:=(Below.cell ((Below.refl w5.heap.size w5).alloc hU _) (p:=(yq w1 (0 + 2))) hsz5).trans t2
 have vV:Hid (yn w (w5.alloc (O (yw y.id y.side y.ticks y.left y.life y.tag).toArray 65))):=(U uE).alloc (U uE).size _
 have HM:Hid (meetB (quOf true s1) (quOf false s2) = (f1 && f2 && decide (y.ticks ≤ x.ticks))):=by
  show _ = _
  rw [meetB,(U ou).1,(U ou).2,(U HQ2).1,(U HQ2).2]
 cases f1 <;> cases f2
 ·go_wp2_with fail
  go_ret
  exact ⟨zo (U HM).symm,U vV⟩
 ·go_wp2_with fail
  go_ret
  exact ⟨zo (U HM).symm,U vV⟩
 ·go_wp2_with fail
  go_ret
  exact ⟨zo (U HM).symm,U vV⟩
 ·go_wp2_with fail
  go_ret
  exact ⟨zo (U HM).symm,U vV⟩
def noV (c:Cm):Value:=.agg #[H c.s,H c.t,H c.l,H c.q,yj c.p,yk c.g]
def bR (t:Int):Bool:=decide (t = 1) || decide (t = 5)
def prcB (c:Cm):Bool:=if c.t = 2 then decide (fbit c.p = 0) else tkOk c.p
def cj (c:Cm) (o:Od):Bool:=if c.t = 2 then true else if c.s = 1 then decide (o.ticks ≤ tk c.p) else decide (tk c.p ≤ o.ticks)
def ordO (c:Cm) (id:Int):Od:=⟨id,c.s,tk c.p,c.q,c.l,c.g⟩
def othS (s:Int):Int:=if s = 1 then 2 else 1
theorem isType_any (t:Int) (w:World) :
  Calls Tryz.prog 203 #[H t] w fun e w'=>e = ym (.bool (betB t 1 5))∧w' = w:=by
 go_enter Tryz.func203,Tryz.ntmps203
 go_wp2_with fail
 refine (zH t 1 5 w).mono ?_
 rintro e w' ⟨rfl,rfl⟩
 go_wp2_with fail
 go_ret
 exact ⟨rfl,rfl⟩
theorem isQty_any (t:Int) (w:World) :
  Calls Tryz.prog 205 #[H t] w fun e w'=>e = ym (.bool (betB t 1 1000000))∧w' = w:=by
 go_enter Tryz.func205,Tryz.ntmps205
 go_wp2_with fail
 refine (zH t 1 1000000 w).mono ?_
 rintro e w' ⟨rfl,rfl⟩
 go_wp2_with fail
 go_ret
 exact ⟨rfl,rfl⟩
theorem otherSide_any (s:Int) (w:World) :
  Calls Tryz.prog 104 #[H s] w fun e w'=>e = ym (H (othS s))∧w' = w:=by
 by_cases h:s = 1
 ·subst h
  go_enter Tryz.func104,Tryz.ntmps104
  go_wp2_with fail
  go_ret
  exact ⟨rfl,rfl⟩
 ·have h':(s == 1) = false:=by simpa using h
  have HS:Hid (othS s = 1):=if_neg h
  go_enter Tryz.func104,Tryz.ntmps104
  go_wp2_with fail
  go_ret
  exact ⟨zw (U HS).symm,rfl⟩
theorem fG (c:Cm) (w:World) :
  Calls Tryz.prog 106 #[noV c] w fun e w'=>e = ym (.bool (bR c.t))∧yn w w':=by
 obtain ⟨k,s,t,l,q,i,p,g⟩:=c
 unfold noV
 simp only
 by_cases Q:t = 1
 ·subst Q
  go_enter Tryz.func106,Tryz.ntmps106
  go_wp2_with fail
  go_ret
  exact ⟨rfl,by go_grown⟩
 ·have b1:(t == 1) = false:=by simpa using Q
  by_cases h5:t = 5
  ·subst h5
   go_enter Tryz.func106,Tryz.ntmps106
   go_wp2_with fail
   go_ret
   exact ⟨rfl,by go_grown⟩
  ·have b5:(t == 5) = false:=by simpa using h5
   have HR:Hid (bR t = false):=by show bR t = false; simp [bR,Q,h5]
   go_enter Tryz.func106,Tryz.ntmps106
   go_wp2_with fail
   go_ret
   exact ⟨zo (U HR).symm,by go_grown⟩
theorem hasPrice_any (c:Cm) (w:World) :
  Calls Tryz.prog 204 #[noV c] w fun e w'=>e = ym (.bool (prcB c))∧yn w w':=by
 obtain ⟨k,s,t,l,q,i,p,g⟩:=c
 unfold noV
 simp only
 have HB:Hid (yn w (w.alloc (O #[H s,H t,H l,H q,yj p,yk g] 63))):=gZ _ _
 by_cases D:t = 2
 ·subst D
  have HP:Hid (prcB ⟨k,s,2,l,q,i,p,g⟩ = decide (fbit p = 0)):=if_pos rfl
  go_enter Tryz.func204,Tryz.ntmps204
  go_wp2_with fail
  refine (gJ p _).mono ?_
  rintro e w' ⟨rfl,rfl⟩
  go_wp2_with fail
  go_ret
  exact ⟨zo (by rw [U HP,Bool.eq_iff_iff]; simp),U HB⟩
 ·have b2:(t == 2) = false:=by simpa using D
  have HP:Hid (prcB ⟨k,s,t,l,q,i,p,g⟩ = tkOk p):=if_neg D
  go_enter Tryz.func204,Tryz.ntmps204
  go_wp2_with fail
  refine (gj p _).mono ?_
  rintro e w' ⟨rfl,rfl⟩
  go_wp2_with fail
  go_ret
  exact ⟨zo (U HP).symm,U HB⟩
theorem meets_any (c:Cm) (o:Od) (w:World) :
  Calls Tryz.prog 105 #[noV c,.agg (yw o.id o.side o.ticks o.left o.life o.tag).toArray] w fun e w'=>e = ym (.bool (cj c o))∧yn w w':=by
 obtain ⟨k,s,t,l,q,i,p,g⟩:=c
 obtain ⟨id,side,ticks,left,life,tag⟩:=o
 unfold noV
 simp only
 have HB:Hid (yn w ((w.alloc (O #[H s,H t,H l,H q,yj p,yk g] 63)).alloc (O (yw id side ticks left life tag).toArray 65))):=(gZ _ _).alloc (by rw [zi]; omega) _
 by_cases D:t = 2
 ·subst D
  have HP:Hid (cj ⟨k,s,2,l,q,i,p,g⟩ ⟨id,side,ticks,left,life,tag⟩ = true):=if_pos rfl
  go_enter Tryz.func105,Tryz.ntmps105
  go_wp2_with fail
  go_ret
  exact ⟨zo (U HP).symm,U HB⟩
 ·have b2:(t == 2) = false:=by simpa using D
  by_cases Q:s = 1
  ·subst Q
   have HP:Hid (cj ⟨k,1,t,l,q,i,p,g⟩ ⟨id,side,ticks,left,life,tag⟩ = decide (ticks ≤ tk p)):=by show _ = _; rw [cj,if_neg D]; rfl
   go_enter Tryz.func105,Tryz.ntmps105
   go_wp2_with fail
   refine (gj p _).mono ?_
   rintro e w' ⟨rfl,rfl⟩
   go_wp2_with fail
   go_ret
   exact ⟨zo (U HP).symm,U HB⟩
  ·have b1:(s == 1) = false:=by simpa using Q
   have HP:Hid (cj ⟨k,s,t,l,q,i,p,g⟩ ⟨id,side,ticks,left,life,tag⟩ = decide (tk p ≤ ticks)):=by show _ = _; rw [cj,if_neg D,if_neg Q]
   go_enter Tryz.func105,Tryz.ntmps105
   go_wp2_with fail
   refine (gj p _).mono ?_
   rintro e w' ⟨rfl,rfl⟩
   go_wp2_with fail
   go_ret
   exact ⟨zo (U HP).symm,U HB⟩
theorem order_any (c:Cm) (id:Int) (w:World) :
  Calls Tryz.prog 151 #[noV c,H id] w fun e w'=>e = ym (.agg (yw id c.s (tk c.p) c.q c.l c.g).toArray)∧yn w w':=by
 obtain ⟨k,s,t,l,q,i,p,g⟩:=c
 unfold noV
 simp only
 go_enter Tryz.func151,Tryz.ntmps151
 go_wp2_with fail
 refine (gj p _).mono ?_
 rintro e w' ⟨rfl,rfl⟩
 go_wp2_with fail
 go_returns
 refine ⟨rfl,?_⟩
 go_grown
theorem toldNew_any (c:Cm) (w:World) :
  Calls Tryz.prog 231 #[noV c] w fun e w'=>e = ym (.agg (yx 1 c.s c.t c.l c.q 0 c.p c.g).toArray)∧yn w w':=by
 obtain ⟨k,s,t,l,q,i,p,g⟩:=c
 unfold noV
 have hsf:=sfl
 simp only
 go_enter Tryz.func231,Tryz.ntmps231
 go_wp2_with fail
 go_returns
 refine ⟨rfl,?_⟩
 go_grown
theorem toldCancel_any (i:Int) (w:World) :
  Calls Tryz.prog 235 #[.agg #[H i]] w fun e w'=>e = ym (.agg (yx 2 0 0 0 0 i 0 ⟨#[]⟩).toArray)∧yn w w':=by
 have hsf:=sfl
 go_enter Tryz.func235,Tryz.ntmps235
 go_wp2_with fail
 go_returns
 refine ⟨rfl,?_⟩
 go_grown
theorem toldReduce_any (i q:Int) (w:World) :
  Calls Tryz.prog 236 #[.agg #[H i,H q]] w fun e w'=>e = ym (.agg (yx 3 0 0 0 q i 0 ⟨#[]⟩).toArray)∧yn w w':=by
 have hsf:=sfl
 go_enter Tryz.func236,Tryz.ntmps236
 go_wp2_with fail
 go_returns
 refine ⟨rfl,?_⟩
 go_grown
theorem toldDay_any (w:World) :
  Calls Tryz.prog 240 #[.agg #[]] w fun e w'=>e = ym (.agg (yx 4 0 0 0 0 0 0 ⟨#[]⟩).toArray)∧yn w w':=by
 have hsf:=sfl
 go_enter Tryz.func240,Tryz.ntmps240
 go_wp2_with fail
 go_returns
 refine ⟨rfl,?_⟩
 go_grown
structure Ev where
 kind:Int
 cmd:Cm
 id:Int
 other:Int
 qty:Int
 price:Int
 reason:Int
def cmV (c:Cm):Value:=.agg (yx c.k c.s c.t c.l c.q c.i c.p c.g).toArray
def evV (e:Ev):Value:=.agg (yv e.kind e.cmd.k e.cmd.s e.cmd.t e.cmd.l e.cmd.q e.cmd.i e.cmd.p e.cmd.g e.id e.other e.qty e.price e.reason).toArray
def vlV (e:Ev):Value:=.agg #[H e.kind,H e.id,H e.other,H e.qty,H e.price,H e.reason,H e.cmd.k,H e.cmd.s,H e.cmd.t,H e.cmd.l,H e.cmd.q,H e.cmd.i,.int .u64 (fbit e.cmd.p),yk e.cmd.g]
def Ev.vs (e:Ev):List Value:=(yv e.kind e.cmd.k e.cmd.s e.cmd.t e.cmd.l e.cmd.q e.cmd.i e.cmd.p e.cmd.g e.id e.other e.qty e.price e.reason)
theorem Ev.len (e:Ev):e.vs.length = 14:=rfl
def zCm:Cm:=⟨0,0,0,0,0,0,0,⟨#[]⟩⟩
theorem cells_madeV (w:World) (cs:List Value) (t:TypeId):(w.alloc (Obj.cells cs.toArray t)).rangeAt w.heap.size 0 cs:=fun j u h=>by
 rw [cell_of_row _ w.heap.size (0 + j) cs.toArray t (0,0) (heap_alloc_new w _)]
 simpa using h
theorem size_madeV (w:World) (o:Obj):(w.alloc o).heap.size = w.heap.size + 1:=by simp
theorem there_madeV (w:World) (cs:List Value) (t:TypeId):(w.alloc (Obj.cells cs.toArray t)).there w.heap.size 0 cs.length:=eC (heap_alloc_new w _) (by simp)
theorem gy (e:Ev) (w:World) :
  Calls Tryz.prog 49 #[evV e] w fun x w'=>x = ym (vlV e)∧yn w w':=by
 obtain ⟨xn,⟨k,s,t,l,q,i,p,g⟩,id,xl,qty,xm,xk⟩:=e
 unfold evV vlV
 have hsf:=sfl
 simp only
 generalize oS:fbit p = fp
 have HFB:=M (fun W=>oS ▸ gJ p W)
 clear oS
 have xF:(w.alloc (O (yv xn k s t l q i p g id xl qty xm xk).toArray 37)).heap.size = w.heap.size + 1:=size_madeV _ _
 have ug:((w.alloc (O (yv xn k s t l q i p g id xl qty xm xk).toArray 37)).alloc (O #[H 0,H 0,H 0,H 0,H 0,H 0,H 0,H 0,H 0,H 0,H 0,H 0,.int .u64 0,yk ⟨#[]⟩] 103)).heap.size = w.heap.size + 2:=by rw [size_madeV,xF]
 have jZ:(((w.alloc (O (yv xn k s t l q i p g id xl qty xm xk).toArray 37)).alloc (O #[H 0,H 0,H 0,H 0,H 0,H 0,H 0,H 0,H 0,H 0,H 0,H 0,.int .u64 0,yk ⟨#[]⟩] 103)).alloc (O (yx k s t l q i p g).toArray 33)).heap.size = w.heap.size + 3:=by rw [size_madeV,ug]
 have b1:Below (w.heap.size + 1) (w.alloc (O (yv xn k s t l q i p g id xl qty xm xk).toArray 37)) (((w.alloc (O (yv xn k s t l q i p g id xl qty xm xk).toArray 37)).alloc (O #[H 0,H 0,H 0,H 0,H 0,H 0,H 0,H 0,H 0,H 0,H 0,H 0,.int .u64 0,yk ⟨#[]⟩] 103)).alloc (O (yx k s t l q i p g).toArray 33)):=(((Below.refl _ _).alloc (by rw [xF]; omega) _).alloc (by rw [ug]; omega) _)
 have b2:Below (w.heap.size + 2) ((w.alloc (O (yv xn k s t l q i p g id xl qty xm xk).toArray 37)).alloc (O #[H 0,H 0,H 0,H 0,H 0,H 0,H 0,H 0,H 0,H 0,H 0,H 0,.int .u64 0,yk ⟨#[]⟩] 103)) (((w.alloc (O (yv xn k s t l q i p g id xl qty xm xk).toArray 37)).alloc (O #[H 0,H 0,H 0,H 0,H 0,H 0,H 0,H 0,H 0,H 0,H 0,H 0,.int .u64 0,yk ⟨#[]⟩] 103)).alloc (O (yx k s t l q i p g).toArray 33)):=((Below.refl _ _).alloc (by rw [ug]; omega) _)
 have r1:=zc (cells_madeV w (yv xn k s t l q i p g id xl qty xm xk) 37) b1 (by omega)
 have t2:=there_madeV (w.alloc (O (yv xn k s t l q i p g id xl qty xm xk).toArray 37)) [H 0,H 0,H 0,H 0,H 0,H 0,H 0,H 0,H 0,H 0,H 0,H 0,.int .u64 0,yk ⟨#[]⟩] 103
 have r3:=cells_madeV ((w.alloc (O (yv xn k s t l q i p g id xl qty xm xk).toArray 37)).alloc (O #[H 0,H 0,H 0,H 0,H 0,H 0,H 0,H 0,H 0,H 0,H 0,H 0,.int .u64 0,yk ⟨#[]⟩] 103)) (yx k s t l q i p g) 33
 rw [xF] at t2
 rw [ug] at r3
 have t2':=zk t2 b2 (by omega)
 have xG:Hid (yn w (((w.alloc (O (yv xn k s t l q i p g id xl qty xm xk).toArray 37)).alloc (O #[H 0,H 0,H 0,H 0,H 0,H 0,H 0,H 0,H 0,H 0,H 0,H 0,.int .u64 0,yk ⟨#[]⟩] 103)).alloc (O (yx k s t l q i p g).toArray 33))):=((gZ _ _).alloc (by rw [xF]; omega) _).alloc (by rw [ug]; omega) _
 have HX:Hid (_∧_∧_):=⟨r1,t2',r3⟩
 clear r1 t2 t2' r3 b1 b2 xF ug jZ
 go_enter Tryz.func49,Tryz.ntmps49
 go_wp2_with fail
 generalize (((w.alloc (O (yv xn k s t l q i p g id xl qty xm xk).toArray 37)).alloc (O #[H 0,H 0,H 0,H 0,H 0,H 0,H 0,H 0,H 0,H 0,H 0,H 0,.int .u64 0,yk ⟨#[]⟩] 103)).alloc (O (yx k s t l q i p g).toArray 33)) = WW at xG HX ⊢
 obtain ⟨km,oU,hr3⟩:=U HX
 have x0:=km 0 _ rfl
 have x1:=km 1 _ rfl
 have x2:=km 2 _ rfl
 have x3:=km 3 _ rfl
 have x4:=km 4 _ rfl
 have x5:=km 5 _ rfl
 have x6:=km 6 _ rfl
 have x7:=km 7 _ rfl
 have x8:=km 8 _ rfl
 have x9:=km 9 _ rfl
 have x10:=km 10 _ rfl
 have x11:=km 11 _ rfl
 have x12:=km 12 _ rfl
 have x13:=km 13 _ rfl
 have y0:=hr3 0 _ rfl
 have y1:=hr3 1 _ rfl
 have y2:=hr3 2 _ rfl
 have y3:=hr3 3 _ rfl
 have y4:=hr3 4 _ rfl
 have y5:=hr3 5 _ rfl
 have y6:=hr3 6 _ rfl
 have y7:=hr3 7 _ rfl
 simp only [Nat.zero_add] at x0 x1 x2 x3 x4 x5 x6 x7 x8 x9 x10 x11 x12 x13 y0 y1 y2 y3 y4 y5 y6 y7
 obtain ⟨v0,z0,f0⟩:=zE oU 0 (by decide)
 obtain ⟨v1,z1,f1⟩:=zE oU 1 (by decide)
 obtain ⟨v2,z2,f2⟩:=zE oU 2 (by decide)
 obtain ⟨v3,z3,f3⟩:=zE oU 3 (by decide)
 obtain ⟨v4,z4,f4⟩:=zE oU 4 (by decide)
 obtain ⟨v5,z5,f5⟩:=zE oU 5 (by decide)
 obtain ⟨v6,z6,f6⟩:=zE oU 6 (by decide)
 obtain ⟨v7,z7,f7⟩:=zE oU 7 (by decide)
 obtain ⟨v8,z8,f8⟩:=zE oU 8 (by decide)
 obtain ⟨v9,z9,f9⟩:=zE oU 9 (by decide)
 obtain ⟨v10,pV,f10⟩:=zE oU 10 (by decide)
 obtain ⟨v11,pW,f11⟩:=zE oU 11 (by decide)
 obtain ⟨v12,pX,f12⟩:=zE oU 12 (by decide)
 obtain ⟨v13,pY,f13⟩:=zE oU 13 (by decide)
 simp only [Nat.zero_add] at z0 f0 z1 f1 z2 f2 z3 f3 z4 f4 z5 f5 z6 f6 z7 f7 z8 f8 z9 f9 pV f10 pW f11 pX f12 pY f13
 have HT:=M oU
 clear km oU hr3 HX
 refine wp_region_still_tail 30 (by kernel_rfl) (by kernel_rfl) ?_
 simp only [yU,List.take_zero,yV,List.drop_zero]
 repeat still_step
 still_call (U HFB _)
 repeat still_step
 refine wpStill_nil ?_
 go_wp2_with fail
 change bodyPost _ _ _ _ _ (WW.setCells (w.heap.size + 1) 0 [H xn,H id,H xl,H qty,H xm,H xk,H k,H s,H t,H l,H q,H i,.int .u64 fp,yk g]).drew
 have jS:=M (yY WW (w.heap.size + 1) 0 [H xn,H id,H xl,H qty,H xm,H xk,H k,H s,H t,H l,H q,H i,.int .u64 fp,yk g] (fun j hj=>U HT j hj))
 have qC:=M (zj (w.heap.size + 1) (by omega) [H xn,H id,H xl,H qty,H xm,H xk,H k,H s,H t,H l,H q,H i,.int .u64 fp,yk g] 0 WW (U xG))
 generalize WW.setCells (w.heap.size + 1) 0 [H xn,H id,H xl,H qty,H xm,H xk,H k,H s,H t,H l,H q,H i,.int .u64 fp,yk g] = WE at jS qC ⊢
 obtain ⟨d0,d1,d2,d3,d4,d5,d6,d7,d8,d9,pf,pg,ph,pj⟩:=yG (U jS)
 try simp only [Exit.inBlock,Exit.then]
 refine bodyPost_ret (by simp [results,Tryz.results49,go_sem,d0,d1,d2,d3,d4,d5,d6,d7,d8,d9,pf,pg,ph,pj]; try rfl) rfl ?_
 exact ⟨rfl,(U qC).drew⟩
end Go.Proofs.YthhkapcbocgcoaaGreatDoor
