/-
  Whether the numbers of orders rise, proved by walking the function; a side's tree planted and asked; whether the sides meet.
-/
import Derived.Test.YtnphbkgfjanmgaaGreatDoorDj06
import Derived.StillTailTactics
set_option linter.unusedVariables false
set_option maxHeartbeats 6400000
set_option maxRecDepth 100000
namespace Go.Proofs.YtnphbkgfjanmgaaGreatDoor
open Go.RowKit
def idsR (next:Int):Int→List Od→Bool
 | _,[]=>true
 | last,o :: r=>decide (last < o.id) && decide (o.id < next) && idsR next o.id r
theorem idsRise_any (next:Int) (v:Value) (l:List Od) (w:World) (hr:RdR Od.vs 6 w v l) :
  Calls Tryz.prog 82 #[.agg #[I next,v]] w fun e w'=>e = yn (.bool (idsR next 0 l))∧yp w w':=by
 obtain ⟨a,cap,rfl,xA,hc⟩:=hr
 have xt:∀ (k:Nat) (c:Od),l[k]? = some c→∃ b off,a = some (Q b off)∧b < w.heap.size∧w.rangeAt b (off + k * 6) c.vs:=by
  intro k c hk
  obtain ⟨b,off,N,Y,h3⟩:=hc (by intro h; rw [h] at hk; simp at hk)
  exact ⟨b,off,N,Y,h3 k c hk⟩
 have HC:=H xt
 clear xt hc
 have xW:Hid (yp w (w.alloc (L #[I next,.slice a l.length cap] 34))):=fw _ _
 have jm:Hid ((w.alloc (L #[I next,.slice a l.length cap] 34)).cell? (yr w 0) = some (I next)∧w.heap.size < (w.alloc (L #[I next,.slice a l.length cap] 34)).heap.size):=⟨zn w [I next,.slice a l.length cap] 34 0 _ rfl,by rw [zj]; omega⟩
 go_enter Tryz.func82,Tryz.ntmps82
 go_wp2_with fail
 generalize (w.alloc (L #[I next,.slice a l.length cap] 34)) = W1 at xW jm ⊢
 have xK:=(U jm).2
 go_loopw [3,9] (fun lv iv wr=>∃ (k:Nat) (last:Int),lv = I last∧k ≤ l.length∧iv = I k∧Hid (idsR next 0 l = idsR next last (l.drop k))∧yp W1 wr) (fun _ iv _=>l.length - (intOf iv).toNat)
 case atStart=>exact ⟨0,0,rfl,Nat.zero_le _,rfl,by simp [Hid],Below.refl _ _⟩
 case round =>
  obtain ⟨k,last,rfl,hk,rfl,hids,xl⟩:=hrel
  have HB:=H xl
  clear xl
  by_cases xJ:k < l.length
  ·obtain ⟨c,ur⟩:∃ c,l[k]? = some c:=⟨_,yI xJ⟩
   have qZ:l.drop k = c :: l.drop (k + 1):=by
    obtain ⟨N,rfl⟩:=yH.1 ur
    exact xd N
   have HI:Hid (idsR next 0 l = (decide (last < c.id) && decide (c.id < next) && idsR next c.id (l.drop (k + 1)))):=by
    have:=U hids
    rw [qZ] at this
    exact this
   obtain ⟨b,off,rfl,E,X⟩:=U HC k c ur
   obtain ⟨g0,g1,g2,g3,g4,g5⟩:=zB (zc X ((U xW).trans ((U HB).mono (U xW).size)) E)
   have hbox:=((U HB).cell (p:=(yr w 0)) xK).trans (U jm).1
   have uF:(k:Int) < l.length:=by omega
   have pf:=(U HB).size
   have hboxW:(wr.alloc (L (yx c.id c.side c.ticks c.left c.life c.tag).toArray 78)).cell? (yr w 0) = some (I next):=(Below.cell ((Below.refl wr.heap.size wr).alloc yb _) (p:=(yr w 0)) (show w.heap.size < wr.heap.size by omega)).trans hbox
   clear ur X E qZ hids
   by_cases N:last < c.id
   ·have pp:decide (c.id ≤ last) = false:=by simpa using N
    by_cases Y:c.id < next
    ·have oE:¬ (next ≤ c.id):=by omega
     have HN:Hid (idsR next 0 l = idsR next c.id (l.drop (k + 1))):=by
      have:=U HI
      rw [decide_eq_true N,decide_eq_true Y,Bool.true_and,Bool.true_and] at this
      exact this
     go_wp2_with fail
     go_roundw
     case rel=>exact ⟨k + 1,c.id,rfl,by omega,by go_num,U HN,(U HB).alloc pf _⟩
     case measure=>simp [intOf]; omega
    ·have oE:next ≤ c.id:=by omega
     have HN:Hid (idsR next 0 l = false):=by
      have:=U HI
      rw [decide_eq_false Y,Bool.and_false,Bool.false_and] at this
      exact this
     go_wp2_with fail
     go_ret
     exact ⟨zp (U HN).symm,(U xW).trans (((U HB).alloc pf _).mono (U xW).size)⟩
   ·have pp:decide (c.id ≤ last) = true:=by simp; omega
    have HN:Hid (idsR next 0 l = false):=by
     have:=U HI
     rw [decide_eq_false N,Bool.false_and,Bool.false_and] at this
     exact this
    go_wp2_with fail
    go_ret
    exact ⟨zp (U HN).symm,(U xW).trans (((U HB).alloc pf _).mono (U xW).size)⟩
  ·go_wp2_with fail
   go_ret
   have h:=U hids
   rw [xb (by omega)] at h
   exact ⟨zp (by rw [h]; rfl),(U xW).trans ((U HB).mono (U xW).size)⟩
theorem eP (next:Int) (v:Value) (l:List Od) (w:World) (hr:RdR Od.vs 6 w v l) (hn:l.length ≤ 20) (hl:∀ o' ∈ l,0 ≤ o'.left∧o'.left ≤ 1000000) :
  Calls Tryz.prog 84 #[.agg #[I next,v],I 1] w fun e w' =>
   ∃ b,e = yn (bE b)∧aV 201 true w' b 1 (zt l 1)∧w.heap.size ≤ b∧yp w w':=by
 have HR:=H hr
 have HL:=H hl
 obtain ⟨a,cap,rfl,xA,hc⟩:=hr
 have xK:=zj w (L #[I next,.slice a l.length cap] 34)
 have r1:=zn (w.alloc (L #[I next,.slice a l.length cap] 34)) [.nilFunc,.nilFunc,.nilFunc] 135
 have t1:=bR (n:=3) (heap_alloc_new (w.alloc (L #[I next,.slice a l.length cap] 34)) (L #[.nilFunc,.nilFunc,.nilFunc] 135)) (by simp)
 rw [xK] at r1 t1
 have uf:((w.alloc (L #[I next,.slice a l.length cap] 34)).alloc (L #[.nilFunc,.nilFunc,.nilFunc] 135)).heap.size = w.heap.size + 1 + 1:=by rw [zj,xK]
 have xW:Hid (yp w ((w.alloc (L #[I next,.slice a l.length cap] 34)).alloc (L #[.nilFunc,.nilFunc,.nilFunc] 135))) :=
  (fw _ _).alloc (by rw [xK]; omega) _
 have HX:Hid (_∧_):=⟨r1,t1⟩
 have qf:=H uf
 clear r1 t1 xK uf hc hl
 go_enter Tryz.func84,Tryz.ntmps84
 go_wp2_with fail
 generalize ((w.alloc (L #[I next,.slice a l.length cap] 34)).alloc (L #[.nilFunc,.nilFunc,.nilFunc] 135)) = W2 at xW HX qf ⊢
 refine (plant_b _ l 1 W2 (zh (U HR) (U xW) yb) hn (U HL)).mono ?_
 rintro e w1 ⟨rfl,htr,uk⟩
 have oQ:=H htr
 have ue:=H uk
 clear htr uk
 go_wp2_with fail
 refine (ask_b W2.heap.size w1).mono ?_
 rintro e w2 ⟨rfl,xL⟩
 have pL:=H (zu (U oQ) (xL.block _ (zH (U oQ))))
 have oi:=(U ue).trans (xL.mono (U ue).size)
 obtain ⟨x1,x2⟩:=U HX
 have y1:=zc x1 oi (by rw [U qf]; omega)
 have y2:=zo x2 oi (by rw [U qf]; omega)
 have xw:=H (fC (U xW) oi)
 have c0:w2.cell? (Q (w.heap.size + 1) 0) = some .nilFunc:=y1 0 _ rfl
 have c1:w2.cell? (Q (w.heap.size + 1) 1) = some .nilFunc:=y1 1 _ rfl
 have c2:w2.cell? (Q (w.heap.size + 1) 2) = some .nilFunc:=y1 2 _ rfl
 have f0:w2.frozen? (Q (w.heap.size + 1) 0) = false:=(y2 0 (by omega)).2
 have f1:w2.frozen? (Q (w.heap.size + 1) 1) = false:=(y2 1 (by omega)).2
 have f2:w2.frozen? (Q (w.heap.size + 1) 2) = false:=(y2 2 (by omega)).2
 clear xL oi x1 x2 y1 y2
 unfold bE
 generalize hF0:Value.func (.func 166) #[yq W2 0] #[] = F0
 generalize hF1:Value.func (.func 167) #[yq W2 0] #[] = F1
 generalize hF2:Value.func (.func 168) #[yq W2 0] #[] = F2
 have ji:∀ (W:World) (o:Nat) (m:Mode),((store (Q (w.heap.size + 1) o) F0 m).run Tryz.prog W = stored Tryz.prog W (Q (w.heap.size + 1) o) F0 m)∧((store (Q (w.heap.size + 1) o) F1 m).run Tryz.prog W = stored Tryz.prog W (Q (w.heap.size + 1) o) F1 m)∧((store (Q (w.heap.size + 1) o) F2 m).run Tryz.prog W = stored Tryz.prog W (Q (w.heap.size + 1) o) F2 m):=fun W o m=>by
  subst hF0 hF1 hF2
  exact ⟨run_store _ W _ _ m rfl,run_store _ W _ _ m rfl,run_store _ W _ _ m rfl⟩
 have hst0:=fun W o m=>(ji W o m).1
 have hst1:=fun W o m=>(ji W o m).2.1
 have hst2:=fun W o m=>(ji W o m).2.2
 clear ji
 go_wp2_with fail
 have hn01:((Q (w.heap.size + 1) 0):Addr) ≠ (Q (w.heap.size + 1) 1):=fun e=>by simp at e
 have hn02:((Q (w.heap.size + 1) 0):Addr) ≠ (Q (w.heap.size + 1) 2):=fun e=>by simp at e
 have hn12:((Q (w.heap.size + 1) 1):Addr) ≠ (Q (w.heap.size + 1) 2):=fun e=>by simp at e
 have d2:(((w2.setCell (Q (w.heap.size + 1) 0) F0).setCell (Q (w.heap.size + 1) 1) F1).setCell (Q (w.heap.size + 1) 2) F2).cell? (Q (w.heap.size + 1) 2) = some F2 :=
  yN _ _ _ ((yM _ _ _ _ hn12).trans ((yM _ _ _ _ hn02).trans c2))
 have d1:(((w2.setCell (Q (w.heap.size + 1) 0) F0).setCell (Q (w.heap.size + 1) 1) F1).setCell (Q (w.heap.size + 1) 2) F2).cell? (Q (w.heap.size + 1) 1) = some F1 :=
  (yM _ _ _ _ hn12.symm).trans (yN _ _ _ ((yM _ _ _ _ hn01).trans c1))
 have d0:(((w2.setCell (Q (w.heap.size + 1) 0) F0).setCell (Q (w.heap.size + 1) 1) F1).setCell (Q (w.heap.size + 1) 2) F2).cell? (Q (w.heap.size + 1) 0) = some F0 :=
  (yM _ _ _ _ hn02.symm).trans ((yM _ _ _ _ hn01.symm).trans (yN _ _ _ c0))
 have xD:W2.heap.size ≠ w.heap.size + 1:=by rw [U qf]; omega
 have HT5:=H (zu (U pL) (w':=((w2.setCell (Q (w.heap.size + 1) 0) F0).setCell (Q (w.heap.size + 1) 1) F1).setCell (Q (w.heap.size + 1) 2) F2) ((yT _ _ _ _ xD).trans ((yT _ _ _ _ xD).trans (yT _ _ _ _ xD))))
 have uj:=H ((((U xw).setCell (p:=(Q (w.heap.size + 1) 0)) (by simp) F0).setCell (p:=(Q (w.heap.size + 1) 1)) (by simp) F1).setCell (p:=(Q (w.heap.size + 1) 2)) (by simp) F2)
 generalize ((w2.setCell (Q (w.heap.size + 1) 0) F0).setCell (Q (w.heap.size + 1) 1) F1).setCell (Q (w.heap.size + 1) 2) F2 = W5 at *
 try simp only [Exit.inBlock,Exit.then]
 refine bodyPost_ret (by simp [results,Tryz.results84,go_sem,d0,d1,d2]; try rfl) rfl ?_
 refine ⟨W2.heap.size,?_,U HT5,by rw [U qf]; omega,U uj⟩
 subst hF0 hF1 hF2
 rfl
theorem ez (next:Int) (sd:Int) (uS:¬ sd = 1) (v:Value) (l:List Od) (w:World) (hr:RdR Od.vs 6 w v l) (hn:l.length ≤ 20) (hl:∀ o' ∈ l,0 ≤ o'.left∧o'.left ≤ 1000000) :
  Calls Tryz.prog 84 #[.agg #[I next,v],I sd] w fun e w' =>
   ∃ b,e = yn (bF b)∧aV 204 false w' b sd (zt l sd)∧w.heap.size ≤ b∧yp w w':=by
 have HR:=H hr
 have HL:=H hl
 obtain ⟨a,cap,rfl,xA,hc⟩:=hr
 have xK:=zj w (L #[I next,.slice a l.length cap] 34)
 have r1:=zn (w.alloc (L #[I next,.slice a l.length cap] 34)) [.nilFunc,.nilFunc,.nilFunc] 135
 have t1:=bR (n:=3) (heap_alloc_new (w.alloc (L #[I next,.slice a l.length cap] 34)) (L #[.nilFunc,.nilFunc,.nilFunc] 135)) (by simp)
 rw [xK] at r1 t1
 have uf:((w.alloc (L #[I next,.slice a l.length cap] 34)).alloc (L #[.nilFunc,.nilFunc,.nilFunc] 135)).heap.size = w.heap.size + 1 + 1:=by rw [zj,xK]
 have xW:Hid (yp w ((w.alloc (L #[I next,.slice a l.length cap] 34)).alloc (L #[.nilFunc,.nilFunc,.nilFunc] 135))) :=
  (fw _ _).alloc (by rw [xK]; omega) _
 have HX:Hid (_∧_):=⟨r1,t1⟩
 have qf:=H uf
 clear r1 t1 xK uf hc hl
 go_enter Tryz.func84,Tryz.ntmps84
 go_wp2_with fail
 generalize ((w.alloc (L #[I next,.slice a l.length cap] 34)).alloc (L #[.nilFunc,.nilFunc,.nilFunc] 135)) = W2 at xW HX qf ⊢
 refine (plant_s _ l sd W2 (zh (U HR) (U xW) yb) hn (U HL)).mono ?_
 rintro e w1 ⟨rfl,htr,uk⟩
 have oQ:=H htr
 have ue:=H uk
 clear htr uk
 go_wp2_with fail
 refine (ask_s W2.heap.size w1).mono ?_
 rintro e w2 ⟨rfl,xL⟩
 have pL:=H (zu (U oQ) (xL.block _ (zH (U oQ))))
 have oi:=(U ue).trans (xL.mono (U ue).size)
 obtain ⟨x1,x2⟩:=U HX
 have y1:=zc x1 oi (by rw [U qf]; omega)
 have y2:=zo x2 oi (by rw [U qf]; omega)
 have xw:=H (fC (U xW) oi)
 have c0:w2.cell? (Q (w.heap.size + 1) 0) = some .nilFunc:=y1 0 _ rfl
 have c1:w2.cell? (Q (w.heap.size + 1) 1) = some .nilFunc:=y1 1 _ rfl
 have c2:w2.cell? (Q (w.heap.size + 1) 2) = some .nilFunc:=y1 2 _ rfl
 have f0:w2.frozen? (Q (w.heap.size + 1) 0) = false:=(y2 0 (by omega)).2
 have f1:w2.frozen? (Q (w.heap.size + 1) 1) = false:=(y2 1 (by omega)).2
 have f2:w2.frozen? (Q (w.heap.size + 1) 2) = false:=(y2 2 (by omega)).2
 clear xL oi x1 x2 y1 y2
 unfold bF
 generalize hF0:Value.func (.func 170) #[yq W2 0] #[] = F0
 generalize hF1:Value.func (.func 171) #[yq W2 0] #[] = F1
 generalize hF2:Value.func (.func 172) #[yq W2 0] #[] = F2
 have ji:∀ (W:World) (o:Nat) (m:Mode),((store (Q (w.heap.size + 1) o) F0 m).run Tryz.prog W = stored Tryz.prog W (Q (w.heap.size + 1) o) F0 m)∧((store (Q (w.heap.size + 1) o) F1 m).run Tryz.prog W = stored Tryz.prog W (Q (w.heap.size + 1) o) F1 m)∧((store (Q (w.heap.size + 1) o) F2 m).run Tryz.prog W = stored Tryz.prog W (Q (w.heap.size + 1) o) F2 m):=fun W o m=>by
  subst hF0 hF1 hF2
  exact ⟨run_store _ W _ _ m rfl,run_store _ W _ _ m rfl,run_store _ W _ _ m rfl⟩
 have hst0:=fun W o m=>(ji W o m).1
 have hst1:=fun W o m=>(ji W o m).2.1
 have hst2:=fun W o m=>(ji W o m).2.2
 clear ji
 go_wp2_with fail
 have hn01:((Q (w.heap.size + 1) 0):Addr) ≠ (Q (w.heap.size + 1) 1):=fun e=>by simp at e
 have hn02:((Q (w.heap.size + 1) 0):Addr) ≠ (Q (w.heap.size + 1) 2):=fun e=>by simp at e
 have hn12:((Q (w.heap.size + 1) 1):Addr) ≠ (Q (w.heap.size + 1) 2):=fun e=>by simp at e
 have d2:(((w2.setCell (Q (w.heap.size + 1) 0) F0).setCell (Q (w.heap.size + 1) 1) F1).setCell (Q (w.heap.size + 1) 2) F2).cell? (Q (w.heap.size + 1) 2) = some F2 :=
  yN _ _ _ ((yM _ _ _ _ hn12).trans ((yM _ _ _ _ hn02).trans c2))
 have d1:(((w2.setCell (Q (w.heap.size + 1) 0) F0).setCell (Q (w.heap.size + 1) 1) F1).setCell (Q (w.heap.size + 1) 2) F2).cell? (Q (w.heap.size + 1) 1) = some F1 :=
  (yM _ _ _ _ hn12.symm).trans (yN _ _ _ ((yM _ _ _ _ hn01).trans c1))
 have d0:(((w2.setCell (Q (w.heap.size + 1) 0) F0).setCell (Q (w.heap.size + 1) 1) F1).setCell (Q (w.heap.size + 1) 2) F2).cell? (Q (w.heap.size + 1) 0) = some F0 :=
  (yM _ _ _ _ hn02.symm).trans ((yM _ _ _ _ hn01.symm).trans (yN _ _ _ c0))
 have xD:W2.heap.size ≠ w.heap.size + 1:=by rw [U qf]; omega
 have HT5:=H (zu (U pL) (w':=((w2.setCell (Q (w.heap.size + 1) 0) F0).setCell (Q (w.heap.size + 1) 1) F1).setCell (Q (w.heap.size + 1) 2) F2) ((yT _ _ _ _ xD).trans ((yT _ _ _ _ xD).trans (yT _ _ _ _ xD))))
 have uj:=H ((((U xw).setCell (p:=(Q (w.heap.size + 1) 0)) (by simp) F0).setCell (p:=(Q (w.heap.size + 1) 1)) (by simp) F1).setCell (p:=(Q (w.heap.size + 1) 2)) (by simp) F2)
 generalize ((w2.setCell (Q (w.heap.size + 1) 0) F0).setCell (Q (w.heap.size + 1) 1) F1).setCell (Q (w.heap.size + 1) 2) F2 = W5 at *
 try simp only [Exit.inBlock,Exit.then]
 refine bodyPost_ret (by simp [results,Tryz.results84,go_sem,d0,d1,d2]; try rfl) rfl ?_
 refine ⟨W2.heap.size,?_,U HT5,by rw [U qf]; omega,U uj⟩
 subst hF0 hF1 hF2
 rfl
def hdO (q:List Od):Od:=(q.head?).getD zOd
def hdF (q:List Od):Bool:=(q.head?).isSome
theorem frOf_eq (q:List Od):frOf q = .tuple #[.agg (yx ((hdO q).id) ((hdO q).side) ((hdO q).ticks) ((hdO q).left) ((hdO q).life) ((hdO q).tag)).toArray,.bool (hdF q)]:=by
 unfold frOf hdO hdF
 cases q.head? <;> rfl
def meetB (q1 q2:List Od):Bool:=hdF q1 && hdF q2 && decide ((hdO q2).ticks ≤ (hdO q1).ticks)
theorem sidesMeet_any (b1 b2:Nat) (sd1 sd2:Int) (s1 s2:List Od) (w:World) (N:aV 201 true w b1 sd1 s1) (Y:aV 204 false w b2 sd2 s2) (n1:s1.length ≤ 20) (n2:s2.length ≤ 20) :
  Calls Tryz.prog 86 #[bE b1,bF b2] w fun e w'=>e = yn (.bool (meetB (quOf true s1) (quOf false s2)))∧yp w w':=by
 have H1:=H N
 have H2:=H Y
 have uk:=zH N
 have xL:=zH Y
 clear N Y
 unfold bE bF
 have xK:=zj w (L #[.func (.func 166) #[J b1 0] #[],.func (.func 167) #[J b1 0] #[],.func (.func 168) #[J b1 0] #[]] 135)
 have r1:=zn (w.alloc (L #[.func (.func 166) #[J b1 0] #[],.func (.func 167) #[J b1 0] #[],.func (.func 168) #[J b1 0] #[]] 135)) [.func (.func 170) #[J b2 0] #[],.func (.func 171) #[J b2 0] #[],.func (.func 172) #[J b2 0] #[]] 135
 have uf:((w.alloc (L #[.func (.func 166) #[J b1 0] #[],.func (.func 167) #[J b1 0] #[],.func (.func 168) #[J b1 0] #[]] 135)).alloc (L #[.func (.func 170) #[J b2 0] #[],.func (.func 171) #[J b2 0] #[],.func (.func 172) #[J b2 0] #[]] 135)).heap.size = w.heap.size + 1 + 1:=by rw [zj,xK]
 have xW:Hid (yp w ((w.alloc (L #[.func (.func 166) #[J b1 0] #[],.func (.func 167) #[J b1 0] #[],.func (.func 168) #[J b1 0] #[]] 135)).alloc (L #[.func (.func 170) #[J b2 0] #[],.func (.func 171) #[J b2 0] #[],.func (.func 172) #[J b2 0] #[]] 135))):=(fw _ _).alloc (by rw [xK]; omega) _
 rw [xK] at r1
 have HX:=H (r1 0 _ rfl)
 have qf:=H uf
 clear r1 xK uf
 go_enter Tryz.func86,Tryz.ntmps86
 go_wp2_with fail
 generalize ((w.alloc (L #[.func (.func 166) #[J b1 0] #[],.func (.func 167) #[J b1 0] #[],.func (.func 168) #[J b1 0] #[]] 135)).alloc (L #[.func (.func 170) #[J b2 0] #[],.func (.func 171) #[J b2 0] #[],.func (.func 172) #[J b2 0] #[]] 135)) = W2 at xW HX qf ⊢
 refine (front_b b1 sd1 s1 W2 (zu (U H1) ((U xW).block _ uk)) n1).mono ?_
 rintro e w1 ⟨rfl,xQ⟩
 rw [frOf_eq]
 have xN:=H xQ
 have c0:=(xQ.cell (p:=(Q (w.heap.size + 1) 0)) (by rw [U qf]; simp)).trans (U HX)
 have hsz1:w.heap.size + 2 ≤ w1.heap.size:=by have:=xQ.size; rw [U qf] at this; omega
 generalize oK:hdO (quOf true s1) = x
 generalize oH:hdF (quOf true s1) = f1
 have pk:Hid (hdO (quOf true s1) = x∧hdF (quOf true s1) = f1):=⟨oK,oH⟩
 clear xQ oK oH
 have c0':(w1.alloc (L (yx x.id x.side x.ticks x.left x.life x.tag).toArray 78)).cell? (Q (w.heap.size + 1) 0) = _:=(Below.cell ((Below.refl w1.heap.size w1).alloc yb _) (p:=(Q (w.heap.size + 1) 0)) (show w.heap.size + 1 < w1.heap.size by omega)).trans c0
 have uA:Hid (World.rangeAt (w1.alloc (L (yx x.id x.side x.ticks x.left x.life x.tag).toArray 78)) w1.heap.size 0 x.vs):=zn w1 x.vs 78
 have xH:Hid (yp W2 (w1.alloc (L (yx x.id x.side x.ticks x.left x.life x.tag).toArray 78))):=(U xN).alloc (U xN).size _
 have pl:Hid ((w1.alloc (L (yx x.id x.side x.ticks x.left x.life x.tag).toArray 78)).heap.size = w1.heap.size + 1):=zj _ _
 go_wp2_with fail
 generalize (w1.alloc (L (yx x.id x.side x.ticks x.left x.life x.tag).toArray 78)) = W4 at c0' uA xH pl ⊢
 have HB04:=H ((U xW).trans ((U xH).mono (U xW).size))
 refine (front_s b2 sd2 s2 W4 (zu (U H2) ((U HB04).block _ xL)) n2).mono ?_
 rintro e w5 ⟨rfl,uh⟩
 rw [frOf_eq]
 have uj:=H (fC (U HB04) uh)
 obtain ⟨-,-,t2,-⟩:=zB (zc (U uA) uh (by rw [U pl]; omega))
 have hsz5:w1.heap.size < w5.heap.size:=by have:=uh.size; rw [U pl] at this; omega
 generalize hq2:hdO (quOf false s2) = y
 generalize hf2:hdF (quOf false s2) = f2
 have HQ2:Hid (hdO (quOf false s2) = y∧hdF (quOf false s2) = f2):=⟨hq2,hf2⟩
 clear uh hq2 hf2
 have t2':(w5.alloc (L (yx y.id y.side y.ticks y.left y.life y.tag).toArray 78)).cell? (yr w1 (0 + 2)) = _:=(Below.cell ((Below.refl w5.heap.size w5).alloc yb _) (p:=(yr w1 (0 + 2))) hsz5).trans t2
 have qA:Hid (yp w (w5.alloc (L (yx y.id y.side y.ticks y.left y.life y.tag).toArray 78))):=(U uj).alloc (U uj).size _
 have HM:Hid (meetB (quOf true s1) (quOf false s2) = (f1 && f2 && decide (y.ticks ≤ x.ticks))):=by
  show _ = _
  rw [meetB,(U pk).1,(U pk).2,(U HQ2).1,(U HQ2).2]
 cases f1 <;> cases f2
 ·go_wp2_with fail
  go_ret
  exact ⟨zp (U HM).symm,U qA⟩
 ·go_wp2_with fail
  go_ret
  exact ⟨zp (U HM).symm,U qA⟩
 ·go_wp2_with fail
  go_ret
  exact ⟨zp (U HM).symm,U qA⟩
 ·go_wp2_with fail
  go_ret
  exact ⟨zp (U HM).symm,U qA⟩
def noV (c:Cm):Value:=.agg #[I c.s,I c.t,I c.l,I c.q,yk c.p,yl c.g]
def aW (t:Int):Bool:=decide (t = 1) || decide (t = 5)
def prcB (c:Cm):Bool:=if c.t = 2 then decide (fbit c.p = 0) else tkOk c.p
def bp (c:Cm) (o:Od):Bool:=if c.t = 2 then true else if c.s = 1 then decide (o.ticks ≤ tk c.p) else decide (tk c.p ≤ o.ticks)
def ordO (c:Cm) (id:Int):Od:=⟨id,c.s,tk c.p,c.q,c.l,c.g⟩
def othS (s:Int):Int:=if s = 1 then 2 else 1
theorem isType_any (t:Int) (w:World) :
  Calls Tryz.prog 199 #[I t] w fun e w'=>e = yn (.bool (betB t 1 5))∧w' = w:=by
 go_enter Tryz.func199,Tryz.ntmps199
 go_wp2_with fail
 refine (zI t 1 5 w).mono ?_
 rintro e w' ⟨rfl,rfl⟩
 go_wp2_with fail
 go_ret
 exact ⟨rfl,rfl⟩
theorem isQty_any (t:Int) (w:World) :
  Calls Tryz.prog 201 #[I t] w fun e w'=>e = yn (.bool (betB t 1 1000000))∧w' = w:=by
 go_enter Tryz.func201,Tryz.ntmps201
 go_wp2_with fail
 refine (zI t 1 1000000 w).mono ?_
 rintro e w' ⟨rfl,rfl⟩
 go_wp2_with fail
 go_ret
 exact ⟨rfl,rfl⟩
theorem otherSide_any (s:Int) (w:World) :
  Calls Tryz.prog 97 #[I s] w fun e w'=>e = yn (I (othS s))∧w' = w:=by
 by_cases h:s = 1
 ·subst h
  go_enter Tryz.func97,Tryz.ntmps97
  go_wp2_with fail
  go_ret
  exact ⟨rfl,rfl⟩
 ·have h':(s == 1) = false:=by simpa using h
  have HS:Hid (othS s = 1):=if_neg h
  go_enter Tryz.func97,Tryz.ntmps97
  go_wp2_with fail
  go_ret
  exact ⟨zA (U HS).symm,rfl⟩
theorem dP (c:Cm) (w:World) :
  Calls Tryz.prog 99 #[noV c] w fun e w'=>e = yn (.bool (aW c.t))∧yp w w':=by
 obtain ⟨k,s,t,l,q,i,p,g⟩:=c
 unfold noV
 simp only
 by_cases N:t = 1
 ·subst N
  go_enter Tryz.func99,Tryz.ntmps99
  go_wp2_with fail
  go_ret
  exact ⟨rfl,by go_grown⟩
 ·have b1:(t == 1) = false:=by simpa using N
  by_cases h5:t = 5
  ·subst h5
   go_enter Tryz.func99,Tryz.ntmps99
   go_wp2_with fail
   go_ret
   exact ⟨rfl,by go_grown⟩
  ·have b5:(t == 5) = false:=by simpa using h5
   have HR:Hid (aW t = false):=by show aW t = false; simp [aW,N,h5]
   go_enter Tryz.func99,Tryz.ntmps99
   go_wp2_with fail
   go_ret
   exact ⟨zp (U HR).symm,by go_grown⟩
theorem hasPrice_any (c:Cm) (w:World) :
  Calls Tryz.prog 200 #[noV c] w fun e w'=>e = yn (.bool (prcB c))∧yp w w':=by
 obtain ⟨k,s,t,l,q,i,p,g⟩:=c
 unfold noV
 simp only
 have HB:Hid (yp w (w.alloc (L #[I s,I t,I l,I q,yk p,yl g] 85))):=fw _ _
 by_cases Y:t = 2
 ·subst Y
  have HP:Hid (prcB ⟨k,s,2,l,q,i,p,g⟩ = decide (fbit p = 0)):=if_pos rfl
  go_enter Tryz.func200,Tryz.ntmps200
  go_wp2_with fail
  refine (eS p _).mono ?_
  rintro e w' ⟨rfl,rfl⟩
  go_wp2_with fail
  go_ret
  exact ⟨zp (by rw [U HP,Bool.eq_iff_iff]; simp),U HB⟩
 ·have b2:(t == 2) = false:=by simpa using Y
  have HP:Hid (prcB ⟨k,s,t,l,q,i,p,g⟩ = tkOk p):=if_neg Y
  go_enter Tryz.func200,Tryz.ntmps200
  go_wp2_with fail
  refine (ep p _).mono ?_
  rintro e w' ⟨rfl,rfl⟩
  go_wp2_with fail
  go_ret
  exact ⟨zp (U HP).symm,U HB⟩
theorem meets_any (c:Cm) (o:Od) (w:World) :
  Calls Tryz.prog 98 #[noV c,.agg (yx o.id o.side o.ticks o.left o.life o.tag).toArray] w fun e w'=>e = yn (.bool (bp c o))∧yp w w':=by
 obtain ⟨k,s,t,l,q,i,p,g⟩:=c
 obtain ⟨id,side,ticks,left,life,tag⟩:=o
 unfold noV
 simp only
 have HB:Hid (yp w ((w.alloc (L #[I s,I t,I l,I q,yk p,yl g] 85)).alloc (L (yx id side ticks left life tag).toArray 78))):=(fw _ _).alloc (by rw [zj]; omega) _
 by_cases Y:t = 2
 ·subst Y
  have HP:Hid (bp ⟨k,s,2,l,q,i,p,g⟩ ⟨id,side,ticks,left,life,tag⟩ = true):=if_pos rfl
  go_enter Tryz.func98,Tryz.ntmps98
  go_wp2_with fail
  go_ret
  exact ⟨zp (U HP).symm,U HB⟩
 ·have b2:(t == 2) = false:=by simpa using Y
  by_cases N:s = 1
  ·subst N
   have HP:Hid (bp ⟨k,1,t,l,q,i,p,g⟩ ⟨id,side,ticks,left,life,tag⟩ = decide (ticks ≤ tk p)):=by show _ = _; rw [bp,if_neg Y]; rfl
   go_enter Tryz.func98,Tryz.ntmps98
   go_wp2_with fail
   refine (ep p _).mono ?_
   rintro e w' ⟨rfl,rfl⟩
   go_wp2_with fail
   go_ret
   exact ⟨zp (U HP).symm,U HB⟩
  ·have b1:(s == 1) = false:=by simpa using N
   have HP:Hid (bp ⟨k,s,t,l,q,i,p,g⟩ ⟨id,side,ticks,left,life,tag⟩ = decide (tk p ≤ ticks)):=by show _ = _; rw [bp,if_neg Y,if_neg N]
   go_enter Tryz.func98,Tryz.ntmps98
   go_wp2_with fail
   refine (ep p _).mono ?_
   rintro e w' ⟨rfl,rfl⟩
   go_wp2_with fail
   go_ret
   exact ⟨zp (U HP).symm,U HB⟩
theorem order_any (c:Cm) (id:Int) (w:World) :
  Calls Tryz.prog 135 #[noV c,I id] w fun e w'=>e = yn (.agg (yx id c.s (tk c.p) c.q c.l c.g).toArray)∧yp w w':=by
 obtain ⟨k,s,t,l,q,i,p,g⟩:=c
 unfold noV
 simp only
 go_enter Tryz.func135,Tryz.ntmps135
 go_wp2_with fail
 refine (ep p _).mono ?_
 rintro e w' ⟨rfl,rfl⟩
 go_wp2_with fail
 go_returns
 refine ⟨rfl,?_⟩
 go_grown
theorem toldNew_any (c:Cm) (w:World) :
  Calls Tryz.prog 235 #[noV c] w fun e w'=>e = yn (.agg (yy 1 c.s c.t c.l c.q 0 c.p c.g).toArray)∧yp w w':=by
 obtain ⟨k,s,t,l,q,i,p,g⟩:=c
 unfold noV
 have hsf:=sfl
 simp only
 go_enter Tryz.func235,Tryz.ntmps235
 go_wp2_with fail
 go_returns
 refine ⟨rfl,?_⟩
 go_grown
theorem toldCancel_any (i:Int) (w:World) :
  Calls Tryz.prog 238 #[.agg #[I i]] w fun e w'=>e = yn (.agg (yy 2 0 0 0 0 i 0 ⟨#[]⟩).toArray)∧yp w w':=by
 have hsf:=sfl
 go_enter Tryz.func238,Tryz.ntmps238
 go_wp2_with fail
 go_returns
 refine ⟨rfl,?_⟩
 go_grown
theorem toldReduce_any (i q:Int) (w:World) :
  Calls Tryz.prog 239 #[.agg #[I i,I q]] w fun e w'=>e = yn (.agg (yy 3 0 0 0 q i 0 ⟨#[]⟩).toArray)∧yp w w':=by
 have hsf:=sfl
 go_enter Tryz.func239,Tryz.ntmps239
 go_wp2_with fail
 go_returns
 refine ⟨rfl,?_⟩
 go_grown
theorem toldDay_any (w:World) :
  Calls Tryz.prog 241 #[.agg #[]] w fun e w'=>e = yn (.agg (yy 4 0 0 0 0 0 0 ⟨#[]⟩).toArray)∧yp w w':=by
 have hsf:=sfl
 go_enter Tryz.func241,Tryz.ntmps241
 go_wp2_with fail
 go_returns
 refine ⟨rfl,?_⟩
 go_grown
structure Ev where
 kind:Int
 cmd:Cm
 id:Int
 other:Int
 qty:Int
 price:Int
 reason:Int
def cmV (c:Cm):Value:=.agg (yy c.k c.s c.t c.l c.q c.i c.p c.g).toArray
def evV (e:Ev):Value:=.agg (yw e.kind e.cmd.k e.cmd.s e.cmd.t e.cmd.l e.cmd.q e.cmd.i e.cmd.p e.cmd.g e.id e.other e.qty e.price e.reason).toArray
def vlV (e:Ev):Value:=.agg #[I e.kind,I e.id,I e.other,I e.qty,I e.price,I e.reason,I e.cmd.k,I e.cmd.s,I e.cmd.t,I e.cmd.l,I e.cmd.q,I e.cmd.i,.int .u64 (fbit e.cmd.p),yl e.cmd.g]
def Ev.vs (e:Ev):List Value:=(yw e.kind e.cmd.k e.cmd.s e.cmd.t e.cmd.l e.cmd.q e.cmd.i e.cmd.p e.cmd.g e.id e.other e.qty e.price e.reason)
theorem Ev.len (e:Ev):e.vs.length = 14:=rfl
def zCm:Cm:=⟨0,0,0,0,0,0,0,⟨#[]⟩⟩
theorem ew (w:World) (A:List Value) (t:TypeId):(w.alloc (Obj.cells A.toArray t)).rangeAt w.heap.size 0 A:=fun j u h=>by
 rw [cell_of_row _ w.heap.size (0 + j) A.toArray t (0,0) (heap_alloc_new w _)]
 simpa using h
theorem eh (w:World) (o:Obj):(w.alloc o).heap.size = w.heap.size + 1:=by simp
theorem there_madeV (w:World) (A:List Value) (t:TypeId):(w.alloc (Obj.cells A.toArray t)).there w.heap.size 0 A.length:=bR (heap_alloc_new w _) (by simp)
theorem eC (e:Ev) (w:World) :
  Calls Tryz.prog 72 #[evV e] w fun x w'=>x = yn (vlV e)∧yp w w':=by
 obtain ⟨xn,⟨k,s,t,l,q,i,p,g⟩,id,xj,qty,xk,xi⟩:=e
 unfold evV vlV
 have hsf:=sfl
 simp only
 generalize oI:fbit p = fp
 have HFB:=H (fun W=>oI ▸ eS p W)
 clear oI
 have xK:(w.alloc (L (yw xn k s t l q i p g id xj qty xk xi).toArray 52)).heap.size = w.heap.size + 1:=eh _ _
 have uf:((w.alloc (L (yw xn k s t l q i p g id xj qty xk xi).toArray 52)).alloc (L #[I 0,I 0,I 0,I 0,I 0,I 0,I 0,I 0,I 0,I 0,I 0,I 0,.int .u64 0,yl ⟨#[]⟩] 119)).heap.size = w.heap.size + 2:=by rw [eh,xK]
 have jJ:(((w.alloc (L (yw xn k s t l q i p g id xj qty xk xi).toArray 52)).alloc (L #[I 0,I 0,I 0,I 0,I 0,I 0,I 0,I 0,I 0,I 0,I 0,I 0,.int .u64 0,yl ⟨#[]⟩] 119)).alloc (L (yy k s t l q i p g).toArray 50)).heap.size = w.heap.size + 3:=by rw [eh,uf]
 have b1:Below (w.heap.size + 1) (w.alloc (L (yw xn k s t l q i p g id xj qty xk xi).toArray 52)) (((w.alloc (L (yw xn k s t l q i p g id xj qty xk xi).toArray 52)).alloc (L #[I 0,I 0,I 0,I 0,I 0,I 0,I 0,I 0,I 0,I 0,I 0,I 0,.int .u64 0,yl ⟨#[]⟩] 119)).alloc (L (yy k s t l q i p g).toArray 50)):=(((Below.refl _ _).alloc (by rw [xK]; omega) _).alloc (by rw [uf]; omega) _)
 have b2:Below (w.heap.size + 2) ((w.alloc (L (yw xn k s t l q i p g id xj qty xk xi).toArray 52)).alloc (L #[I 0,I 0,I 0,I 0,I 0,I 0,I 0,I 0,I 0,I 0,I 0,I 0,.int .u64 0,yl ⟨#[]⟩] 119)) (((w.alloc (L (yw xn k s t l q i p g id xj qty xk xi).toArray 52)).alloc (L #[I 0,I 0,I 0,I 0,I 0,I 0,I 0,I 0,I 0,I 0,I 0,I 0,.int .u64 0,yl ⟨#[]⟩] 119)).alloc (L (yy k s t l q i p g).toArray 50)):=((Below.refl _ _).alloc (by rw [uf]; omega) _)
 have r1:=zc (ew w (yw xn k s t l q i p g id xj qty xk xi) 52) b1 (by omega)
 have t2:=there_madeV (w.alloc (L (yw xn k s t l q i p g id xj qty xk xi).toArray 52)) [I 0,I 0,I 0,I 0,I 0,I 0,I 0,I 0,I 0,I 0,I 0,I 0,.int .u64 0,yl ⟨#[]⟩] 119
 have r3:=ew ((w.alloc (L (yw xn k s t l q i p g id xj qty xk xi).toArray 52)).alloc (L #[I 0,I 0,I 0,I 0,I 0,I 0,I 0,I 0,I 0,I 0,I 0,I 0,.int .u64 0,yl ⟨#[]⟩] 119)) (yy k s t l q i p g) 50
 rw [xK] at t2
 rw [uf] at r3
 have t2':=zo t2 b2 (by omega)
 have xN:Hid (yp w (((w.alloc (L (yw xn k s t l q i p g id xj qty xk xi).toArray 52)).alloc (L #[I 0,I 0,I 0,I 0,I 0,I 0,I 0,I 0,I 0,I 0,I 0,I 0,.int .u64 0,yl ⟨#[]⟩] 119)).alloc (L (yy k s t l q i p g).toArray 50))):=((fw _ _).alloc (by rw [xK]; omega) _).alloc (by rw [uf]; omega) _
 have HX:Hid (_∧_∧_):=⟨r1,t2',r3⟩
 clear r1 t2 t2' r3 b1 b2 xK uf jJ
 go_enter Tryz.func72,Tryz.ntmps72
 go_wp2_with fail
 generalize (((w.alloc (L (yw xn k s t l q i p g id xj qty xk xi).toArray 52)).alloc (L #[I 0,I 0,I 0,I 0,I 0,I 0,I 0,I 0,I 0,I 0,I 0,I 0,.int .u64 0,yl ⟨#[]⟩] 119)).alloc (L (yy k s t l q i p g).toArray 50)) = WW at xN HX ⊢
 obtain ⟨jv,oL,hr3⟩:=U HX
 have x0:=jv 0 _ rfl
 have x1:=jv 1 _ rfl
 have x2:=jv 2 _ rfl
 have x3:=jv 3 _ rfl
 have x4:=jv 4 _ rfl
 have x5:=jv 5 _ rfl
 have x6:=jv 6 _ rfl
 have x7:=jv 7 _ rfl
 have x8:=jv 8 _ rfl
 have x9:=jv 9 _ rfl
 have jP:=jv 10 _ rfl
 have jQ:=jv 11 _ rfl
 have jR:=jv 12 _ rfl
 have jS:=jv 13 _ rfl
 have y0:=hr3 0 _ rfl
 have y1:=hr3 1 _ rfl
 have y2:=hr3 2 _ rfl
 have y3:=hr3 3 _ rfl
 have y4:=hr3 4 _ rfl
 have y5:=hr3 5 _ rfl
 have y6:=hr3 6 _ rfl
 have y7:=hr3 7 _ rfl
 simp only [Nat.zero_add] at x0 x1 x2 x3 x4 x5 x6 x7 x8 x9 jP jQ jR jS y0 y1 y2 y3 y4 y5 y6 y7
 obtain ⟨v0,z0,f0⟩:=zG oL 0 (by decide)
 obtain ⟨v1,z1,f1⟩:=zG oL 1 (by decide)
 obtain ⟨v2,z2,f2⟩:=zG oL 2 (by decide)
 obtain ⟨v3,z3,f3⟩:=zG oL 3 (by decide)
 obtain ⟨v4,z4,f4⟩:=zG oL 4 (by decide)
 obtain ⟨v5,z5,f5⟩:=zG oL 5 (by decide)
 obtain ⟨v6,z6,f6⟩:=zG oL 6 (by decide)
 obtain ⟨v7,z7,f7⟩:=zG oL 7 (by decide)
 obtain ⟨v8,z8,f8⟩:=zG oL 8 (by decide)
 obtain ⟨v9,z9,f9⟩:=zG oL 9 (by decide)
 obtain ⟨v10,kU,f10⟩:=zG oL 10 (by decide)
 obtain ⟨v11,ow,f11⟩:=zG oL 11 (by decide)
 obtain ⟨v12,ox,f12⟩:=zG oL 12 (by decide)
 obtain ⟨v13,oy,f13⟩:=zG oL 13 (by decide)
 simp only [Nat.zero_add] at z0 f0 z1 f1 z2 f2 z3 f3 z4 f4 z5 f5 z6 f6 z7 f7 z8 f8 z9 f9 kU f10 ow f11 ox f12 oy f13
 have HT:=H oL
 clear jv oL hr3 HX
 refine wp_region_still_tail 30 (by kernel_rfl) (by kernel_rfl) ?_
 simp only [yU,List.take_zero,yV,List.drop_zero]
 repeat still_step
 still_call (U HFB _)
 repeat still_step
 refine wpStill_nil ?_
 go_wp2_with fail
 change bodyPost _ _ _ _ _ (WW.setCells (w.heap.size + 1) 0 [I xn,I id,I xj,I qty,I xk,I xi,I k,I s,I t,I l,I q,I i,.int .u64 fp,yl g]).drew
 have jM:=H (yY WW (w.heap.size + 1) 0 [I xn,I id,I xj,I qty,I xk,I xi,I k,I s,I t,I l,I q,I i,.int .u64 fp,yl g] (fun j V=>U HT j V))
 have qB:=H (zi (w.heap.size + 1) (by omega) [I xn,I id,I xj,I qty,I xk,I xi,I k,I s,I t,I l,I q,I i,.int .u64 fp,yl g] 0 WW (U xN))
 generalize WW.setCells (w.heap.size + 1) 0 [I xn,I id,I xj,I qty,I xk,I xi,I k,I s,I t,I l,I q,I i,.int .u64 fp,yl g] = WE at jM qB ⊢
 obtain ⟨d0,d1,d2,d3,d4,d5,d6,d7,d8,d9,ku,kY,kZ,oa⟩:=yG (U jM)
 try simp only [Exit.inBlock,Exit.then]
 refine bodyPost_ret (by simp [results,Tryz.results72,go_sem,d0,d1,d2,d3,d4,d5,d6,d7,d8,d9,ku,kY,kZ,oa]; try rfl) rfl ?_
 exact ⟨rfl,(U qB).drew⟩
end Go.Proofs.YtnphbkgfjanmgaaGreatDoor
