/-
  Whether the numbers of orders rise, proved by walking the function; a side's tree planted and asked; whether the sides meet.
-/
import Derived.Test.YtnphbkgfjanmgaaGreatDoorBj06
import Derived.StillTailTactics
set_option linter.unusedVariables false
set_option maxHeartbeats 6400000
set_option maxRecDepth 100000
namespace Go.Proofs.YtnphbkgfjanmgaaGreatDoor
open Go.RowKit
def idsR (next:Int):Int→List Od→Bool
 | _,[]=>true
 | last,o :: r=>decide (last < o.id) && decide (o.id < next) && idsR next o.id r
theorem idsRise_any (next:Int) (v:Value) (l:List Od) (w:World) (hr:RdR Od.vs 6 w v l) :
  Calls Tryz.prog 82 #[.agg #[I next,v]] w fun e w'=>e = ym (.bool (idsR next 0 l))∧yn w w':=by
 obtain ⟨a,cap,rfl,xA,hc⟩:=hr
 have xr:∀ (k:Nat) (c:Od),l[k]? = some c→∃ b off,a = some (U b off)∧b < w.heap.size∧w.rangeAt b (off + k * 6) c.vs:=by
  intro k c hk
  obtain ⟨b,off,Q,E,h3⟩:=hc (by intro h; rw [h] at hk; simp at hk)
  exact ⟨b,off,Q,E,h3 k c hk⟩
 have HC:=M xr
 clear xr hc
 have xS:Hid (yn w (w.alloc (A #[I next,.slice a l.length cap] 34))):=fE _ _
 have HR0:Hid ((w.alloc (A #[I next,.slice a l.length cap] 34)).cell? (yq w 0) = some (I next)∧w.heap.size < (w.alloc (A #[I next,.slice a l.length cap] 34)).heap.size):=⟨zn w [I next,.slice a l.length cap] 34 0 _ rfl,by rw [zi]; omega⟩
 go_enter Tryz.func82,Tryz.ntmps82
 go_wp2_with fail
 generalize (w.alloc (A #[I next,.slice a l.length cap] 34)) = W1 at xS HR0 ⊢
 have xK:=(H HR0).2
 go_loopw [3,9] (fun lv iv wr=>∃ (k:Nat) (last:Int),lv = I last∧k ≤ l.length∧iv = I k∧Hid (idsR next 0 l = idsR next last (l.drop k))∧yn W1 wr) (fun _ iv _=>l.length - (intOf iv).toNat)
 case atStart=>exact ⟨0,0,rfl,Nat.zero_le _,rfl,by simp [Hid],Below.refl _ _⟩
 case round =>
  obtain ⟨k,last,rfl,hk,rfl,hids,xk⟩:=hrel
  have HB:=M xk
  clear xk
  by_cases xI:k < l.length
  ·obtain ⟨c,ur⟩:∃ c,l[k]? = some c:=⟨_,yH xI⟩
   have ja:l.drop k = c :: l.drop (k + 1):=by
    obtain ⟨Q,rfl⟩:=yG.1 ur
    exact xc Q
   have HI:Hid (idsR next 0 l = (decide (last < c.id) && decide (c.id < next) && idsR next c.id (l.drop (k + 1)))):=by
    have:=H hids
    rw [ja] at this
    exact this
   obtain ⟨b,off,rfl,Y,V⟩:=H HC k c ur
   obtain ⟨g0,g1,g2,g3,g4,g5⟩:=zA (zc V ((H xS).trans ((H HB).mono (H xS).size)) Y)
   have hbox:=((H HB).cell (p:=(yq w 0)) xK).trans (H HR0).1
   have uJ:(k:Int) < l.length:=by omega
   have pk:=(H HB).size
   have hboxW:(wr.alloc (A (yw c.id c.side c.ticks c.left c.life c.tag).toArray 78)).cell? (yq w 0) = some (I next):=(Below.cell ((Below.refl wr.heap.size wr).alloc ya _) (p:=(yq w 0)) (show w.heap.size < wr.heap.size by omega)).trans hbox
   clear ur V Y ja hids
   by_cases Q:last < c.id
   ·have pu:decide (c.id ≤ last) = false:=by simpa using Q
    by_cases E:c.id < next
    ·have oI:¬ (next ≤ c.id):=by omega
     have HN:Hid (idsR next 0 l = idsR next c.id (l.drop (k + 1))):=by
      have:=H HI
      rw [decide_eq_true Q,decide_eq_true E,Bool.true_and,Bool.true_and] at this
      exact this
     go_wp2_with fail
     go_roundw
     case rel=>exact ⟨k + 1,c.id,rfl,by omega,by go_num,H HN,(H HB).alloc pk _⟩
     case measure=>simp [intOf]; omega
    ·have oI:next ≤ c.id:=by omega
     have HN:Hid (idsR next 0 l = false):=by
      have:=H HI
      rw [decide_eq_false E,Bool.and_false,Bool.false_and] at this
      exact this
     go_wp2_with fail
     go_ret
     exact ⟨zp (H HN).symm,(H xS).trans (((H HB).alloc pk _).mono (H xS).size)⟩
   ·have pu:decide (c.id ≤ last) = true:=by simp; omega
    have HN:Hid (idsR next 0 l = false):=by
     have:=H HI
     rw [decide_eq_false Q,Bool.false_and,Bool.false_and] at this
     exact this
    go_wp2_with fail
    go_ret
    exact ⟨zp (H HN).symm,(H xS).trans (((H HB).alloc pk _).mono (H xS).size)⟩
  ·go_wp2_with fail
   go_ret
   have h:=H hids
   rw [xa (by omega)] at h
   exact ⟨zp (by rw [h]; rfl),(H xS).trans ((H HB).mono (H xS).size)⟩
theorem eX (next:Int) (v:Value) (l:List Od) (w:World) (hr:RdR Od.vs 6 w v l) (hn:l.length ≤ 20) (hl:∀ o' ∈ l,0 ≤ o'.left∧o'.left ≤ 1000000) :
  Calls Tryz.prog 84 #[.agg #[I next,v],I 1] w fun e w' =>
   ∃ b,e = ym (bK b)∧aZ 201 true w' b 1 (zt l 1)∧w.heap.size ≤ b∧yn w w':=by
 have HR:=M hr
 have HL:=M hl
 obtain ⟨a,cap,rfl,xA,hc⟩:=hr
 have xK:=zi w (A #[I next,.slice a l.length cap] 34)
 have r1:=zn (w.alloc (A #[I next,.slice a l.length cap] 34)) [.nilFunc,.nilFunc,.nilFunc] 135
 have t1:=bY (n:=3) (heap_alloc_new (w.alloc (A #[I next,.slice a l.length cap] 34)) (A #[.nilFunc,.nilFunc,.nilFunc] 135)) (by simp)
 rw [xK] at r1 t1
 have ue:((w.alloc (A #[I next,.slice a l.length cap] 34)).alloc (A #[.nilFunc,.nilFunc,.nilFunc] 135)).heap.size = w.heap.size + 1 + 1:=by rw [zi,xK]
 have xS:Hid (yn w ((w.alloc (A #[I next,.slice a l.length cap] 34)).alloc (A #[.nilFunc,.nilFunc,.nilFunc] 135))) :=
  (fE _ _).alloc (by rw [xK]; omega) _
 have HX:Hid (_∧_):=⟨r1,t1⟩
 have qf:=M ue
 clear r1 t1 xK ue hc hl
 go_enter Tryz.func84,Tryz.ntmps84
 go_wp2_with fail
 generalize ((w.alloc (A #[I next,.slice a l.length cap] 34)).alloc (A #[.nilFunc,.nilFunc,.nilFunc] 135)) = W2 at xS HX qf ⊢
 refine (plant_b _ l 1 W2 (zh (H HR) (H xS) ya) hn (H HL)).mono ?_
 rintro e w1 ⟨rfl,htr,ui⟩
 have oV:=M htr
 have ud:=M ui
 clear htr ui
 go_wp2_with fail
 refine (ask_b W2.heap.size w1).mono ?_
 rintro e w2 ⟨rfl,xJ⟩
 have pO:=M (zu (H oV) (xJ.block _ (zH (H oV))))
 have oq:=(H ud).trans (xJ.mono (H ud).size)
 obtain ⟨x1,x2⟩:=H HX
 have y1:=zc x1 oq (by rw [H qf]; omega)
 have y2:=zo x2 oq (by rw [H qf]; omega)
 have xu:=M (fH (H xS) oq)
 have c0:w2.cell? (U (w.heap.size + 1) 0) = some .nilFunc:=y1 0 _ rfl
 have c1:w2.cell? (U (w.heap.size + 1) 1) = some .nilFunc:=y1 1 _ rfl
 have c2:w2.cell? (U (w.heap.size + 1) 2) = some .nilFunc:=y1 2 _ rfl
 have f0:w2.frozen? (U (w.heap.size + 1) 0) = false:=(y2 0 (by omega)).2
 have f1:w2.frozen? (U (w.heap.size + 1) 1) = false:=(y2 1 (by omega)).2
 have f2:w2.frozen? (U (w.heap.size + 1) 2) = false:=(y2 2 (by omega)).2
 clear xJ oq x1 x2 y1 y2
 unfold bK
 generalize hF0:Value.func (.func 166) #[yp W2 0] #[] = F0
 generalize hF1:Value.func (.func 167) #[yp W2 0] #[] = F1
 generalize hF2:Value.func (.func 168) #[yp W2 0] #[] = F2
 have jl:∀ (W:World) (o:Nat) (m:Mode),((store (U (w.heap.size + 1) o) F0 m).run Tryz.prog W = stored Tryz.prog W (U (w.heap.size + 1) o) F0 m)∧((store (U (w.heap.size + 1) o) F1 m).run Tryz.prog W = stored Tryz.prog W (U (w.heap.size + 1) o) F1 m)∧((store (U (w.heap.size + 1) o) F2 m).run Tryz.prog W = stored Tryz.prog W (U (w.heap.size + 1) o) F2 m):=fun W o m=>by
  subst hF0 hF1 hF2
  exact ⟨run_store _ W _ _ m rfl,run_store _ W _ _ m rfl,run_store _ W _ _ m rfl⟩
 have hst0:=fun W o m=>(jl W o m).1
 have hst1:=fun W o m=>(jl W o m).2.1
 have hst2:=fun W o m=>(jl W o m).2.2
 clear jl
 go_wp2_with fail
 have hn01:((U (w.heap.size + 1) 0):Addr) ≠ (U (w.heap.size + 1) 1):=fun e=>by simp at e
 have hn02:((U (w.heap.size + 1) 0):Addr) ≠ (U (w.heap.size + 1) 2):=fun e=>by simp at e
 have hn12:((U (w.heap.size + 1) 1):Addr) ≠ (U (w.heap.size + 1) 2):=fun e=>by simp at e
 have d2:(((w2.setCell (U (w.heap.size + 1) 0) F0).setCell (U (w.heap.size + 1) 1) F1).setCell (U (w.heap.size + 1) 2) F2).cell? (U (w.heap.size + 1) 2) = some F2 :=
  yM _ _ _ ((yL _ _ _ _ hn12).trans ((yL _ _ _ _ hn02).trans c2))
 have d1:(((w2.setCell (U (w.heap.size + 1) 0) F0).setCell (U (w.heap.size + 1) 1) F1).setCell (U (w.heap.size + 1) 2) F2).cell? (U (w.heap.size + 1) 1) = some F1 :=
  (yL _ _ _ _ hn12.symm).trans (yM _ _ _ ((yL _ _ _ _ hn01).trans c1))
 have d0:(((w2.setCell (U (w.heap.size + 1) 0) F0).setCell (U (w.heap.size + 1) 1) F1).setCell (U (w.heap.size + 1) 2) F2).cell? (U (w.heap.size + 1) 0) = some F0 :=
  (yL _ _ _ _ hn02.symm).trans ((yL _ _ _ _ hn01.symm).trans (yM _ _ _ c0))
 have xD:W2.heap.size ≠ w.heap.size + 1:=by rw [H qf]; omega
 have HT5:=M (zu (H pO) (w':=((w2.setCell (U (w.heap.size + 1) 0) F0).setCell (U (w.heap.size + 1) 1) F1).setCell (U (w.heap.size + 1) 2) F2) ((yS _ _ _ _ xD).trans ((yS _ _ _ _ xD).trans (yS _ _ _ _ xD))))
 have ug:=M ((((H xu).setCell (p:=(U (w.heap.size + 1) 0)) (by simp) F0).setCell (p:=(U (w.heap.size + 1) 1)) (by simp) F1).setCell (p:=(U (w.heap.size + 1) 2)) (by simp) F2)
 generalize ((w2.setCell (U (w.heap.size + 1) 0) F0).setCell (U (w.heap.size + 1) 1) F1).setCell (U (w.heap.size + 1) 2) F2 = W5 at *
 try simp only [Exit.inBlock,Exit.then]
 refine bodyPost_ret (by simp [results,Tryz.results84,go_sem,d0,d1,d2]; try rfl) rfl ?_
 refine ⟨W2.heap.size,?_,H HT5,by rw [H qf]; omega,H ug⟩
 subst hF0 hF1 hF2
 rfl
theorem eE (next:Int) (sd:Int) (uT:¬ sd = 1) (v:Value) (l:List Od) (w:World) (hr:RdR Od.vs 6 w v l) (hn:l.length ≤ 20) (hl:∀ o' ∈ l,0 ≤ o'.left∧o'.left ≤ 1000000) :
  Calls Tryz.prog 84 #[.agg #[I next,v],I sd] w fun e w' =>
   ∃ b,e = ym (bL b)∧aZ 204 false w' b sd (zt l sd)∧w.heap.size ≤ b∧yn w w':=by
 have HR:=M hr
 have HL:=M hl
 obtain ⟨a,cap,rfl,xA,hc⟩:=hr
 have xK:=zi w (A #[I next,.slice a l.length cap] 34)
 have r1:=zn (w.alloc (A #[I next,.slice a l.length cap] 34)) [.nilFunc,.nilFunc,.nilFunc] 135
 have t1:=bY (n:=3) (heap_alloc_new (w.alloc (A #[I next,.slice a l.length cap] 34)) (A #[.nilFunc,.nilFunc,.nilFunc] 135)) (by simp)
 rw [xK] at r1 t1
 have ue:((w.alloc (A #[I next,.slice a l.length cap] 34)).alloc (A #[.nilFunc,.nilFunc,.nilFunc] 135)).heap.size = w.heap.size + 1 + 1:=by rw [zi,xK]
 have xS:Hid (yn w ((w.alloc (A #[I next,.slice a l.length cap] 34)).alloc (A #[.nilFunc,.nilFunc,.nilFunc] 135))) :=
  (fE _ _).alloc (by rw [xK]; omega) _
 have HX:Hid (_∧_):=⟨r1,t1⟩
 have qf:=M ue
 clear r1 t1 xK ue hc hl
 go_enter Tryz.func84,Tryz.ntmps84
 go_wp2_with fail
 generalize ((w.alloc (A #[I next,.slice a l.length cap] 34)).alloc (A #[.nilFunc,.nilFunc,.nilFunc] 135)) = W2 at xS HX qf ⊢
 refine (plant_s _ l sd W2 (zh (H HR) (H xS) ya) hn (H HL)).mono ?_
 rintro e w1 ⟨rfl,htr,ui⟩
 have oV:=M htr
 have ud:=M ui
 clear htr ui
 go_wp2_with fail
 refine (ask_s W2.heap.size w1).mono ?_
 rintro e w2 ⟨rfl,xJ⟩
 have pO:=M (zu (H oV) (xJ.block _ (zH (H oV))))
 have oq:=(H ud).trans (xJ.mono (H ud).size)
 obtain ⟨x1,x2⟩:=H HX
 have y1:=zc x1 oq (by rw [H qf]; omega)
 have y2:=zo x2 oq (by rw [H qf]; omega)
 have xu:=M (fH (H xS) oq)
 have c0:w2.cell? (U (w.heap.size + 1) 0) = some .nilFunc:=y1 0 _ rfl
 have c1:w2.cell? (U (w.heap.size + 1) 1) = some .nilFunc:=y1 1 _ rfl
 have c2:w2.cell? (U (w.heap.size + 1) 2) = some .nilFunc:=y1 2 _ rfl
 have f0:w2.frozen? (U (w.heap.size + 1) 0) = false:=(y2 0 (by omega)).2
 have f1:w2.frozen? (U (w.heap.size + 1) 1) = false:=(y2 1 (by omega)).2
 have f2:w2.frozen? (U (w.heap.size + 1) 2) = false:=(y2 2 (by omega)).2
 clear xJ oq x1 x2 y1 y2
 unfold bL
 generalize hF0:Value.func (.func 170) #[yp W2 0] #[] = F0
 generalize hF1:Value.func (.func 171) #[yp W2 0] #[] = F1
 generalize hF2:Value.func (.func 172) #[yp W2 0] #[] = F2
 have jl:∀ (W:World) (o:Nat) (m:Mode),((store (U (w.heap.size + 1) o) F0 m).run Tryz.prog W = stored Tryz.prog W (U (w.heap.size + 1) o) F0 m)∧((store (U (w.heap.size + 1) o) F1 m).run Tryz.prog W = stored Tryz.prog W (U (w.heap.size + 1) o) F1 m)∧((store (U (w.heap.size + 1) o) F2 m).run Tryz.prog W = stored Tryz.prog W (U (w.heap.size + 1) o) F2 m):=fun W o m=>by
  subst hF0 hF1 hF2
  exact ⟨run_store _ W _ _ m rfl,run_store _ W _ _ m rfl,run_store _ W _ _ m rfl⟩
 have hst0:=fun W o m=>(jl W o m).1
 have hst1:=fun W o m=>(jl W o m).2.1
 have hst2:=fun W o m=>(jl W o m).2.2
 clear jl
 go_wp2_with fail
 have hn01:((U (w.heap.size + 1) 0):Addr) ≠ (U (w.heap.size + 1) 1):=fun e=>by simp at e
 have hn02:((U (w.heap.size + 1) 0):Addr) ≠ (U (w.heap.size + 1) 2):=fun e=>by simp at e
 have hn12:((U (w.heap.size + 1) 1):Addr) ≠ (U (w.heap.size + 1) 2):=fun e=>by simp at e
 have d2:(((w2.setCell (U (w.heap.size + 1) 0) F0).setCell (U (w.heap.size + 1) 1) F1).setCell (U (w.heap.size + 1) 2) F2).cell? (U (w.heap.size + 1) 2) = some F2 :=
  yM _ _ _ ((yL _ _ _ _ hn12).trans ((yL _ _ _ _ hn02).trans c2))
 have d1:(((w2.setCell (U (w.heap.size + 1) 0) F0).setCell (U (w.heap.size + 1) 1) F1).setCell (U (w.heap.size + 1) 2) F2).cell? (U (w.heap.size + 1) 1) = some F1 :=
  (yL _ _ _ _ hn12.symm).trans (yM _ _ _ ((yL _ _ _ _ hn01).trans c1))
 have d0:(((w2.setCell (U (w.heap.size + 1) 0) F0).setCell (U (w.heap.size + 1) 1) F1).setCell (U (w.heap.size + 1) 2) F2).cell? (U (w.heap.size + 1) 0) = some F0 :=
  (yL _ _ _ _ hn02.symm).trans ((yL _ _ _ _ hn01.symm).trans (yM _ _ _ c0))
 have xD:W2.heap.size ≠ w.heap.size + 1:=by rw [H qf]; omega
 have HT5:=M (zu (H pO) (w':=((w2.setCell (U (w.heap.size + 1) 0) F0).setCell (U (w.heap.size + 1) 1) F1).setCell (U (w.heap.size + 1) 2) F2) ((yS _ _ _ _ xD).trans ((yS _ _ _ _ xD).trans (yS _ _ _ _ xD))))
 have ug:=M ((((H xu).setCell (p:=(U (w.heap.size + 1) 0)) (by simp) F0).setCell (p:=(U (w.heap.size + 1) 1)) (by simp) F1).setCell (p:=(U (w.heap.size + 1) 2)) (by simp) F2)
 generalize ((w2.setCell (U (w.heap.size + 1) 0) F0).setCell (U (w.heap.size + 1) 1) F1).setCell (U (w.heap.size + 1) 2) F2 = W5 at *
 try simp only [Exit.inBlock,Exit.then]
 refine bodyPost_ret (by simp [results,Tryz.results84,go_sem,d0,d1,d2]; try rfl) rfl ?_
 refine ⟨W2.heap.size,?_,H HT5,by rw [H qf]; omega,H ug⟩
 subst hF0 hF1 hF2
 rfl
def hdO (q:List Od):Od:=(q.head?).getD zOd
def hdF (q:List Od):Bool:=(q.head?).isSome
theorem frOf_eq (q:List Od):frOf q = .tuple #[.agg (yw ((hdO q).id) ((hdO q).side) ((hdO q).ticks) ((hdO q).left) ((hdO q).life) ((hdO q).tag)).toArray,.bool (hdF q)]:=by
 unfold frOf hdO hdF
 cases q.head? <;> rfl
def meetB (q1 q2:List Od):Bool:=hdF q1 && hdF q2 && decide ((hdO q2).ticks ≤ (hdO q1).ticks)
theorem sidesMeet_any (b1 b2:Nat) (sd1 sd2:Int) (s1 s2:List Od) (w:World) (Q:aZ 201 true w b1 sd1 s1) (E:aZ 204 false w b2 sd2 s2) (n1:s1.length ≤ 20) (n2:s2.length ≤ 20) :
  Calls Tryz.prog 86 #[bK b1,bL b2] w fun e w'=>e = ym (.bool (meetB (quOf true s1) (quOf false s2)))∧yn w w':=by
 have H1:=M Q
 have H2:=M E
 have ui:=zH Q
 have xJ:=zH E
 clear Q E
 unfold bK bL
 have xK:=zi w (A #[.func (.func 166) #[J b1 0] #[],.func (.func 167) #[J b1 0] #[],.func (.func 168) #[J b1 0] #[]] 135)
 have r1:=zn (w.alloc (A #[.func (.func 166) #[J b1 0] #[],.func (.func 167) #[J b1 0] #[],.func (.func 168) #[J b1 0] #[]] 135)) [.func (.func 170) #[J b2 0] #[],.func (.func 171) #[J b2 0] #[],.func (.func 172) #[J b2 0] #[]] 135
 have ue:((w.alloc (A #[.func (.func 166) #[J b1 0] #[],.func (.func 167) #[J b1 0] #[],.func (.func 168) #[J b1 0] #[]] 135)).alloc (A #[.func (.func 170) #[J b2 0] #[],.func (.func 171) #[J b2 0] #[],.func (.func 172) #[J b2 0] #[]] 135)).heap.size = w.heap.size + 1 + 1:=by rw [zi,xK]
 have xS:Hid (yn w ((w.alloc (A #[.func (.func 166) #[J b1 0] #[],.func (.func 167) #[J b1 0] #[],.func (.func 168) #[J b1 0] #[]] 135)).alloc (A #[.func (.func 170) #[J b2 0] #[],.func (.func 171) #[J b2 0] #[],.func (.func 172) #[J b2 0] #[]] 135))):=(fE _ _).alloc (by rw [xK]; omega) _
 rw [xK] at r1
 have HX:=M (r1 0 _ rfl)
 have qf:=M ue
 clear r1 xK ue
 go_enter Tryz.func86,Tryz.ntmps86
 go_wp2_with fail
 generalize ((w.alloc (A #[.func (.func 166) #[J b1 0] #[],.func (.func 167) #[J b1 0] #[],.func (.func 168) #[J b1 0] #[]] 135)).alloc (A #[.func (.func 170) #[J b2 0] #[],.func (.func 171) #[J b2 0] #[],.func (.func 172) #[J b2 0] #[]] 135)) = W2 at xS HX qf ⊢
 refine (front_b b1 sd1 s1 W2 (zu (H H1) ((H xS).block _ ui)) n1).mono ?_
 rintro e w1 ⟨rfl,xM⟩
 rw [frOf_eq]
 have xL:=M xM
 have c0:=(xM.cell (p:=(U (w.heap.size + 1) 0)) (by rw [H qf]; simp)).trans (H HX)
 have hsz1:w.heap.size + 2 ≤ w1.heap.size:=by have:=xM.size; rw [H qf] at this; omega
 generalize oO:hdO (quOf true s1) = x
 generalize oL:hdF (quOf true s1) = f1
 have po:Hid (hdO (quOf true s1) = x∧hdF (quOf true s1) = f1):=⟨oO,oL⟩
 clear xM oO oL
 have c0':(w1.alloc (A (yw x.id x.side x.ticks x.left x.life x.tag).toArray 78)).cell? (U (w.heap.size + 1) 0) = _:=(Below.cell ((Below.refl w1.heap.size w1).alloc ya _) (p:=(U (w.heap.size + 1) 0)) (show w.heap.size + 1 < w1.heap.size by omega)).trans c0
 have uB:Hid (World.rangeAt (w1.alloc (A (yw x.id x.side x.ticks x.left x.life x.tag).toArray 78)) w1.heap.size 0 x.vs):=zn w1 x.vs 78
 have xG:Hid (yn W2 (w1.alloc (A (yw x.id x.side x.ticks x.left x.life x.tag).toArray 78))):=(H xL).alloc (H xL).size _
 have HS4:Hid ((w1.alloc (A (yw x.id x.side x.ticks x.left x.life x.tag).toArray 78)).heap.size = w1.heap.size + 1):=zi _ _
 go_wp2_with fail
 generalize (w1.alloc (A (yw x.id x.side x.ticks x.left x.life x.tag).toArray 78)) = W4 at c0' uB xG HS4 ⊢
 have HB04:=M ((H xS).trans ((H xG).mono (H xS).size))
 refine (front_s b2 sd2 s2 W4 (zu (H H2) ((H HB04).block _ xJ)) n2).mono ?_
 rintro e w5 ⟨rfl,uf⟩
 rw [frOf_eq]
 have ug:=M (fH (H HB04) uf)
 obtain ⟨-,-,t2,-⟩:=zA (zc (H uB) uf (by rw [H HS4]; omega))
 have hsz5:w1.heap.size < w5.heap.size:=by have:=uf.size; rw [H HS4] at this; omega
 generalize hq2:hdO (quOf false s2) = y
 generalize hf2:hdF (quOf false s2) = f2
 have HQ2:Hid (hdO (quOf false s2) = y∧hdF (quOf false s2) = f2):=⟨hq2,hf2⟩
 clear uf hq2 hf2
 have t2':(w5.alloc (A (yw y.id y.side y.ticks y.left y.life y.tag).toArray 78)).cell? (yq w1 (0 + 2)) = _:=(Below.cell ((Below.refl w5.heap.size w5).alloc ya _) (p:=(yq w1 (0 + 2))) hsz5).trans t2
 have qw:Hid (yn w (w5.alloc (A (yw y.id y.side y.ticks y.left y.life y.tag).toArray 78))):=(H ug).alloc (H ug).size _
 have HM:Hid (meetB (quOf true s1) (quOf false s2) = (f1 && f2 && decide (y.ticks ≤ x.ticks))):=by
  show _ = _
  rw [meetB,(H po).1,(H po).2,(H HQ2).1,(H HQ2).2]
 cases f1 <;> cases f2
 ·go_wp2_with fail
  go_ret
  exact ⟨zp (H HM).symm,H qw⟩
 ·go_wp2_with fail
  go_ret
  exact ⟨zp (H HM).symm,H qw⟩
 ·go_wp2_with fail
  go_ret
  exact ⟨zp (H HM).symm,H qw⟩
 ·go_wp2_with fail
  go_ret
  exact ⟨zp (H HM).symm,H qw⟩
def noV (c:Cm):Value:=.agg #[I c.s,I c.t,I c.l,I c.q,yj c.p,yk c.g]
def ba (t:Int):Bool:=decide (t = 1) || decide (t = 5)
def prcB (c:Cm):Bool:=if c.t = 2 then decide (fbit c.p = 0) else tkOk c.p
def bA (c:Cm) (o:Od):Bool:=if c.t = 2 then true else if c.s = 1 then decide (o.ticks ≤ tk c.p) else decide (tk c.p ≤ o.ticks)
def ordO (c:Cm) (id:Int):Od:=⟨id,c.s,tk c.p,c.q,c.l,c.g⟩
def othS (s:Int):Int:=if s = 1 then 2 else 1
theorem isType_any (t:Int) (w:World) :
  Calls Tryz.prog 199 #[I t] w fun e w'=>e = ym (.bool (betB t 1 5))∧w' = w:=by
 go_enter Tryz.func199,Tryz.ntmps199
 go_wp2_with fail
 refine (zI t 1 5 w).mono ?_
 rintro e w' ⟨rfl,rfl⟩
 go_wp2_with fail
 go_ret
 exact ⟨rfl,rfl⟩
theorem isQty_any (t:Int) (w:World) :
  Calls Tryz.prog 201 #[I t] w fun e w'=>e = ym (.bool (betB t 1 1000000))∧w' = w:=by
 go_enter Tryz.func201,Tryz.ntmps201
 go_wp2_with fail
 refine (zI t 1 1000000 w).mono ?_
 rintro e w' ⟨rfl,rfl⟩
 go_wp2_with fail
 go_ret
 exact ⟨rfl,rfl⟩
theorem otherSide_any (s:Int) (w:World) :
  Calls Tryz.prog 97 #[I s] w fun e w'=>e = ym (I (othS s))∧w' = w:=by
 by_cases h:s = 1
 ·subst h
  go_enter Tryz.func97,Tryz.ntmps97
  go_wp2_with fail
  go_ret
  exact ⟨rfl,rfl⟩
 ·have h':(s == 1) = false:=by simpa using h
  have HS:Hid (othS s = 1):=if_neg h
  go_enter Tryz.func97,Tryz.ntmps97
  go_wp2_with fail
  go_ret
  exact ⟨zy (H HS).symm,rfl⟩
theorem dU (c:Cm) (w:World) :
  Calls Tryz.prog 99 #[noV c] w fun e w'=>e = ym (.bool (ba c.t))∧yn w w':=by
 obtain ⟨k,s,t,l,q,i,p,g⟩:=c
 unfold noV
 simp only
 by_cases Q:t = 1
 ·subst Q
  go_enter Tryz.func99,Tryz.ntmps99
  go_wp2_with fail
  go_ret
  exact ⟨rfl,by go_grown⟩
 ·have b1:(t == 1) = false:=by simpa using Q
  by_cases h5:t = 5
  ·subst h5
   go_enter Tryz.func99,Tryz.ntmps99
   go_wp2_with fail
   go_ret
   exact ⟨rfl,by go_grown⟩
  ·have b5:(t == 5) = false:=by simpa using h5
   have HR:Hid (ba t = false):=by show ba t = false; simp [ba,Q,h5]
   go_enter Tryz.func99,Tryz.ntmps99
   go_wp2_with fail
   go_ret
   exact ⟨zp (H HR).symm,by go_grown⟩
theorem hasPrice_any (c:Cm) (w:World) :
  Calls Tryz.prog 200 #[noV c] w fun e w'=>e = ym (.bool (prcB c))∧yn w w':=by
 obtain ⟨k,s,t,l,q,i,p,g⟩:=c
 unfold noV
 simp only
 have HB:Hid (yn w (w.alloc (A #[I s,I t,I l,I q,yj p,yk g] 85))):=fE _ _
 by_cases E:t = 2
 ·subst E
  have HP:Hid (prcB ⟨k,s,2,l,q,i,p,g⟩ = decide (fbit p = 0)):=if_pos rfl
  go_enter Tryz.func200,Tryz.ntmps200
  go_wp2_with fail
  refine (fd p _).mono ?_
  rintro e w' ⟨rfl,rfl⟩
  go_wp2_with fail
  go_ret
  exact ⟨zp (by rw [H HP,Bool.eq_iff_iff]; simp),H HB⟩
 ·have b2:(t == 2) = false:=by simpa using E
  have HP:Hid (prcB ⟨k,s,t,l,q,i,p,g⟩ = tkOk p):=if_neg E
  go_enter Tryz.func200,Tryz.ntmps200
  go_wp2_with fail
  refine (ex p _).mono ?_
  rintro e w' ⟨rfl,rfl⟩
  go_wp2_with fail
  go_ret
  exact ⟨zp (H HP).symm,H HB⟩
theorem meets_any (c:Cm) (o:Od) (w:World) :
  Calls Tryz.prog 98 #[noV c,.agg (yw o.id o.side o.ticks o.left o.life o.tag).toArray] w fun e w'=>e = ym (.bool (bA c o))∧yn w w':=by
 obtain ⟨k,s,t,l,q,i,p,g⟩:=c
 obtain ⟨id,side,ticks,left,life,tag⟩:=o
 unfold noV
 simp only
 have HB:Hid (yn w ((w.alloc (A #[I s,I t,I l,I q,yj p,yk g] 85)).alloc (A (yw id side ticks left life tag).toArray 78))):=(fE _ _).alloc (by rw [zi]; omega) _
 by_cases E:t = 2
 ·subst E
  have HP:Hid (bA ⟨k,s,2,l,q,i,p,g⟩ ⟨id,side,ticks,left,life,tag⟩ = true):=if_pos rfl
  go_enter Tryz.func98,Tryz.ntmps98
  go_wp2_with fail
  go_ret
  exact ⟨zp (H HP).symm,H HB⟩
 ·have b2:(t == 2) = false:=by simpa using E
  by_cases Q:s = 1
  ·subst Q
   have HP:Hid (bA ⟨k,1,t,l,q,i,p,g⟩ ⟨id,side,ticks,left,life,tag⟩ = decide (ticks ≤ tk p)):=by show _ = _; rw [bA,if_neg E]; rfl
   go_enter Tryz.func98,Tryz.ntmps98
   go_wp2_with fail
   refine (ex p _).mono ?_
   rintro e w' ⟨rfl,rfl⟩
   go_wp2_with fail
   go_ret
   exact ⟨zp (H HP).symm,H HB⟩
  ·have b1:(s == 1) = false:=by simpa using Q
   have HP:Hid (bA ⟨k,s,t,l,q,i,p,g⟩ ⟨id,side,ticks,left,life,tag⟩ = decide (tk p ≤ ticks)):=by show _ = _; rw [bA,if_neg E,if_neg Q]
   go_enter Tryz.func98,Tryz.ntmps98
   go_wp2_with fail
   refine (ex p _).mono ?_
   rintro e w' ⟨rfl,rfl⟩
   go_wp2_with fail
   go_ret
   exact ⟨zp (H HP).symm,H HB⟩
theorem order_any (c:Cm) (id:Int) (w:World) :
  Calls Tryz.prog 135 #[noV c,I id] w fun e w'=>e = ym (.agg (yw id c.s (tk c.p) c.q c.l c.g).toArray)∧yn w w':=by
 obtain ⟨k,s,t,l,q,i,p,g⟩:=c
 unfold noV
 simp only
 go_enter Tryz.func135,Tryz.ntmps135
 go_wp2_with fail
 refine (ex p _).mono ?_
 rintro e w' ⟨rfl,rfl⟩
 go_wp2_with fail
 go_returns
 refine ⟨rfl,?_⟩
 go_grown
theorem toldNew_any (c:Cm) (w:World) :
  Calls Tryz.prog 235 #[noV c] w fun e w'=>e = ym (.agg (yx 1 c.s c.t c.l c.q 0 c.p c.g).toArray)∧yn w w':=by
 obtain ⟨k,s,t,l,q,i,p,g⟩:=c
 unfold noV
 have hsf:=sfl
 simp only
 go_enter Tryz.func235,Tryz.ntmps235
 go_wp2_with fail
 go_returns
 refine ⟨rfl,?_⟩
 go_grown
theorem toldCancel_any (i:Int) (w:World) :
  Calls Tryz.prog 238 #[.agg #[I i]] w fun e w'=>e = ym (.agg (yx 2 0 0 0 0 i 0 ⟨#[]⟩).toArray)∧yn w w':=by
 have hsf:=sfl
 go_enter Tryz.func238,Tryz.ntmps238
 go_wp2_with fail
 go_returns
 refine ⟨rfl,?_⟩
 go_grown
theorem toldReduce_any (i q:Int) (w:World) :
  Calls Tryz.prog 239 #[.agg #[I i,I q]] w fun e w'=>e = ym (.agg (yx 3 0 0 0 q i 0 ⟨#[]⟩).toArray)∧yn w w':=by
 have hsf:=sfl
 go_enter Tryz.func239,Tryz.ntmps239
 go_wp2_with fail
 go_returns
 refine ⟨rfl,?_⟩
 go_grown
theorem toldDay_any (w:World) :
  Calls Tryz.prog 241 #[.agg #[]] w fun e w'=>e = ym (.agg (yx 4 0 0 0 0 0 0 ⟨#[]⟩).toArray)∧yn w w':=by
 have hsf:=sfl
 go_enter Tryz.func241,Tryz.ntmps241
 go_wp2_with fail
 go_returns
 refine ⟨rfl,?_⟩
 go_grown
structure Ev where
 kind:Int
 cmd:Cm
 id:Int
 other:Int
 qty:Int
 price:Int
 reason:Int
def cmV (c:Cm):Value:=.agg (yx c.k c.s c.t c.l c.q c.i c.p c.g).toArray
def evV (e:Ev):Value:=.agg (yv e.kind e.cmd.k e.cmd.s e.cmd.t e.cmd.l e.cmd.q e.cmd.i e.cmd.p e.cmd.g e.id e.other e.qty e.price e.reason).toArray
def vlV (e:Ev):Value:=.agg #[I e.kind,I e.id,I e.other,I e.qty,I e.price,I e.reason,I e.cmd.k,I e.cmd.s,I e.cmd.t,I e.cmd.l,I e.cmd.q,I e.cmd.i,.int .u64 (fbit e.cmd.p),yk e.cmd.g]
def Ev.vs (e:Ev):List Value:=(yv e.kind e.cmd.k e.cmd.s e.cmd.t e.cmd.l e.cmd.q e.cmd.i e.cmd.p e.cmd.g e.id e.other e.qty e.price e.reason)
theorem Ev.len (e:Ev):e.vs.length = 14:=rfl
def zCm:Cm:=⟨0,0,0,0,0,0,0,⟨#[]⟩⟩
theorem eB (w:World) (L:List Value) (t:TypeId):(w.alloc (Obj.cells L.toArray t)).rangeAt w.heap.size 0 L:=fun j u h=>by
 rw [cell_of_row _ w.heap.size (0 + j) L.toArray t (0,0) (heap_alloc_new w _)]
 simpa using h
theorem ep (w:World) (o:Obj):(w.alloc o).heap.size = w.heap.size + 1:=by simp
theorem there_madeV (w:World) (L:List Value) (t:TypeId):(w.alloc (Obj.cells L.toArray t)).there w.heap.size 0 L.length:=bY (heap_alloc_new w _) (by simp)
theorem eH (e:Ev) (w:World) :
  Calls Tryz.prog 72 #[evV e] w fun x w'=>x = ym (vlV e)∧yn w w':=by
 obtain ⟨xm,⟨k,s,t,l,q,i,p,g⟩,id,xi,qty,xj,xh⟩:=e
 unfold evV vlV
 have hsf:=sfl
 simp only
 generalize oM:fbit p = fp
 have HFB:=M (fun W=>oM ▸ fd p W)
 clear oM
 have xK:(w.alloc (A (yv xm k s t l q i p g id xi qty xj xh).toArray 52)).heap.size = w.heap.size + 1:=ep _ _
 have ue:((w.alloc (A (yv xm k s t l q i p g id xi qty xj xh).toArray 52)).alloc (A #[I 0,I 0,I 0,I 0,I 0,I 0,I 0,I 0,I 0,I 0,I 0,I 0,.int .u64 0,yk ⟨#[]⟩] 119)).heap.size = w.heap.size + 2:=by rw [ep,xK]
 have jJ:(((w.alloc (A (yv xm k s t l q i p g id xi qty xj xh).toArray 52)).alloc (A #[I 0,I 0,I 0,I 0,I 0,I 0,I 0,I 0,I 0,I 0,I 0,I 0,.int .u64 0,yk ⟨#[]⟩] 119)).alloc (A (yx k s t l q i p g).toArray 50)).heap.size = w.heap.size + 3:=by rw [ep,ue]
 have b1:Below (w.heap.size + 1) (w.alloc (A (yv xm k s t l q i p g id xi qty xj xh).toArray 52)) (((w.alloc (A (yv xm k s t l q i p g id xi qty xj xh).toArray 52)).alloc (A #[I 0,I 0,I 0,I 0,I 0,I 0,I 0,I 0,I 0,I 0,I 0,I 0,.int .u64 0,yk ⟨#[]⟩] 119)).alloc (A (yx k s t l q i p g).toArray 50)):=(((Below.refl _ _).alloc (by rw [xK]; omega) _).alloc (by rw [ue]; omega) _)
 have b2:Below (w.heap.size + 2) ((w.alloc (A (yv xm k s t l q i p g id xi qty xj xh).toArray 52)).alloc (A #[I 0,I 0,I 0,I 0,I 0,I 0,I 0,I 0,I 0,I 0,I 0,I 0,.int .u64 0,yk ⟨#[]⟩] 119)) (((w.alloc (A (yv xm k s t l q i p g id xi qty xj xh).toArray 52)).alloc (A #[I 0,I 0,I 0,I 0,I 0,I 0,I 0,I 0,I 0,I 0,I 0,I 0,.int .u64 0,yk ⟨#[]⟩] 119)).alloc (A (yx k s t l q i p g).toArray 50)):=((Below.refl _ _).alloc (by rw [ue]; omega) _)
 have r1:=zc (eB w (yv xm k s t l q i p g id xi qty xj xh) 52) b1 (by omega)
 have t2:=there_madeV (w.alloc (A (yv xm k s t l q i p g id xi qty xj xh).toArray 52)) [I 0,I 0,I 0,I 0,I 0,I 0,I 0,I 0,I 0,I 0,I 0,I 0,.int .u64 0,yk ⟨#[]⟩] 119
 have r3:=eB ((w.alloc (A (yv xm k s t l q i p g id xi qty xj xh).toArray 52)).alloc (A #[I 0,I 0,I 0,I 0,I 0,I 0,I 0,I 0,I 0,I 0,I 0,I 0,.int .u64 0,yk ⟨#[]⟩] 119)) (yx k s t l q i p g) 50
 rw [xK] at t2
 rw [ue] at r3
 have t2':=zo t2 b2 (by omega)
 have xL:Hid (yn w (((w.alloc (A (yv xm k s t l q i p g id xi qty xj xh).toArray 52)).alloc (A #[I 0,I 0,I 0,I 0,I 0,I 0,I 0,I 0,I 0,I 0,I 0,I 0,.int .u64 0,yk ⟨#[]⟩] 119)).alloc (A (yx k s t l q i p g).toArray 50))):=((fE _ _).alloc (by rw [xK]; omega) _).alloc (by rw [ue]; omega) _
 have HX:Hid (_∧_∧_):=⟨r1,t2',r3⟩
 clear r1 t2 t2' r3 b1 b2 xK ue jJ
 go_enter Tryz.func72,Tryz.ntmps72
 go_wp2_with fail
 generalize (((w.alloc (A (yv xm k s t l q i p g id xi qty xj xh).toArray 52)).alloc (A #[I 0,I 0,I 0,I 0,I 0,I 0,I 0,I 0,I 0,I 0,I 0,I 0,.int .u64 0,yk ⟨#[]⟩] 119)).alloc (A (yx k s t l q i p g).toArray 50)) = WW at xL HX ⊢
 obtain ⟨jh,oQ,hr3⟩:=H HX
 have x0:=jh 0 _ rfl
 have x1:=jh 1 _ rfl
 have x2:=jh 2 _ rfl
 have x3:=jh 3 _ rfl
 have x4:=jh 4 _ rfl
 have x5:=jh 5 _ rfl
 have x6:=jh 6 _ rfl
 have x7:=jh 7 _ rfl
 have x8:=jh 8 _ rfl
 have x9:=jh 9 _ rfl
 have jP:=jh 10 _ rfl
 have jQ:=jh 11 _ rfl
 have jR:=jh 12 _ rfl
 have jS:=jh 13 _ rfl
 have y0:=hr3 0 _ rfl
 have y1:=hr3 1 _ rfl
 have y2:=hr3 2 _ rfl
 have y3:=hr3 3 _ rfl
 have y4:=hr3 4 _ rfl
 have y5:=hr3 5 _ rfl
 have y6:=hr3 6 _ rfl
 have y7:=hr3 7 _ rfl
 simp only [Nat.zero_add] at x0 x1 x2 x3 x4 x5 x6 x7 x8 x9 jP jQ jR jS y0 y1 y2 y3 y4 y5 y6 y7
 obtain ⟨v0,z0,f0⟩:=zG oQ 0 (by decide)
 obtain ⟨v1,z1,f1⟩:=zG oQ 1 (by decide)
 obtain ⟨v2,z2,f2⟩:=zG oQ 2 (by decide)
 obtain ⟨v3,z3,f3⟩:=zG oQ 3 (by decide)
 obtain ⟨v4,z4,f4⟩:=zG oQ 4 (by decide)
 obtain ⟨v5,z5,f5⟩:=zG oQ 5 (by decide)
 obtain ⟨v6,z6,f6⟩:=zG oQ 6 (by decide)
 obtain ⟨v7,z7,f7⟩:=zG oQ 7 (by decide)
 obtain ⟨v8,z8,f8⟩:=zG oQ 8 (by decide)
 obtain ⟨v9,z9,f9⟩:=zG oQ 9 (by decide)
 obtain ⟨v10,kX,f10⟩:=zG oQ 10 (by decide)
 obtain ⟨v11,oz,f11⟩:=zG oQ 11 (by decide)
 obtain ⟨v12,oA,f12⟩:=zG oQ 12 (by decide)
 obtain ⟨v13,oB,f13⟩:=zG oQ 13 (by decide)
 simp only [Nat.zero_add] at z0 f0 z1 f1 z2 f2 z3 f3 z4 f4 z5 f5 z6 f6 z7 f7 z8 f8 z9 f9 kX f10 oz f11 oA f12 oB f13
 have HT:=M oQ
 clear jh oQ hr3 HX
 refine wp_region_still_tail 30 (by kernel_rfl) (by kernel_rfl) ?_
 simp only [yT,List.take_zero,yU,List.drop_zero]
 repeat still_step
 still_call (H HFB _)
 repeat still_step
 refine wpStill_nil ?_
 go_wp2_with fail
 change bodyPost _ _ _ _ _ (WW.setCells (w.heap.size + 1) 0 [I xm,I id,I xi,I qty,I xj,I xh,I k,I s,I t,I l,I q,I i,.int .u64 fp,yk g]).drew
 have jM:=M (yX WW (w.heap.size + 1) 0 [I xm,I id,I xi,I qty,I xj,I xh,I k,I s,I t,I l,I q,I i,.int .u64 fp,yk g] (fun j O=>H HT j O))
 have qE:=M (zj (w.heap.size + 1) (by omega) [I xm,I id,I xi,I qty,I xj,I xh,I k,I s,I t,I l,I q,I i,.int .u64 fp,yk g] 0 WW (H xL))
 generalize WW.setCells (w.heap.size + 1) 0 [I xm,I id,I xi,I qty,I xj,I xh,I k,I s,I t,I l,I q,I i,.int .u64 fp,yk g] = WE at jM qE ⊢
 obtain ⟨d0,d1,d2,d3,d4,d5,d6,d7,d8,d9,kz,og,oh,oi⟩:=yF (H jM)
 try simp only [Exit.inBlock,Exit.then]
 refine bodyPost_ret (by simp [results,Tryz.results72,go_sem,d0,d1,d2,d3,d4,d5,d6,d7,d8,d9,kz,og,oh,oi]; try rfl) rfl ?_
 exact ⟨rfl,(H qE).drew⟩
end Go.Proofs.YtnphbkgfjanmgaaGreatDoor
