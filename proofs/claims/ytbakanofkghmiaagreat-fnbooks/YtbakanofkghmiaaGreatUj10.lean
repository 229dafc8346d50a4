/-
  Whether the numbers of orders rise, proved by walking the function; a side's tree planted and asked; whether the sides meet.
-/
import Derived.Test.YtbakanofkghmiaaGreatUj07
import Derived.Test.YtbakanofkghmiaaGreatUj09
set_option linter.unusedVariables false
set_option maxHeartbeats 6400000
set_option maxRecDepth 100000
namespace Go.Proofs.YtbakanofkghmiaaGreat
open Go.RowKit
def idsR (next:Int):Int→List Od→Bool
 | _,[]=>true
 | last,o :: r=>decide (last < o.id) && decide (o.id < next) && idsR next o.id r
theorem idsRise_any (next:Int) (v:Value) (l:List Od) (w:World) (hr:RdR Od.vs 6 w v l) :
  Calls Tryz.prog 36 #[.agg #[H next,v]] w fun e w'=>e = yl (.bool (idsR next 0 l))∧ym w w':=by
 obtain ⟨a,A,rfl,xC,hc⟩:=hr
 have xo:∀ (k:Nat) (c:Od),l[k]? = some c→∃ b off,a = some (J b off)∧b < w.heap.size∧w.rangeAt b (off + k * 6) c.vs:=by
  intro k c hk
  obtain ⟨b,off,G,D,h3⟩:=hc (by intro h; rw [h] at hk; simp at hk)
  exact ⟨b,off,G,D,h3 k c hk⟩
 have HC:=Y xo
 clear xo hc
 have uB:Hid (ym w (w.alloc (N #[H next,.slice a l.length A] 28))):=eB _ _
 have HR0:Hid ((w.alloc (N #[H next,.slice a l.length A] 28)).cell? (yp w 0) = some (H next)∧w.heap.size < (w.alloc (N #[H next,.slice a l.length A] 28)).heap.size):=⟨zg w [H next,.slice a l.length A] 28 0 _ rfl,by rw [zf]; omega⟩
 go_enter Tryz.func36,Tryz.ntmps36
 go_wp2_with fail
 generalize (w.alloc (N #[H next,.slice a l.length A] 28)) = W1 at uB HR0 ⊢
 have xz:=(U HR0).2
 go_loopw [3,9] (fun lv iv wr=>∃ (k:Nat) (last:Int),lv = H last∧k ≤ l.length∧iv = H k∧Hid (idsR next 0 l = idsR next last (l.drop k))∧ym W1 wr) (fun _ iv _=>l.length - (intOf iv).toNat)
 case atStart=>exact ⟨0,0,rfl,Nat.zero_le _,rfl,by simp [Hid],Below.refl _ _⟩
 case round =>
  obtain ⟨k,last,rfl,hk,rfl,hids,xh⟩:=hrel
  have HB:=Y xh
  clear xh
  by_cases xI:k < l.length
  ·obtain ⟨c,uJ⟩:∃ c,l[k]? = some c:=⟨_,yF xI⟩
   have pA:l.drop k = c :: l.drop (k + 1):=by
    obtain ⟨G,rfl⟩:=yE.1 uJ
    exact xa G
   have HI:Hid (idsR next 0 l = (decide (last < c.id) && decide (c.id < next) && idsR next c.id (l.drop (k + 1)))):=by
    have:=U hids
    rw [pA] at this
    exact this
   obtain ⟨b,off,rfl,O,X⟩:=U HC k c uJ
   obtain ⟨g0,g1,g2,g3,g4,g5⟩:=zz (zb X ((U uB).trans ((U HB).mono (U uB).size)) O)
   have hbox:=((U HB).cell (p:=(yp w 0)) xz).trans (U HR0).1
   have uu:(k:Int) < l.length:=by omega
   have pM:=(U HB).size
   have hboxW:(wr.alloc (N (yu c.id c.side c.ticks c.left c.life c.tag).toArray 49)).cell? (yp w 0) = some (H next):=(Below.cell ((Below.refl wr.heap.size wr).alloc hb _) (p:=(yp w 0)) (show w.heap.size < wr.heap.size by omega)).trans hbox
   clear uJ X O pA hids
   by_cases G:last < c.id
   ·have kn:decide (c.id ≤ last) = false:=by simpa using G
    by_cases D:c.id < next
    ·have ke:¬ (next ≤ c.id):=by omega
     have HN:Hid (idsR next 0 l = idsR next c.id (l.drop (k + 1))):=by
      have:=U HI
      rw [decide_eq_true G,decide_eq_true D,Bool.true_and,Bool.true_and] at this
      exact this
     go_wp2_with fail
     go_roundw
     case rel=>exact ⟨k + 1,c.id,rfl,by omega,by go_num,U HN,(U HB).alloc pM _⟩
     case measure=>simp [intOf]; omega
    ·have ke:next ≤ c.id:=by omega
     have HN:Hid (idsR next 0 l = false):=by
      have:=U HI
      rw [decide_eq_false D,Bool.and_false,Bool.false_and] at this
      exact this
     go_wp2_with fail
     go_ret
     exact ⟨zq (U HN).symm,(U uB).trans (((U HB).alloc pM _).mono (U uB).size)⟩
   ·have kn:decide (c.id ≤ last) = true:=by simp; omega
    have HN:Hid (idsR next 0 l = false):=by
     have:=U HI
     rw [decide_eq_false G,Bool.false_and,Bool.false_and] at this
     exact this
    go_wp2_with fail
    go_ret
    exact ⟨zq (U HN).symm,(U uB).trans (((U HB).alloc pM _).mono (U uB).size)⟩
  ·go_wp2_with fail
   go_ret
   have h:=U hids
   rw [yY (by omega)] at h
   exact ⟨zq (by rw [h]; rfl),(U uB).trans ((U HB).mono (U uB).size)⟩
theorem sideOf_buy (next:Int) (v:Value) (l:List Od) (w:World) (hr:RdR Od.vs 6 w v l) (hn:l.length ≤ 20) (hl:∀ o' ∈ l,0 ≤ o'.left∧o'.left ≤ 1000000) :
  Calls Tryz.prog 38 #[.agg #[H next,v],H 1] w fun e w' =>
   ∃ b,e = yl (bd b)∧aG 176 true w' b 1 (zo l 1)∧w.heap.size ≤ b∧ym w w':=by
 have HR:=Y hr
 have HL:=Y hl
 obtain ⟨a,A,rfl,xC,hc⟩:=hr
 have xz:=zf w (N #[H next,.slice a l.length A] 28)
 have r1:=zg (w.alloc (N #[H next,.slice a l.length A] 28)) [.nilFunc,.nilFunc,.nilFunc] 81
 have t1:=cC (n:=3) (heap_alloc_new (w.alloc (N #[H next,.slice a l.length A] 28)) (N #[.nilFunc,.nilFunc,.nilFunc] 81)) (by simp)
 rw [xz] at r1 t1
 have xZ:((w.alloc (N #[H next,.slice a l.length A] 28)).alloc (N #[.nilFunc,.nilFunc,.nilFunc] 81)).heap.size = w.heap.size + 1 + 1:=by rw [zf,xz]
 have uB:Hid (ym w ((w.alloc (N #[H next,.slice a l.length A] 28)).alloc (N #[.nilFunc,.nilFunc,.nilFunc] 81))) :=
  (eB _ _).alloc (by rw [xz]; omega) _
 have HX:Hid (_∧_):=⟨r1,t1⟩
 have qb:=Y xZ
 clear r1 t1 xz xZ hc hl
 go_enter Tryz.func38,Tryz.ntmps38
 go_wp2_with fail
 generalize ((w.alloc (N #[H next,.slice a l.length A] 28)).alloc (N #[.nilFunc,.nilFunc,.nilFunc] 81)) = W2 at uB HX qb ⊢
 refine (plant_b _ l 1 W2 (zh (U HR) (U uB) hb) hn (U HL)).mono ?_
 rintro e w1 ⟨rfl,kW,xU⟩
 have vN:=Y kW
 have xW:=Y xU
 clear kW xU
 go_wp2_with fail
 refine (ask_b W2.heap.size w1).mono ?_
 rintro e w2 ⟨rfl,xS⟩
 have pm:=Y (zr (U vN) (xS.block _ (zJ (U vN))))
 have kp:=(U xW).trans (xS.mono (U xW).size)
 obtain ⟨x1,x2⟩:=U HX
 have y1:=zb x1 kp (by rw [U qb]; omega)
 have y2:=ze x2 kp (by rw [U qb]; omega)
 have xD:=Y (eE (U uB) kp)
 have c0:w2.cell? (J (w.heap.size + 1) 0) = some .nilFunc:=y1 0 _ rfl
 have c1:w2.cell? (J (w.heap.size + 1) 1) = some .nilFunc:=y1 1 _ rfl
 have c2:w2.cell? (J (w.heap.size + 1) 2) = some .nilFunc:=y1 2 _ rfl
 have f0:w2.frozen? (J (w.heap.size + 1) 0) = false:=(y2 0 (by omega)).2
 have f1:w2.frozen? (J (w.heap.size + 1) 1) = false:=(y2 1 (by omega)).2
 have f2:w2.frozen? (J (w.heap.size + 1) 2) = false:=(y2 2 (by omega)).2
 clear xS kp x1 x2 y1 y2
 unfold bd
 generalize hF0:Value.func (.func 122) #[yn W2 0] #[] = F0
 generalize hF1:Value.func (.func 123) #[yn W2 0] #[] = F1
 generalize hF2:Value.func (.func 124) #[yn W2 0] #[] = F2
 have uO:∀ (W:World) (o:Nat) (m:Mode),((store (J (w.heap.size + 1) o) F0 m).run Tryz.prog W = stored Tryz.prog W (J (w.heap.size + 1) o) F0 m)∧((store (J (w.heap.size + 1) o) F1 m).run Tryz.prog W = stored Tryz.prog W (J (w.heap.size + 1) o) F1 m)∧((store (J (w.heap.size + 1) o) F2 m).run Tryz.prog W = stored Tryz.prog W (J (w.heap.size + 1) o) F2 m):=fun W o m=>by
  subst hF0 hF1 hF2
  exact ⟨run_store _ W _ _ m rfl,run_store _ W _ _ m rfl,run_store _ W _ _ m rfl⟩
 have hst0:=fun W o m=>(uO W o m).1
 have hst1:=fun W o m=>(uO W o m).2.1
 have hst2:=fun W o m=>(uO W o m).2.2
 clear uO
 go_wp2_with fail
 have hn01:((J (w.heap.size + 1) 0):Addr) ≠ (J (w.heap.size + 1) 1):=fun e=>by simp at e
 have hn02:((J (w.heap.size + 1) 0):Addr) ≠ (J (w.heap.size + 1) 2):=fun e=>by simp at e
 have hn12:((J (w.heap.size + 1) 1):Addr) ≠ (J (w.heap.size + 1) 2):=fun e=>by simp at e
 have d2:(((w2.setCell (J (w.heap.size + 1) 0) F0).setCell (J (w.heap.size + 1) 1) F1).setCell (J (w.heap.size + 1) 2) F2).cell? (J (w.heap.size + 1) 2) = some F2 :=
  yK _ _ _ ((yJ _ _ _ _ hn12).trans ((yJ _ _ _ _ hn02).trans c2))
 have d1:(((w2.setCell (J (w.heap.size + 1) 0) F0).setCell (J (w.heap.size + 1) 1) F1).setCell (J (w.heap.size + 1) 2) F2).cell? (J (w.heap.size + 1) 1) = some F1 :=
  (yJ _ _ _ _ hn12.symm).trans (yK _ _ _ ((yJ _ _ _ _ hn01).trans c1))
 have d0:(((w2.setCell (J (w.heap.size + 1) 0) F0).setCell (J (w.heap.size + 1) 1) F1).setCell (J (w.heap.size + 1) 2) F2).cell? (J (w.heap.size + 1) 0) = some F0 :=
  (yJ _ _ _ _ hn02.symm).trans ((yJ _ _ _ _ hn01.symm).trans (yK _ _ _ c0))
 have xA:W2.heap.size ≠ w.heap.size + 1:=by rw [U qb]; omega
 have HT5:=Y (zr (U pm) (w':=((w2.setCell (J (w.heap.size + 1) 0) F0).setCell (J (w.heap.size + 1) 1) F1).setCell (J (w.heap.size + 1) 2) F2) ((yQ _ _ _ _ xA).trans ((yQ _ _ _ _ xA).trans (yQ _ _ _ _ xA))))
 have jf:=Y ((((U xD).setCell (p:=(J (w.heap.size + 1) 0)) (by simp) F0).setCell (p:=(J (w.heap.size + 1) 1)) (by simp) F1).setCell (p:=(J (w.heap.size + 1) 2)) (by simp) F2)
 generalize ((w2.setCell (J (w.heap.size + 1) 0) F0).setCell (J (w.heap.size + 1) 1) F1).setCell (J (w.heap.size + 1) 2) F2 = W5 at *
 try simp only [Exit.inBlock,Exit.then]
 refine bodyPost_ret (by simp [results,Tryz.results38,go_sem,d0,d1,d2]; try rfl) rfl ?_
 refine ⟨W2.heap.size,?_,U HT5,by rw [U qb]; omega,U jf⟩
 subst hF0 hF1 hF2
 rfl
theorem ep (next:Int) (sd:Int) (uC:¬ sd = 1) (v:Value) (l:List Od) (w:World) (hr:RdR Od.vs 6 w v l) (hn:l.length ≤ 20) (hl:∀ o' ∈ l,0 ≤ o'.left∧o'.left ≤ 1000000) :
  Calls Tryz.prog 38 #[.agg #[H next,v],H sd] w fun e w' =>
   ∃ b,e = yl (bh b)∧aG 179 false w' b sd (zo l sd)∧w.heap.size ≤ b∧ym w w':=by
 have HR:=Y hr
 have HL:=Y hl
 obtain ⟨a,A,rfl,xC,hc⟩:=hr
 have xz:=zf w (N #[H next,.slice a l.length A] 28)
 have r1:=zg (w.alloc (N #[H next,.slice a l.length A] 28)) [.nilFunc,.nilFunc,.nilFunc] 81
 have t1:=cC (n:=3) (heap_alloc_new (w.alloc (N #[H next,.slice a l.length A] 28)) (N #[.nilFunc,.nilFunc,.nilFunc] 81)) (by simp)
 rw [xz] at r1 t1
 have xZ:((w.alloc (N #[H next,.slice a l.length A] 28)).alloc (N #[.nilFunc,.nilFunc,.nilFunc] 81)).heap.size = w.heap.size + 1 + 1:=by rw [zf,xz]
 have uB:Hid (ym w ((w.alloc (N #[H next,.slice a l.length A] 28)).alloc (N #[.nilFunc,.nilFunc,.nilFunc] 81))) :=
  (eB _ _).alloc (by rw [xz]; omega) _
 have HX:Hid (_∧_):=⟨r1,t1⟩
 have qb:=Y xZ
 clear r1 t1 xz xZ hc hl
 go_enter Tryz.func38,Tryz.ntmps38
 go_wp2_with fail
 generalize ((w.alloc (N #[H next,.slice a l.length A] 28)).alloc (N #[.nilFunc,.nilFunc,.nilFunc] 81)) = W2 at uB HX qb ⊢
 refine (plant_s _ l sd W2 (zh (U HR) (U uB) hb) hn (U HL)).mono ?_
 rintro e w1 ⟨rfl,kW,xU⟩
 have vN:=Y kW
 have xW:=Y xU
 clear kW xU
 go_wp2_with fail
 refine (ask_s W2.heap.size w1).mono ?_
 rintro e w2 ⟨rfl,xS⟩
 have pm:=Y (zr (U vN) (xS.block _ (zJ (U vN))))
 have kp:=(U xW).trans (xS.mono (U xW).size)
 obtain ⟨x1,x2⟩:=U HX
 have y1:=zb x1 kp (by rw [U qb]; omega)
 have y2:=ze x2 kp (by rw [U qb]; omega)
 have xD:=Y (eE (U uB) kp)
 have c0:w2.cell? (J (w.heap.size + 1) 0) = some .nilFunc:=y1 0 _ rfl
 have c1:w2.cell? (J (w.heap.size + 1) 1) = some .nilFunc:=y1 1 _ rfl
 have c2:w2.cell? (J (w.heap.size + 1) 2) = some .nilFunc:=y1 2 _ rfl
 have f0:w2.frozen? (J (w.heap.size + 1) 0) = false:=(y2 0 (by omega)).2
 have f1:w2.frozen? (J (w.heap.size + 1) 1) = false:=(y2 1 (by omega)).2
 have f2:w2.frozen? (J (w.heap.size + 1) 2) = false:=(y2 2 (by omega)).2
 clear xS kp x1 x2 y1 y2
 unfold bh
 generalize hF0:Value.func (.func 126) #[yn W2 0] #[] = F0
 generalize hF1:Value.func (.func 127) #[yn W2 0] #[] = F1
 generalize hF2:Value.func (.func 128) #[yn W2 0] #[] = F2
 have uO:∀ (W:World) (o:Nat) (m:Mode),((store (J (w.heap.size + 1) o) F0 m).run Tryz.prog W = stored Tryz.prog W (J (w.heap.size + 1) o) F0 m)∧((store (J (w.heap.size + 1) o) F1 m).run Tryz.prog W = stored Tryz.prog W (J (w.heap.size + 1) o) F1 m)∧((store (J (w.heap.size + 1) o) F2 m).run Tryz.prog W = stored Tryz.prog W (J (w.heap.size + 1) o) F2 m):=fun W o m=>by
  subst hF0 hF1 hF2
  exact ⟨run_store _ W _ _ m rfl,run_store _ W _ _ m rfl,run_store _ W _ _ m rfl⟩
 have hst0:=fun W o m=>(uO W o m).1
 have hst1:=fun W o m=>(uO W o m).2.1
 have hst2:=fun W o m=>(uO W o m).2.2
 clear uO
 go_wp2_with fail
 have hn01:((J (w.heap.size + 1) 0):Addr) ≠ (J (w.heap.size + 1) 1):=fun e=>by simp at e
 have hn02:((J (w.heap.size + 1) 0):Addr) ≠ (J (w.heap.size + 1) 2):=fun e=>by simp at e
 have hn12:((J (w.heap.size + 1) 1):Addr) ≠ (J (w.heap.size + 1) 2):=fun e=>by simp at e
 have d2:(((w2.setCell (J (w.heap.size + 1) 0) F0).setCell (J (w.heap.size + 1) 1) F1).setCell (J (w.heap.size + 1) 2) F2).cell? (J (w.heap.size + 1) 2) = some F2 :=
  yK _ _ _ ((yJ _ _ _ _ hn12).trans ((yJ _ _ _ _ hn02).trans c2))
 have d1:(((w2.setCell (J (w.heap.size + 1) 0) F0).setCell (J (w.heap.size + 1) 1) F1).setCell (J (w.heap.size + 1) 2) F2).cell? (J (w.heap.size + 1) 1) = some F1 :=
  (yJ _ _ _ _ hn12.symm).trans (yK _ _ _ ((yJ _ _ _ _ hn01).trans c1))
 have d0:(((w2.setCell (J (w.heap.size + 1) 0) F0).setCell (J (w.heap.size + 1) 1) F1).setCell (J (w.heap.size + 1) 2) F2).cell? (J (w.heap.size + 1) 0) = some F0 :=
  (yJ _ _ _ _ hn02.symm).trans ((yJ _ _ _ _ hn01.symm).trans (yK _ _ _ c0))
 have xA:W2.heap.size ≠ w.heap.size + 1:=by rw [U qb]; omega
 have HT5:=Y (zr (U pm) (w':=((w2.setCell (J (w.heap.size + 1) 0) F0).setCell (J (w.heap.size + 1) 1) F1).setCell (J (w.heap.size + 1) 2) F2) ((yQ _ _ _ _ xA).trans ((yQ _ _ _ _ xA).trans (yQ _ _ _ _ xA))))
 have jf:=Y ((((U xD).setCell (p:=(J (w.heap.size + 1) 0)) (by simp) F0).setCell (p:=(J (w.heap.size + 1) 1)) (by simp) F1).setCell (p:=(J (w.heap.size + 1) 2)) (by simp) F2)
 generalize ((w2.setCell (J (w.heap.size + 1) 0) F0).setCell (J (w.heap.size + 1) 1) F1).setCell (J (w.heap.size + 1) 2) F2 = W5 at *
 try simp only [Exit.inBlock,Exit.then]
 refine bodyPost_ret (by simp [results,Tryz.results38,go_sem,d0,d1,d2]; try rfl) rfl ?_
 refine ⟨W2.heap.size,?_,U HT5,by rw [U qb]; omega,U jf⟩
 subst hF0 hF1 hF2
 rfl
def hdO (q:List Od):Od:=(q.head?).getD zOd
def hdF (q:List Od):Bool:=(q.head?).isSome
theorem frOf_eq (q:List Od):frOf q = .tuple #[.agg (yu ((hdO q).id) ((hdO q).side) ((hdO q).ticks) ((hdO q).left) ((hdO q).life) ((hdO q).tag)).toArray,.bool (hdF q)]:=by
 unfold frOf hdO hdF
 cases q.head? <;> rfl
def meetB (q1 q2:List Od):Bool:=hdF q1 && hdF q2 && decide ((hdO q2).ticks ≤ (hdO q1).ticks)
theorem sidesMeet_any (b1 b2:Nat) (sd1 sd2:Int) (s1 s2:List Od) (w:World) (G:aG 176 true w b1 sd1 s1) (D:aG 179 false w b2 sd2 s2) (n1:s1.length ≤ 20) (n2:s2.length ≤ 20) :
  Calls Tryz.prog 40 #[bd b1,bh b2] w fun e w'=>e = yl (.bool (meetB (quOf true s1) (quOf false s2)))∧ym w w':=by
 have H1:=Y G
 have H2:=Y D
 have xU:=zJ G
 have xS:=zJ D
 clear G D
 unfold bd bh
 have xz:=zf w (N #[.func (.func 122) #[I b1 0] #[],.func (.func 123) #[I b1 0] #[],.func (.func 124) #[I b1 0] #[]] 81)
 have r1:=zg (w.alloc (N #[.func (.func 122) #[I b1 0] #[],.func (.func 123) #[I b1 0] #[],.func (.func 124) #[I b1 0] #[]] 81)) [.func (.func 126) #[I b2 0] #[],.func (.func 127) #[I b2 0] #[],.func (.func 128) #[I b2 0] #[]] 81
 have xZ:((w.alloc (N #[.func (.func 122) #[I b1 0] #[],.func (.func 123) #[I b1 0] #[],.func (.func 124) #[I b1 0] #[]] 81)).alloc (N #[.func (.func 126) #[I b2 0] #[],.func (.func 127) #[I b2 0] #[],.func (.func 128) #[I b2 0] #[]] 81)).heap.size = w.heap.size + 1 + 1:=by rw [zf,xz]
 have uB:Hid (ym w ((w.alloc (N #[.func (.func 122) #[I b1 0] #[],.func (.func 123) #[I b1 0] #[],.func (.func 124) #[I b1 0] #[]] 81)).alloc (N #[.func (.func 126) #[I b2 0] #[],.func (.func 127) #[I b2 0] #[],.func (.func 128) #[I b2 0] #[]] 81))):=(eB _ _).alloc (by rw [xz]; omega) _
 rw [xz] at r1
 have HX:=Y (r1 0 _ rfl)
 have qb:=Y xZ
 clear r1 xz xZ
 go_enter Tryz.func40,Tryz.ntmps40
 go_wp2_with fail
 generalize ((w.alloc (N #[.func (.func 122) #[I b1 0] #[],.func (.func 123) #[I b1 0] #[],.func (.func 124) #[I b1 0] #[]] 81)).alloc (N #[.func (.func 126) #[I b2 0] #[],.func (.func 127) #[I b2 0] #[],.func (.func 128) #[I b2 0] #[]] 81)) = W2 at uB HX qb ⊢
 refine (front_b b1 sd1 s1 W2 (zr (U H1) ((U uB).block _ xU)) n1).mono ?_
 rintro e w1 ⟨rfl,uw⟩
 rw [frOf_eq]
 have xP:=Y uw
 have c0:=(uw.cell (p:=(J (w.heap.size + 1) 0)) (by rw [U qb]; simp)).trans (U HX)
 have hsz1:w.heap.size + 2 ≤ w1.heap.size:=by have:=uw.size; rw [U qb] at this; omega
 generalize qU:hdO (quOf true s1) = x
 generalize hf1:hdF (quOf true s1) = f1
 have kM:Hid (hdO (quOf true s1) = x∧hdF (quOf true s1) = f1):=⟨qU,hf1⟩
 clear uw qU hf1
 have c0':(w1.alloc (N (yu x.id x.side x.ticks x.left x.life x.tag).toArray 49)).cell? (J (w.heap.size + 1) 0) = _:=(Below.cell ((Below.refl w1.heap.size w1).alloc hb _) (p:=(J (w.heap.size + 1) 0)) (show w.heap.size + 1 < w1.heap.size by omega)).trans c0
 have jw:Hid (World.rangeAt (w1.alloc (N (yu x.id x.side x.ticks x.left x.life x.tag).toArray 49)) w1.heap.size 0 x.vs):=zg w1 x.vs 49
 have xY:Hid (ym W2 (w1.alloc (N (yu x.id x.side x.ticks x.left x.life x.tag).toArray 49))):=(U xP).alloc (U xP).size _
 have HS4:Hid ((w1.alloc (N (yu x.id x.side x.ticks x.left x.life x.tag).toArray 49)).heap.size = w1.heap.size + 1):=zf _ _
 go_wp2_with fail
 generalize (w1.alloc (N (yu x.id x.side x.ticks x.left x.life x.tag).toArray 49)) = W4 at c0' jw xY HS4 ⊢
 have HB04:=Y ((U uB).trans ((U xY).mono (U uB).size))
 refine (front_s b2 sd2 s2 W4 (zr (U H2) ((U HB04).block _ xS)) n2).mono ?_
 rintro e w5 ⟨rfl,vD⟩
 rw [frOf_eq]
 have jf:=Y (eE (U HB04) vD)
 obtain ⟨-,-,t2,-⟩:=zz (zb (U jw) vD (by rw [U HS4]; omega))
 have ku:w1.heap.size < w5.heap.size:=by have:=vD.size; rw [U HS4] at this; omega
 generalize hq2:hdO (quOf false s2) = y
 generalize hf2:hdF (quOf false s2) = f2
 have HQ2:Hid (hdO (quOf false s2) = y∧hdF (quOf false s2) = f2):=⟨hq2,hf2⟩
 clear vD hq2 hf2
 have t2':(w5.alloc (N (yu y.id y.side y.ticks y.left y.life y.tag).toArray 49)).cell? (yp w1 (0 + 2)) = _:=(Below.cell ((Below.refl w5.heap.size w5).alloc hb _) (p:=(yp w1 (0 + 2))) ku).trans t2
 have jd:Hid (ym w (w5.alloc (N (yu y.id y.side y.ticks y.left y.life y.tag).toArray 49))):=(U jf).alloc (U jf).size _
 have HM:Hid (meetB (quOf true s1) (quOf false s2) = (f1 && f2 && decide (y.ticks ≤ x.ticks))):=by
  show _ = _
  rw [meetB,(U kM).1,(U kM).2,(U HQ2).1,(U HQ2).2]
 cases f1 <;> cases f2
 ·go_wp2_with fail
  go_ret
  exact ⟨zq (U HM).symm,U jd⟩
 ·go_wp2_with fail
  go_ret
  exact ⟨zq (U HM).symm,U jd⟩
 ·go_wp2_with fail
  go_ret
  exact ⟨zq (U HM).symm,U jd⟩
 ·go_wp2_with fail
  go_ret
  exact ⟨zq (U HM).symm,U jd⟩
def noV (c:Cm):Value:=.agg #[H c.s,H c.t,H c.l,H c.q,yi c.p,yj c.g]
def aC (t:Int):Bool:=decide (t = 1) || decide (t = 5)
def prcB (c:Cm):Bool:=if c.t = 2 then decide (fbit c.p = 0) else tkOk c.p
def aN (c:Cm) (o:Od):Bool:=if c.t = 2 then true else if c.s = 1 then decide (o.ticks ≤ tk c.p) else decide (tk c.p ≤ o.ticks)
def ordO (c:Cm) (id:Int):Od:=⟨id,c.s,tk c.p,c.q,c.l,c.g⟩
def othS (s:Int):Int:=if s = 1 then 2 else 1
theorem isType_any (t:Int) (w:World) :
  Calls Tryz.prog 144 #[H t] w fun e w'=>e = yl (.bool (betB t 1 5))∧w' = w:=by
 go_enter Tryz.func144,Tryz.ntmps144
 go_wp2_with fail
 refine (zG t 1 5 w).mono ?_
 rintro e w' ⟨rfl,rfl⟩
 go_wp2_with fail
 go_ret
 exact ⟨rfl,rfl⟩
theorem isQty_any (t:Int) (w:World) :
  Calls Tryz.prog 146 #[H t] w fun e w'=>e = yl (.bool (betB t 1 1000000))∧w' = w:=by
 go_enter Tryz.func146,Tryz.ntmps146
 go_wp2_with fail
 refine (zG t 1 1000000 w).mono ?_
 rintro e w' ⟨rfl,rfl⟩
 go_wp2_with fail
 go_ret
 exact ⟨rfl,rfl⟩
theorem otherSide_any (s:Int) (w:World) :
  Calls Tryz.prog 149 #[H s] w fun e w'=>e = yl (H (othS s))∧w' = w:=by
 by_cases h:s = 1
 ·subst h
  go_enter Tryz.func149,Tryz.ntmps149
  go_wp2_with fail
  go_ret
  exact ⟨rfl,rfl⟩
 ·have h':(s == 1) = false:=by simpa using h
  have HS:Hid (othS s = 1):=if_neg h
  go_enter Tryz.func149,Tryz.ntmps149
  go_wp2_with fail
  go_ret
  exact ⟨zv (U HS).symm,rfl⟩
theorem dN (c:Cm) (w:World) :
  Calls Tryz.prog 114 #[noV c] w fun e w'=>e = yl (.bool (aC c.t))∧ym w w':=by
 obtain ⟨k,s,t,l,q,i,p,g⟩:=c
 unfold noV
 simp only
 by_cases G:t = 1
 ·subst G
  go_enter Tryz.func114,Tryz.ntmps114
  go_wp2_with fail
  go_ret
  exact ⟨rfl,by go_grown⟩
 ·have b1:(t == 1) = false:=by simpa using G
  by_cases h5:t = 5
  ·subst h5
   go_enter Tryz.func114,Tryz.ntmps114
   go_wp2_with fail
   go_ret
   exact ⟨rfl,by go_grown⟩
  ·have b5:(t == 5) = false:=by simpa using h5
   have HR:Hid (aC t = false):=by show aC t = false; simp [aC,G,h5]
   go_enter Tryz.func114,Tryz.ntmps114
   go_wp2_with fail
   go_ret
   exact ⟨zq (U HR).symm,by go_grown⟩
theorem hasPrice_any (c:Cm) (w:World) :
  Calls Tryz.prog 145 #[noV c] w fun e w'=>e = yl (.bool (prcB c))∧ym w w':=by
 obtain ⟨k,s,t,l,q,i,p,g⟩:=c
 unfold noV
 simp only
 have HB:Hid (ym w (w.alloc (N #[H s,H t,H l,H q,yi p,yj g] 112))):=eB _ _
 by_cases D:t = 2
 ·subst D
  have HP:Hid (prcB ⟨k,s,2,l,q,i,p,g⟩ = decide (fbit p = 0)):=if_pos rfl
  go_enter Tryz.func145,Tryz.ntmps145
  go_wp2_with fail
  refine (floatBits_any p _).mono ?_
  rintro e w' ⟨rfl,rfl⟩
  go_wp2_with fail
  go_ret
  exact ⟨zq (by rw [U HP,Bool.eq_iff_iff]; simp),U HB⟩
 ·have b2:(t == 2) = false:=by simpa using D
  have HP:Hid (prcB ⟨k,s,t,l,q,i,p,g⟩ = tkOk p):=if_neg D
  go_enter Tryz.func145,Tryz.ntmps145
  go_wp2_with fail
  refine (dR p _).mono ?_
  rintro e w' ⟨rfl,rfl⟩
  go_wp2_with fail
  go_ret
  exact ⟨zq (U HP).symm,U HB⟩
theorem meets_any (c:Cm) (o:Od) (w:World) :
  Calls Tryz.prog 150 #[noV c,.agg (yu o.id o.side o.ticks o.left o.life o.tag).toArray] w fun e w'=>e = yl (.bool (aN c o))∧ym w w':=by
 obtain ⟨k,s,t,l,q,i,p,g⟩:=c
 obtain ⟨id,side,ticks,left,life,tag⟩:=o
 unfold noV
 simp only
 have HB:Hid (ym w ((w.alloc (N #[H s,H t,H l,H q,yi p,yj g] 112)).alloc (N (yu id side ticks left life tag).toArray 49))):=(eB _ _).alloc (by rw [zf]; omega) _
 by_cases D:t = 2
 ·subst D
  have HP:Hid (aN ⟨k,s,2,l,q,i,p,g⟩ ⟨id,side,ticks,left,life,tag⟩ = true):=if_pos rfl
  go_enter Tryz.func150,Tryz.ntmps150
  go_wp2_with fail
  go_ret
  exact ⟨zq (U HP).symm,U HB⟩
 ·have b2:(t == 2) = false:=by simpa using D
  by_cases G:s = 1
  ·subst G
   have HP:Hid (aN ⟨k,1,t,l,q,i,p,g⟩ ⟨id,side,ticks,left,life,tag⟩ = decide (ticks ≤ tk p)):=by show _ = _; rw [aN,if_neg D]; rfl
   go_enter Tryz.func150,Tryz.ntmps150
   go_wp2_with fail
   refine (dR p _).mono ?_
   rintro e w' ⟨rfl,rfl⟩
   go_wp2_with fail
   go_ret
   exact ⟨zq (U HP).symm,U HB⟩
  ·have b1:(s == 1) = false:=by simpa using G
   have HP:Hid (aN ⟨k,s,t,l,q,i,p,g⟩ ⟨id,side,ticks,left,life,tag⟩ = decide (tk p ≤ ticks)):=by show _ = _; rw [aN,if_neg D,if_neg G]
   go_enter Tryz.func150,Tryz.ntmps150
   go_wp2_with fail
   refine (dR p _).mono ?_
   rintro e w' ⟨rfl,rfl⟩
   go_wp2_with fail
   go_ret
   exact ⟨zq (U HP).symm,U HB⟩
theorem order_any (c:Cm) (id:Int) (w:World) :
  Calls Tryz.prog 148 #[noV c,H id] w fun e w'=>e = yl (.agg (yu id c.s (tk c.p) c.q c.l c.g).toArray)∧ym w w':=by
 obtain ⟨k,s,t,l,q,i,p,g⟩:=c
 unfold noV
 simp only
 go_enter Tryz.func148,Tryz.ntmps148
 go_wp2_with fail
 refine (dR p _).mono ?_
 rintro e w' ⟨rfl,rfl⟩
 go_wp2_with fail
 go_returns
 refine ⟨rfl,?_⟩
 go_grown
theorem toldNew_any (c:Cm) (w:World) :
  Calls Tryz.prog 113 #[noV c] w fun e w'=>e = yl (.agg (yv 1 c.s c.t c.l c.q 0 c.p c.g).toArray)∧ym w w':=by
 obtain ⟨k,s,t,l,q,i,p,g⟩:=c
 unfold noV
 have hsf:=sfl
 simp only
 go_enter Tryz.func113,Tryz.ntmps113
 go_wp2_with fail
 go_returns
 refine ⟨rfl,?_⟩
 go_grown
theorem toldCancel_any (i:Int) (w:World) :
  Calls Tryz.prog 185 #[.agg #[H i]] w fun e w'=>e = yl (.agg (yv 2 0 0 0 0 i 0 ⟨#[]⟩).toArray)∧ym w w':=by
 have hsf:=sfl
 go_enter Tryz.func185,Tryz.ntmps185
 go_wp2_with fail
 go_returns
 refine ⟨rfl,?_⟩
 go_grown
theorem toldReduce_any (i q:Int) (w:World) :
  Calls Tryz.prog 186 #[.agg #[H i,H q]] w fun e w'=>e = yl (.agg (yv 3 0 0 0 q i 0 ⟨#[]⟩).toArray)∧ym w w':=by
 have hsf:=sfl
 go_enter Tryz.func186,Tryz.ntmps186
 go_wp2_with fail
 go_returns
 refine ⟨rfl,?_⟩
 go_grown
theorem toldDay_any (w:World) :
  Calls Tryz.prog 187 #[.agg #[]] w fun e w'=>e = yl (.agg (yv 4 0 0 0 0 0 0 ⟨#[]⟩).toArray)∧ym w w':=by
 have hsf:=sfl
 go_enter Tryz.func187,Tryz.ntmps187
 go_wp2_with fail
 go_returns
 refine ⟨rfl,?_⟩
 go_grown
structure Ev where
 kind:Int
 cmd:Cm
 id:Int
 other:Int
 qty:Int
 price:Int
 reason:Int
def cmV (c:Cm):Value:=.agg (yv c.k c.s c.t c.l c.q c.i c.p c.g).toArray
def evV (e:Ev):Value:=.agg (yt e.kind e.cmd.k e.cmd.s e.cmd.t e.cmd.l e.cmd.q e.cmd.i e.cmd.p e.cmd.g e.id e.other e.qty e.price e.reason).toArray
def vlV (e:Ev):Value:=.agg #[H e.kind,H e.id,H e.other,H e.qty,H e.price,H e.reason,H e.cmd.k,H e.cmd.s,H e.cmd.t,H e.cmd.l,H e.cmd.q,H e.cmd.i,.int .u64 (fbit e.cmd.p),yj e.cmd.g]
def Ev.vs (e:Ev):List Value:=(yt e.kind e.cmd.k e.cmd.s e.cmd.t e.cmd.l e.cmd.q e.cmd.i e.cmd.p e.cmd.g e.id e.other e.qty e.price e.reason)
theorem Ev.len (e:Ev):e.vs.length = 14:=rfl
def zCm:Cm:=⟨0,0,0,0,0,0,0,⟨#[]⟩⟩
end Go.Proofs.YtbakanofkghmiaaGreat
