/-
  Whether a book is right, as the program says it: proved by walking the function.
-/
import Derived.Test.YthhkapcbocgcoaaGreatDoorGj10
set_option linter.unusedVariables false
set_option maxHeartbeats 6400000
set_option maxRecDepth 100000
namespace Go.Proofs.YthhkapcbocgcoaaGreatDoor
open Go.RowKit
def okI (next:Int) (l:List Od):Bool:=betB next 1 1000000 && decide (l.length ≤ 20) && idsR next 0 l && l.all ordB &&
 (decide ((bX true 1 (zr l 1)).length + (bX false 2 (zr l 2)).length ≤ 8) && !meetB (quOf true (zr l 1)) (quOf false (zr l 2)))
theorem implBookOK_any (next:Int) (v:Value) (l:List Od) (w:World) (hr:RdR Od.vs 6 w v l) (hg:∀ c ∈ l,c.tag.size ≤ maxLen) :
  Calls Tryz.prog 43 #[.agg #[H next,v]] w fun e w'=>e = ym (.bool (okI next l))∧yn w w':=by
 have HR:=M hr
 have HG:=M hg
 obtain ⟨a,cap,rfl,xD,hc⟩:=hr
 have xr:∀ (k:Nat) (c:Od),l[k]? = some c→∃ b off,a = some (J b off)∧b < w.heap.size∧w.rangeAt b (off + k * 6) c.vs:=by
  intro k c E
  obtain ⟨b,off,Q,D,X⟩:=hc (by intro h; rw [h] at E; simp at E)
  exact ⟨b,off,Q,D,X k c E⟩
 have HC:=M xr
 clear xr hc hg
 have xZ:Hid (yn w (w.alloc (O #[H next,.slice a l.length cap] 27))):=gZ _ _
 have qG:=zm w [H next,.slice a l.length cap] 27
 have HX:Hid (World.cell? (w.alloc (O #[H next,.slice a l.length cap] 27)) (yq w 0) = some (H next)∧World.cell? (w.alloc (O #[H next,.slice a l.length cap] 27)) (yq w 1) = some (.slice a l.length cap)∧w.heap.size < (w.alloc (O #[H next,.slice a l.length cap] 27)).heap.size):=⟨qG 0 _ rfl,qG 1 _ rfl,by rw [zi]; omega⟩
 clear qG
 cases Q:betB next 1 1000000
 ·go_enter Tryz.func43,Tryz.ntmps43
  go_wp2_with fail
  refine (zH next 1 1000000 _).mono ?_
  rintro e w1 ⟨rfl,rfl⟩
  go_wp2_with fail
  go_ret
  exact ⟨zo (by simp [okI,Q]),U xZ⟩
 by_cases D:l.length ≤ 20
 rotate_left
 ·have og:(20:Int) < l.length:=by omega
  go_enter Tryz.func43,Tryz.ntmps43
  go_wp2_with fail
  refine (zH next 1 1000000 _).mono ?_
  rintro e w1 ⟨rfl,rfl⟩
  go_wp2_with fail
  go_ret
  exact ⟨zo (by simp [okI,Q,D]),U xZ⟩
 have og:¬ ((20:Int) < l.length):=by omega
 cases X:idsR next 0 l
 ·go_enter Tryz.func43,Tryz.ntmps43
  go_wp2_with fail
  refine (zH next 1 1000000 _).mono ?_
  rintro e w1 ⟨rfl,rfl⟩
  go_wp2_with fail
  refine (idsRise_any next _ l _ (zh (U HR) (U xZ) hU)).mono ?_
  rintro e w2 ⟨rfl,xP⟩
  have xt:=M (ia (U xZ) xP)
  clear xP
  go_wp2_with fail
  go_ret
  exact ⟨zo (by simp [okI,X]),U xt⟩
 go_enter Tryz.func43,Tryz.ntmps43
 go_wp2_with fail
 refine (zH next 1 1000000 _).mono ?_
 rintro e w1 ⟨rfl,rfl⟩
 go_wp2_with fail
 refine (idsRise_any next _ l _ (zh (U HR) (U xZ) hU)).mono ?_
 rintro e w2 ⟨rfl,xP⟩
 have xt:=M (ia (U xZ) xP)
 have x0:=(xP.cell (p:=(yq w 0)) (U HX).2.2).trans (U HX).1
 have x1:=(xP.cell (p:=(yq w 1)) (U HX).2.2).trans (U HX).2.1
 have hsz2:w.heap.size < w2.heap.size:=yK (U HX).2.2 xP.size
 have xW:Hid (w2.cell? (yq w 0) = some (H next)∧w2.cell? (yq w 1) = some (.slice a l.length cap)):=⟨x0,x1⟩
 clear xP x0
 go_wp2_with fail
 go_loopw [25] (fun iv wr=>∃ (k:Nat),k ≤ l.length∧iv = H k∧Hid (l.all ordB = (l.drop k).all ordB)∧yn w2 wr) (fun iv _=>l.length - (intOf iv).toNat)
 case atStart=>exact ⟨0,Nat.zero_le _,rfl,by simp [Hid],Below.refl _ _⟩
 case round =>
  obtain ⟨k,E,rfl,K,xi⟩:=hrel
  have HB:=M xi
  clear xi x1
  by_cases xM:k < l.length
  ·obtain ⟨c,uV⟩:∃ c,l[k]? = some c:=⟨_,yI xM⟩
   have vR:l.drop k = c :: l.drop (k + 1):=by
    obtain ⟨Q,rfl⟩:=yH.1 uV
    exact xd Q
   have HI:Hid (l.all ordB = (ordB c && (l.drop (k + 1)).all ordB)):=by
    have:=U K
    rw [vR] at this
    exact this
   obtain ⟨b,off,rfl,A,xo⟩:=U HC k c uV
   obtain ⟨g0,g1,g2,g3,g4,g5⟩:=zC (zc xo ((U xt).trans ((U HB).mono (U xt).size)) A)
   have HS:=M (U HG c (yP uV))
   have vj:(k:Int) < l.length:=by omega
   have pz:=(U HB).size
   clear uV xo A vR K
   go_wp2_with fail
   refine (orderOK_any c _ (U HS)).mono ?_
   rintro e w3 ⟨rfl,xQ⟩
   have xG:=M (((U HB).alloc pz _).trans (xQ.mono (by rw [zi]; omega)))
   clear xQ
   cases Y:ordB c
   ·have HN:Hid (l.all ordB = false):=by
     have:=U HI
     rw [Y,Bool.false_and] at this
     exact this
    go_wp2_with fail
    go_ret
    exact ⟨zo (by rw [okI,U HN]; simp),(U xt).trans ((U xG).mono (U xt).size)⟩
   ·have HN:Hid (l.all ordB = (l.drop (k + 1)).all ordB):=by
     have:=U HI
     rw [Y,Bool.true_and] at this
     exact this
    go_wp2_with fail
    go_roundw
    case rel=>exact ⟨k + 1,by omega,by go_num,U HN,U xG⟩
    case measure=>simp [intOf]; omega
  ·have hall2:l.all ordB = true:=by
    have h:=U K
    rw [xb (by omega)] at h
    rw [h]; rfl
   have HALL:=M hall2
   clear K hall2
   have y0:=((U HB).cell (p:=(yq w 0)) hsz2).trans (U xW).1
   have y1:=((U HB).cell (p:=(yq w 1)) hsz2).trans (U xW).2
   go_wp2_with fail
   have HRr:=M (zh (zh (U HR) (U xt) hU) (U HB) hU)
   have bd:w.heap.size < wr.heap.size:=yK hsz2 (U HB).size
   have HLB:Hid (∀ o' ∈ l,0 ≤ o'.left∧o'.left ≤ 1000000):=fun o' vu=>by
    have:=List.all_eq_true.1 (U HALL) o' vu
    simp [ordB,betB] at this
    omega
   have HY:Hid (wr.cell? (yq w 0) = some (H next)∧wr.cell? (yq w 1) = some (.slice a l.length cap)):=⟨y0,y1⟩
   clear y0 y1
   refine fu (fun x hb W=>∃ v33 v34 v35 v36 v5 v6 b1 b2 p5 p6,hb = { tmps:=#[.agg #[H next,.slice a l.length cap],yp w 0,u2,Z,u4,v5,v6,yp w 0,H next,.bool true,.bool false,.bool false,yp w 1,.slice a l.length cap,H l.length,.bool (decide ((20:Int) < l.length)),.bool (decide ((20:Int) < l.length)),.bool (decide ((20:Int) < l.length)),.agg #[H next,.slice a l.length cap],.bool true,.bool false,.bool (decide ((20:Int) < l.length)),yp w 1,.slice a l.length cap,H l.length,H k,.bool false,u27,u28,u29,u30,u31,u32,v33,v34,v35,v36,Z,Z,Z,Z,Z,Z,Z,Z,Z,Z],defers:=[] }∧RW9 wr (.agg #[H next,.slice a l.length cap]) (zr l 1) (zr l 2) x v33 v34 v35 v36 v5 v6 b1 b2 p5 p6 W) (by kernel_rfl) ?_ ?_ ?_
   ·refine ⟨Z,Z,Z,Z,Z,Z,0,0,0,0,rfl,?_⟩
    refine ⟨⟨rfl,rfl,rfl,Nat.le_refl _,fun _ _=>rfl⟩,?_,?_,?_,?_,?_,?_,?_,?_,?_,?_,?_,?_,?_⟩ <;> simp
   ·rintro x hb W ⟨v33,v34,v35,v36,v5,v6,b1,b2,p5,p6,rfl,F⟩ hx xN
    have q0:=dX xN hx 0 _ rfl (by simp)
    have q2:=dX xN hx 2 _ rfl (by simp)
    have q4:=dX xN hx 4 _ rfl (by simp)
    have q5:=dX xN hx 5 _ rfl (by simp)
    have q1:=dX xN hx 1 _ rfl (by simp [q0])
    have q3:=dX xN hx 3 _ rfl (by simp [q1,q2])
    have q6:=dX xN hx 6 _ rfl (by simp [q0,q1,q2,q3,q4,q5])
    have q7:=dX xN hx 7 _ rfl (by simp [q0,q1,q2,q3,q4,q5,q6])
    obtain ⟨e1,e2⟩:=F.c34 q1
    obtain ⟨e3,e4⟩:=F.c36 q3
    obtain ⟨e5,e6,e7,e8⟩:=F.c5 q4
    obtain ⟨f5,f6,f7,f8⟩:=F.c6 q5
    have e9:=(F.s5 q6).2
    have f9:=(F.s6 q7).2
    have hbW:=F.bel
    subst e1 e3 e5 f5
    have HW:Hid (Tb W b1 (zr l 1)∧Ts W b2 (zr l 2)∧W.rangeAt p5 0 (ey b1)∧W.rangeAt p6 0 (eO b2)∧p5 < W.heap.size∧p6 < W.heap.size∧yn wr W):=⟨e2,e4,e9,f9,e6,f6,hbW⟩
    clear F q0 q1 q2 q3 q4 q5 q6 q7 e2 e4 e6 e7 e8 f6 f7 f8 e9 f9 hbW xN hx
    have n1:(zr l 1).length ≤ 20:=yO (List.length_filter_le _ _) D
    have n2:(zr l 2).length ≤ 20:=yO (List.length_filter_le _ _) D
    obtain ⟨hT1,hT2,r5,r6,hp5,hp6,-⟩:=U HW
    have xI:=M ((U xt).trans (((U HB).trans ((U HW).2.2.2.2.2.2.mono (U HB).size)).mono (U xt).size))
    have qZ:=M hT1
    have vp:=M hT2
    have pD:=M r5
    have HR6:=M r6
    have hb1s:=zG hT1
    have hb2s:=zG hT2
    clear hT1 hT2 r5 r6
    generalize hL1:(bX true 1 (zr l 1)).length = N1
    generalize hL2:(bX false 2 (zr l 2)).length = N2
    generalize hmt:meetB (quOf true (zr l 1)) (quOf false (zr l 2)) = mt
    have pC:Hid (okI next l = (decide (N1 + N2 ≤ 8) && !mt)):=by
     show okI next l = _
     rw [okI,Q,X,U HALL,hL1,hL2,hmt,decide_eq_true D]; rfl
    have HLL:Hid ((bX true 1 (zr l 1)).length = N1∧(bX false 2 (zr l 2)).length = N2∧meetB (quOf true (zr l 1)) (quOf false (zr l 2)) = mt):=⟨hL1,hL2,hmt⟩
    clear hL1 hL2 hmt
    have d0:=U pD 0 _ rfl
    have d1:=U pD 1 _ rfl
    have d2:=U pD 2 _ rfl
    have e0:=U HR6 0 _ rfl
    have e1:=U HR6 1 _ rfl
    have e2:=U HR6 2 _ rfl
    rw [Nat.zero_add] at d0 d1 d2 e0 e1 e2
    go_wp2_with fail
    refine (gU b1 b2 1 2 (zr l 1) (zr l 2) W (U qZ) (U vp) n1 n2).mono ?_
    rw [(U HLL).1,(U HLL).2.1]
    rintro e w4 ⟨rfl,xy⟩
    have xO:=M (ia (U xI) xy)
    have HT14:=M (zu (U qZ) (xy.block _ hb1s))
    have HT24:=M (zu (U vp) (xy.block _ hb2s))
    have d0:=zc (U pD) xy hp5 0 _ rfl
    have d1:=zc (U pD) xy hp5 1 _ rfl
    have d2:=zc (U pD) xy hp5 2 _ rfl
    have e0:=zc (U HR6) xy hp6 0 _ rfl
    have e1:=zc (U HR6) xy hp6 1 _ rfl
    have e2:=zc (U HR6) xy hp6 2 _ rfl
    rw [Nat.zero_add] at d0 d1 d2 e0 e1 e2
    clear xy
    by_cases h8:N1 + N2 ≤ 8
    ·have h8':(N1:Int) + N2 ≤ 8:=by omega
     have HK:Hid (okI next l = !mt):=by
      have:=U pC
      rw [decide_eq_true h8,Bool.true_and] at this
      exact this
     go_wp2_with fail
     refine (sidesMeet_any b1 b2 1 2 (zr l 1) (zr l 2) w4 (U HT14) (U HT24) n1 n2).mono ?_
     rw [(U HLL).2.2]
     rintro e w5 ⟨rfl,uj⟩
     have uE:=M (ia (U xO) uj)
     clear uj
     go_wp2_with fail
     go_ret
     exact ⟨zo (U HK).symm,U uE⟩
    ·have h8':¬ ((N1:Int) + N2 ≤ 8):=by omega
     have HK:Hid (okI next l = false):=by
      have:=U pC
      rw [decide_eq_false h8,Bool.false_and] at this
      exact this
     go_wp2_with fail
     go_ret
     exact ⟨zo (U HK).symm,U xO⟩
   ·rintro x hb W i o ⟨v33,v34,v35,v36,v5,v6,b1,b2,p5,p6,rfl,F⟩ hx Y xu K
    have xA:=M F
    have z0:=(F.bel.cell (p:=(yq w 0)) bd).trans (U HY).1
    have z1:=(F.bel.cell (p:=(yq w 1)) bd).trans (U HY).2
    have qh:=M (zh (U HRr) F.bel hU)
    match i,Y with
    | 0,Y =>
     obtain rfl:=ya Y
     rw [if_pos (by rfl)]
     unfold Oper.wp
     clear K F
     go_simp
     exact ⟨_,_,_,_,_,_,⟨rfl,rfl,rfl,rfl,rfl,rfl⟩,_,_,_,_,rw9_0 (U xA)⟩
    | 1,Y =>
     obtain rfl:=ya Y
     have h0:x[0]? = some true:=K ⟨0,.data⟩ (by simp) rfl
     obtain rfl:=F.c33 h0
     have h6:x[6]? ≠ some true:=fun e=>by have:=(F.s5 e).1.1; rw [xu] at this; cases this
     clear K F
     rw [if_pos (by rfl)];unfold Oper.wp;go_simp
     refine (gG next _ l W (U qh) D (U HLB)).mono ?_
     rintro e w3 ⟨b,rfl,ht,qx,A⟩
     exact ⟨_,_,_,_,_,_,⟨rfl,rfl,rfl,rfl,rfl,rfl⟩,b,_,_,_,rw9_1 (U xA) h6 A qx ht⟩
    | 2,Y =>
     obtain rfl:=ya Y
     rw [if_pos (by rfl)]
     unfold Oper.wp
     clear K F
     go_simp
     exact ⟨_,_,_,_,_,_,⟨rfl,rfl,rfl,rfl,rfl,rfl⟩,_,_,_,_,rw9_2 (U xA)⟩
    | 3,Y =>
     obtain rfl:=ya Y
     have h22:x[2]? = some true:=K ⟨2,.data⟩ (by simp) rfl
     obtain rfl:=F.c35 h22
     have h7:x[7]? ≠ some true:=fun e=>by have:=(F.s6 e).1.1; rw [xu] at this; cases this
     clear K F
     rw [if_pos (by rfl)];unfold Oper.wp;go_simp
     refine (gw next 2 (by omega) _ l W (U qh) D (U HLB)).mono ?_
     rintro e w3 ⟨b,rfl,ht,qx,A⟩
     exact ⟨_,_,_,_,_,_,⟨rfl,rfl,rfl,rfl,rfl,rfl⟩,_,b,_,_,rw9_3 (U xA) h7 A qx ht⟩
    | 4,Y =>
     obtain rfl:=ya Y
     have h6:x[6]? ≠ some true:=fun e=>by have:=(F.s5 e).1.2; rw [xu] at this; cases this
     clear K F
     rw [if_pos (by rfl)];unfold Oper.wp;go_simp
     exact ⟨_,_,_,_,_,_,⟨rfl,rfl,rfl,rfl,rfl,rfl⟩,_,_,_,_,rw9_4 (U xA) h6 _⟩
    | 5,Y =>
     obtain rfl:=ya Y
     have h7:x[7]? ≠ some true:=fun e=>by have:=(F.s6 e).1.2; rw [xu] at this; cases this
     clear K F
     rw [if_pos (by rfl)];unfold Oper.wp;go_simp
     exact ⟨_,_,_,_,_,_,⟨rfl,rfl,rfl,rfl,rfl,rfl⟩,_,_,_,_,rw9_5 (U xA) h7 _⟩
    | 6,Y =>
     obtain rfl:=ya Y
     have k1:x[1]? = some true:=K ⟨1,.data⟩ (by simp) rfl
     have k3:x[3]? = some true:=K ⟨3,.chain⟩ (by simp) rfl
     have k4:x[4]? = some true:=K ⟨4,.data⟩ (by simp) rfl
     have k5:x[5]? = some true:=K ⟨5,.phase⟩ (by simp) rfl
     obtain rfl:=(F.c34 k1).1
     obtain ⟨e5,-,-,e8⟩:=F.c5 k4
     subst e5
     obtain ⟨⟨x0,y0,z0'⟩,⟨x1,y1,z1'⟩,x2,y2,z2'⟩:(∃ v,W.cell? (J p5 0) = some v∧W.frozen? (J p5 0) = false)∧(∃ v,W.cell? (J p5 1) = some v∧W.frozen? (J p5 1) = false)∧(∃ v,W.cell? (J p5 2) = some v∧W.frozen? (J p5 2) = false):=⟨by simpa using there1O e8 0 (by omega),by simpa using there1O e8 1 (by omega),by simpa using there1O e8 2 (by omega)⟩
     have HE:=M (rw9_6 (U xA) k1 k3 k4 k5 (F0:=_) (F1:=_) (F2:=_) rfl)
     clear K F z0 z1 e8
     unfold cP at HE ⊢
     generalize hF0:Value.func (.func 164) #[I b1 0] #[] = F0 at HE ⊢
     generalize hF1:Value.func (.func 165) #[I b1 0] #[] = F1 at HE ⊢
     generalize hF2:Value.func (.func 166) #[I b1 0] #[] = F2 at HE ⊢
     have vd:∀ (V:World) (o:Nat) (m:Mode),((store (J p5 o) F0 m).run Tryz.prog V = stored Tryz.prog V (J p5 o) F0 m)∧((store (J p5 o) F1 m).run Tryz.prog V = stored Tryz.prog V (J p5 o) F1 m)∧((store (J p5 o) F2 m).run Tryz.prog V = stored Tryz.prog V (J p5 o) F2 m):=fun V o m=>by
      subst hF0 hF1 hF2
      exact ⟨run_store _ V _ _ m rfl,run_store _ V _ _ m rfl,run_store _ V _ _ m rfl⟩
     have hst0:=fun V o m=>(vd V o m).1
     have hst1:=fun V o m=>(vd V o m).2.1
     have hst2:=fun V o m=>(vd V o m).2.2
     clear vd hF0 hF1 hF2
     rw [if_pos (by rfl)];unfold Oper.wp;go_simp
     exact ⟨_,_,_,_,_,_,⟨rfl,rfl,rfl,rfl,rfl,rfl⟩,_,_,_,_,U HE⟩
    | 7,Y =>
     obtain rfl:=ya Y
     have k1:x[1]? = some true:=K ⟨1,.phase⟩ (by simp) rfl
     have k3:x[3]? = some true:=K ⟨3,.data⟩ (by simp) rfl
     have k4:x[4]? = some true:=K ⟨4,.phase⟩ (by simp) rfl
     have k5:x[5]? = some true:=K ⟨5,.data⟩ (by simp) rfl
     obtain rfl:=(F.c36 k3).1
     obtain ⟨e5,-,-,e8⟩:=F.c6 k5
     subst e5
     obtain ⟨⟨x0,y0,z0'⟩,⟨x1,y1,z1'⟩,x2,y2,z2'⟩:(∃ v,W.cell? (J p6 0) = some v∧W.frozen? (J p6 0) = false)∧(∃ v,W.cell? (J p6 1) = some v∧W.frozen? (J p6 1) = false)∧(∃ v,W.cell? (J p6 2) = some v∧W.frozen? (J p6 2) = false):=⟨by simpa using there1O e8 0 (by omega),by simpa using there1O e8 1 (by omega),by simpa using there1O e8 2 (by omega)⟩
     have HE:=M (rw9_7 (U xA) k1 k3 k4 k5 (F0:=_) (F1:=_) (F2:=_) rfl)
     clear K F z0 z1 e8
     unfold cQ at HE ⊢
     generalize hF0:Value.func (.func 168) #[I b2 0] #[] = F0 at HE ⊢
     generalize hF1:Value.func (.func 169) #[I b2 0] #[] = F1 at HE ⊢
     generalize hF2:Value.func (.func 170) #[I b2 0] #[] = F2 at HE ⊢
     have vd:∀ (V:World) (o:Nat) (m:Mode),((store (J p6 o) F0 m).run Tryz.prog V = stored Tryz.prog V (J p6 o) F0 m)∧((store (J p6 o) F1 m).run Tryz.prog V = stored Tryz.prog V (J p6 o) F1 m)∧((store (J p6 o) F2 m).run Tryz.prog V = stored Tryz.prog V (J p6 o) F2 m):=fun V o m=>by
      subst hF0 hF1 hF2
      exact ⟨run_store _ V _ _ m rfl,run_store _ V _ _ m rfl,run_store _ V _ _ m rfl⟩
     have hst0:=fun V o m=>(vd V o m).1
     have hst1:=fun V o m=>(vd V o m).2.1
     have hst2:=fun V o m=>(vd V o m).2.2
     clear vd hF0 hF1 hF2
     rw [if_pos (by rfl)];unfold Oper.wp;go_simp
     exact ⟨_,_,_,_,_,_,⟨rfl,rfl,rfl,rfl,rfl,rfl⟩,_,_,_,_,U HE⟩
    | n + 8,Y=>simp at Y
def ahdB (a b:Od):Bool:=if a.ticks = b.ticks then decide (a.id < b.id) else (decide (b.ticks < a.ticks) == decide (a.side = 1))
theorem ahd_iff (a b:Od):ahdB a b = true ↔ ahd (decide (a.side = 1)) a b:=by
 unfold ahdB ahd
 by_cases h:a.ticks = b.ticks
 ·rw [if_pos h]
  simp only [xg]
  constructor
  ·exact fun Q=>.inr ⟨h,Q⟩
  ·rintro (Q | Q)
   ·rw [h] at Q; exact absurd Q (eg _ _)
   ·exact Q.2
 ·rw [if_neg h]
  by_cases hs:a.side = 1
  ·simp only [hs,decide_true,beq_true,xg,bt]
   constructor
   ·exact fun Q=>.inl Q
   ·rintro (Q | Q)
    ·exact Q
    ·exact absurd Q.1 h
  ·simp only [hs,decide_false,beq_false,Bool.not_eq_true',decide_eq_false_iff_not,bt]
   constructor
   ·exact fun Q=>.inl (by omega)
   ·rintro (Q | Q)
    ·omega
    ·exact absurd Q.1 h
def FrPre (l:List Od) (sd:Int) (k:Nat) (best:Int):Prop :=
 (best = -1∧∀ j o,j < k→l[j]? = some o→o.side ≠ sd) ∨
 ∃ (i:Nat) (o:Od),best = i∧i < k∧l[i]? = some o∧o.side = sd∧∀ j o',j < k→l[j]? = some o'→o'.side = sd→j ≠ i→ahd (decide (sd = 1)) o o'
theorem frPre_skip {l:List Od} {sd:Int} {k:Nat} {best:Int} {c:Od} (h:FrPre l sd k best) (hc:l[k]? = some c) (hs:c.side ≠ sd):FrPre l sd (k + 1) best:=by
 rcases h with ⟨rfl,h⟩ | ⟨i,o,rfl,Q,D,X,h4⟩
 ·refine .inl ⟨rfl,fun j o hj Y=>?_⟩
  by_cases hjk:j = k
  ·subst hjk; rw [hc] at Y; obtain rfl:=ya Y; exact hs
  ·exact h j o (by omega) Y
 ·refine .inr ⟨i,o,rfl,by omega,D,X,fun j o' hj Y pS xC=>?_⟩
  by_cases hjk:j = k
  ·subst hjk; rw [hc] at Y; obtain rfl:=ya Y; exact absurd pS hs
  ·exact h4 j o' (by omega) Y pS xC
theorem frPre_first {l:List Od} {sd:Int} {k:Nat} {c:Od} (h:FrPre l sd k (-1)) (hc:l[k]? = some c) (hs:c.side = sd):FrPre l sd (k + 1) k:=by
 rcases h with ⟨_,h⟩ | ⟨i,o,h0,_⟩
 ·refine .inr ⟨k,c,rfl,by omega,hc,hs,fun j o' hj Y pS xC=>?_⟩
  exact absurd pS (h j o' (by omega) Y)
 ·omega
theorem rising_ne {l:List Od} (hr:cy l) {i j:Nat} {a b:Od} (ha:l[i]? = some a) (A:l[j]? = some b) (xC:i ≠ j):a.id ≠ b.id:=by
 obtain ⟨Q,rfl⟩:=yH.1 ha
 obtain ⟨D,rfl⟩:=yH.1 A
 have hp:=List.pairwise_iff_getElem.1 hr
 rcases Nat.lt_or_gt_of_ne xC with h | h
 ·have:=hp i j Q D h; omega
 ·have:=hp j i D Q h; omega
theorem frPre_better {l:List Od} {sd:Int} {k i:Nat} {c o:Od} (hr:cy l) (h:FrPre l sd k i) (Y:l[i]? = some o) (hc:l[k]? = some c) (hs:c.side = sd) (A:ahdB c o = true):FrPre l sd (k + 1) k:=by
 rcases h with ⟨h0,h⟩ | ⟨i',o',h0,Q,D,X,h4⟩
 ·omega
 ·obtain rfl:i = i':=by omega
  rw [Y] at D; obtain rfl:=Option.some.inj D
  have hco:ahd (decide (sd = 1)) c o:=by rw [← hs]; exact (ahd_iff c o).1 A
  refine .inr ⟨k,c,rfl,by omega,hc,hs,fun j o' hj vu pS xC=>?_⟩
  by_cases hji:j = i
  ·subst hji; rw [Y] at vu; obtain rfl:=ya vu; exact hco
  ·exact ahd_trans hco (h4 j o' (by omega) vu pS hji)
theorem frPre_worse {l:List Od} {sd:Int} {k i:Nat} {c o:Od} (hr:cy l) (h:FrPre l sd k i) (Y:l[i]? = some o) (hc:l[k]? = some c) (hs:c.side = sd) (A:ahdB c o = false):FrPre l sd (k + 1) i:=by
 rcases h with ⟨h0,h⟩ | ⟨i',o',h0,Q,D,X,h4⟩
 ·omega
 ·obtain rfl:i = i':=by omega
  rw [Y] at D; obtain rfl:=Option.some.inj D
  have hnco:¬ ahd (decide (sd = 1)) c o:=by rw [← hs]; intro hh; rw [(ahd_iff c o).2 hh] at A; cases A
  have hoc:ahd (decide (sd = 1)) o c:=by
   rcases ahd_total (s:=decide (sd = 1)) (rising_ne hr hc Y (by omega)) with hh | hh
   ·exact absurd hh hnco
   ·exact hh
  refine .inr ⟨i,o,rfl,by omega,Y,X,fun j o' hj vu pS xC=>?_⟩
  by_cases hjk:j = k
  ·subst hjk; rw [hc] at vu; obtain rfl:=ya vu; exact hoc
  ·exact h4 j o' (by omega) vu pS xC
structure GW (W:World) where
 val:World
 property:W.grownBy val none
theorem gw_ne (W:World):Nonempty (GW W):=⟨⟨W,yS _ _⟩⟩
theorem fy {P:Program} {id:Nat} {h1:Exit→Act→World→Prop} {a:Act} {w W:World} {l:List Oper} (hm:P.follows .mixedOrders = true) (hB:Region.lexB .any l.toArray = true) (hg:W.grownBy w none)
  (h:wpQuiet P l.toArray (fun w'=>∃ u:GW W,w' = u.val) (fun a'=>∀ w',(∃ u:GW W,w' = u.val)→h1 .normal a' w') l a):(Code.region id l.toArray true).wp P h1 a w :=
 wp_region_quiet (C:=fun w'=>∃ u:GW W,w' = u.val) hm hB ⟨⟨{ w with drawn:=w.drawn + 1 },⟨hg.os,hg.tape,hg.output,hg.size,hg.block⟩⟩,rfl⟩ (by simpa using h)
def difB (c y:Od):Bool:=decide (y.side ≠ c.side) || decide (y.ticks ≠ c.ticks)
def dQ (c:Od) (L:List Od):Bool:=L.all (difB c)
theorem nlev_fresh (l:List Od) (x:Od):nlev (l ++ [x]) = nlev l + (dQ x l).toNat:=by
 rw [nlev_snoc]
 congr 1
 by_cases h:∃ y ∈ l,y.side = x.side∧y.ticks = x.ticks
 ·rw [if_pos h]
  have:dQ x l = false:=by
   obtain ⟨y,Q,D,X⟩:=h
   rw [dQ,List.all_eq_false]
   exact ⟨y,Q,by simp [difB,D,X]⟩
  rw [this]; rfl
 ·rw [if_neg h]
  have:dQ x l = true:=by
   rw [dQ,List.all_eq_true]
   intro y hy
   simp only [difB,ne_eq,Bool.or_eq_true,xg]
   by_cases Q:y.side = x.side
   ·exact .inr fun D=>h ⟨y,hy,Q,D⟩
   ·exact .inl Q
  rw [this]; rfl
def allR (next:Int):Int→List Od→Bool
 | _,[]=>true
 | last,o :: r=>ordB o && decide (last < o.id) && decide (o.id < next) && allR next o.id r
theorem fP {next:Int}:∀ {l:List Od} {last:Int},allR next last l = true→cy l∧∀ o ∈ l,last < o.id
 | [],_,_=>⟨by simp [cy],by simp⟩
 | a :: r,last,h=>by
  simp only [allR,xf,xg] at h
  obtain ⟨ih1,ih2⟩:=fP h.2
  refine ⟨List.pairwise_cons.2 ⟨ih2,ih1⟩,fun o Y=>?_⟩
  rcases List.mem_cons.1 Y with rfl | Y
  ·exact h.1.1.2
  ·have:=ih2 o Y; have:=h.1.1.2; omega
theorem fS {next:Int}:∀ {l:List Od} {last:Int},allR next last l = true→∀ o ∈ l,ordB o = true
 | [],_,_=>by simp
 | a :: r,last,h=>by
  simp only [allR,xf,xg] at h
  intro o Y
  rcases List.mem_cons.1 Y with rfl | Y
  ·exact h.1.1.1
  ·exact fS h.2 o Y
def xB (a b:Od):Bool:=!(decide (a.side = 1) && decide (b.side = 2)) || decide (a.ticks < b.ticks)
def noX (l:List Od):Bool:=l.all fun a=>l.all fun b=>xB a b
theorem noX_iff (l:List Od):noX l = true ↔ ∀ a ∈ l,a.side = 1→∀ b ∈ l,b.side = 2→a.ticks < b.ticks:=by
 simp only [noX,List.all_eq_true,xB,Bool.or_eq_true,Bool.not_eq_true',Bool.and_eq_false_iff,decide_eq_false_iff_not,xg]
 constructor
 ·intro h a ha Q b A D
  rcases h a ha b A with (X | X) | X
  ·exact absurd Q X
  ·exact absurd D X
  ·exact X
 ·intro h a ha b A
  by_cases Q:a.side = 1
  ·by_cases D:b.side = 2
   ·exact .inr (h a ha Q b A D)
   ·exact .inl (.inr D)
  ·exact .inl (.inl Q)
theorem noX_none1 {l:List Od} (h:∀ o ∈ l,o.side ≠ 1):noX l = true:=(noX_iff l).2 fun a ha Q=>absurd Q (h a ha)
theorem noX_none2 {l:List Od} (h:∀ o ∈ l,o.side ≠ 2):noX l = true:=(noX_iff l).2 fun a ha Q b A D=>absurd D (h b A)
theorem noX_fronts {l:List Od} {i j:Nat} {a b:Od} (ha:fj true l 1 i a) (A:fj false l 2 j b):noX l = decide (a.ticks < b.ticks):=by
 rw [Bool.eq_iff_iff,noX_iff,xg]
 constructor
 ·exact fun h=>h a (yP ha.1) ha.2.1 b (yP A.1) A.2.1
 ·intro h x hx Q y hy D
  obtain ⟨m,hm⟩:=List.mem_iff_getElem?.1 hx
  obtain ⟨n,hn⟩:=List.mem_iff_getElem?.1 hy
  have hxa:x.ticks ≤ a.ticks:=by
   by_cases aV:m = i
   ·subst aV; rw [ha.1] at hm; obtain rfl:=Option.some.inj hm; exact Int.le_refl _
   ·rcases ha.2.2 m x hm Q aV with X | X
    ·simp only [bt] at X; omega
    ·omega
  have hyb:b.ticks ≤ y.ticks:=by
   by_cases hnj:n = j
   ·subst hnj; rw [A.1] at hn; obtain rfl:=Option.some.inj hn; exact Int.le_refl _
   ·rcases A.2.2 n y hn D hnj with X | X
    ·simp only [bt] at X; omega
    ·omega
  omega
theorem frPre_end {l:List Od} {sd:Int} {k:Int} (h:FrPre l sd l.length k):(k = -1∧∀ o ∈ l,o.side ≠ sd) ∨ ∃ (i:Nat) (o:Od),k = i∧i < l.length∧fj (decide (sd = 1)) l sd i o:=by
 rcases h with ⟨rfl,h⟩ | ⟨i,o,rfl,Q,D,X,h4⟩
 ·refine .inl ⟨rfl,fun o Y=>?_⟩
  obtain ⟨j,hj⟩:=List.mem_iff_getElem?.1 Y
  exact h j o (yH.1 hj).1 hj
 ·exact .inr ⟨i,o,rfl,Q,D,X,fun j o' Y hs xC=>h4 j o' (yH.1 Y).1 Y hs xC⟩
def okS (next:Int) (l:List Od):Bool:=betB next 1 1000000 && decide (l.length ≤ 20) && allR next 0 l && (decide (nlev l ≤ 8) && noX l)
theorem allR_eq (next:Int):∀ (l:List Od) (last:Int),allR next last l = (idsR next last l && l.all ordB)
 | [],_=>rfl
 | a :: r,last=>by
  rw [allR,idsR,List.all_cons,allR_eq next r a.id]
  cases ordB a <;> cases decide (last < a.id) <;> cases decide (a.id < next) <;> simp
theorem fU {s:Bool} {l:List Od} {sd:Int} (hr:cy l):((quOf s (zr l sd)).head? = none∧∀ o ∈ l,o.side ≠ sd) ∨ ∃ i o,(quOf s (zr l sd)).head? = some o∧fj s l sd i o:=by
 cases h:(quOf s (zr l sd)).head? with
 | none=>exact .inl ⟨rfl,queue_none (cV s _) h⟩
 | some o =>
  obtain ⟨i,hi⟩:=queue_front hr (cV s _) h
  exact .inr ⟨i,o,rfl,hi⟩
theorem meet_noX {l:List Od} (hr:cy l):(!meetB (quOf true (zr l 1)) (quOf false (zr l 2))) = noX l:=by
 rcases fU (s:=true) (sd:=1) hr with ⟨Q,hn⟩ | ⟨i,a,Q,oR⟩
 ·rw [noX_none1 hn]; simp [meetB,hdF,Q]
 ·rcases fU (s:=false) (sd:=2) hr with ⟨D,hn⟩ | ⟨j,b,D,hf2⟩
  ·rw [noX_none2 hn]; simp [meetB,hdF,D]
  ·rw [noX_fronts oR hf2]
   simp only [meetB,hdF,hdO,Q,D,Option.isSome_some,Option.getD_some,Bool.true_and]
   rw [Bool.eq_iff_iff]; simp
theorem okI_eq (next:Int) (l:List Od):okI next l = okS next l:=by
 unfold okI okS
 rw [allR_eq]
 cases h:(idsR next 0 l && l.all ordB)
 ·rw [Bool.and_assoc (betB next 1 1000000 && decide (l.length ≤ 20)) (idsR next 0 l),h]; simp
 ·have K:allR next 0 l = true:=by rw [allR_eq]; exact h
  have hr:=(fP K).1
  have hs:∀ o ∈ l,o.side = 1 ∨ o.side = 2:=fun o Y=>by
   have:=fS K o Y
   simp [ordB,betB] at this
   omega
  rw [Bool.and_assoc (betB next 1 1000000 && decide (l.length ≤ 20)) (idsR next 0 l),h,meet_noX hr]
  have:=nlev_eq hs (cV true _) (cV false _)
  rw [bX,bX,List.length_map,List.length_map,this]
end Go.Proofs.YthhkapcbocgcoaaGreatDoor
