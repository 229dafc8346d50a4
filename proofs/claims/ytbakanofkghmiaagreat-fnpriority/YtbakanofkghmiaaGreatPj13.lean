/-
  Whether a book is right, as the program says it: proved by walking the function.
-/
import Derived.Test.YtbakanofkghmiaaGreatPj12
set_option linter.unusedVariables false
set_option maxHeartbeats 6400000
set_option maxRecDepth 100000
namespace Go.Proofs.YtbakanofkghmiaaGreat
open Go.RowKit
def okI (next:Int) (l:List Od):Bool:=betB next 1 1000000 && decide (l.length ≤ 20) && idsR next 0 l && l.all ordB &&
 (decide ((aB true 1 (zn l 1)).length + (aB false 2 (zn l 2)).length ≤ 8) && !meetB (quOf true (zn l 1)) (quOf false (zn l 2)))
theorem eA (next:Int) (v:Value) (l:List Od) (w:World) (hr:RdR Od.vs 6 w v l) (hg:∀ c ∈ l,c.tag.size ≤ maxLen) :
  Calls Tryz.prog 14 #[.agg #[H next,v]] w fun e w'=>e = yk (.bool (okI next l))∧yl w w':=by
 have HR:=Q hr
 have HG:=Q hg
 obtain ⟨a,F,rfl,xD,hc⟩:=hr
 have xn:∀ (k:Nat) (c:Od),l[k]? = some c→∃ b off,a = some (J b off)∧b < w.heap.size∧w.rangeAt b (off + k * 6) c.vs:=by
  intro k c hk
  obtain ⟨b,off,z,K,h3⟩:=hc (by intro h; rw [h] at hk; simp at hk)
  exact ⟨b,off,z,K,h3 k c hk⟩
 have HC:=Q xn
 clear xn hc hg
 have ua:Hid (yl w (w.alloc (E #[H next,.slice a l.length F] 28))):=eD _ _
 have vF:=zg w [H next,.slice a l.length F] 28
 have HX:Hid (World.cell? (w.alloc (E #[H next,.slice a l.length F] 28)) (yn w 0) = some (H next)∧World.cell? (w.alloc (E #[H next,.slice a l.length F] 28)) (yn w 1) = some (.slice a l.length F)∧w.heap.size < (w.alloc (E #[H next,.slice a l.length F] 28)).heap.size):=⟨vF 0 _ rfl,vF 1 _ rfl,by rw [ze]; omega⟩
 clear vF
 cases z:betB next 1 1000000
 ·go_enter Tryz.func14,Tryz.ntmps14
  go_wp2_with fail
  refine (zE next 1 1000000 _).mono ?_
  rintro e w1 ⟨rfl,rfl⟩
  go_wp2_with fail
  go_ret
  exact ⟨zl (by simp [okI,z]),M ua⟩
 by_cases K:l.length ≤ 20
 rotate_left
 ·have kj:(20:Int) < l.length:=by omega
  go_enter Tryz.func14,Tryz.ntmps14
  go_wp2_with fail
  refine (zE next 1 1000000 _).mono ?_
  rintro e w1 ⟨rfl,rfl⟩
  go_wp2_with fail
  go_ret
  exact ⟨zl (by simp [okI,z,K]),M ua⟩
 have kj:¬ ((20:Int) < l.length):=by omega
 cases h3:idsR next 0 l
 ·go_enter Tryz.func14,Tryz.ntmps14
  go_wp2_with fail
  refine (zE next 1 1000000 _).mono ?_
  rintro e w1 ⟨rfl,rfl⟩
  go_wp2_with fail
  refine (idsRise_any next _ l _ (zh (M HR) (M ua) tg)).mono ?_
  rintro e w2 ⟨rfl,ue⟩
  have xC:=Q (eG (M ua) ue)
  clear ue
  go_wp2_with fail
  go_ret
  exact ⟨zl (by simp [okI,h3]),M xC⟩
 go_enter Tryz.func14,Tryz.ntmps14
 go_wp2_with fail
 refine (zE next 1 1000000 _).mono ?_
 rintro e w1 ⟨rfl,rfl⟩
 go_wp2_with fail
 refine (idsRise_any next _ l _ (zh (M HR) (M ua) tg)).mono ?_
 rintro e w2 ⟨rfl,ue⟩
 have xC:=Q (eG (M ua) ue)
 have x0:=(ue.cell (p:=(yn w 0)) (M HX).2.2).trans (M HX).1
 have x1:=(ue.cell (p:=(yn w 1)) (M HX).2.2).trans (M HX).2.1
 have hsz2:w.heap.size < w2.heap.size:=yG (M HX).2.2 ue.size
 have pY:Hid (w2.cell? (yn w 0) = some (H next)∧w2.cell? (yn w 1) = some (.slice a l.length F)):=⟨x0,x1⟩
 clear ue x0
 go_wp2_with fail
 go_loopw [25] (fun iv wr=>∃ (k:Nat),k ≤ l.length∧iv = H k∧Hid (l.all ordB = (l.drop k).all ordB)∧yl w2 wr) (fun iv _=>l.length - (intOf iv).toNat)
 case atStart=>exact ⟨0,Nat.zero_le _,rfl,by simp [Hid],Below.refl _ _⟩
 case round =>
  obtain ⟨k,hk,rfl,D,xe⟩:=hrel
  have HB:=Q xe
  clear xe x1
  by_cases xL:k < l.length
  ·obtain ⟨c,uC⟩:∃ c,l[k]? = some c:=⟨_,yE xL⟩
   have jW:l.drop k = c :: l.drop (k + 1):=by
    obtain ⟨z,rfl⟩:=yD.1 uC
    exact yZ z
   have HI:Hid (l.all ordB = (ordB c && (l.drop (k + 1)).all ordB)):=by
    have:=M D
    rw [jW] at this
    exact this
   obtain ⟨b,off,rfl,hb,xk⟩:=M HC k c uC
   obtain ⟨g0,g1,g2,g3,g4,g5⟩:=zx (zb xk ((M xC).trans ((M HB).mono (M xC).size)) hb)
   have HS:=Q (M HG c (yL uC))
   have uO:(k:Int) < l.length:=by omega
   have kf:=(M HB).size
   clear uC xk hb jW D
   go_wp2_with fail
   refine (orderOK_any c _ (M HS)).mono ?_
   rintro e w3 ⟨rfl,uf⟩
   have xM:=Q (((M HB).alloc kf _).trans (uf.mono (by rw [ze]; omega)))
   clear uf
   cases Y:ordB c
   ·have HN:Hid (l.all ordB = false):=by
     have:=M HI
     rw [Y,Bool.false_and] at this
     exact this
    go_wp2_with fail
    go_ret
    exact ⟨zl (by rw [okI,M HN]; simp),(M xC).trans ((M xM).mono (M xC).size)⟩
   ·have HN:Hid (l.all ordB = (l.drop (k + 1)).all ordB):=by
     have:=M HI
     rw [Y,Bool.true_and] at this
     exact this
    go_wp2_with fail
    go_roundw
    case rel=>exact ⟨k + 1,by omega,by go_num,M HN,M xM⟩
    case measure=>simp [intOf]; omega
  ·have hall2:l.all ordB = true:=by
    have h:=M D
    rw [yX (by omega)] at h
    rw [h]; rfl
   have HALL:=Q hall2
   clear D hall2
   have y0:=((M HB).cell (p:=(yn w 0)) hsz2).trans (M pY).1
   have y1:=((M HB).cell (p:=(yn w 1)) hsz2).trans (M pY).2
   go_wp2_with fail
   have HRr:=Q (zh (zh (M HR) (M xC) tg) (M HB) tg)
   have hwr:w.heap.size < wr.heap.size:=yG hsz2 (M HB).size
   have HLB:Hid (∀ o' ∈ l,0 ≤ o'.left∧o'.left ≤ 1000000):=fun o' vk=>by
    have:=List.all_eq_true.1 (M HALL) o' vk
    simp [ordB,betB] at this
    omega
   have HY:Hid (wr.cell? (yn w 0) = some (H next)∧wr.cell? (yn w 1) = some (.slice a l.length F)):=⟨y0,y1⟩
   clear y0 y1
   refine dl (fun x hR W=>∃ v33 v34 v35 v36 v5 v6 b1 b2 p5 p6,hR = { tmps:=#[.agg #[H next,.slice a l.length F],ym w 0,u2,Z,u4,v5,v6,ym w 0,H next,.bool true,.bool false,.bool false,ym w 1,.slice a l.length F,H l.length,.bool (decide ((20:Int) < l.length)),.bool (decide ((20:Int) < l.length)),.bool (decide ((20:Int) < l.length)),.agg #[H next,.slice a l.length F],.bool true,.bool false,.bool (decide ((20:Int) < l.length)),ym w 1,.slice a l.length F,H l.length,H k,.bool false,u27,u28,u29,u30,u31,u32,v33,v34,v35,v36,Z,Z,Z,Z,Z,Z,Z,Z,Z,Z],defers:=[] }∧RW9 wr (.agg #[H next,.slice a l.length F]) (zn l 1) (zn l 2) x v33 v34 v35 v36 v5 v6 b1 b2 p5 p6 W) (by kernel_rfl) ?_ ?_ ?_
   ·refine ⟨Z,Z,Z,Z,Z,Z,0,0,0,0,rfl,?_⟩
    refine ⟨⟨rfl,rfl,rfl,Nat.le_refl _,fun _ _=>rfl⟩,?_,?_,?_,?_,?_,?_,?_,?_,?_,?_,?_,?_,?_⟩ <;> simp
   ·rintro x hR W ⟨v33,v34,v35,v36,v5,v6,b1,b2,p5,p6,rfl,A⟩ hx xK
    have q0:=bT xK hx 0 _ rfl (by simp)
    have q2:=bT xK hx 2 _ rfl (by simp)
    have q4:=bT xK hx 4 _ rfl (by simp)
    have q5:=bT xK hx 5 _ rfl (by simp)
    have q1:=bT xK hx 1 _ rfl (by simp [q0])
    have q3:=bT xK hx 3 _ rfl (by simp [q1,q2])
    have q6:=bT xK hx 6 _ rfl (by simp [q0,q1,q2,q3,q4,q5])
    have q7:=bT xK hx 7 _ rfl (by simp [q0,q1,q2,q3,q4,q5,q6])
    obtain ⟨e1,e2⟩:=A.c34 q1
    obtain ⟨e3,e4⟩:=A.c36 q3
    obtain ⟨e5,e6,e7,e8⟩:=A.c5 q4
    obtain ⟨f5,f6,f7,f8⟩:=A.c6 q5
    have e9:=(A.s5 q6).2
    have f9:=(A.s6 q7).2
    have hbW:=A.bel
    subst e1 e3 e5 f5
    have HW:Hid (Tb W b1 (zn l 1)∧Ts W b2 (zn l 2)∧W.rangeAt p5 0 (cE b1)∧W.rangeAt p6 0 (cU b2)∧p5 < W.heap.size∧p6 < W.heap.size∧yl wr W):=⟨e2,e4,e9,f9,e6,f6,hbW⟩
    clear A q0 q1 q2 q3 q4 q5 q6 q7 e2 e4 e6 e7 e8 f6 f7 f8 e9 f9 hbW xK hx
    have n1:(zn l 1).length ≤ 20:=yK (List.length_filter_le _ _) K
    have n2:(zn l 2).length ≤ 20:=yK (List.length_filter_le _ _) K
    obtain ⟨hT1,hT2,r5,r6,hp5,hp6,-⟩:=M HW
    have xJ:=Q ((M xC).trans (((M HB).trans ((M HW).2.2.2.2.2.2.mono (M HB).size)).mono (M xC).size))
    have qD:=Q hT1
    have vh:=Q hT2
    have pV:=Q r5
    have vf:=Q r6
    have hb1s:=zJ hT1
    have hb2s:=zJ hT2
    clear hT1 hT2 r5 r6
    generalize hL1:(aB true 1 (zn l 1)).length = N1
    generalize hL2:(aB false 2 (zn l 2)).length = N2
    generalize hmt:meetB (quOf true (zn l 1)) (quOf false (zn l 2)) = mt
    have pT:Hid (okI next l = (decide (N1 + N2 ≤ 8) && !mt)):=by
     show okI next l = _
     rw [okI,z,h3,M HALL,hL1,hL2,hmt,decide_eq_true K]; rfl
    have HLL:Hid ((aB true 1 (zn l 1)).length = N1∧(aB false 2 (zn l 2)).length = N2∧meetB (quOf true (zn l 1)) (quOf false (zn l 2)) = mt):=⟨hL1,hL2,hmt⟩
    clear hL1 hL2 hmt
    have d0:=M pV 0 _ rfl
    have d1:=M pV 1 _ rfl
    have d2:=M pV 2 _ rfl
    have e0:=M vf 0 _ rfl
    have e1:=M vf 1 _ rfl
    have e2:=M vf 2 _ rfl
    rw [Nat.zero_add] at d0 d1 d2 e0 e1 e2
    go_wp2_with fail
    refine (ey b1 b2 1 2 (zn l 1) (zn l 2) W (M qD) (M vh) n1 n2).mono ?_
    rw [(M HLL).1,(M HLL).2.1]
    rintro e w4 ⟨rfl,xy⟩
    have xS:=Q (eG (M xJ) xy)
    have HT14:=Q (zt (M qD) (xy.block _ hb1s))
    have HT24:=Q (zt (M vh) (xy.block _ hb2s))
    have d0:=zb (M pV) xy hp5 0 _ rfl
    have d1:=zb (M pV) xy hp5 1 _ rfl
    have d2:=zb (M pV) xy hp5 2 _ rfl
    have e0:=zb (M vf) xy hp6 0 _ rfl
    have e1:=zb (M vf) xy hp6 1 _ rfl
    have e2:=zb (M vf) xy hp6 2 _ rfl
    rw [Nat.zero_add] at d0 d1 d2 e0 e1 e2
    clear xy
    by_cases h8:N1 + N2 ≤ 8
    ·have h8':(N1:Int) + N2 ≤ 8:=by omega
     have HK:Hid (okI next l = !mt):=by
      have:=M pT
      rw [decide_eq_true h8,Bool.true_and] at this
      exact this
     go_wp2_with fail
     refine (sidesMeet_any b1 b2 1 2 (zn l 1) (zn l 2) w4 (M HT14) (M HT24) n1 n2).mono ?_
     rw [(M HLL).2.2]
     rintro e w5 ⟨rfl,uN⟩
     have vA:=Q (eG (M xS) uN)
     clear uN
     go_wp2_with fail
     go_ret
     exact ⟨zl (M HK).symm,M vA⟩
    ·have h8':¬ ((N1:Int) + N2 ≤ 8):=by omega
     have HK:Hid (okI next l = false):=by
      have:=M pT
      rw [decide_eq_false h8,Bool.false_and] at this
      exact this
     go_wp2_with fail
     go_ret
     exact ⟨zl (M HK).symm,M xS⟩
   ·rintro x hR W i o ⟨v33,v34,v35,v36,v5,v6,b1,b2,p5,p6,rfl,A⟩ hx Y xq D
    have xv:=Q A
    have z0:=(A.bel.cell (p:=(yn w 0)) hwr).trans (M HY).1
    have z1:=(A.bel.cell (p:=(yn w 1)) hwr).trans (M HY).2
    have qC:=Q (zh (M HRr) A.bel tg)
    match i,Y with
    | 0,Y =>
     obtain rfl:=hD Y
     rw [if_pos (by rfl)]
     unfold Oper.wp
     clear D A
     go_simp
     exact ⟨_,_,_,_,_,_,⟨rfl,rfl,rfl,rfl,rfl,rfl⟩,_,_,_,_,rw9_0 (M xv)⟩
    | 1,Y =>
     obtain rfl:=hD Y
     have h0:x[0]? = some true:=D ⟨0,.data⟩ (by simp) rfl
     obtain rfl:=A.c33 h0
     have h6:x[6]? ≠ some true:=fun e=>by have:=(A.s5 e).1.1; rw [xq] at this; cases this
     clear D A
     rw [if_pos (by rfl)];unfold Oper.wp;go_simp
     refine (eg next _ l W (M qC) K (M HLB)).mono ?_
     rintro e w3 ⟨b,rfl,ht,qI,hb⟩
     exact ⟨_,_,_,_,_,_,⟨rfl,rfl,rfl,rfl,rfl,rfl⟩,b,_,_,_,rw9_1 (M xv) h6 hb qI ht⟩
    | 2,Y =>
     obtain rfl:=hD Y
     rw [if_pos (by rfl)]
     unfold Oper.wp
     clear D A
     go_simp
     exact ⟨_,_,_,_,_,_,⟨rfl,rfl,rfl,rfl,rfl,rfl⟩,_,_,_,_,rw9_2 (M xv)⟩
    | 3,Y =>
     obtain rfl:=hD Y
     have h22:x[2]? = some true:=D ⟨2,.data⟩ (by simp) rfl
     obtain rfl:=A.c35 h22
     have h7:x[7]? ≠ some true:=fun e=>by have:=(A.s6 e).1.1; rw [xq] at this; cases this
     clear D A
     rw [if_pos (by rfl)];unfold Oper.wp;go_simp
     refine (dY next 2 (by omega) _ l W (M qC) K (M HLB)).mono ?_
     rintro e w3 ⟨b,rfl,ht,qI,hb⟩
     exact ⟨_,_,_,_,_,_,⟨rfl,rfl,rfl,rfl,rfl,rfl⟩,_,b,_,_,rw9_3 (M xv) h7 hb qI ht⟩
    | 4,Y =>
     obtain rfl:=hD Y
     have h6:x[6]? ≠ some true:=fun e=>by have:=(A.s5 e).1.2; rw [xq] at this; cases this
     clear D A
     rw [if_pos (by rfl)];unfold Oper.wp;go_simp
     exact ⟨_,_,_,_,_,_,⟨rfl,rfl,rfl,rfl,rfl,rfl⟩,_,_,_,_,rw9_4 (M xv) h6 _⟩
    | 5,Y =>
     obtain rfl:=hD Y
     have h7:x[7]? ≠ some true:=fun e=>by have:=(A.s6 e).1.2; rw [xq] at this; cases this
     clear D A
     rw [if_pos (by rfl)];unfold Oper.wp;go_simp
     exact ⟨_,_,_,_,_,_,⟨rfl,rfl,rfl,rfl,rfl,rfl⟩,_,_,_,_,rw9_5 (M xv) h7 _⟩
    | 6,Y =>
     obtain rfl:=hD Y
     have k1:x[1]? = some true:=D ⟨1,.data⟩ (by simp) rfl
     have k3:x[3]? = some true:=D ⟨3,.chain⟩ (by simp) rfl
     have k4:x[4]? = some true:=D ⟨4,.data⟩ (by simp) rfl
     have k5:x[5]? = some true:=D ⟨5,.phase⟩ (by simp) rfl
     obtain rfl:=(A.c34 k1).1
     obtain ⟨e5,-,-,e8⟩:=A.c5 k4
     subst e5
     obtain ⟨⟨x0,y0,z0'⟩,⟨x1,y1,z1'⟩,x2,y2,z2'⟩:(∃ v,W.cell? (J p5 0) = some v∧W.frozen? (J p5 0) = false)∧(∃ v,W.cell? (J p5 1) = some v∧W.frozen? (J p5 1) = false)∧(∃ v,W.cell? (J p5 2) = some v∧W.frozen? (J p5 2) = false):=⟨by simpa using bJ e8 0 (by omega),by simpa using bJ e8 1 (by omega),by simpa using bJ e8 2 (by omega)⟩
     have HE:=Q (rw9_6 (M xv) k1 k3 k4 k5 (F0:=_) (F1:=_) (F2:=_) rfl)
     clear D A z0 z1 e8
     unfold aU at HE ⊢
     generalize hF0:Value.func (.func 122) #[I b1 0] #[] = F0 at HE ⊢
     generalize hF1:Value.func (.func 123) #[I b1 0] #[] = F1 at HE ⊢
     generalize hF2:Value.func (.func 124) #[I b1 0] #[] = F2 at HE ⊢
     have uH:∀ (V:World) (o:Nat) (m:Mode),((store (J p5 o) F0 m).run Tryz.prog V = stored Tryz.prog V (J p5 o) F0 m)∧((store (J p5 o) F1 m).run Tryz.prog V = stored Tryz.prog V (J p5 o) F1 m)∧((store (J p5 o) F2 m).run Tryz.prog V = stored Tryz.prog V (J p5 o) F2 m):=fun V o m=>by
      subst hF0 hF1 hF2
      exact ⟨run_store _ V _ _ m rfl,run_store _ V _ _ m rfl,run_store _ V _ _ m rfl⟩
     have hst0:=fun V o m=>(uH V o m).1
     have hst1:=fun V o m=>(uH V o m).2.1
     have hst2:=fun V o m=>(uH V o m).2.2
     clear uH hF0 hF1 hF2
     rw [if_pos (by rfl)];unfold Oper.wp;go_simp
     exact ⟨_,_,_,_,_,_,⟨rfl,rfl,rfl,rfl,rfl,rfl⟩,_,_,_,_,M HE⟩
    | 7,Y =>
     obtain rfl:=hD Y
     have k1:x[1]? = some true:=D ⟨1,.phase⟩ (by simp) rfl
     have k3:x[3]? = some true:=D ⟨3,.data⟩ (by simp) rfl
     have k4:x[4]? = some true:=D ⟨4,.phase⟩ (by simp) rfl
     have k5:x[5]? = some true:=D ⟨5,.data⟩ (by simp) rfl
     obtain rfl:=(A.c36 k3).1
     obtain ⟨e5,-,-,e8⟩:=A.c6 k5
     subst e5
     obtain ⟨⟨x0,y0,z0'⟩,⟨x1,y1,z1'⟩,x2,y2,z2'⟩:(∃ v,W.cell? (J p6 0) = some v∧W.frozen? (J p6 0) = false)∧(∃ v,W.cell? (J p6 1) = some v∧W.frozen? (J p6 1) = false)∧(∃ v,W.cell? (J p6 2) = some v∧W.frozen? (J p6 2) = false):=⟨by simpa using bJ e8 0 (by omega),by simpa using bJ e8 1 (by omega),by simpa using bJ e8 2 (by omega)⟩
     have HE:=Q (rw9_7 (M xv) k1 k3 k4 k5 (F0:=_) (F1:=_) (F2:=_) rfl)
     clear D A z0 z1 e8
     unfold aV at HE ⊢
     generalize hF0:Value.func (.func 126) #[I b2 0] #[] = F0 at HE ⊢
     generalize hF1:Value.func (.func 127) #[I b2 0] #[] = F1 at HE ⊢
     generalize hF2:Value.func (.func 128) #[I b2 0] #[] = F2 at HE ⊢
     have uH:∀ (V:World) (o:Nat) (m:Mode),((store (J p6 o) F0 m).run Tryz.prog V = stored Tryz.prog V (J p6 o) F0 m)∧((store (J p6 o) F1 m).run Tryz.prog V = stored Tryz.prog V (J p6 o) F1 m)∧((store (J p6 o) F2 m).run Tryz.prog V = stored Tryz.prog V (J p6 o) F2 m):=fun V o m=>by
      subst hF0 hF1 hF2
      exact ⟨run_store _ V _ _ m rfl,run_store _ V _ _ m rfl,run_store _ V _ _ m rfl⟩
     have hst0:=fun V o m=>(uH V o m).1
     have hst1:=fun V o m=>(uH V o m).2.1
     have hst2:=fun V o m=>(uH V o m).2.2
     clear uH hF0 hF1 hF2
     rw [if_pos (by rfl)];unfold Oper.wp;go_simp
     exact ⟨_,_,_,_,_,_,⟨rfl,rfl,rfl,rfl,rfl,rfl⟩,_,_,_,_,M HE⟩
    | n + 8,Y=>simp at Y
def ahdB (a b:Od):Bool:=if a.ticks = b.ticks then decide (a.id < b.id) else (decide (b.ticks < a.ticks) == decide (a.side = 1))
theorem ahd_iff (a b:Od):ahdB a b = true ↔ ahd (decide (a.side = 1)) a b:=by
 unfold ahdB ahd
 by_cases h:a.ticks = b.ticks
 ·rw [if_pos h]
  simp only [xc]
  constructor
  ·exact fun z=>.inr ⟨h,z⟩
  ·rintro (z | z)
   ·rw [h] at z; exact absurd z (cn _ _)
   ·exact z.2
 ·rw [if_neg h]
  by_cases hs:a.side = 1
  ·simp only [hs,decide_true,beq_true,xc,bt]
   constructor
   ·exact fun z=>.inl z
   ·rintro (z | z)
    ·exact z
    ·exact absurd z.1 h
  ·simp only [hs,decide_false,beq_false,Bool.not_eq_true',decide_eq_false_iff_not,bt]
   constructor
   ·exact fun z=>.inl (by omega)
   ·rintro (z | z)
    ·omega
    ·exact absurd z.1 h
def FrPre (l:List Od) (sd:Int) (k:Nat) (best:Int):Prop :=
 (best = -1∧∀ j o,j < k→l[j]? = some o→o.side ≠ sd) ∨
 ∃ (i:Nat) (o:Od),best = i∧i < k∧l[i]? = some o∧o.side = sd∧∀ j o',j < k→l[j]? = some o'→o'.side = sd→j ≠ i→ahd (decide (sd = 1)) o o'
theorem frPre_skip {l:List Od} {sd:Int} {k:Nat} {best:Int} {c:Od} (h:FrPre l sd k best) (hc:l[k]? = some c) (hs:c.side ≠ sd):FrPre l sd (k + 1) best:=by
 rcases h with ⟨rfl,h⟩ | ⟨i,o,rfl,z,K,h3,h4⟩
 ·refine .inl ⟨rfl,fun j o L Y=>?_⟩
  by_cases hjk:j = k
  ·subst hjk; rw [hc] at Y; obtain rfl:=hD Y; exact hs
  ·exact h j o (by omega) Y
 ·refine .inr ⟨i,o,rfl,by omega,K,h3,fun j o' L Y oV xA=>?_⟩
  by_cases hjk:j = k
  ·subst hjk; rw [hc] at Y; obtain rfl:=hD Y; exact absurd oV hs
  ·exact h4 j o' (by omega) Y oV xA
theorem frPre_first {l:List Od} {sd:Int} {k:Nat} {c:Od} (h:FrPre l sd k (-1)) (hc:l[k]? = some c) (hs:c.side = sd):FrPre l sd (k + 1) k:=by
 rcases h with ⟨_,h⟩ | ⟨i,o,h0,_⟩
 ·refine .inr ⟨k,c,rfl,by omega,hc,hs,fun j o' L Y oV xA=>?_⟩
  exact absurd oV (h j o' (by omega) Y)
 ·omega
theorem rising_ne {l:List Od} (hr:aH l) {i j:Nat} {a b:Od} (ha:l[i]? = some a) (hb:l[j]? = some b) (xA:i ≠ j):a.id ≠ b.id:=by
 obtain ⟨z,rfl⟩:=yD.1 ha
 obtain ⟨K,rfl⟩:=yD.1 hb
 have hp:=List.pairwise_iff_getElem.1 hr
 rcases Nat.lt_or_gt_of_ne xA with h | h
 ·have:=hp i j z K h; omega
 ·have:=hp j i K z h; omega
theorem frPre_better {l:List Od} {sd:Int} {k i:Nat} {c o:Od} (hr:aH l) (h:FrPre l sd k i) (Y:l[i]? = some o) (hc:l[k]? = some c) (hs:c.side = sd) (hb:ahdB c o = true):FrPre l sd (k + 1) k:=by
 rcases h with ⟨h0,h⟩ | ⟨i',o',h0,z,K,h3,h4⟩
 ·omega
 ·obtain rfl:i = i':=by omega
  rw [Y] at K; obtain rfl:=Option.some.inj K
  have hco:ahd (decide (sd = 1)) c o:=by rw [← hs]; exact (ahd_iff c o).1 hb
  refine .inr ⟨k,c,rfl,by omega,hc,hs,fun j o' L vk oV xA=>?_⟩
  by_cases hji:j = i
  ·subst hji; rw [Y] at vk; obtain rfl:=hD vk; exact hco
  ·exact ahd_trans hco (h4 j o' (by omega) vk oV hji)
theorem frPre_worse {l:List Od} {sd:Int} {k i:Nat} {c o:Od} (hr:aH l) (h:FrPre l sd k i) (Y:l[i]? = some o) (hc:l[k]? = some c) (hs:c.side = sd) (hb:ahdB c o = false):FrPre l sd (k + 1) i:=by
 rcases h with ⟨h0,h⟩ | ⟨i',o',h0,z,K,h3,h4⟩
 ·omega
 ·obtain rfl:i = i':=by omega
  rw [Y] at K; obtain rfl:=Option.some.inj K
  have hnco:¬ ahd (decide (sd = 1)) c o:=by rw [← hs]; intro hh; rw [(ahd_iff c o).2 hh] at hb; cases hb
  have hoc:ahd (decide (sd = 1)) o c:=by
   rcases ahd_total (s:=decide (sd = 1)) (rising_ne hr hc Y (by omega)) with hh | hh
   ·exact absurd hh hnco
   ·exact hh
  refine .inr ⟨i,o,rfl,by omega,Y,h3,fun j o' L vk oV xA=>?_⟩
  by_cases hjk:j = k
  ·subst hjk; rw [hc] at vk; obtain rfl:=hD vk; exact hoc
  ·exact h4 j o' (by omega) vk oV xA
structure GW (W:World) where
 val:World
 property:W.grownBy val none
theorem gw_ne (W:World):Nonempty (GW W):=⟨⟨W,yO _ _⟩⟩
theorem dp {P:Program} {id:Nat} {ya:Exit→Act→World→Prop} {a:Act} {w W:World} {l:List Oper} (hm:P.follows .mixedOrders = true) (hB:Region.lexB .any l.toArray = true) (hg:W.grownBy w none)
  (h:wpQuiet P l.toArray (fun w'=>∃ u:GW W,w' = u.val) (fun a'=>∀ w',(∃ u:GW W,w' = u.val)→ya .normal a' w') l a):(Code.region id l.toArray true).wp P ya a w :=
 wp_region_quiet (C:=fun w'=>∃ u:GW W,w' = u.val) hm hB ⟨⟨{ w with drawn:=w.drawn + 1 },⟨hg.os,hg.tape,hg.output,hg.size,hg.block⟩⟩,rfl⟩ (by simpa using h)
def difB (c y:Od):Bool:=decide (y.side ≠ c.side) || decide (y.ticks ≠ c.ticks)
def bR (c:Od) (hj:List Od):Bool:=hj.all (difB c)
theorem nlev_fresh (l:List Od) (x:Od):nlev (l ++ [x]) = nlev l + (bR x l).toNat:=by
 rw [nlev_snoc]
 congr 1
 by_cases h:∃ y ∈ l,y.side = x.side∧y.ticks = x.ticks
 ·rw [if_pos h]
  have:bR x l = false:=by
   obtain ⟨y,z,K,h3⟩:=h
   rw [bR,List.all_eq_false]
   exact ⟨y,z,by simp [difB,K,h3]⟩
  rw [this]; rfl
 ·rw [if_neg h]
  have:bR x l = true:=by
   rw [bR,List.all_eq_true]
   intro y hy
   simp only [difB,ne_eq,Bool.or_eq_true,xc]
   by_cases z:y.side = x.side
   ·exact .inr fun K=>h ⟨y,hy,z,K⟩
   ·exact .inl z
  rw [this]; rfl
def allR (next:Int):Int→List Od→Bool
 | _,[]=>true
 | last,o :: r=>ordB o && decide (last < o.id) && decide (o.id < next) && allR next o.id r
theorem dG {next:Int}:∀ {l:List Od} {last:Int},allR next last l = true→aH l∧∀ o ∈ l,last < o.id
 | [],_,_=>⟨by simp [aH],by simp⟩
 | a :: r,last,h=>by
  simp only [allR,xb,xc] at h
  obtain ⟨ih1,ih2⟩:=dG h.2
  refine ⟨List.pairwise_cons.2 ⟨ih2,ih1⟩,fun o Y=>?_⟩
  rcases List.mem_cons.1 Y with rfl | Y
  ·exact h.1.1.2
  ·have:=ih2 o Y; have:=h.1.1.2; omega
theorem dK {next:Int}:∀ {l:List Od} {last:Int},allR next last l = true→∀ o ∈ l,ordB o = true
 | [],_,_=>by simp
 | a :: r,last,h=>by
  simp only [allR,xb,xc] at h
  intro o Y
  rcases List.mem_cons.1 Y with rfl | Y
  ·exact h.1.1.1
  ·exact dK h.2 o Y
def xB (a b:Od):Bool:=!(decide (a.side = 1) && decide (b.side = 2)) || decide (a.ticks < b.ticks)
def noX (l:List Od):Bool:=l.all fun a=>l.all fun b=>xB a b
theorem noX_iff (l:List Od):noX l = true ↔ ∀ a ∈ l,a.side = 1→∀ b ∈ l,b.side = 2→a.ticks < b.ticks:=by
 simp only [noX,List.all_eq_true,xB,Bool.or_eq_true,Bool.not_eq_true',Bool.and_eq_false_iff,decide_eq_false_iff_not,xc]
 constructor
 ·intro h a ha z b hb K
  rcases h a ha b hb with (h3 | h3) | h3
  ·exact absurd z h3
  ·exact absurd K h3
  ·exact h3
 ·intro h a ha b hb
  by_cases z:a.side = 1
  ·by_cases K:b.side = 2
   ·exact .inr (h a ha z b hb K)
   ·exact .inl (.inr K)
  ·exact .inl (.inl z)
theorem noX_none1 {l:List Od} (h:∀ o ∈ l,o.side ≠ 1):noX l = true:=(noX_iff l).2 fun a ha z=>absurd z (h a ha)
theorem noX_none2 {l:List Od} (h:∀ o ∈ l,o.side ≠ 2):noX l = true:=(noX_iff l).2 fun a ha z b hb K=>absurd K (h b hb)
theorem noX_fronts {l:List Od} {i j:Nat} {a b:Od} (ha:dg true l 1 i a) (hb:dg false l 2 j b):noX l = decide (a.ticks < b.ticks):=by
 rw [Bool.eq_iff_iff,noX_iff,xc]
 constructor
 ·exact fun h=>h a (yL ha.1) ha.2.1 b (yL hb.1) hb.2.1
 ·intro h x hx z y hy K
  obtain ⟨m,hm⟩:=List.mem_iff_getElem?.1 hx
  obtain ⟨n,hn⟩:=List.mem_iff_getElem?.1 hy
  have hxa:x.ticks ≤ a.ticks:=by
   by_cases pC:m = i
   ·subst pC; rw [ha.1] at hm; obtain rfl:=Option.some.inj hm; exact Int.le_refl _
   ·rcases ha.2.2 m x hm z pC with h3 | h3
    ·simp only [bt] at h3; omega
    ·omega
  have hyb:b.ticks ≤ y.ticks:=by
   by_cases hnj:n = j
   ·subst hnj; rw [hb.1] at hn; obtain rfl:=Option.some.inj hn; exact Int.le_refl _
   ·rcases hb.2.2 n y hn K hnj with h3 | h3
    ·simp only [bt] at h3; omega
    ·omega
  omega
theorem frPre_end {l:List Od} {sd:Int} {k:Int} (h:FrPre l sd l.length k):(k = -1∧∀ o ∈ l,o.side ≠ sd) ∨ ∃ (i:Nat) (o:Od),k = i∧i < l.length∧dg (decide (sd = 1)) l sd i o:=by
 rcases h with ⟨rfl,h⟩ | ⟨i,o,rfl,z,K,h3,h4⟩
 ·refine .inl ⟨rfl,fun o Y=>?_⟩
  obtain ⟨j,L⟩:=List.mem_iff_getElem?.1 Y
  exact h j o (yD.1 L).1 L
 ·exact .inr ⟨i,o,rfl,z,K,h3,fun j o' Y hs xA=>h4 j o' (yD.1 Y).1 Y hs xA⟩
def okS (next:Int) (l:List Od):Bool:=betB next 1 1000000 && decide (l.length ≤ 20) && allR next 0 l && (decide (nlev l ≤ 8) && noX l)
end Go.Proofs.YtbakanofkghmiaaGreat
