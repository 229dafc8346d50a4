/-
  Commands held against each other, by the program: proved by walking the function.
-/
import Derived.Test.YtbakanofkghmiaaGreatUj11
set_option linter.unusedVariables false
set_option maxHeartbeats 6400000
set_option maxRecDepth 100000
namespace Go.Proofs.YtbakanofkghmiaaGreat
open Go.RowKit
def ofC (c:Cm):Ev:=⟨0,c,0,0,0,0,0⟩
def aD (c d:Cm):Bool:=(c.k == d.k) && ((c.s == d.s) && ((c.t == d.t) && ((c.l == d.l) && ((c.q == d.q) && ((c.i == d.i) && ((fbit c.p == fbit d.p) && decide (c.g.toList = d.g.toList)))))))
theorem eqVl (c d:Cm) (W:World):(binOp .eql 187 (vlV (ofC c)) (vlV (ofC d))).run Tryz.prog W = .ok (.bool (aD c d)) W:=by
 unfold vlV ofC
 simp only
 go_simp
 unfold aD
 by_cases G:c.k = d.k
 ·by_cases D:c.s = d.s
  ·by_cases h3:c.t = d.t
   ·by_cases h4:c.l = d.l
    ·by_cases h5:c.q = d.q
     ·by_cases h6:c.i = d.i
      ·by_cases h7:fbit c.p = fbit d.p
       ·by_cases h8:c.g.toList = d.g.toList
        ·simp [G,D,h3,h4,h5,h6,h7,h8]
        ·simp [G,D,h3,h4,h5,h6,h7,h8]
       ·have h7':¬ ((fbit c.p:Int) = fbit d.p):=by omega
        have h7b:(fbit c.p == fbit d.p) = false:=by simpa using h7
        rw [if_neg h7',h7b]
        simp [G,D,h3,h4,h5,h6]
      ·simp [G,D,h3,h4,h5,h6]
     ·simp [G,D,h3,h4,h5]
    ·simp [G,D,h3,h4]
   ·simp [G,D,h3]
  ·simp [G,D]
 ·simp [G]
theorem eqGd (c d:Cm) (W:World):(eqGuard .eql 187 (.tmp 7) (.tmp 10) (vlV (ofC c)) (vlV (ofC d))).run Tryz.prog W = .ok () W:=by
 unfold vlV ofC
 simp only
 go_simp
def CS (c d:Cm):Nat→Value→Prop
 | 0,v=>v = cmV c
 | 1,v=>v = evV (ofC c)
 | 2,v=>v = vlV (ofC c)
 | 3,v=>v = cmV d
 | 4,v=>v = evV (ofC d)
 | 5,v=>v = vlV (ofC d)
 | 6,v=>v = .bool (aD c d)
 | 7,v=>v = .bool (aD c d)
 | _,_=>True
theorem dT (c d:Cm) (w:World) :
  Calls Tryz.prog 107 #[cmV c,cmV d] w fun e w'=>e = yl (.bool (aD c d))∧ym w w':=by
 have xz:=zf w (Obj.cells c.vs.toArray 43)
 have xZ:((w.alloc (Obj.cells c.vs.toArray 43)).alloc (Obj.cells d.vs.toArray 43)).heap.size = w.heap.size + 1 + 1:=by rw [zf,xz]
 have r0:=zb (zg w c.vs 43) (C:=w.heap.size + 1) ((Below.refl _ _).alloc (by rw [xz]; omega) (Obj.cells d.vs.toArray 43)) (by omega)
 have r1:=zg (w.alloc (Obj.cells c.vs.toArray 43)) d.vs 43
 rw [xz] at r1
 have uB:Hid (ym w ((w.alloc (Obj.cells c.vs.toArray 43)).alloc (Obj.cells d.vs.toArray 43))):=(eB _ _).alloc (by rw [xz]; omega) _
 have HX:Hid (_∧_):=⟨r0,r1⟩
 have qb:=Y xZ
 clear r0 r1 xz xZ
 unfold cmV
 go_enter Tryz.func107,Tryz.ntmps107
 go_wp2_with fail
 unfold Cm.vs at uB HX qb
 generalize hW:((w.alloc (N (List.toArray (yv c.k c.s c.t c.l c.q c.i c.p c.g)) 43)).alloc (N (List.toArray (yv d.k d.s d.t d.l d.q d.i d.p d.g)) 43)) = W at uB HX qb
 refine dg (RGrow W (fun f=>{ tmps:=#[cmV c,cmV d,yn w 0,I (w.heap.size + 1) 0,f 7,f 0,f 1,f 2,f 3,f 4,f 5,f 6],defers:=[] }) (CS c d)) (by kernel_rfl) ?_ ?_ ?_
 ·refine ⟨upd (fun _=>M) 7 (.bool false),rfl,?_,fun j K=>by rw [yG] at K; split at K <;> simp at K⟩
  rw [← hW]
  exact ⟨rfl,rfl,rfl,Nat.le_refl _,fun _ _=>rfl⟩
 ·rintro x xj V ⟨f,rfl,xh,hC⟩ hx xL
  have hall7:=zW xL hx (acyc _ (by kernel_rfl)) 7 (by simp)
  have e7:f 7 = .bool (aD c d):=hC 7 hall7
  simp only [e7]
  have xr:=Y xh
  clear hC hx xL hall7 e7 xh
  go_wp2_with fail
  go_ret
  exact ⟨rfl,(U uB).trans ((U xr).mono (U uB).size)⟩
 ·rintro x xj V i o ⟨f,rfl,xh,hC⟩ hx Z xu Q
  have xr:=Y xh
  have HC:=Y hC
  have hw0:w.heap.size < W.heap.size:=by rw [U qb]; omega
  have hw1:w.heap.size + 1 < W.heap.size:=by rw [U qb]; omega
  match i,Z with
  | 0,Z =>
   obtain rfl:=ya Z
   obtain ⟨x0,x1,x2,x3,x4,x5,x6,x7⟩:=cm_cells (c:=c) (zb (U HX).1 xh hw0)
   simp only [Nat.zero_add] at x0 x1 x2 x3 x4 x5 x6 x7
   clear Q hC xh
   rw [if_pos (by rfl)];unfold Oper.wp;go_simp
   exact ⟨upd f 0 (cmV c),by simp [upd,cmV],U xr,zA (U HC) rfl⟩
  | 1,Z =>
   obtain rfl:=ya Z
   have g0:f 0 = cmV c:=hC 0 (yd Q 0 rfl)
   clear Q hC xh
   rw [if_pos (by rfl)]
   unfold Oper.wp
   unfold cmV at g0
   go_simp
   exact ⟨upd f 1 (evV (ofC c)),by simp [upd,evV,ofC,cmV,g0],U xr,zA (U HC) rfl⟩
  | 2,Z =>
   obtain rfl:=ya Z
   have g1:f 1 = evV (ofC c):=hC 1 (yd Q 1 rfl)
   clear Q hC xh
   rw [if_pos (by rfl)];unfold Oper.wp;go_simp
   refine (valueOf_any (ofC c) V).mono ?_
   rintro e w4 ⟨rfl,xy⟩
   exact ⟨upd f 2 (vlV (ofC c)),by simp [upd,g1],(U xr).trans (xy.mono (U xr).size),zA (U HC) rfl⟩
  | 3,Z =>
   obtain rfl:=ya Z
   obtain ⟨x0,x1,x2,x3,x4,x5,x6,x7⟩:=cm_cells (c:=d) (zb (U HX).2 xh hw1)
   simp only [Nat.zero_add] at x0 x1 x2 x3 x4 x5 x6 x7
   clear Q hC xh
   rw [if_pos (by rfl)];unfold Oper.wp;go_simp
   exact ⟨upd f 3 (cmV d),by simp [upd,cmV],U xr,zA (U HC) rfl⟩
  | 4,Z =>
   obtain rfl:=ya Z
   have g0:f 3 = cmV d:=hC 3 (yd Q 3 rfl)
   clear Q hC xh
   rw [if_pos (by rfl)]
   unfold Oper.wp
   unfold cmV at g0
   go_simp
   exact ⟨upd f 4 (evV (ofC d)),by simp [upd,evV,ofC,cmV,g0],U xr,zA (U HC) rfl⟩
  | 5,Z =>
   obtain rfl:=ya Z
   have g1:f 4 = evV (ofC d):=hC 4 (yd Q 4 rfl)
   clear Q hC xh
   rw [if_pos (by rfl)];unfold Oper.wp;go_simp
   refine (valueOf_any (ofC d) V).mono ?_
   rintro e w4 ⟨rfl,xy⟩
   exact ⟨upd f 5 (vlV (ofC d)),by simp [upd,g1],(U xr).trans (xy.mono (U xr).size),zA (U HC) rfl⟩
  | 6,Z =>
   obtain rfl:=ya Z
   have g2:f 2 = vlV (ofC c):=hC 2 (yd Q 2 rfl)
   have g5:f 5 = vlV (ofC d):=hC 5 (yd Q 5 rfl)
   have he:=eqVl c d V
   have hg:=eqGd c d V
   clear Q hC xh
   rw [if_pos (by rfl)];unfold Oper.wp;go_simp
   exact ⟨upd f 6 (.bool (aD c d)),by simp [upd,g2,g5],U xr,zA (U HC) rfl⟩
  | 7,Z =>
   obtain rfl:=ya Z
   have g6:f 6 = .bool (aD c d):=hC 6 (yd Q 6 rfl)
   clear Q hC xh
   rw [if_pos (by rfl)];unfold Oper.wp;go_simp
   exact ⟨upd f 7 (.bool (aD c d)),by simp [upd,g6],U xr,zA (U HC) rfl⟩
  | n + 8,Z=>simp at Z
theorem there1O {w:World} {b o n:Nat} (h:w.there b o n) (j:Nat) (K:j < n):∃ v,w.cell? (J b (o + j)) = some v∧w.frozen? (J b (o + j)) = false:=by
 obtain ⟨v,hv⟩:=Option.isSome_iff_exists.1 (h j K).1
 exact ⟨v,hv,(h j K).2⟩
theorem takeR {α:Type} (l:List α) (k:Nat) (c:α) (h:l[k]? = some c):l.take (k + 1) = l.take k ++ [c]:=by
 obtain ⟨hk,rfl⟩:=yE.1 h
 rw [List.take_succ_eq_append_getElem hk]
theorem Tryz.infoOrder:(Tryz.prog.info? 49).map (fun i=>(i.zero,i.size,i.bytes)) = some (some (.agg (yu 0 0 0 0 0 ⟨#[]⟩).toArray),6,56):=by kernel_rfl
def okI (next:Int) (l:List Od):Bool:=betB next 1 1000000 && decide (l.length ≤ 20) && idsR next 0 l && l.all ordB &&
 (decide ((aE true 1 (zo l 1)).length + (aE false 2 (zo l 2)).length ≤ 8) && !meetB (quOf true (zo l 1)) (quOf false (zo l 2)))
theorem ed (next:Int) (v:Value) (l:List Od) (w:World) (hr:RdR Od.vs 6 w v l) (hg:∀ c ∈ l,c.tag.size ≤ maxLen) :
  Calls Tryz.prog 14 #[.agg #[H next,v]] w fun e w'=>e = yl (.bool (okI next l))∧ym w w':=by
 have HR:=Y hr
 have HG:=Y hg
 obtain ⟨a,A,rfl,xC,hc⟩:=hr
 have xo:∀ (k:Nat) (c:Od),l[k]? = some c→∃ b off,a = some (J b off)∧b < w.heap.size∧w.rangeAt b (off + k * 6) c.vs:=by
  intro k c hk
  obtain ⟨b,off,G,D,h3⟩:=hc (by intro h; rw [h] at hk; simp at hk)
  exact ⟨b,off,G,D,h3 k c hk⟩
 have HC:=Y xo
 clear xo hc hg
 have uB:Hid (ym w (w.alloc (N #[H next,.slice a l.length A] 28))):=eB _ _
 have vp:=zg w [H next,.slice a l.length A] 28
 have HX:Hid (World.cell? (w.alloc (N #[H next,.slice a l.length A] 28)) (yp w 0) = some (H next)∧World.cell? (w.alloc (N #[H next,.slice a l.length A] 28)) (yp w 1) = some (.slice a l.length A)∧w.heap.size < (w.alloc (N #[H next,.slice a l.length A] 28)).heap.size):=⟨vp 0 _ rfl,vp 1 _ rfl,by rw [zf]; omega⟩
 clear vp
 cases G:betB next 1 1000000
 ·go_enter Tryz.func14,Tryz.ntmps14
  go_wp2_with fail
  refine (zG next 1 1000000 _).mono ?_
  rintro e w1 ⟨rfl,rfl⟩
  go_wp2_with fail
  go_ret
  exact ⟨zq (by simp [okI,G]),U uB⟩
 by_cases D:l.length ≤ 20
 rotate_left
 ·have ke:(20:Int) < l.length:=by omega
  go_enter Tryz.func14,Tryz.ntmps14
  go_wp2_with fail
  refine (zG next 1 1000000 _).mono ?_
  rintro e w1 ⟨rfl,rfl⟩
  go_wp2_with fail
  go_ret
  exact ⟨zq (by simp [okI,G,D]),U uB⟩
 have ke:¬ ((20:Int) < l.length):=by omega
 cases h3:idsR next 0 l
 ·go_enter Tryz.func14,Tryz.ntmps14
  go_wp2_with fail
  refine (zG next 1 1000000 _).mono ?_
  rintro e w1 ⟨rfl,rfl⟩
  go_wp2_with fail
  refine (idsRise_any next _ l _ (zh (U HR) (U uB) hb)).mono ?_
  rintro e w2 ⟨rfl,xS⟩
  have xD:=Y (eE (U uB) xS)
  clear xS
  go_wp2_with fail
  go_ret
  exact ⟨zq (by simp [okI,h3]),U xD⟩
 go_enter Tryz.func14,Tryz.ntmps14
 go_wp2_with fail
 refine (zG next 1 1000000 _).mono ?_
 rintro e w1 ⟨rfl,rfl⟩
 go_wp2_with fail
 refine (idsRise_any next _ l _ (zh (U HR) (U uB) hb)).mono ?_
 rintro e w2 ⟨rfl,xS⟩
 have xD:=Y (eE (U uB) xS)
 have x0:=(xS.cell (p:=(yp w 0)) (U HX).2.2).trans (U HX).1
 have x1:=(xS.cell (p:=(yp w 1)) (U HX).2.2).trans (U HX).2.1
 have hsz2:w.heap.size < w2.heap.size:=yH (U HX).2.2 xS.size
 have ai:Hid (w2.cell? (yp w 0) = some (H next)∧w2.cell? (yp w 1) = some (.slice a l.length A)):=⟨x0,x1⟩
 clear xS x0
 go_wp2_with fail
 go_loopw [25] (fun iv wr=>∃ (k:Nat),k ≤ l.length∧iv = H k∧Hid (l.all ordB = (l.drop k).all ordB)∧ym w2 wr) (fun iv _=>l.length - (intOf iv).toNat)
 case atStart=>exact ⟨0,Nat.zero_le _,rfl,by simp [Hid],Below.refl _ _⟩
 case round =>
  obtain ⟨k,hk,rfl,Q,xh⟩:=hrel
  have HB:=Y xh
  clear xh x1
  by_cases xI:k < l.length
  ·obtain ⟨c,uJ⟩:∃ c,l[k]? = some c:=⟨_,yF xI⟩
   have pA:l.drop k = c :: l.drop (k + 1):=by
    obtain ⟨G,rfl⟩:=yE.1 uJ
    exact xa G
   have HI:Hid (l.all ordB = (ordB c && (l.drop (k + 1)).all ordB)):=by
    have:=U Q
    rw [pA] at this
    exact this
   obtain ⟨b,off,rfl,O,X⟩:=U HC k c uJ
   obtain ⟨g0,g1,g2,g3,g4,g5⟩:=zz (zb X ((U xD).trans ((U HB).mono (U xD).size)) O)
   have HS:=Y (U HG c (yM uJ))
   have uu:(k:Int) < l.length:=by omega
   have pM:=(U HB).size
   clear uJ X O pA Q
   go_wp2_with fail
   refine (orderOK_any c _ (U HS)).mono ?_
   rintro e w3 ⟨rfl,uw⟩
   have xP:=Y (((U HB).alloc pM _).trans (uw.mono (by rw [zf]; omega)))
   clear uw
   cases Z:ordB c
   ·have HN:Hid (l.all ordB = false):=by
     have:=U HI
     rw [Z,Bool.false_and] at this
     exact this
    go_wp2_with fail
    go_ret
    exact ⟨zq (by rw [okI,U HN]; simp),(U xD).trans ((U xP).mono (U xD).size)⟩
   ·have HN:Hid (l.all ordB = (l.drop (k + 1)).all ordB):=by
     have:=U HI
     rw [Z,Bool.true_and] at this
     exact this
    go_wp2_with fail
    go_roundw
    case rel=>exact ⟨k + 1,by omega,by go_num,U HN,U xP⟩
    case measure=>simp [intOf]; omega
  ·have hall2:l.all ordB = true:=by
    have h:=U Q
    rw [yY (by omega)] at h
    rw [h]; rfl
   have HALL:=Y hall2
   clear Q hall2
   have y0:=((U HB).cell (p:=(yp w 0)) hsz2).trans (U ai).1
   have y1:=((U HB).cell (p:=(yp w 1)) hsz2).trans (U ai).2
   go_wp2_with fail
   have HRr:=Y (zh (zh (U HR) (U xD) hb) (U HB) hb)
   have hwr:w.heap.size < wr.heap.size:=yH hsz2 (U HB).size
   have HLB:Hid (∀ o' ∈ l,0 ≤ o'.left∧o'.left ≤ 1000000):=fun o' vv=>by
    have:=List.all_eq_true.1 (U HALL) o' vv
    simp [ordB,betB] at this
    omega
   have HY:Hid (wr.cell? (yp w 0) = some (H next)∧wr.cell? (yp w 1) = some (.slice a l.length A)):=⟨y0,y1⟩
   clear y0 y1
   refine dg (fun x xj W=>∃ v33 v34 v35 v36 v5 v6 b1 b2 p5 p6,xj = { tmps:=#[.agg #[H next,.slice a l.length A],yn w 0,u2,M,u4,v5,v6,yn w 0,H next,.bool true,.bool false,.bool false,yn w 1,.slice a l.length A,H l.length,.bool (decide ((20:Int) < l.length)),.bool (decide ((20:Int) < l.length)),.bool (decide ((20:Int) < l.length)),.agg #[H next,.slice a l.length A],.bool true,.bool false,.bool (decide ((20:Int) < l.length)),yn w 1,.slice a l.length A,H l.length,H k,.bool false,u27,u28,u29,u30,u31,u32,v33,v34,v35,v36,M,M,M,M,M,M,M,M,M,M],defers:=[] }∧RW9 wr (.agg #[H next,.slice a l.length A]) (zo l 1) (zo l 2) x v33 v34 v35 v36 v5 v6 b1 b2 p5 p6 W) (by kernel_rfl) ?_ ?_ ?_
   ·refine ⟨M,M,M,M,M,M,0,0,0,0,rfl,?_⟩
    refine ⟨⟨rfl,rfl,rfl,Nat.le_refl _,fun _ _=>rfl⟩,?_,?_,?_,?_,?_,?_,?_,?_,?_,?_,?_,?_,?_⟩ <;> simp
   ·rintro x xj W ⟨v33,v34,v35,v36,v5,v6,b1,b2,p5,p6,rfl,E⟩ hx xL
    have q0:=bP xL hx 0 _ rfl (by simp)
    have q2:=bP xL hx 2 _ rfl (by simp)
    have q4:=bP xL hx 4 _ rfl (by simp)
    have q5:=bP xL hx 5 _ rfl (by simp)
    have q1:=bP xL hx 1 _ rfl (by simp [q0])
    have q3:=bP xL hx 3 _ rfl (by simp [q1,q2])
    have q6:=bP xL hx 6 _ rfl (by simp [q0,q1,q2,q3,q4,q5])
    have q7:=bP xL hx 7 _ rfl (by simp [q0,q1,q2,q3,q4,q5,q6])
    obtain ⟨e1,e2⟩:=E.c34 q1
    obtain ⟨e3,e4⟩:=E.c36 q3
    obtain ⟨e5,e6,e7,e8⟩:=E.c5 q4
    obtain ⟨f5,f6,f7,f8⟩:=E.c6 q5
    have e9:=(E.s5 q6).2
    have f9:=(E.s6 q7).2
    have hbW:=E.bel
    subst e1 e3 e5 f5
    have HW:Hid (Tb W b1 (zo l 1)∧Ts W b2 (zo l 2)∧W.rangeAt p5 0 (cy b1)∧W.rangeAt p6 0 (cQ b2)∧p5 < W.heap.size∧p6 < W.heap.size∧ym wr W):=⟨e2,e4,e9,f9,e6,f6,hbW⟩
    clear E q0 q1 q2 q3 q4 q5 q6 q7 e2 e4 e6 e7 e8 f6 f7 f8 e9 f9 hbW xL hx
    have n1:(zo l 1).length ≤ 20:=yL (List.length_filter_le _ _) D
    have n2:(zo l 2).length ≤ 20:=yL (List.length_filter_le _ _) D
    obtain ⟨hT1,hT2,r5,r6,hp5,hp6,-⟩:=U HW
    have xJ:=Y ((U xD).trans (((U HB).trans ((U HW).2.2.2.2.2.2.mono (U HB).size)).mono (U xD).size))
    have qN:=Y hT1
    have vu:=Y hT2
    have pY:=Y r5
    have HR6:=Y r6
    have hb1s:=zJ hT1
    have hb2s:=zJ hT2
    clear hT1 hT2 r5 r6
    generalize hL1:(aE true 1 (zo l 1)).length = N1
    generalize hL2:(aE false 2 (zo l 2)).length = N2
    generalize hmt:meetB (quOf true (zo l 1)) (quOf false (zo l 2)) = mt
    have HOK:Hid (okI next l = (decide (N1 + N2 ≤ 8) && !mt)):=by
     show okI next l = _
     rw [okI,G,h3,U HALL,hL1,hL2,hmt,decide_eq_true D]; rfl
    have HLL:Hid ((aE true 1 (zo l 1)).length = N1∧(aE false 2 (zo l 2)).length = N2∧meetB (quOf true (zo l 1)) (quOf false (zo l 2)) = mt):=⟨hL1,hL2,hmt⟩
    clear hL1 hL2 hmt
    have d0:=U pY 0 _ rfl
    have d1:=U pY 1 _ rfl
    have d2:=U pY 2 _ rfl
    have e0:=U HR6 0 _ rfl
    have e1:=U HR6 1 _ rfl
    have e2:=U HR6 2 _ rfl
    rw [Nat.zero_add] at d0 d1 d2 e0 e1 e2
    go_wp2_with fail
    refine (ey b1 b2 1 2 (zo l 1) (zo l 2) W (U qN) (U vu) n1 n2).mono ?_
    rw [(U HLL).1,(U HLL).2.1]
    rintro e w4 ⟨rfl,xy⟩
    have xY:=Y (eE (U xJ) xy)
    have HT14:=Y (zr (U qN) (xy.block _ hb1s))
    have HT24:=Y (zr (U vu) (xy.block _ hb2s))
    have d0:=zb (U pY) xy hp5 0 _ rfl
    have d1:=zb (U pY) xy hp5 1 _ rfl
    have d2:=zb (U pY) xy hp5 2 _ rfl
    have e0:=zb (U HR6) xy hp6 0 _ rfl
    have e1:=zb (U HR6) xy hp6 1 _ rfl
    have e2:=zb (U HR6) xy hp6 2 _ rfl
    rw [Nat.zero_add] at d0 d1 d2 e0 e1 e2
    clear xy
    by_cases h8:N1 + N2 ≤ 8
    ·have h8':(N1:Int) + N2 ≤ 8:=by omega
     have HK:Hid (okI next l = !mt):=by
      have:=U HOK
      rw [decide_eq_true h8,Bool.true_and] at this
      exact this
     go_wp2_with fail
     refine (sidesMeet_any b1 b2 1 2 (zo l 1) (zo l 2) w4 (U HT14) (U HT24) n1 n2).mono ?_
     rw [(U HLL).2.2]
     rintro e w5 ⟨rfl,vD⟩
     have jf:=Y (eE (U xY) vD)
     clear vD
     go_wp2_with fail
     go_ret
     exact ⟨zq (U HK).symm,U jf⟩
    ·have h8':¬ ((N1:Int) + N2 ≤ 8):=by omega
     have HK:Hid (okI next l = false):=by
      have:=U HOK
      rw [decide_eq_false h8,Bool.false_and] at this
      exact this
     go_wp2_with fail
     go_ret
     exact ⟨zq (U HK).symm,U xY⟩
   ·rintro x xj W i o ⟨v33,v34,v35,v36,v5,v6,b1,b2,p5,p6,rfl,E⟩ hx Z xu Q
    have xw:=Y E
    have z0:=(E.bel.cell (p:=(yp w 0)) hwr).trans (U HY).1
    have z1:=(E.bel.cell (p:=(yp w 1)) hwr).trans (U HY).2
    have qM:=Y (zh (U HRr) E.bel hb)
    match i,Z with
    | 0,Z =>
     obtain rfl:=ya Z
     rw [if_pos (by rfl)]
     unfold Oper.wp
     clear Q E
     go_simp
     exact ⟨_,_,_,_,_,_,⟨rfl,rfl,rfl,rfl,rfl,rfl⟩,_,_,_,_,rw9_0 (U xw)⟩
    | 1,Z =>
     obtain rfl:=ya Z
     have h0:x[0]? = some true:=Q ⟨0,.data⟩ (by simp) rfl
     obtain rfl:=E.c33 h0
     have h6:x[6]? ≠ some true:=fun e=>by have:=(E.s5 e).1.1; rw [xu] at this; cases this
     clear Q E
     rw [if_pos (by rfl)];unfold Oper.wp;go_simp
     refine (sideOf_buy next _ l W (U qM) D (U HLB)).mono ?_
     rintro e w3 ⟨b,rfl,ht,jb,O⟩
     exact ⟨_,_,_,_,_,_,⟨rfl,rfl,rfl,rfl,rfl,rfl⟩,b,_,_,_,rw9_1 (U xw) h6 O jb ht⟩
    | 2,Z =>
     obtain rfl:=ya Z
     rw [if_pos (by rfl)]
     unfold Oper.wp
     clear Q E
     go_simp
     exact ⟨_,_,_,_,_,_,⟨rfl,rfl,rfl,rfl,rfl,rfl⟩,_,_,_,_,rw9_2 (U xw)⟩
    | 3,Z =>
     obtain rfl:=ya Z
     have h22:x[2]? = some true:=Q ⟨2,.data⟩ (by simp) rfl
     obtain rfl:=E.c35 h22
     have h7:x[7]? ≠ some true:=fun e=>by have:=(E.s6 e).1.1; rw [xu] at this; cases this
     clear Q E
     rw [if_pos (by rfl)];unfold Oper.wp;go_simp
     refine (ep next 2 (by omega) _ l W (U qM) D (U HLB)).mono ?_
     rintro e w3 ⟨b,rfl,ht,jb,O⟩
     exact ⟨_,_,_,_,_,_,⟨rfl,rfl,rfl,rfl,rfl,rfl⟩,_,b,_,_,rw9_3 (U xw) h7 O jb ht⟩
    | 4,Z =>
     obtain rfl:=ya Z
     have h6:x[6]? ≠ some true:=fun e=>by have:=(E.s5 e).1.2; rw [xu] at this; cases this
     clear Q E
     rw [if_pos (by rfl)];unfold Oper.wp;go_simp
     exact ⟨_,_,_,_,_,_,⟨rfl,rfl,rfl,rfl,rfl,rfl⟩,_,_,_,_,rw9_4 (U xw) h6 _⟩
    | 5,Z =>
     obtain rfl:=ya Z
     have h7:x[7]? ≠ some true:=fun e=>by have:=(E.s6 e).1.2; rw [xu] at this; cases this
     clear Q E
     rw [if_pos (by rfl)];unfold Oper.wp;go_simp
     exact ⟨_,_,_,_,_,_,⟨rfl,rfl,rfl,rfl,rfl,rfl⟩,_,_,_,_,rw9_5 (U xw) h7 _⟩
    | 6,Z =>
     obtain rfl:=ya Z
     have k1:x[1]? = some true:=Q ⟨1,.data⟩ (by simp) rfl
     have k3:x[3]? = some true:=Q ⟨3,.chain⟩ (by simp) rfl
     have k4:x[4]? = some true:=Q ⟨4,.data⟩ (by simp) rfl
     have k5:x[5]? = some true:=Q ⟨5,.phase⟩ (by simp) rfl
     obtain rfl:=(E.c34 k1).1
     obtain ⟨e5,-,-,e8⟩:=E.c5 k4
     subst e5
     obtain ⟨⟨x0,y0,z0'⟩,⟨x1,y1,z1'⟩,x2,y2,z2'⟩:(∃ v,W.cell? (J p5 0) = some v∧W.frozen? (J p5 0) = false)∧(∃ v,W.cell? (J p5 1) = some v∧W.frozen? (J p5 1) = false)∧(∃ v,W.cell? (J p5 2) = some v∧W.frozen? (J p5 2) = false):=⟨by simpa using there1O e8 0 (by omega),by simpa using there1O e8 1 (by omega),by simpa using there1O e8 2 (by omega)⟩
     have HE:=Y (rw9_6 (U xw) k1 k3 k4 k5 (F0:=_) (F1:=_) (F2:=_) rfl)
     clear Q E z0 z1 e8
     unfold bd at HE ⊢
     generalize hF0:Value.func (.func 122) #[I b1 0] #[] = F0 at HE ⊢
     generalize hF1:Value.func (.func 123) #[I b1 0] #[] = F1 at HE ⊢
     generalize hF2:Value.func (.func 124) #[I b1 0] #[] = F2 at HE ⊢
     have uO:∀ (V:World) (o:Nat) (m:Mode),((store (J p5 o) F0 m).run Tryz.prog V = stored Tryz.prog V (J p5 o) F0 m)∧((store (J p5 o) F1 m).run Tryz.prog V = stored Tryz.prog V (J p5 o) F1 m)∧((store (J p5 o) F2 m).run Tryz.prog V = stored Tryz.prog V (J p5 o) F2 m):=fun V o m=>by
      subst hF0 hF1 hF2
      exact ⟨run_store _ V _ _ m rfl,run_store _ V _ _ m rfl,run_store _ V _ _ m rfl⟩
     have hst0:=fun V o m=>(uO V o m).1
     have hst1:=fun V o m=>(uO V o m).2.1
     have hst2:=fun V o m=>(uO V o m).2.2
     clear uO hF0 hF1 hF2
     rw [if_pos (by rfl)];unfold Oper.wp;go_simp
     exact ⟨_,_,_,_,_,_,⟨rfl,rfl,rfl,rfl,rfl,rfl⟩,_,_,_,_,U HE⟩
    | 7,Z =>
     obtain rfl:=ya Z
     have k1:x[1]? = some true:=Q ⟨1,.phase⟩ (by simp) rfl
     have k3:x[3]? = some true:=Q ⟨3,.data⟩ (by simp) rfl
     have k4:x[4]? = some true:=Q ⟨4,.phase⟩ (by simp) rfl
     have k5:x[5]? = some true:=Q ⟨5,.data⟩ (by simp) rfl
     obtain rfl:=(E.c36 k3).1
     obtain ⟨e5,-,-,e8⟩:=E.c6 k5
     subst e5
     obtain ⟨⟨x0,y0,z0'⟩,⟨x1,y1,z1'⟩,x2,y2,z2'⟩:(∃ v,W.cell? (J p6 0) = some v∧W.frozen? (J p6 0) = false)∧(∃ v,W.cell? (J p6 1) = some v∧W.frozen? (J p6 1) = false)∧(∃ v,W.cell? (J p6 2) = some v∧W.frozen? (J p6 2) = false):=⟨by simpa using there1O e8 0 (by omega),by simpa using there1O e8 1 (by omega),by simpa using there1O e8 2 (by omega)⟩
     have HE:=Y (rw9_7 (U xw) k1 k3 k4 k5 (F0:=_) (F1:=_) (F2:=_) rfl)
     clear Q E z0 z1 e8
     unfold bh at HE ⊢
     generalize hF0:Value.func (.func 126) #[I b2 0] #[] = F0 at HE ⊢
     generalize hF1:Value.func (.func 127) #[I b2 0] #[] = F1 at HE ⊢
     generalize hF2:Value.func (.func 128) #[I b2 0] #[] = F2 at HE ⊢
     have uO:∀ (V:World) (o:Nat) (m:Mode),((store (J p6 o) F0 m).run Tryz.prog V = stored Tryz.prog V (J p6 o) F0 m)∧((store (J p6 o) F1 m).run Tryz.prog V = stored Tryz.prog V (J p6 o) F1 m)∧((store (J p6 o) F2 m).run Tryz.prog V = stored Tryz.prog V (J p6 o) F2 m):=fun V o m=>by
      subst hF0 hF1 hF2
      exact ⟨run_store _ V _ _ m rfl,run_store _ V _ _ m rfl,run_store _ V _ _ m rfl⟩
     have hst0:=fun V o m=>(uO V o m).1
     have hst1:=fun V o m=>(uO V o m).2.1
     have hst2:=fun V o m=>(uO V o m).2.2
     clear uO hF0 hF1 hF2
     rw [if_pos (by rfl)];unfold Oper.wp;go_simp
     exact ⟨_,_,_,_,_,_,⟨rfl,rfl,rfl,rfl,rfl,rfl⟩,_,_,_,_,U HE⟩
    | n + 8,Z=>simp at Z
def ahdB (a b:Od):Bool:=if a.ticks = b.ticks then decide (a.id < b.id) else (decide (b.ticks < a.ticks) == decide (a.side = 1))
theorem ahd_iff (a b:Od):ahdB a b = true ↔ ahd (decide (a.side = 1)) a b:=by
 unfold ahdB ahd
 by_cases h:a.ticks = b.ticks
 ·rw [if_pos h]
  simp only [xd]
  constructor
  ·exact fun G=>.inr ⟨h,G⟩
  ·rintro (G | G)
   ·rw [h] at G; exact absurd G (bV _ _)
   ·exact G.2
 ·rw [if_neg h]
  by_cases hs:a.side = 1
  ·simp only [hs,decide_true,beq_true,xd,bt]
   constructor
   ·exact fun G=>.inl G
   ·rintro (G | G)
    ·exact G
    ·exact absurd G.1 h
  ·simp only [hs,decide_false,beq_false,Bool.not_eq_true',decide_eq_false_iff_not,bt]
   constructor
   ·exact fun G=>.inl (by omega)
   ·rintro (G | G)
    ·omega
    ·exact absurd G.1 h
def FrPre (l:List Od) (sd:Int) (k:Nat) (best:Int):Prop :=
 (best = -1∧∀ j o,j < k→l[j]? = some o→o.side ≠ sd) ∨
 ∃ (i:Nat) (o:Od),best = i∧i < k∧l[i]? = some o∧o.side = sd∧∀ j o',j < k→l[j]? = some o'→o'.side = sd→j ≠ i→ahd (decide (sd = 1)) o o'
theorem frPre_skip {l:List Od} {sd:Int} {k:Nat} {best:Int} {c:Od} (h:FrPre l sd k best) (hc:l[k]? = some c) (hs:c.side ≠ sd):FrPre l sd (k + 1) best:=by
 rcases h with ⟨rfl,h⟩ | ⟨i,o,rfl,G,D,h3,h4⟩
 ·refine .inl ⟨rfl,fun j o K Z=>?_⟩
  by_cases hjk:j = k
  ·subst hjk; rw [hc] at Z; obtain rfl:=ya Z; exact hs
  ·exact h j o (by omega) Z
 ·refine .inr ⟨i,o,rfl,by omega,D,h3,fun j o' K Z oX xA=>?_⟩
  by_cases hjk:j = k
  ·subst hjk; rw [hc] at Z; obtain rfl:=ya Z; exact absurd oX hs
  ·exact h4 j o' (by omega) Z oX xA
theorem frPre_first {l:List Od} {sd:Int} {k:Nat} {c:Od} (h:FrPre l sd k (-1)) (hc:l[k]? = some c) (hs:c.side = sd):FrPre l sd (k + 1) k:=by
 rcases h with ⟨_,h⟩ | ⟨i,o,h0,_⟩
 ·refine .inr ⟨k,c,rfl,by omega,hc,hs,fun j o' K Z oX xA=>?_⟩
  exact absurd oX (h j o' (by omega) Z)
 ·omega
theorem rising_ne {l:List Od} (hr:aK l) {i j:Nat} {a b:Od} (ha:l[i]? = some a) (O:l[j]? = some b) (xA:i ≠ j):a.id ≠ b.id:=by
 obtain ⟨G,rfl⟩:=yE.1 ha
 obtain ⟨D,rfl⟩:=yE.1 O
 have hp:=List.pairwise_iff_getElem.1 hr
 rcases Nat.lt_or_gt_of_ne xA with h | h
 ·have:=hp i j G D h; omega
 ·have:=hp j i D G h; omega
theorem frPre_better {l:List Od} {sd:Int} {k i:Nat} {c o:Od} (hr:aK l) (h:FrPre l sd k i) (Z:l[i]? = some o) (hc:l[k]? = some c) (hs:c.side = sd) (O:ahdB c o = true):FrPre l sd (k + 1) k:=by
 rcases h with ⟨h0,h⟩ | ⟨i',o',h0,G,D,h3,h4⟩
 ·omega
 ·obtain rfl:i = i':=by omega
  rw [Z] at D; obtain rfl:=Option.some.inj D
  have hco:ahd (decide (sd = 1)) c o:=by rw [← hs]; exact (ahd_iff c o).1 O
  refine .inr ⟨k,c,rfl,by omega,hc,hs,fun j o' K vv oX xA=>?_⟩
  by_cases hji:j = i
  ·subst hji; rw [Z] at vv; obtain rfl:=ya vv; exact hco
  ·exact ahd_trans hco (h4 j o' (by omega) vv oX hji)
theorem frPre_worse {l:List Od} {sd:Int} {k i:Nat} {c o:Od} (hr:aK l) (h:FrPre l sd k i) (Z:l[i]? = some o) (hc:l[k]? = some c) (hs:c.side = sd) (O:ahdB c o = false):FrPre l sd (k + 1) i:=by
 rcases h with ⟨h0,h⟩ | ⟨i',o',h0,G,D,h3,h4⟩
 ·omega
 ·obtain rfl:i = i':=by omega
  rw [Z] at D; obtain rfl:=Option.some.inj D
  have hnco:¬ ahd (decide (sd = 1)) c o:=by rw [← hs]; intro hh; rw [(ahd_iff c o).2 hh] at O; cases O
  have hoc:ahd (decide (sd = 1)) o c:=by
   rcases ahd_total (s:=decide (sd = 1)) (rising_ne hr hc Z (by omega)) with hh | hh
   ·exact absurd hh hnco
   ·exact hh
  refine .inr ⟨i,o,rfl,by omega,Z,h3,fun j o' K vv oX xA=>?_⟩
  by_cases hjk:j = k
  ·subst hjk; rw [hc] at vv; obtain rfl:=ya vv; exact hoc
  ·exact h4 j o' (by omega) vv oX xA
end Go.Proofs.YtbakanofkghmiaaGreat
