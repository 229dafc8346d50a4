/-
  Commands held against each other, by the program: proved by walking the function.
-/
import Derived.Test.YtnphbkgfjanmgaaGreatDoorBj08
set_option linter.unusedVariables false
set_option maxHeartbeats 6400000
set_option maxRecDepth 100000
namespace Go.Proofs.YtnphbkgfjanmgaaGreatDoor
open Go.RowKit
def ofC (c:Cm):Ev:=⟨0,c,0,0,0,0,0⟩
def aX (c d:Cm):Bool:=(c.k == d.k) && ((c.s == d.s) && ((c.t == d.t) && ((c.l == d.l) && ((c.q == d.q) && ((c.i == d.i) && ((fbit c.p == fbit d.p) && decide (c.g.toList = d.g.toList)))))))
theorem eqVl (c d:Cm) (W:World):(binOp .eql 119 (vlV (ofC c)) (vlV (ofC d))).run Tryz.prog W = .ok (.bool (aX c d)) W:=by
 unfold vlV ofC
 simp only
 go_simp
 unfold aX
 by_cases Q:c.k = d.k
 ·by_cases E:c.s = d.s
  ·by_cases h3:c.t = d.t
   ·by_cases h4:c.l = d.l
    ·by_cases h5:c.q = d.q
     ·by_cases h6:c.i = d.i
      ·by_cases h7:fbit c.p = fbit d.p
       ·by_cases h8:c.g.toList = d.g.toList
        ·simp [Q,E,h3,h4,h5,h6,h7,h8]
        ·simp [Q,E,h3,h4,h5,h6,h7,h8]
       ·have h7':¬ ((fbit c.p:Int) = fbit d.p):=by omega
        have h7b:(fbit c.p == fbit d.p) = false:=by simpa using h7
        rw [if_neg h7',h7b]
        simp [Q,E,h3,h4,h5,h6]
      ·simp [Q,E,h3,h4,h5,h6]
     ·simp [Q,E,h3,h4,h5]
    ·simp [Q,E,h3,h4]
   ·simp [Q,E,h3]
  ·simp [Q,E]
 ·simp [Q]
theorem eqGd (c d:Cm) (W:World):(eqGuard .eql 119 (.tmp 7) (.tmp 10) (vlV (ofC c)) (vlV (ofC d))).run Tryz.prog W = .ok () W:=by
 unfold vlV ofC
 simp only
 go_simp
def CS (c d:Cm):Nat→Value→Prop
 | 0,v=>v = cmV c
 | 1,v=>v = evV (ofC c)
 | 2,v=>v = vlV (ofC c)
 | 3,v=>v = cmV d
 | 4,v=>v = evV (ofC d)
 | 5,v=>v = vlV (ofC d)
 | 6,v=>v = .bool (aX c d)
 | 7,v=>v = .bool (aX c d)
 | _,_=>True
theorem eD (c d:Cm) (w:World) :
  Calls Tryz.prog 176 #[cmV c,cmV d] w fun e w'=>e = ym (.bool (aX c d))∧yn w w':=by
 have xK:=zi w (Obj.cells c.vs.toArray 50)
 have ue:((w.alloc (Obj.cells c.vs.toArray 50)).alloc (Obj.cells d.vs.toArray 50)).heap.size = w.heap.size + 1 + 1:=by rw [zi,xK]
 have r0:=zc (zn w c.vs 50) (C:=w.heap.size + 1) ((Below.refl _ _).alloc (by rw [xK]; omega) (Obj.cells d.vs.toArray 50)) (by omega)
 have r1:=zn (w.alloc (Obj.cells c.vs.toArray 50)) d.vs 50
 rw [xK] at r1
 have xS:Hid (yn w ((w.alloc (Obj.cells c.vs.toArray 50)).alloc (Obj.cells d.vs.toArray 50))):=(fE _ _).alloc (by rw [xK]; omega) _
 have HX:Hid (_∧_):=⟨r0,r1⟩
 have qf:=M ue
 clear r0 r1 xK ue
 unfold cmV
 go_enter Tryz.func176,Tryz.ntmps176
 go_wp2_with fail
 unfold Cm.vs at xS HX qf
 generalize hW:((w.alloc (A (List.toArray (yx c.k c.s c.t c.l c.q c.i c.p c.g)) 50)).alloc (A (List.toArray (yx d.k d.s d.t d.l d.q d.i d.p d.g)) 50)) = W at xS HX qf
 refine dN (RGrow W (fun f=>{ tmps:=#[cmV c,cmV d,yp w 0,J (w.heap.size + 1) 0,f 7,f 0,f 1,f 2,f 3,f 4,f 5,f 6],defers:=[] }) (CS c d)) (by kernel_rfl) ?_ ?_ ?_
 ·refine ⟨upd (fun _=>Z) 7 (.bool false),rfl,?_,fun j O=>by rw [yI] at O; split at O <;> simp at O⟩
  rw [← hW]
  exact ⟨rfl,rfl,rfl,Nat.le_refl _,fun _ _=>rfl⟩
 ·rintro x fG xn ⟨f,rfl,xk,hC⟩ hx xN
  have hall7:=zN xN hx (acyc _ (by kernel_rfl)) 7 (by simp)
  have e7:f 7 = .bool (aX c d):=hC 7 hall7
  simp only [e7]
  have xy:=M xk
  clear hC hx xN hall7 e7 xk
  go_wp2_with fail
  go_ret
  exact ⟨rfl,(H xS).trans ((H xy).mono (H xS).size)⟩
 ·rintro x fG xn i o ⟨f,rfl,xk,hC⟩ hx N xq D
  have xy:=M xk
  have HC:=M hC
  have hw0:w.heap.size < W.heap.size:=by rw [H qf]; omega
  have qB:w.heap.size + 1 < W.heap.size:=by rw [H qf]; omega
  match i,N with
  | 0,N =>
   obtain rfl:=yb N
   obtain ⟨x0,x1,x2,x3,x4,x5,x6,x7⟩:=cm_cells (c:=c) (zc (H HX).1 xk hw0)
   simp only [Nat.zero_add] at x0 x1 x2 x3 x4 x5 x6 x7
   clear D hC xk
   rw [if_pos (by rfl)];unfold Oper.wp;go_simp
   exact ⟨upd f 0 (cmV c),by simp [upd,cmV],H xy,zB (H HC) rfl⟩
  | 1,N =>
   obtain rfl:=yb N
   have g0:f 0 = cmV c:=hC 0 (ye D 0 rfl)
   clear D hC xk
   rw [if_pos (by rfl)]
   unfold Oper.wp
   unfold cmV at g0
   go_simp
   exact ⟨upd f 1 (evV (ofC c)),by simp [upd,evV,ofC,cmV,g0],H xy,zB (H HC) rfl⟩
  | 2,N =>
   obtain rfl:=yb N
   have g1:f 1 = evV (ofC c):=hC 1 (ye D 1 rfl)
   clear D hC xk
   rw [if_pos (by rfl)];unfold Oper.wp;go_simp
   refine (eH (ofC c) xn).mono ?_
   rintro e w4 ⟨rfl,xw⟩
   exact ⟨upd f 2 (vlV (ofC c)),by simp [upd,g1],(H xy).trans (xw.mono (H xy).size),zB (H HC) rfl⟩
  | 3,N =>
   obtain rfl:=yb N
   obtain ⟨x0,x1,x2,x3,x4,x5,x6,x7⟩:=cm_cells (c:=d) (zc (H HX).2 xk qB)
   simp only [Nat.zero_add] at x0 x1 x2 x3 x4 x5 x6 x7
   clear D hC xk
   rw [if_pos (by rfl)];unfold Oper.wp;go_simp
   exact ⟨upd f 3 (cmV d),by simp [upd,cmV],H xy,zB (H HC) rfl⟩
  | 4,N =>
   obtain rfl:=yb N
   have g0:f 3 = cmV d:=hC 3 (ye D 3 rfl)
   clear D hC xk
   rw [if_pos (by rfl)]
   unfold Oper.wp
   unfold cmV at g0
   go_simp
   exact ⟨upd f 4 (evV (ofC d)),by simp [upd,evV,ofC,cmV,g0],H xy,zB (H HC) rfl⟩
  | 5,N =>
   obtain rfl:=yb N
   have g1:f 4 = evV (ofC d):=hC 4 (ye D 4 rfl)
   clear D hC xk
   rw [if_pos (by rfl)];unfold Oper.wp;go_simp
   refine (eH (ofC d) xn).mono ?_
   rintro e w4 ⟨rfl,xw⟩
   exact ⟨upd f 5 (vlV (ofC d)),by simp [upd,g1],(H xy).trans (xw.mono (H xy).size),zB (H HC) rfl⟩
  | 6,N =>
   obtain rfl:=yb N
   have g2:f 2 = vlV (ofC c):=hC 2 (ye D 2 rfl)
   have g5:f 5 = vlV (ofC d):=hC 5 (ye D 5 rfl)
   have he:=eqVl c d xn
   have hg:=eqGd c d xn
   clear D hC xk
   rw [if_pos (by rfl)];unfold Oper.wp;go_simp
   exact ⟨upd f 6 (.bool (aX c d)),by simp [upd,g2,g5],H xy,zB (H HC) rfl⟩
  | 7,N =>
   obtain rfl:=yb N
   have g6:f 6 = .bool (aX c d):=hC 6 (ye D 6 rfl)
   clear D hC xk
   rw [if_pos (by rfl)];unfold Oper.wp;go_simp
   exact ⟨upd f 7 (.bool (aX c d)),by simp [upd,g6],H xy,zB (H HC) rfl⟩
  | n + 8,N=>simp at N
theorem cw {w:World} {b o n:Nat} (h:w.there b o n) (j:Nat) (O:j < n):∃ v,w.cell? (U b (o + j)) = some v∧w.frozen? (U b (o + j)) = false:=by
 obtain ⟨v,hv⟩:=Option.isSome_iff_exists.1 (h j O).1
 exact ⟨v,hv,(h j O).2⟩
theorem there6 {w:World} {b o:Nat} (h:w.there b o 6) :
  (∃ v,w.cell? (U b o) = some v∧w.frozen? (U b o) = false)∧(∃ v,w.cell? (U b (o + 1)) = some v∧w.frozen? (U b (o + 1)) = false) ∧
  (∃ v,w.cell? (U b (o + 2)) = some v∧w.frozen? (U b (o + 2)) = false)∧(∃ v,w.cell? (U b (o + 3)) = some v∧w.frozen? (U b (o + 3)) = false) ∧
  (∃ v,w.cell? (U b (o + 4)) = some v∧w.frozen? (U b (o + 4)) = false)∧(∃ v,w.cell? (U b (o + 5)) = some v∧w.frozen? (U b (o + 5)) = false) :=
 ⟨cw h 0 (by omega),cw h 1 (by omega),cw h 2 (by omega),cw h 3 (by omega),cw h 4 (by omega),cw h 5 (by omega)⟩
theorem takeR {α:Type} (l:List α) (k:Nat) (c:α) (h:l[k]? = some c):l.take (k + 1) = l.take k ++ [c]:=by
 obtain ⟨hk,rfl⟩:=yG.1 h
 rw [List.take_succ_eq_append_getElem hk]
theorem ownR_base {α:Type} {f:α→List Value} {sz B B':Nat} {w:World} {v:Value} {l:List α} (h:OwnR f sz B w v l) (hB:B' ≤ B):OwnR f sz B' w v l:=by
 obtain ⟨a,cap,rfl,hl,h⟩:=h
 refine ⟨a,cap,rfl,hl,fun xD=>?_⟩
 obtain ⟨g,e1,e2,e3⟩:=h xD
 exact ⟨g,e1,yN hB e2,e3⟩
theorem ownR_set {α:Type} {f:α→List Value} {sz B:Nat} {w:World} {v:Value} {l:List α} (h:OwnR f sz B w v l) {b:Nat} (Y:b < B) (o:Nat) (u:Value):OwnR f sz B (w.setCell (U b o) u) v l:=by
 obtain ⟨a,cap,rfl,hl,h⟩:=h
 refine ⟨a,cap,rfl,hl,fun xD=>?_⟩
 obtain ⟨g,e1,e2,e3,e4,e5⟩:=h xD
 have hne':g ≠ b:=by omega
 have hbl:=yS w (U b o) u g hne'
 refine ⟨g,e1,e2,by rw [World.setCell]; simpa using e3,fun i c hc j x hx=>(yQ (a:=(U g (0 + i * sz + j))) hbl).trans (e4 i c hc j x hx),fun j O=>?_⟩
 exact ⟨by rw [yQ (a:=(U g (0 + j))) hbl]; exact (e5 j O).1,by rw [World.frozen?_of_block (a:=(U g (0 + j))) hbl]; exact (e5 j O).2⟩
theorem Tryz.infoOrder:(Tryz.prog.info? 78).map (fun i=>(i.zero,i.size,i.bytes)) = some (some (.agg (yw 0 0 0 0 0 ⟨#[]⟩).toArray),6,56):=by kernel_rfl
def okI (next:Int) (l:List Od):Bool:=betB next 1 1000000 && decide (l.length ≤ 20) && idsR next 0 l && l.all ordB &&
 (decide ((aY true 1 (zt l 1)).length + (aY false 2 (zt l 2)).length ≤ 8) && !meetB (quOf true (zt l 1)) (quOf false (zt l 2)))
theorem implBookOK_any (next:Int) (v:Value) (l:List Od) (w:World) (hr:RdR Od.vs 6 w v l) (hg:∀ c ∈ l,c.tag.size ≤ maxLen) :
  Calls Tryz.prog 56 #[.agg #[I next,v]] w fun e w'=>e = ym (.bool (okI next l))∧yn w w':=by
 have HR:=M hr
 have HG:=M hg
 obtain ⟨a,cap,rfl,xA,hc⟩:=hr
 have xr:∀ (k:Nat) (c:Od),l[k]? = some c→∃ b off,a = some (U b off)∧b < w.heap.size∧w.rangeAt b (off + k * 6) c.vs:=by
  intro k c hk
  obtain ⟨b,off,Q,E,h3⟩:=hc (by intro h; rw [h] at hk; simp at hk)
  exact ⟨b,off,Q,E,h3 k c hk⟩
 have HC:=M xr
 clear xr hc hg
 have xS:Hid (yn w (w.alloc (A #[I next,.slice a l.length cap] 34))):=fE _ _
 have kD:=zn w [I next,.slice a l.length cap] 34
 have HX:Hid (World.cell? (w.alloc (A #[I next,.slice a l.length cap] 34)) (yq w 0) = some (I next)∧World.cell? (w.alloc (A #[I next,.slice a l.length cap] 34)) (yq w 1) = some (.slice a l.length cap)∧w.heap.size < (w.alloc (A #[I next,.slice a l.length cap] 34)).heap.size):=⟨kD 0 _ rfl,kD 1 _ rfl,by rw [zi]; omega⟩
 clear kD
 cases Q:betB next 1 1000000
 ·go_enter Tryz.func56,Tryz.ntmps56
  go_wp2_with fail
  refine (zI next 1 1000000 _).mono ?_
  rintro e w1 ⟨rfl,rfl⟩
  go_wp2_with fail
  go_ret
  exact ⟨zp (by simp [okI,Q]),H xS⟩
 by_cases E:l.length ≤ 20
 rotate_left
 ·have oI:(20:Int) < l.length:=by omega
  go_enter Tryz.func56,Tryz.ntmps56
  go_wp2_with fail
  refine (zI next 1 1000000 _).mono ?_
  rintro e w1 ⟨rfl,rfl⟩
  go_wp2_with fail
  go_ret
  exact ⟨zp (by simp [okI,Q,E]),H xS⟩
 have oI:¬ ((20:Int) < l.length):=by omega
 cases h3:idsR next 0 l
 ·go_enter Tryz.func56,Tryz.ntmps56
  go_wp2_with fail
  refine (zI next 1 1000000 _).mono ?_
  rintro e w1 ⟨rfl,rfl⟩
  go_wp2_with fail
  refine (idsRise_any next _ l _ (zh (H HR) (H xS) ya)).mono ?_
  rintro e w2 ⟨rfl,xJ⟩
  have xu:=M (fH (H xS) xJ)
  clear xJ
  go_wp2_with fail
  go_ret
  exact ⟨zp (by simp [okI,h3]),H xu⟩
 go_enter Tryz.func56,Tryz.ntmps56
 go_wp2_with fail
 refine (zI next 1 1000000 _).mono ?_
 rintro e w1 ⟨rfl,rfl⟩
 go_wp2_with fail
 refine (idsRise_any next _ l _ (zh (H HR) (H xS) ya)).mono ?_
 rintro e w2 ⟨rfl,xJ⟩
 have xu:=M (fH (H xS) xJ)
 have x0:=(xJ.cell (p:=(yq w 0)) (H HX).2.2).trans (H HX).1
 have x1:=(xJ.cell (p:=(yq w 1)) (H HX).2.2).trans (H HX).2.1
 have hsz2:w.heap.size < w2.heap.size:=yJ (H HX).2.2 xJ.size
 have xH:Hid (w2.cell? (yq w 0) = some (I next)∧w2.cell? (yq w 1) = some (.slice a l.length cap)):=⟨x0,x1⟩
 clear xJ x0
 go_wp2_with fail
 go_loopw [25] (fun iv wr=>∃ (k:Nat),k ≤ l.length∧iv = I k∧Hid (l.all ordB = (l.drop k).all ordB)∧yn w2 wr) (fun iv _=>l.length - (intOf iv).toNat)
 case atStart=>exact ⟨0,Nat.zero_le _,rfl,by simp [Hid],Below.refl _ _⟩
 case round =>
  obtain ⟨k,hk,rfl,D,xk⟩:=hrel
  have HB:=M xk
  clear xk x1
  by_cases xI:k < l.length
  ·obtain ⟨c,ur⟩:∃ c,l[k]? = some c:=⟨_,yH xI⟩
   have ja:l.drop k = c :: l.drop (k + 1):=by
    obtain ⟨Q,rfl⟩:=yG.1 ur
    exact xc Q
   have HI:Hid (l.all ordB = (ordB c && (l.drop (k + 1)).all ordB)):=by
    have:=H D
    rw [ja] at this
    exact this
   obtain ⟨b,off,rfl,Y,V⟩:=H HC k c ur
   obtain ⟨g0,g1,g2,g3,g4,g5⟩:=zA (zc V ((H xu).trans ((H HB).mono (H xu).size)) Y)
   have HS:=M (H HG c (yO ur))
   have uJ:(k:Int) < l.length:=by omega
   have pk:=(H HB).size
   clear ur V Y ja D
   go_wp2_with fail
   refine (orderOK_any c _ (H HS)).mono ?_
   rintro e w3 ⟨rfl,xM⟩
   have xL:=M (((H HB).alloc pk _).trans (xM.mono (by rw [zi]; omega)))
   clear xM
   cases N:ordB c
   ·have HN:Hid (l.all ordB = false):=by
     have:=H HI
     rw [N,Bool.false_and] at this
     exact this
    go_wp2_with fail
    go_ret
    exact ⟨zp (by rw [okI,H HN]; simp),(H xu).trans ((H xL).mono (H xu).size)⟩
   ·have HN:Hid (l.all ordB = (l.drop (k + 1)).all ordB):=by
     have:=H HI
     rw [N,Bool.true_and] at this
     exact this
    go_wp2_with fail
    go_roundw
    case rel=>exact ⟨k + 1,by omega,by go_num,H HN,H xL⟩
    case measure=>simp [intOf]; omega
  ·have hall2:l.all ordB = true:=by
    have h:=H D
    rw [xa (by omega)] at h
    rw [h]; rfl
   have HALL:=M hall2
   clear D hall2
   have y0:=((H HB).cell (p:=(yq w 0)) hsz2).trans (H xH).1
   have y1:=((H HB).cell (p:=(yq w 1)) hsz2).trans (H xH).2
   go_wp2_with fail
   have HRr:=M (zh (zh (H HR) (H xu) ya) (H HB) ya)
   have hwr:w.heap.size < wr.heap.size:=yJ hsz2 (H HB).size
   have HLB:Hid (∀ o' ∈ l,0 ≤ o'.left∧o'.left ≤ 1000000):=fun o' vM=>by
    have:=List.all_eq_true.1 (H HALL) o' vM
    simp [ordB,betB] at this
    omega
   have HY:Hid (wr.cell? (yq w 0) = some (I next)∧wr.cell? (yq w 1) = some (.slice a l.length cap)):=⟨y0,y1⟩
   clear y0 y1
   refine dN (fun x fG W=>∃ v33 v34 v35 v36 v5 v6 b1 b2 p5 p6,fG = { tmps:=#[.agg #[I next,.slice a l.length cap],yp w 0,u2,Z,u4,v5,v6,yp w 0,I next,.bool true,.bool false,.bool false,yp w 1,.slice a l.length cap,I l.length,.bool (decide ((20:Int) < l.length)),.bool (decide ((20:Int) < l.length)),.bool (decide ((20:Int) < l.length)),.agg #[I next,.slice a l.length cap],.bool true,.bool false,.bool (decide ((20:Int) < l.length)),yp w 1,.slice a l.length cap,I l.length,I k,.bool false,u27,u28,u29,u30,u31,u32,v33,v34,v35,v36,Z,Z,Z,Z,Z,Z,Z,Z,Z,Z],defers:=[] }∧RW9 wr (.agg #[I next,.slice a l.length cap]) (zt l 1) (zt l 2) x v33 v34 v35 v36 v5 v6 b1 b2 p5 p6 W) (by kernel_rfl) ?_ ?_ ?_
   ·refine ⟨Z,Z,Z,Z,Z,Z,0,0,0,0,rfl,?_⟩
    refine ⟨⟨rfl,rfl,rfl,Nat.le_refl _,fun _ _=>rfl⟩,?_,?_,?_,?_,?_,?_,?_,?_,?_,?_,?_,?_,?_⟩ <;> simp
   ·rintro x fG W ⟨v33,v34,v35,v36,v5,v6,b1,b2,p5,p6,rfl,K⟩ hx xN
    have q0:=cH xN hx 0 _ rfl (by simp)
    have q2:=cH xN hx 2 _ rfl (by simp)
    have q4:=cH xN hx 4 _ rfl (by simp)
    have q5:=cH xN hx 5 _ rfl (by simp)
    have q1:=cH xN hx 1 _ rfl (by simp [q0])
    have q3:=cH xN hx 3 _ rfl (by simp [q1,q2])
    have q6:=cH xN hx 6 _ rfl (by simp [q0,q1,q2,q3,q4,q5])
    have q7:=cH xN hx 7 _ rfl (by simp [q0,q1,q2,q3,q4,q5,q6])
    obtain ⟨e1,e2⟩:=K.c34 q1
    obtain ⟨e3,e4⟩:=K.c36 q3
    obtain ⟨e5,e6,e7,e8⟩:=K.c5 q4
    obtain ⟨f5,f6,f7,f8⟩:=K.c6 q5
    have e9:=(K.s5 q6).2
    have f9:=(K.s6 q7).2
    have hbW:=K.bel
    subst e1 e3 e5 f5
    have HW:Hid (Tb W b1 (zt l 1)∧Ts W b2 (zt l 2)∧W.rangeAt p5 0 (cR b1)∧W.rangeAt p6 0 (dh b2)∧p5 < W.heap.size∧p6 < W.heap.size∧yn wr W):=⟨e2,e4,e9,f9,e6,f6,hbW⟩
    clear K q0 q1 q2 q3 q4 q5 q6 q7 e2 e4 e6 e7 e8 f6 f7 f8 e9 f9 hbW xN hx
    have n1:(zt l 1).length ≤ 20:=yN (List.length_filter_le _ _) E
    have n2:(zt l 2).length ≤ 20:=yN (List.length_filter_le _ _) E
    obtain ⟨hT1,hT2,r5,r6,hp5,hp6,-⟩:=H HW
    have ua:=M ((H xu).trans (((H HB).trans ((H HW).2.2.2.2.2.2.mono (H HB).size)).mono (H xu).size))
    have je:=M hT1
    have ux:=M hT2
    have vD:=M r5
    have HR6:=M r6
    have hb1s:=zH hT1
    have hb2s:=zH hT2
    clear hT1 hT2 r5 r6
    generalize hL1:(aY true 1 (zt l 1)).length = N1
    generalize hL2:(aY false 2 (zt l 2)).length = N2
    generalize hmt:meetB (quOf true (zt l 1)) (quOf false (zt l 2)) = mt
    have jW:Hid (okI next l = (decide (N1 + N2 ≤ 8) && !mt)):=by
     show okI next l = _
     rw [okI,Q,h3,H HALL,hL1,hL2,hmt,decide_eq_true E]; rfl
    have HLL:Hid ((aY true 1 (zt l 1)).length = N1∧(aY false 2 (zt l 2)).length = N2∧meetB (quOf true (zt l 1)) (quOf false (zt l 2)) = mt):=⟨hL1,hL2,hmt⟩
    clear hL1 hL2 hmt
    have d0:=H vD 0 _ rfl
    have d1:=H vD 1 _ rfl
    have d2:=H vD 2 _ rfl
    have e0:=H HR6 0 _ rfl
    have e1:=H HR6 1 _ rfl
    have e2:=H HR6 2 _ rfl
    rw [Nat.zero_add] at d0 d1 d2 e0 e1 e2
    go_wp2_with fail
    refine (fy b1 b2 1 2 (zt l 1) (zt l 2) W (H je) (H ux) n1 n2).mono ?_
    rw [(H HLL).1,(H HLL).2.1]
    rintro e w4 ⟨rfl,xw⟩
    have xG:=M (fH (H ua) xw)
    have HT14:=M (zu (H je) (xw.block _ hb1s))
    have HT24:=M (zu (H ux) (xw.block _ hb2s))
    have d0:=zc (H vD) xw hp5 0 _ rfl
    have d1:=zc (H vD) xw hp5 1 _ rfl
    have d2:=zc (H vD) xw hp5 2 _ rfl
    have e0:=zc (H HR6) xw hp6 0 _ rfl
    have e1:=zc (H HR6) xw hp6 1 _ rfl
    have e2:=zc (H HR6) xw hp6 2 _ rfl
    rw [Nat.zero_add] at d0 d1 d2 e0 e1 e2
    clear xw
    by_cases h8:N1 + N2 ≤ 8
    ·have h8':(N1:Int) + N2 ≤ 8:=by omega
     have HK:Hid (okI next l = !mt):=by
      have:=H jW
      rw [decide_eq_true h8,Bool.true_and] at this
      exact this
     go_wp2_with fail
     refine (sidesMeet_any b1 b2 1 2 (zt l 1) (zt l 2) w4 (H HT14) (H HT24) n1 n2).mono ?_
     rw [(H HLL).2.2]
     rintro e w5 ⟨rfl,uf⟩
     have ug:=M (fH (H xG) uf)
     clear uf
     go_wp2_with fail
     go_ret
     exact ⟨zp (H HK).symm,H ug⟩
    ·have h8':¬ ((N1:Int) + N2 ≤ 8):=by omega
     have HK:Hid (okI next l = false):=by
      have:=H jW
      rw [decide_eq_false h8,Bool.false_and] at this
      exact this
     go_wp2_with fail
     go_ret
     exact ⟨zp (H HK).symm,H xG⟩
   ·rintro x fG W i o ⟨v33,v34,v35,v36,v5,v6,b1,b2,p5,p6,rfl,K⟩ hx N xq D
    have xt:=M K
    have z0:=(K.bel.cell (p:=(yq w 0)) hwr).trans (H HY).1
    have z1:=(K.bel.cell (p:=(yq w 1)) hwr).trans (H HY).2
    have uR:=M (zh (H HRr) K.bel ya)
    match i,N with
    | 0,N =>
     obtain rfl:=yb N
     rw [if_pos (by rfl)]
     unfold Oper.wp
     clear D K
     go_simp
     exact ⟨_,_,_,_,_,_,⟨rfl,rfl,rfl,rfl,rfl,rfl⟩,_,_,_,_,rw9_0 (H xt)⟩
    | 1,N =>
     obtain rfl:=yb N
     have h0:x[0]? = some true:=D ⟨0,.data⟩ (by simp) rfl
     obtain rfl:=K.c33 h0
     have h6:x[6]? ≠ some true:=fun e=>by have:=(K.s5 e).1.1; rw [xq] at this; cases this
     clear D K
     rw [if_pos (by rfl)];unfold Oper.wp;go_simp
     refine (eX next _ l W (H uR) E (H HLB)).mono ?_
     rintro e w3 ⟨b,rfl,ht,qi,Y⟩
     exact ⟨_,_,_,_,_,_,⟨rfl,rfl,rfl,rfl,rfl,rfl⟩,b,_,_,_,rw9_1 (H xt) h6 Y qi ht⟩
    | 2,N =>
     obtain rfl:=yb N
     rw [if_pos (by rfl)]
     unfold Oper.wp
     clear D K
     go_simp
     exact ⟨_,_,_,_,_,_,⟨rfl,rfl,rfl,rfl,rfl,rfl⟩,_,_,_,_,rw9_2 (H xt)⟩
    | 3,N =>
     obtain rfl:=yb N
     have h22:x[2]? = some true:=D ⟨2,.data⟩ (by simp) rfl
     obtain rfl:=K.c35 h22
     have h7:x[7]? ≠ some true:=fun e=>by have:=(K.s6 e).1.1; rw [xq] at this; cases this
     clear D K
     rw [if_pos (by rfl)];unfold Oper.wp;go_simp
     refine (eE next 2 (by omega) _ l W (H uR) E (H HLB)).mono ?_
     rintro e w3 ⟨b,rfl,ht,qi,Y⟩
     exact ⟨_,_,_,_,_,_,⟨rfl,rfl,rfl,rfl,rfl,rfl⟩,_,b,_,_,rw9_3 (H xt) h7 Y qi ht⟩
    | 4,N =>
     obtain rfl:=yb N
     have h6:x[6]? ≠ some true:=fun e=>by have:=(K.s5 e).1.2; rw [xq] at this; cases this
     clear D K
     rw [if_pos (by rfl)];unfold Oper.wp;go_simp
     exact ⟨_,_,_,_,_,_,⟨rfl,rfl,rfl,rfl,rfl,rfl⟩,_,_,_,_,rw9_4 (H xt) h6 _⟩
    | 5,N =>
     obtain rfl:=yb N
     have h7:x[7]? ≠ some true:=fun e=>by have:=(K.s6 e).1.2; rw [xq] at this; cases this
     clear D K
     rw [if_pos (by rfl)];unfold Oper.wp;go_simp
     exact ⟨_,_,_,_,_,_,⟨rfl,rfl,rfl,rfl,rfl,rfl⟩,_,_,_,_,rw9_5 (H xt) h7 _⟩
    | 6,N =>
     obtain rfl:=yb N
     have k1:x[1]? = some true:=D ⟨1,.data⟩ (by simp) rfl
     have k3:x[3]? = some true:=D ⟨3,.chain⟩ (by simp) rfl
     have k4:x[4]? = some true:=D ⟨4,.data⟩ (by simp) rfl
     have k5:x[5]? = some true:=D ⟨5,.phase⟩ (by simp) rfl
     obtain rfl:=(K.c34 k1).1
     obtain ⟨e5,-,-,e8⟩:=K.c5 k4
     subst e5
     obtain ⟨⟨x0,y0,z0'⟩,⟨x1,y1,z1'⟩,x2,y2,z2'⟩:(∃ v,W.cell? (U p5 0) = some v∧W.frozen? (U p5 0) = false)∧(∃ v,W.cell? (U p5 1) = some v∧W.frozen? (U p5 1) = false)∧(∃ v,W.cell? (U p5 2) = some v∧W.frozen? (U p5 2) = false):=⟨by simpa using cw e8 0 (by omega),by simpa using cw e8 1 (by omega),by simpa using cw e8 2 (by omega)⟩
     have HE:=M (rw9_6 (H xt) k1 k3 k4 k5 (F0:=_) (F1:=_) (F2:=_) rfl)
     clear D K z0 z1 e8
     unfold bK at HE ⊢
     generalize hF0:Value.func (.func 166) #[J b1 0] #[] = F0 at HE ⊢
     generalize hF1:Value.func (.func 167) #[J b1 0] #[] = F1 at HE ⊢
     generalize hF2:Value.func (.func 168) #[J b1 0] #[] = F2 at HE ⊢
     have jl:∀ (xn:World) (o:Nat) (m:Mode),((store (U p5 o) F0 m).run Tryz.prog xn = stored Tryz.prog xn (U p5 o) F0 m)∧((store (U p5 o) F1 m).run Tryz.prog xn = stored Tryz.prog xn (U p5 o) F1 m)∧((store (U p5 o) F2 m).run Tryz.prog xn = stored Tryz.prog xn (U p5 o) F2 m):=fun xn o m=>by
      subst hF0 hF1 hF2
      exact ⟨run_store _ xn _ _ m rfl,run_store _ xn _ _ m rfl,run_store _ xn _ _ m rfl⟩
     have hst0:=fun xn o m=>(jl xn o m).1
     have hst1:=fun xn o m=>(jl xn o m).2.1
     have hst2:=fun xn o m=>(jl xn o m).2.2
     clear jl hF0 hF1 hF2
     rw [if_pos (by rfl)];unfold Oper.wp;go_simp
     exact ⟨_,_,_,_,_,_,⟨rfl,rfl,rfl,rfl,rfl,rfl⟩,_,_,_,_,H HE⟩
    | 7,N =>
     obtain rfl:=yb N
     have k1:x[1]? = some true:=D ⟨1,.phase⟩ (by simp) rfl
     have k3:x[3]? = some true:=D ⟨3,.data⟩ (by simp) rfl
     have k4:x[4]? = some true:=D ⟨4,.phase⟩ (by simp) rfl
     have k5:x[5]? = some true:=D ⟨5,.data⟩ (by simp) rfl
     obtain rfl:=(K.c36 k3).1
     obtain ⟨e5,-,-,e8⟩:=K.c6 k5
     subst e5
     obtain ⟨⟨x0,y0,z0'⟩,⟨x1,y1,z1'⟩,x2,y2,z2'⟩:(∃ v,W.cell? (U p6 0) = some v∧W.frozen? (U p6 0) = false)∧(∃ v,W.cell? (U p6 1) = some v∧W.frozen? (U p6 1) = false)∧(∃ v,W.cell? (U p6 2) = some v∧W.frozen? (U p6 2) = false):=⟨by simpa using cw e8 0 (by omega),by simpa using cw e8 1 (by omega),by simpa using cw e8 2 (by omega)⟩
     have HE:=M (rw9_7 (H xt) k1 k3 k4 k5 (F0:=_) (F1:=_) (F2:=_) rfl)
     clear D K z0 z1 e8
     unfold bL at HE ⊢
     generalize hF0:Value.func (.func 170) #[J b2 0] #[] = F0 at HE ⊢
     generalize hF1:Value.func (.func 171) #[J b2 0] #[] = F1 at HE ⊢
     generalize hF2:Value.func (.func 172) #[J b2 0] #[] = F2 at HE ⊢
     have jl:∀ (xn:World) (o:Nat) (m:Mode),((store (U p6 o) F0 m).run Tryz.prog xn = stored Tryz.prog xn (U p6 o) F0 m)∧((store (U p6 o) F1 m).run Tryz.prog xn = stored Tryz.prog xn (U p6 o) F1 m)∧((store (U p6 o) F2 m).run Tryz.prog xn = stored Tryz.prog xn (U p6 o) F2 m):=fun xn o m=>by
      subst hF0 hF1 hF2
      exact ⟨run_store _ xn _ _ m rfl,run_store _ xn _ _ m rfl,run_store _ xn _ _ m rfl⟩
     have hst0:=fun xn o m=>(jl xn o m).1
     have hst1:=fun xn o m=>(jl xn o m).2.1
     have hst2:=fun xn o m=>(jl xn o m).2.2
     clear jl hF0 hF1 hF2
     rw [if_pos (by rfl)];unfold Oper.wp;go_simp
     exact ⟨_,_,_,_,_,_,⟨rfl,rfl,rfl,rfl,rfl,rfl⟩,_,_,_,_,H HE⟩
    | n + 8,N=>simp at N
def ahdB (a b:Od):Bool:=if a.ticks = b.ticks then decide (a.id < b.id) else (decide (b.ticks < a.ticks) == decide (a.side = 1))
theorem ahd_iff (a b:Od):ahdB a b = true ↔ ahd (decide (a.side = 1)) a b:=by
 unfold ahdB ahd
 by_cases h:a.ticks = b.ticks
 ·rw [if_pos h]
  simp only [xf]
  constructor
  ·exact fun Q=>.inr ⟨h,Q⟩
  ·rintro (Q | Q)
   ·rw [h] at Q; exact absurd Q (bt_irr _ _)
   ·exact Q.2
 ·rw [if_neg h]
  by_cases hs:a.side = 1
  ·simp only [hs,decide_true,beq_true,xf,bt]
   constructor
   ·exact fun Q=>.inl Q
   ·rintro (Q | Q)
    ·exact Q
    ·exact absurd Q.1 h
  ·simp only [hs,decide_false,beq_false,Bool.not_eq_true',decide_eq_false_iff_not,bt]
   constructor
   ·exact fun Q=>.inl (by omega)
   ·rintro (Q | Q)
    ·omega
    ·exact absurd Q.1 h
def FrPre (l:List Od) (sd:Int) (k:Nat) (best:Int):Prop :=
 (best = -1∧∀ j o,j < k→l[j]? = some o→o.side ≠ sd) ∨
 ∃ (i:Nat) (o:Od),best = i∧i < k∧l[i]? = some o∧o.side = sd∧∀ j o',j < k→l[j]? = some o'→o'.side = sd→j ≠ i→ahd (decide (sd = 1)) o o'
theorem frPre_skip {l:List Od} {sd:Int} {k:Nat} {best:Int} {c:Od} (h:FrPre l sd k best) (hc:l[k]? = some c) (hs:c.side ≠ sd):FrPre l sd (k + 1) best:=by
 rcases h with ⟨rfl,h⟩ | ⟨i,o,rfl,Q,E,h3,h4⟩
 ·refine .inl ⟨rfl,fun j o O N=>?_⟩
  by_cases hjk:j = k
  ·subst hjk; rw [hc] at N; obtain rfl:=yb N; exact hs
  ·exact h j o (by omega) N
 ·refine .inr ⟨i,o,rfl,by omega,E,h3,fun j o' O N pD xD=>?_⟩
  by_cases hjk:j = k
  ·subst hjk; rw [hc] at N; obtain rfl:=yb N; exact absurd pD hs
  ·exact h4 j o' (by omega) N pD xD
theorem frPre_first {l:List Od} {sd:Int} {k:Nat} {c:Od} (h:FrPre l sd k (-1)) (hc:l[k]? = some c) (hs:c.side = sd):FrPre l sd (k + 1) k:=by
 rcases h with ⟨_,h⟩ | ⟨i,o,h0,_⟩
 ·refine .inr ⟨k,c,rfl,by omega,hc,hs,fun j o' O N pD xD=>?_⟩
  exact absurd pD (h j o' (by omega) N)
 ·omega
theorem rising_ne {l:List Od} (hr:bC l) {i j:Nat} {a b:Od} (ha:l[i]? = some a) (Y:l[j]? = some b) (xD:i ≠ j):a.id ≠ b.id:=by
 obtain ⟨Q,rfl⟩:=yG.1 ha
 obtain ⟨E,rfl⟩:=yG.1 Y
 have hp:=List.pairwise_iff_getElem.1 hr
 rcases Nat.lt_or_gt_of_ne xD with h | h
 ·have:=hp i j Q E h; omega
 ·have:=hp j i E Q h; omega
theorem frPre_better {l:List Od} {sd:Int} {k i:Nat} {c o:Od} (hr:bC l) (h:FrPre l sd k i) (N:l[i]? = some o) (hc:l[k]? = some c) (hs:c.side = sd) (Y:ahdB c o = true):FrPre l sd (k + 1) k:=by
 rcases h with ⟨h0,h⟩ | ⟨i',o',h0,Q,E,h3,h4⟩
 ·omega
 ·obtain rfl:i = i':=by omega
  rw [N] at E; obtain rfl:=Option.some.inj E
  have hco:ahd (decide (sd = 1)) c o:=by rw [← hs]; exact (ahd_iff c o).1 Y
  refine .inr ⟨k,c,rfl,by omega,hc,hs,fun j o' O vM pD xD=>?_⟩
  by_cases hji:j = i
  ·subst hji; rw [N] at vM; obtain rfl:=yb vM; exact hco
  ·exact ahd_trans hco (h4 j o' (by omega) vM pD hji)
theorem frPre_worse {l:List Od} {sd:Int} {k i:Nat} {c o:Od} (hr:bC l) (h:FrPre l sd k i) (N:l[i]? = some o) (hc:l[k]? = some c) (hs:c.side = sd) (Y:ahdB c o = false):FrPre l sd (k + 1) i:=by
 rcases h with ⟨h0,h⟩ | ⟨i',o',h0,Q,E,h3,h4⟩
 ·omega
 ·obtain rfl:i = i':=by omega
  rw [N] at E; obtain rfl:=Option.some.inj E
  have hnco:¬ ahd (decide (sd = 1)) c o:=by rw [← hs]; intro hh; rw [(ahd_iff c o).2 hh] at Y; cases Y
  have hoc:ahd (decide (sd = 1)) o c:=by
   rcases ahd_total (s:=decide (sd = 1)) (rising_ne hr hc N (by omega)) with hh | hh
   ·exact absurd hh hnco
   ·exact hh
  refine .inr ⟨i,o,rfl,by omega,N,h3,fun j o' O vM pD xD=>?_⟩
  by_cases hjk:j = k
  ·subst hjk; rw [hc] at vM; obtain rfl:=yb vM; exact hoc
  ·exact h4 j o' (by omega) vM pD xD
structure GW (W:World) where
 val:World
 property:W.grownBy val none
theorem gw_ne (W:World):Nonempty (GW W):=⟨⟨W,yR _ _⟩⟩
theorem dO {P:Program} {id:Nat} {h1:Exit→Act→World→Prop} {a:Act} {w W:World} {l:List Oper} (hm:P.follows .mixedOrders = true) (hB:Region.lexB .any l.toArray = true) (hg:W.grownBy w none)
  (h:wpQuiet P l.toArray (fun w'=>∃ u:GW W,w' = u.val) (fun a'=>∀ w',(∃ u:GW W,w' = u.val)→h1 .normal a' w') l a):(Code.region id l.toArray true).wp P h1 a w :=
 wp_region_quiet (C:=fun w'=>∃ u:GW W,w' = u.val) hm hB ⟨⟨{ w with drawn:=w.drawn + 1 },⟨hg.os,hg.tape,hg.output,hg.size,hg.block⟩⟩,rfl⟩ (by simpa using h)
def difB (c y:Od):Bool:=decide (y.side ≠ c.side) || decide (y.ticks ≠ c.ticks)
def cB (c:Od) (cs:List Od):Bool:=cs.all (difB c)
theorem nlev_fresh (l:List Od) (x:Od):nlev (l ++ [x]) = nlev l + (cB x l).toNat:=by
 rw [nlev_snoc]
 congr 1
 by_cases h:∃ y ∈ l,y.side = x.side∧y.ticks = x.ticks
 ·rw [if_pos h]
  have:cB x l = false:=by
   obtain ⟨y,Q,E,h3⟩:=h
   rw [cB,List.all_eq_false]
   exact ⟨y,Q,by simp [difB,E,h3]⟩
  rw [this]; rfl
 ·rw [if_neg h]
  have:cB x l = true:=by
   rw [cB,List.all_eq_true]
   intro y hy
   simp only [difB,ne_eq,Bool.or_eq_true,xf]
   by_cases Q:y.side = x.side
   ·exact .inr fun E=>h ⟨y,hy,Q,E⟩
   ·exact .inl Q
  rw [this]; rfl
end Go.Proofs.YtnphbkgfjanmgaaGreatDoor
