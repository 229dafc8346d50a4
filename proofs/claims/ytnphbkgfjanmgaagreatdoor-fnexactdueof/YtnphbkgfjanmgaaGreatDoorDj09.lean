/-
  Commands held against each other, by the program: proved by walking the function.
-/
import Derived.Test.YtnphbkgfjanmgaaGreatDoorDj08
set_option linter.unusedVariables false
set_option maxHeartbeats 6400000
set_option maxRecDepth 100000
namespace Go.Proofs.YtnphbkgfjanmgaaGreatDoor
open Go.RowKit
def ofC (c:Cm):Ev:=⟨0,c,0,0,0,0,0⟩
def aT (c d:Cm):Bool:=(c.k == d.k) && ((c.s == d.s) && ((c.t == d.t) && ((c.l == d.l) && ((c.q == d.q) && ((c.i == d.i) && ((fbit c.p == fbit d.p) && decide (c.g.toList = d.g.toList)))))))
theorem eqVl (c d:Cm) (W:World):(binOp .eql 119 (vlV (ofC c)) (vlV (ofC d))).run Tryz.prog W = .ok (.bool (aT c d)) W:=by
 unfold vlV ofC
 simp only
 go_simp
 unfold aT
 by_cases N:c.k = d.k
 ·by_cases Y:c.s = d.s
  ·by_cases h3:c.t = d.t
   ·by_cases h4:c.l = d.l
    ·by_cases h5:c.q = d.q
     ·by_cases h6:c.i = d.i
      ·by_cases h7:fbit c.p = fbit d.p
       ·by_cases h8:c.g.toList = d.g.toList
        ·simp [N,Y,h3,h4,h5,h6,h7,h8]
        ·simp [N,Y,h3,h4,h5,h6,h7,h8]
       ·have h7':¬ ((fbit c.p:Int) = fbit d.p):=by omega
        have h7b:(fbit c.p == fbit d.p) = false:=by simpa using h7
        rw [if_neg h7',h7b]
        simp [N,Y,h3,h4,h5,h6]
      ·simp [N,Y,h3,h4,h5,h6]
     ·simp [N,Y,h3,h4,h5]
    ·simp [N,Y,h3,h4]
   ·simp [N,Y,h3]
  ·simp [N,Y]
 ·simp [N]
theorem eqGd (c d:Cm) (W:World):(eqGuard .eql 119 (.tmp 7) (.tmp 10) (vlV (ofC c)) (vlV (ofC d))).run Tryz.prog W = .ok () W:=by
 unfold vlV ofC
 simp only
 go_simp
def CS (c d:Cm):Nat→Value→Prop
 | 0,v=>v = cmV c
 | 1,v=>v = evV (ofC c)
 | 2,v=>v = vlV (ofC c)
 | 3,v=>v = cmV d
 | 4,v=>v = evV (ofC d)
 | 5,v=>v = vlV (ofC d)
 | 6,v=>v = .bool (aT c d)
 | 7,v=>v = .bool (aT c d)
 | _,_=>True
theorem ey (c d:Cm) (w:World) :
  Calls Tryz.prog 176 #[cmV c,cmV d] w fun e w'=>e = yn (.bool (aT c d))∧yp w w':=by
 have xK:=zj w (Obj.cells c.vs.toArray 50)
 have uf:((w.alloc (Obj.cells c.vs.toArray 50)).alloc (Obj.cells d.vs.toArray 50)).heap.size = w.heap.size + 1 + 1:=by rw [zj,xK]
 have r0:=zc (zn w c.vs 50) (C:=w.heap.size + 1) ((Below.refl _ _).alloc (by rw [xK]; omega) (Obj.cells d.vs.toArray 50)) (by omega)
 have r1:=zn (w.alloc (Obj.cells c.vs.toArray 50)) d.vs 50
 rw [xK] at r1
 have xW:Hid (yp w ((w.alloc (Obj.cells c.vs.toArray 50)).alloc (Obj.cells d.vs.toArray 50))):=(fw _ _).alloc (by rw [xK]; omega) _
 have HX:Hid (_∧_):=⟨r0,r1⟩
 have qf:=H uf
 clear r0 r1 xK uf
 unfold cmV
 go_enter Tryz.func176,Tryz.ntmps176
 go_wp2_with fail
 unfold Cm.vs at xW HX qf
 generalize hW:((w.alloc (L (List.toArray (yy c.k c.s c.t c.l c.q c.i c.p c.g)) 50)).alloc (L (List.toArray (yy d.k d.s d.t d.l d.q d.i d.p d.g)) 50)) = W at xW HX qf
 refine dI (RGrow W (fun f=>{ tmps:=#[cmV c,cmV d,yq w 0,J (w.heap.size + 1) 0,f 7,f 0,f 1,f 2,f 3,f 4,f 5,f 6],defers:=[] }) (CS c d)) (by kernel_rfl) ?_ ?_ ?_
 ·refine ⟨upd (fun _=>M) 7 (.bool false),rfl,?_,fun j V=>by rw [yJ] at V; split at V <;> simp at V⟩
  rw [← hW]
  exact ⟨rfl,rfl,rfl,Nat.le_refl _,fun _ _=>rfl⟩
 ·rintro x cs hj ⟨f,rfl,xl,hC⟩ hx xO
  have hall7:=zN xO hx (acyc _ (by kernel_rfl)) 7 (by simp)
  have e7:f 7 = .bool (aT c d):=hC 7 hall7
  simp only [e7]
  have xE:=H xl
  clear hC hx xO hall7 e7 xl
  go_wp2_with fail
  go_ret
  exact ⟨rfl,(U xW).trans ((U xE).mono (U xW).size)⟩
 ·rintro x cs hj i o ⟨f,rfl,xl,hC⟩ hx Z xr D
  have xE:=H xl
  have HC:=H hC
  have hw0:w.heap.size < W.heap.size:=by rw [U qf]; omega
  have qx:w.heap.size + 1 < W.heap.size:=by rw [U qf]; omega
  match i,Z with
  | 0,Z =>
   obtain rfl:=yc Z
   obtain ⟨x0,x1,x2,x3,x4,x5,x6,x7⟩:=cm_cells (c:=c) (zc (U HX).1 xl hw0)
   simp only [Nat.zero_add] at x0 x1 x2 x3 x4 x5 x6 x7
   clear D hC xl
   rw [if_pos (by rfl)];unfold Oper.wp;go_simp
   exact ⟨upd f 0 (cmV c),by simp [upd,cmV],U xE,zC (U HC) rfl⟩
  | 1,Z =>
   obtain rfl:=yc Z
   have g0:f 0 = cmV c:=hC 0 (yf D 0 rfl)
   clear D hC xl
   rw [if_pos (by rfl)]
   unfold Oper.wp
   unfold cmV at g0
   go_simp
   exact ⟨upd f 1 (evV (ofC c)),by simp [upd,evV,ofC,cmV,g0],U xE,zC (U HC) rfl⟩
  | 2,Z =>
   obtain rfl:=yc Z
   have g1:f 1 = evV (ofC c):=hC 1 (yf D 1 rfl)
   clear D hC xl
   rw [if_pos (by rfl)];unfold Oper.wp;go_simp
   refine (eC (ofC c) hj).mono ?_
   rintro e w4 ⟨rfl,xy⟩
   exact ⟨upd f 2 (vlV (ofC c)),by simp [upd,g1],(U xE).trans (xy.mono (U xE).size),zC (U HC) rfl⟩
  | 3,Z =>
   obtain rfl:=yc Z
   obtain ⟨x0,x1,x2,x3,x4,x5,x6,x7⟩:=cm_cells (c:=d) (zc (U HX).2 xl qx)
   simp only [Nat.zero_add] at x0 x1 x2 x3 x4 x5 x6 x7
   clear D hC xl
   rw [if_pos (by rfl)];unfold Oper.wp;go_simp
   exact ⟨upd f 3 (cmV d),by simp [upd,cmV],U xE,zC (U HC) rfl⟩
  | 4,Z =>
   obtain rfl:=yc Z
   have g0:f 3 = cmV d:=hC 3 (yf D 3 rfl)
   clear D hC xl
   rw [if_pos (by rfl)]
   unfold Oper.wp
   unfold cmV at g0
   go_simp
   exact ⟨upd f 4 (evV (ofC d)),by simp [upd,evV,ofC,cmV,g0],U xE,zC (U HC) rfl⟩
  | 5,Z =>
   obtain rfl:=yc Z
   have g1:f 4 = evV (ofC d):=hC 4 (yf D 4 rfl)
   clear D hC xl
   rw [if_pos (by rfl)];unfold Oper.wp;go_simp
   refine (eC (ofC d) hj).mono ?_
   rintro e w4 ⟨rfl,xy⟩
   exact ⟨upd f 5 (vlV (ofC d)),by simp [upd,g1],(U xE).trans (xy.mono (U xE).size),zC (U HC) rfl⟩
  | 6,Z =>
   obtain rfl:=yc Z
   have g2:f 2 = vlV (ofC c):=hC 2 (yf D 2 rfl)
   have g5:f 5 = vlV (ofC d):=hC 5 (yf D 5 rfl)
   have he:=eqVl c d hj
   have hg:=eqGd c d hj
   clear D hC xl
   rw [if_pos (by rfl)];unfold Oper.wp;go_simp
   exact ⟨upd f 6 (.bool (aT c d)),by simp [upd,g2,g5],U xE,zC (U HC) rfl⟩
  | 7,Z =>
   obtain rfl:=yc Z
   have g6:f 6 = .bool (aT c d):=hC 6 (yf D 6 rfl)
   clear D hC xl
   rw [if_pos (by rfl)];unfold Oper.wp;go_simp
   exact ⟨upd f 7 (.bool (aT c d)),by simp [upd,g6],U xE,zC (U HC) rfl⟩
  | n + 8,Z=>simp at Z
theorem bX {w:World} {b o n:Nat} (h:w.there b o n) (j:Nat) (V:j < n):∃ v,w.cell? (Q b (o + j)) = some v∧w.frozen? (Q b (o + j)) = false:=by
 obtain ⟨v,hv⟩:=Option.isSome_iff_exists.1 (h j V).1
 exact ⟨v,hv,(h j V).2⟩
theorem there6 {w:World} {b o:Nat} (h:w.there b o 6) :
  (∃ v,w.cell? (Q b o) = some v∧w.frozen? (Q b o) = false)∧(∃ v,w.cell? (Q b (o + 1)) = some v∧w.frozen? (Q b (o + 1)) = false) ∧
  (∃ v,w.cell? (Q b (o + 2)) = some v∧w.frozen? (Q b (o + 2)) = false)∧(∃ v,w.cell? (Q b (o + 3)) = some v∧w.frozen? (Q b (o + 3)) = false) ∧
  (∃ v,w.cell? (Q b (o + 4)) = some v∧w.frozen? (Q b (o + 4)) = false)∧(∃ v,w.cell? (Q b (o + 5)) = some v∧w.frozen? (Q b (o + 5)) = false) :=
 ⟨bX h 0 (by omega),bX h 1 (by omega),bX h 2 (by omega),bX h 3 (by omega),bX h 4 (by omega),bX h 5 (by omega)⟩
theorem takeR {α:Type} (l:List α) (k:Nat) (c:α) (h:l[k]? = some c):l.take (k + 1) = l.take k ++ [c]:=by
 obtain ⟨hk,rfl⟩:=yH.1 h
 rw [List.take_succ_eq_append_getElem hk]
theorem ownR_base {α:Type} {f:α→List Value} {sz B B':Nat} {w:World} {v:Value} {l:List α} (h:OwnR f sz B w v l) (hB:B' ≤ B):OwnR f sz B' w v l:=by
 obtain ⟨a,cap,rfl,hl,h⟩:=h
 refine ⟨a,cap,rfl,hl,fun xD=>?_⟩
 obtain ⟨g,e1,e2,e3⟩:=h xD
 exact ⟨g,e1,yO hB e2,e3⟩
theorem ownR_set {α:Type} {f:α→List Value} {sz B:Nat} {w:World} {v:Value} {l:List α} (h:OwnR f sz B w v l) {b:Nat} (E:b < B) (o:Nat) (u:Value):OwnR f sz B (w.setCell (Q b o) u) v l:=by
 obtain ⟨a,cap,rfl,hl,h⟩:=h
 refine ⟨a,cap,rfl,hl,fun xD=>?_⟩
 obtain ⟨g,e1,e2,e3,e4,e5⟩:=h xD
 have hne':g ≠ b:=by omega
 have hbl:=yT w (Q b o) u g hne'
 refine ⟨g,e1,e2,by rw [World.setCell]; simpa using e3,fun i c hc j x hx=>(yR (a:=(Q g (0 + i * sz + j))) hbl).trans (e4 i c hc j x hx),fun j V=>?_⟩
 exact ⟨by rw [yR (a:=(Q g (0 + j))) hbl]; exact (e5 j V).1,by rw [World.frozen?_of_block (a:=(Q g (0 + j))) hbl]; exact (e5 j V).2⟩
theorem Tryz.infoOrder:(Tryz.prog.info? 78).map (fun i=>(i.zero,i.size,i.bytes)) = some (some (.agg (yx 0 0 0 0 0 ⟨#[]⟩).toArray),6,56):=by kernel_rfl
def okI (next:Int) (l:List Od):Bool:=betB next 1 1000000 && decide (l.length ≤ 20) && idsR next 0 l && l.all ordB &&
 (decide ((aU true 1 (zt l 1)).length + (aU false 2 (zt l 2)).length ≤ 8) && !meetB (quOf true (zt l 1)) (quOf false (zt l 2)))
theorem implBookOK_any (next:Int) (v:Value) (l:List Od) (w:World) (hr:RdR Od.vs 6 w v l) (hg:∀ c ∈ l,c.tag.size ≤ maxLen) :
  Calls Tryz.prog 56 #[.agg #[I next,v]] w fun e w'=>e = yn (.bool (okI next l))∧yp w w':=by
 have HR:=H hr
 have HG:=H hg
 obtain ⟨a,cap,rfl,xA,hc⟩:=hr
 have xt:∀ (k:Nat) (c:Od),l[k]? = some c→∃ b off,a = some (Q b off)∧b < w.heap.size∧w.rangeAt b (off + k * 6) c.vs:=by
  intro k c hk
  obtain ⟨b,off,N,Y,h3⟩:=hc (by intro h; rw [h] at hk; simp at hk)
  exact ⟨b,off,N,Y,h3 k c hk⟩
 have HC:=H xt
 clear xt hc hg
 have xW:Hid (yp w (w.alloc (L #[I next,.slice a l.length cap] 34))):=fw _ _
 have kA:=zn w [I next,.slice a l.length cap] 34
 have HX:Hid (World.cell? (w.alloc (L #[I next,.slice a l.length cap] 34)) (yr w 0) = some (I next)∧World.cell? (w.alloc (L #[I next,.slice a l.length cap] 34)) (yr w 1) = some (.slice a l.length cap)∧w.heap.size < (w.alloc (L #[I next,.slice a l.length cap] 34)).heap.size):=⟨kA 0 _ rfl,kA 1 _ rfl,by rw [zj]; omega⟩
 clear kA
 cases N:betB next 1 1000000
 ·go_enter Tryz.func56,Tryz.ntmps56
  go_wp2_with fail
  refine (zI next 1 1000000 _).mono ?_
  rintro e w1 ⟨rfl,rfl⟩
  go_wp2_with fail
  go_ret
  exact ⟨zp (by simp [okI,N]),U xW⟩
 by_cases Y:l.length ≤ 20
 rotate_left
 ·have oE:(20:Int) < l.length:=by omega
  go_enter Tryz.func56,Tryz.ntmps56
  go_wp2_with fail
  refine (zI next 1 1000000 _).mono ?_
  rintro e w1 ⟨rfl,rfl⟩
  go_wp2_with fail
  go_ret
  exact ⟨zp (by simp [okI,N,Y]),U xW⟩
 have oE:¬ ((20:Int) < l.length):=by omega
 cases h3:idsR next 0 l
 ·go_enter Tryz.func56,Tryz.ntmps56
  go_wp2_with fail
  refine (zI next 1 1000000 _).mono ?_
  rintro e w1 ⟨rfl,rfl⟩
  go_wp2_with fail
  refine (idsRise_any next _ l _ (zh (U HR) (U xW) yb)).mono ?_
  rintro e w2 ⟨rfl,xL⟩
  have xw:=H (fC (U xW) xL)
  clear xL
  go_wp2_with fail
  go_ret
  exact ⟨zp (by simp [okI,h3]),U xw⟩
 go_enter Tryz.func56,Tryz.ntmps56
 go_wp2_with fail
 refine (zI next 1 1000000 _).mono ?_
 rintro e w1 ⟨rfl,rfl⟩
 go_wp2_with fail
 refine (idsRise_any next _ l _ (zh (U HR) (U xW) yb)).mono ?_
 rintro e w2 ⟨rfl,xL⟩
 have xw:=H (fC (U xW) xL)
 have x0:=(xL.cell (p:=(yr w 0)) (U HX).2.2).trans (U HX).1
 have x1:=(xL.cell (p:=(yr w 1)) (U HX).2.2).trans (U HX).2.1
 have hsz2:w.heap.size < w2.heap.size:=yK (U HX).2.2 xL.size
 have xI:Hid (w2.cell? (yr w 0) = some (I next)∧w2.cell? (yr w 1) = some (.slice a l.length cap)):=⟨x0,x1⟩
 clear xL x0
 go_wp2_with fail
 go_loopw [25] (fun iv wr=>∃ (k:Nat),k ≤ l.length∧iv = I k∧Hid (l.all ordB = (l.drop k).all ordB)∧yp w2 wr) (fun iv _=>l.length - (intOf iv).toNat)
 case atStart=>exact ⟨0,Nat.zero_le _,rfl,by simp [Hid],Below.refl _ _⟩
 case round =>
  obtain ⟨k,hk,rfl,D,xl⟩:=hrel
  have HB:=H xl
  clear xl x1
  by_cases xJ:k < l.length
  ·obtain ⟨c,ur⟩:∃ c,l[k]? = some c:=⟨_,yI xJ⟩
   have qZ:l.drop k = c :: l.drop (k + 1):=by
    obtain ⟨N,rfl⟩:=yH.1 ur
    exact xd N
   have HI:Hid (l.all ordB = (ordB c && (l.drop (k + 1)).all ordB)):=by
    have:=U D
    rw [qZ] at this
    exact this
   obtain ⟨b,off,rfl,E,X⟩:=U HC k c ur
   obtain ⟨g0,g1,g2,g3,g4,g5⟩:=zB (zc X ((U xw).trans ((U HB).mono (U xw).size)) E)
   have HS:=H (U HG c (yP ur))
   have uF:(k:Int) < l.length:=by omega
   have pf:=(U HB).size
   clear ur X E qZ D
   go_wp2_with fail
   refine (orderOK_any c _ (U HS)).mono ?_
   rintro e w3 ⟨rfl,xQ⟩
   have xN:=H (((U HB).alloc pf _).trans (xQ.mono (by rw [zj]; omega)))
   clear xQ
   cases Z:ordB c
   ·have HN:Hid (l.all ordB = false):=by
     have:=U HI
     rw [Z,Bool.false_and] at this
     exact this
    go_wp2_with fail
    go_ret
    exact ⟨zp (by rw [okI,U HN]; simp),(U xw).trans ((U xN).mono (U xw).size)⟩
   ·have HN:Hid (l.all ordB = (l.drop (k + 1)).all ordB):=by
     have:=U HI
     rw [Z,Bool.true_and] at this
     exact this
    go_wp2_with fail
    go_roundw
    case rel=>exact ⟨k + 1,by omega,by go_num,U HN,U xN⟩
    case measure=>simp [intOf]; omega
  ·have hall2:l.all ordB = true:=by
    have h:=U D
    rw [xb (by omega)] at h
    rw [h]; rfl
   have HALL:=H hall2
   clear D hall2
   have y0:=((U HB).cell (p:=(yr w 0)) hsz2).trans (U xI).1
   have y1:=((U HB).cell (p:=(yr w 1)) hsz2).trans (U xI).2
   go_wp2_with fail
   have HRr:=H (zh (zh (U HR) (U xw) yb) (U HB) yb)
   have hwr:w.heap.size < wr.heap.size:=yK hsz2 (U HB).size
   have HLB:Hid (∀ o' ∈ l,0 ≤ o'.left∧o'.left ≤ 1000000):=fun o' vM=>by
    have:=List.all_eq_true.1 (U HALL) o' vM
    simp [ordB,betB] at this
    omega
   have HY:Hid (wr.cell? (yr w 0) = some (I next)∧wr.cell? (yr w 1) = some (.slice a l.length cap)):=⟨y0,y1⟩
   clear y0 y1
   refine dI (fun x cs W=>∃ v33 v34 v35 v36 v5 v6 b1 b2 p5 p6,cs = { tmps:=#[.agg #[I next,.slice a l.length cap],yq w 0,u2,M,u4,v5,v6,yq w 0,I next,.bool true,.bool false,.bool false,yq w 1,.slice a l.length cap,I l.length,.bool (decide ((20:Int) < l.length)),.bool (decide ((20:Int) < l.length)),.bool (decide ((20:Int) < l.length)),.agg #[I next,.slice a l.length cap],.bool true,.bool false,.bool (decide ((20:Int) < l.length)),yq w 1,.slice a l.length cap,I l.length,I k,.bool false,u27,u28,u29,u30,u31,u32,v33,v34,v35,v36,M,M,M,M,M,M,M,M,M,M],defers:=[] }∧RW9 wr (.agg #[I next,.slice a l.length cap]) (zt l 1) (zt l 2) x v33 v34 v35 v36 v5 v6 b1 b2 p5 p6 W) (by kernel_rfl) ?_ ?_ ?_
   ·refine ⟨M,M,M,M,M,M,0,0,0,0,rfl,?_⟩
    refine ⟨⟨rfl,rfl,rfl,Nat.le_refl _,fun _ _=>rfl⟩,?_,?_,?_,?_,?_,?_,?_,?_,?_,?_,?_,?_,?_⟩ <;> simp
   ·rintro x cs W ⟨v33,v34,v35,v36,v5,v6,b1,b2,p5,p6,rfl,R⟩ hx xO
    have q0:=cA xO hx 0 _ rfl (by simp)
    have q2:=cA xO hx 2 _ rfl (by simp)
    have q4:=cA xO hx 4 _ rfl (by simp)
    have q5:=cA xO hx 5 _ rfl (by simp)
    have q1:=cA xO hx 1 _ rfl (by simp [q0])
    have q3:=cA xO hx 3 _ rfl (by simp [q1,q2])
    have q6:=cA xO hx 6 _ rfl (by simp [q0,q1,q2,q3,q4,q5])
    have q7:=cA xO hx 7 _ rfl (by simp [q0,q1,q2,q3,q4,q5,q6])
    obtain ⟨e1,e2⟩:=R.c34 q1
    obtain ⟨e3,e4⟩:=R.c36 q3
    obtain ⟨e5,e6,e7,e8⟩:=R.c5 q4
    obtain ⟨f5,f6,f7,f8⟩:=R.c6 q5
    have e9:=(R.s5 q6).2
    have f9:=(R.s6 q7).2
    have hbW:=R.bel
    subst e1 e3 e5 f5
    have HW:Hid (Tb W b1 (zt l 1)∧Ts W b2 (zt l 2)∧W.rangeAt p5 0 (cK b1)∧W.rangeAt p6 0 (cU b2)∧p5 < W.heap.size∧p6 < W.heap.size∧yp wr W):=⟨e2,e4,e9,f9,e6,f6,hbW⟩
    clear R q0 q1 q2 q3 q4 q5 q6 q7 e2 e4 e6 e7 e8 f6 f7 f8 e9 f9 hbW xO hx
    have n1:(zt l 1).length ≤ 20:=yO (List.length_filter_le _ _) Y
    have n2:(zt l 2).length ≤ 20:=yO (List.length_filter_le _ _) Y
    obtain ⟨hT1,hT2,r5,r6,hp5,hp6,-⟩:=U HW
    have ub:=H ((U xw).trans (((U HB).trans ((U HW).2.2.2.2.2.2.mono (U HB).size)).mono (U xw).size))
    have jd:=H hT1
    have ux:=H hT2
    have vD:=H r5
    have HR6:=H r6
    have hb1s:=zH hT1
    have hb2s:=zH hT2
    clear hT1 hT2 r5 r6
    generalize hL1:(aU true 1 (zt l 1)).length = N1
    generalize hL2:(aU false 2 (zt l 2)).length = N2
    generalize hmt:meetB (quOf true (zt l 1)) (quOf false (zt l 2)) = mt
    have HOK:Hid (okI next l = (decide (N1 + N2 ≤ 8) && !mt)):=by
     show okI next l = _
     rw [okI,N,h3,U HALL,hL1,hL2,hmt,decide_eq_true Y]; rfl
    have HLL:Hid ((aU true 1 (zt l 1)).length = N1∧(aU false 2 (zt l 2)).length = N2∧meetB (quOf true (zt l 1)) (quOf false (zt l 2)) = mt):=⟨hL1,hL2,hmt⟩
    clear hL1 hL2 hmt
    have d0:=U vD 0 _ rfl
    have d1:=U vD 1 _ rfl
    have d2:=U vD 2 _ rfl
    have e0:=U HR6 0 _ rfl
    have e1:=U HR6 1 _ rfl
    have e2:=U HR6 2 _ rfl
    rw [Nat.zero_add] at d0 d1 d2 e0 e1 e2
    go_wp2_with fail
    refine (fq b1 b2 1 2 (zt l 1) (zt l 2) W (U jd) (U ux) n1 n2).mono ?_
    rw [(U HLL).1,(U HLL).2.1]
    rintro e w4 ⟨rfl,xy⟩
    have xH:=H (fC (U ub) xy)
    have HT14:=H (zu (U jd) (xy.block _ hb1s))
    have HT24:=H (zu (U ux) (xy.block _ hb2s))
    have d0:=zc (U vD) xy hp5 0 _ rfl
    have d1:=zc (U vD) xy hp5 1 _ rfl
    have d2:=zc (U vD) xy hp5 2 _ rfl
    have e0:=zc (U HR6) xy hp6 0 _ rfl
    have e1:=zc (U HR6) xy hp6 1 _ rfl
    have e2:=zc (U HR6) xy hp6 2 _ rfl
    rw [Nat.zero_add] at d0 d1 d2 e0 e1 e2
    clear xy
    by_cases h8:N1 + N2 ≤ 8
    ·have h8':(N1:Int) + N2 ≤ 8:=by omega
     have HK:Hid (okI next l = !mt):=by
      have:=U HOK
      rw [decide_eq_true h8,Bool.true_and] at this
      exact this
     go_wp2_with fail
     refine (sidesMeet_any b1 b2 1 2 (zt l 1) (zt l 2) w4 (U HT14) (U HT24) n1 n2).mono ?_
     rw [(U HLL).2.2]
     rintro e w5 ⟨rfl,uh⟩
     have uj:=H (fC (U xH) uh)
     clear uh
     go_wp2_with fail
     go_ret
     exact ⟨zp (U HK).symm,U uj⟩
    ·have h8':¬ ((N1:Int) + N2 ≤ 8):=by omega
     have HK:Hid (okI next l = false):=by
      have:=U HOK
      rw [decide_eq_false h8,Bool.false_and] at this
      exact this
     go_wp2_with fail
     go_ret
     exact ⟨zp (U HK).symm,U xH⟩
   ·rintro x cs W i o ⟨v33,v34,v35,v36,v5,v6,b1,b2,p5,p6,rfl,R⟩ hx Z xr D
    have xu:=H R
    have z0:=(R.bel.cell (p:=(yr w 0)) hwr).trans (U HY).1
    have z1:=(R.bel.cell (p:=(yr w 1)) hwr).trans (U HY).2
    have uN:=H (zh (U HRr) R.bel yb)
    match i,Z with
    | 0,Z =>
     obtain rfl:=yc Z
     rw [if_pos (by rfl)]
     unfold Oper.wp
     clear D R
     go_simp
     exact ⟨_,_,_,_,_,_,⟨rfl,rfl,rfl,rfl,rfl,rfl⟩,_,_,_,_,rw9_0 (U xu)⟩
    | 1,Z =>
     obtain rfl:=yc Z
     have h0:x[0]? = some true:=D ⟨0,.data⟩ (by simp) rfl
     obtain rfl:=R.c33 h0
     have h6:x[6]? ≠ some true:=fun e=>by have:=(R.s5 e).1.1; rw [xr] at this; cases this
     clear D R
     rw [if_pos (by rfl)];unfold Oper.wp;go_simp
     refine (eP next _ l W (U uN) Y (U HLB)).mono ?_
     rintro e w3 ⟨b,rfl,ht,qj,E⟩
     exact ⟨_,_,_,_,_,_,⟨rfl,rfl,rfl,rfl,rfl,rfl⟩,b,_,_,_,rw9_1 (U xu) h6 E qj ht⟩
    | 2,Z =>
     obtain rfl:=yc Z
     rw [if_pos (by rfl)]
     unfold Oper.wp
     clear D R
     go_simp
     exact ⟨_,_,_,_,_,_,⟨rfl,rfl,rfl,rfl,rfl,rfl⟩,_,_,_,_,rw9_2 (U xu)⟩
    | 3,Z =>
     obtain rfl:=yc Z
     have h22:x[2]? = some true:=D ⟨2,.data⟩ (by simp) rfl
     obtain rfl:=R.c35 h22
     have h7:x[7]? ≠ some true:=fun e=>by have:=(R.s6 e).1.1; rw [xr] at this; cases this
     clear D R
     rw [if_pos (by rfl)];unfold Oper.wp;go_simp
     refine (ez next 2 (by omega) _ l W (U uN) Y (U HLB)).mono ?_
     rintro e w3 ⟨b,rfl,ht,qj,E⟩
     exact ⟨_,_,_,_,_,_,⟨rfl,rfl,rfl,rfl,rfl,rfl⟩,_,b,_,_,rw9_3 (U xu) h7 E qj ht⟩
    | 4,Z =>
     obtain rfl:=yc Z
     have h6:x[6]? ≠ some true:=fun e=>by have:=(R.s5 e).1.2; rw [xr] at this; cases this
     clear D R
     rw [if_pos (by rfl)];unfold Oper.wp;go_simp
     exact ⟨_,_,_,_,_,_,⟨rfl,rfl,rfl,rfl,rfl,rfl⟩,_,_,_,_,rw9_4 (U xu) h6 _⟩
    | 5,Z =>
     obtain rfl:=yc Z
     have h7:x[7]? ≠ some true:=fun e=>by have:=(R.s6 e).1.2; rw [xr] at this; cases this
     clear D R
     rw [if_pos (by rfl)];unfold Oper.wp;go_simp
     exact ⟨_,_,_,_,_,_,⟨rfl,rfl,rfl,rfl,rfl,rfl⟩,_,_,_,_,rw9_5 (U xu) h7 _⟩
    | 6,Z =>
     obtain rfl:=yc Z
     have k1:x[1]? = some true:=D ⟨1,.data⟩ (by simp) rfl
     have k3:x[3]? = some true:=D ⟨3,.chain⟩ (by simp) rfl
     have k4:x[4]? = some true:=D ⟨4,.data⟩ (by simp) rfl
     have k5:x[5]? = some true:=D ⟨5,.phase⟩ (by simp) rfl
     obtain rfl:=(R.c34 k1).1
     obtain ⟨e5,-,-,e8⟩:=R.c5 k4
     subst e5
     obtain ⟨⟨x0,y0,z0'⟩,⟨x1,y1,z1'⟩,x2,y2,z2'⟩:(∃ v,W.cell? (Q p5 0) = some v∧W.frozen? (Q p5 0) = false)∧(∃ v,W.cell? (Q p5 1) = some v∧W.frozen? (Q p5 1) = false)∧(∃ v,W.cell? (Q p5 2) = some v∧W.frozen? (Q p5 2) = false):=⟨by simpa using bX e8 0 (by omega),by simpa using bX e8 1 (by omega),by simpa using bX e8 2 (by omega)⟩
     have HE:=H (rw9_6 (U xu) k1 k3 k4 k5 (F0:=_) (F1:=_) (F2:=_) rfl)
     clear D R z0 z1 e8
     unfold bE at HE ⊢
     generalize hF0:Value.func (.func 166) #[J b1 0] #[] = F0 at HE ⊢
     generalize hF1:Value.func (.func 167) #[J b1 0] #[] = F1 at HE ⊢
     generalize hF2:Value.func (.func 168) #[J b1 0] #[] = F2 at HE ⊢
     have ji:∀ (hj:World) (o:Nat) (m:Mode),((store (Q p5 o) F0 m).run Tryz.prog hj = stored Tryz.prog hj (Q p5 o) F0 m)∧((store (Q p5 o) F1 m).run Tryz.prog hj = stored Tryz.prog hj (Q p5 o) F1 m)∧((store (Q p5 o) F2 m).run Tryz.prog hj = stored Tryz.prog hj (Q p5 o) F2 m):=fun hj o m=>by
      subst hF0 hF1 hF2
      exact ⟨run_store _ hj _ _ m rfl,run_store _ hj _ _ m rfl,run_store _ hj _ _ m rfl⟩
     have hst0:=fun hj o m=>(ji hj o m).1
     have hst1:=fun hj o m=>(ji hj o m).2.1
     have hst2:=fun hj o m=>(ji hj o m).2.2
     clear ji hF0 hF1 hF2
     rw [if_pos (by rfl)];unfold Oper.wp;go_simp
     exact ⟨_,_,_,_,_,_,⟨rfl,rfl,rfl,rfl,rfl,rfl⟩,_,_,_,_,U HE⟩
    | 7,Z =>
     obtain rfl:=yc Z
     have k1:x[1]? = some true:=D ⟨1,.phase⟩ (by simp) rfl
     have k3:x[3]? = some true:=D ⟨3,.data⟩ (by simp) rfl
     have k4:x[4]? = some true:=D ⟨4,.phase⟩ (by simp) rfl
     have k5:x[5]? = some true:=D ⟨5,.data⟩ (by simp) rfl
     obtain rfl:=(R.c36 k3).1
     obtain ⟨e5,-,-,e8⟩:=R.c6 k5
     subst e5
     obtain ⟨⟨x0,y0,z0'⟩,⟨x1,y1,z1'⟩,x2,y2,z2'⟩:(∃ v,W.cell? (Q p6 0) = some v∧W.frozen? (Q p6 0) = false)∧(∃ v,W.cell? (Q p6 1) = some v∧W.frozen? (Q p6 1) = false)∧(∃ v,W.cell? (Q p6 2) = some v∧W.frozen? (Q p6 2) = false):=⟨by simpa using bX e8 0 (by omega),by simpa using bX e8 1 (by omega),by simpa using bX e8 2 (by omega)⟩
     have HE:=H (rw9_7 (U xu) k1 k3 k4 k5 (F0:=_) (F1:=_) (F2:=_) rfl)
     clear D R z0 z1 e8
     unfold bF at HE ⊢
     generalize hF0:Value.func (.func 170) #[J b2 0] #[] = F0 at HE ⊢
     generalize hF1:Value.func (.func 171) #[J b2 0] #[] = F1 at HE ⊢
     generalize hF2:Value.func (.func 172) #[J b2 0] #[] = F2 at HE ⊢
     have ji:∀ (hj:World) (o:Nat) (m:Mode),((store (Q p6 o) F0 m).run Tryz.prog hj = stored Tryz.prog hj (Q p6 o) F0 m)∧((store (Q p6 o) F1 m).run Tryz.prog hj = stored Tryz.prog hj (Q p6 o) F1 m)∧((store (Q p6 o) F2 m).run Tryz.prog hj = stored Tryz.prog hj (Q p6 o) F2 m):=fun hj o m=>by
      subst hF0 hF1 hF2
      exact ⟨run_store _ hj _ _ m rfl,run_store _ hj _ _ m rfl,run_store _ hj _ _ m rfl⟩
     have hst0:=fun hj o m=>(ji hj o m).1
     have hst1:=fun hj o m=>(ji hj o m).2.1
     have hst2:=fun hj o m=>(ji hj o m).2.2
     clear ji hF0 hF1 hF2
     rw [if_pos (by rfl)];unfold Oper.wp;go_simp
     exact ⟨_,_,_,_,_,_,⟨rfl,rfl,rfl,rfl,rfl,rfl⟩,_,_,_,_,U HE⟩
    | n + 8,Z=>simp at Z
def ahdB (a b:Od):Bool:=if a.ticks = b.ticks then decide (a.id < b.id) else (decide (b.ticks < a.ticks) == decide (a.side = 1))
theorem ahd_iff (a b:Od):ahdB a b = true ↔ ahd (decide (a.side = 1)) a b:=by
 unfold ahdB ahd
 by_cases h:a.ticks = b.ticks
 ·rw [if_pos h]
  simp only [xg]
  constructor
  ·exact fun N=>.inr ⟨h,N⟩
  ·rintro (N | N)
   ·rw [h] at N; exact absurd N (bt_irr _ _)
   ·exact N.2
 ·rw [if_neg h]
  by_cases hs:a.side = 1
  ·simp only [hs,decide_true,beq_true,xg,bt]
   constructor
   ·exact fun N=>.inl N
   ·rintro (N | N)
    ·exact N
    ·exact absurd N.1 h
  ·simp only [hs,decide_false,beq_false,Bool.not_eq_true',decide_eq_false_iff_not,bt]
   constructor
   ·exact fun N=>.inl (by omega)
   ·rintro (N | N)
    ·omega
    ·exact absurd N.1 h
def FrPre (l:List Od) (sd:Int) (k:Nat) (best:Int):Prop :=
 (best = -1∧∀ j o,j < k→l[j]? = some o→o.side ≠ sd) ∨
 ∃ (i:Nat) (o:Od),best = i∧i < k∧l[i]? = some o∧o.side = sd∧∀ j o',j < k→l[j]? = some o'→o'.side = sd→j ≠ i→ahd (decide (sd = 1)) o o'
theorem frPre_skip {l:List Od} {sd:Int} {k:Nat} {best:Int} {c:Od} (h:FrPre l sd k best) (hc:l[k]? = some c) (hs:c.side ≠ sd):FrPre l sd (k + 1) best:=by
 rcases h with ⟨rfl,h⟩ | ⟨i,o,rfl,N,Y,h3,h4⟩
 ·refine .inl ⟨rfl,fun j o V Z=>?_⟩
  by_cases hjk:j = k
  ·subst hjk; rw [hc] at Z; obtain rfl:=yc Z; exact hs
  ·exact h j o (by omega) Z
 ·refine .inr ⟨i,o,rfl,by omega,Y,h3,fun j o' V Z pz xD=>?_⟩
  by_cases hjk:j = k
  ·subst hjk; rw [hc] at Z; obtain rfl:=yc Z; exact absurd pz hs
  ·exact h4 j o' (by omega) Z pz xD
theorem frPre_first {l:List Od} {sd:Int} {k:Nat} {c:Od} (h:FrPre l sd k (-1)) (hc:l[k]? = some c) (hs:c.side = sd):FrPre l sd (k + 1) k:=by
 rcases h with ⟨_,h⟩ | ⟨i,o,h0,_⟩
 ·refine .inr ⟨k,c,rfl,by omega,hc,hs,fun j o' V Z pz xD=>?_⟩
  exact absurd pz (h j o' (by omega) Z)
 ·omega
theorem rising_ne {l:List Od} (hr:bu l) {i j:Nat} {a b:Od} (ha:l[i]? = some a) (E:l[j]? = some b) (xD:i ≠ j):a.id ≠ b.id:=by
 obtain ⟨N,rfl⟩:=yH.1 ha
 obtain ⟨Y,rfl⟩:=yH.1 E
 have hp:=List.pairwise_iff_getElem.1 hr
 rcases Nat.lt_or_gt_of_ne xD with h | h
 ·have:=hp i j N Y h; omega
 ·have:=hp j i Y N h; omega
theorem frPre_better {l:List Od} {sd:Int} {k i:Nat} {c o:Od} (hr:bu l) (h:FrPre l sd k i) (Z:l[i]? = some o) (hc:l[k]? = some c) (hs:c.side = sd) (E:ahdB c o = true):FrPre l sd (k + 1) k:=by
 rcases h with ⟨h0,h⟩ | ⟨i',o',h0,N,Y,h3,h4⟩
 ·omega
 ·obtain rfl:i = i':=by omega
  rw [Z] at Y; obtain rfl:=Option.some.inj Y
  have hco:ahd (decide (sd = 1)) c o:=by rw [← hs]; exact (ahd_iff c o).1 E
  refine .inr ⟨k,c,rfl,by omega,hc,hs,fun j o' V vM pz xD=>?_⟩
  by_cases hji:j = i
  ·subst hji; rw [Z] at vM; obtain rfl:=yc vM; exact hco
  ·exact ahd_trans hco (h4 j o' (by omega) vM pz hji)
theorem frPre_worse {l:List Od} {sd:Int} {k i:Nat} {c o:Od} (hr:bu l) (h:FrPre l sd k i) (Z:l[i]? = some o) (hc:l[k]? = some c) (hs:c.side = sd) (E:ahdB c o = false):FrPre l sd (k + 1) i:=by
 rcases h with ⟨h0,h⟩ | ⟨i',o',h0,N,Y,h3,h4⟩
 ·omega
 ·obtain rfl:i = i':=by omega
  rw [Z] at Y; obtain rfl:=Option.some.inj Y
  have hnco:¬ ahd (decide (sd = 1)) c o:=by rw [← hs]; intro hh; rw [(ahd_iff c o).2 hh] at E; cases E
  have hoc:ahd (decide (sd = 1)) o c:=by
   rcases ahd_total (s:=decide (sd = 1)) (rising_ne hr hc Z (by omega)) with hh | hh
   ·exact absurd hh hnco
   ·exact hh
  refine .inr ⟨i,o,rfl,by omega,Z,h3,fun j o' V vM pz xD=>?_⟩
  by_cases hjk:j = k
  ·subst hjk; rw [hc] at vM; obtain rfl:=yc vM; exact hoc
  ·exact h4 j o' (by omega) vM pz xD
structure GW (W:World) where
 val:World
 property:W.grownBy val none
theorem gw_ne (W:World):Nonempty (GW W):=⟨⟨W,yS _ _⟩⟩
theorem dJ {P:Program} {id:Nat} {ya:Exit→Act→World→Prop} {a:Act} {w W:World} {l:List Oper} (hm:P.follows .mixedOrders = true) (hB:Region.lexB .any l.toArray = true) (hg:W.grownBy w none)
  (h:wpQuiet P l.toArray (fun w'=>∃ u:GW W,w' = u.val) (fun a'=>∀ w',(∃ u:GW W,w' = u.val)→ya .normal a' w') l a):(Code.region id l.toArray true).wp P ya a w :=
 wp_region_quiet (C:=fun w'=>∃ u:GW W,w' = u.val) hm hB ⟨⟨{ w with drawn:=w.drawn + 1 },⟨hg.os,hg.tape,hg.output,hg.size,hg.block⟩⟩,rfl⟩ (by simpa using h)
def difB (c y:Od):Bool:=decide (y.side ≠ c.side) || decide (y.ticks ≠ c.ticks)
def ch (c:Od) (fy:List Od):Bool:=fy.all (difB c)
theorem nlev_fresh (l:List Od) (x:Od):nlev (l ++ [x]) = nlev l + (ch x l).toNat:=by
 rw [nlev_snoc]
 congr 1
 by_cases h:∃ y ∈ l,y.side = x.side∧y.ticks = x.ticks
 ·rw [if_pos h]
  have:ch x l = false:=by
   obtain ⟨y,N,Y,h3⟩:=h
   rw [ch,List.all_eq_false]
   exact ⟨y,N,by simp [difB,Y,h3]⟩
  rw [this]; rfl
 ·rw [if_neg h]
  have:ch x l = true:=by
   rw [ch,List.all_eq_true]
   intro y hy
   simp only [difB,ne_eq,Bool.or_eq_true,xg]
   by_cases N:y.side = x.side
   ·exact .inr fun Y=>h ⟨y,hy,N,Y⟩
   ·exact .inl N
  rw [this]; rfl
end Go.Proofs.YtnphbkgfjanmgaaGreatDoor
