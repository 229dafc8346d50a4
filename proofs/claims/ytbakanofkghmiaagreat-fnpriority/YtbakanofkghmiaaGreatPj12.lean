/-
  How many levels two sides have together, by the program: proved by walking the function.
-/
import Derived.Test.YtbakanofkghmiaaGreatPj11
set_option linter.unusedVariables false
set_option maxHeartbeats 6400000
set_option maxRecDepth 100000
namespace Go.Proofs.YtbakanofkghmiaaGreat
open Go.RowKit
theorem insT_len (s:Bool) (k:Int):∀ T:List Int,(insT s k T).length ≤ T.length + 1
 | []=>by simp [insT]
 | a :: r=>by
  have:=insT_len s k r
  rw [insT]; split
  ·simp
  ·split <;> simp <;> omega
theorem tks_len (s:Bool):∀ seq:List Od,(tks s seq).length ≤ seq.length
 | []=>by simp [tks]
 | o :: r=>by
  have z:=insT_len s o.ticks (tks s r)
  have K:=tks_len s r
  rw [tks]; simp; omega
def backB:Nat→List Oper→Bool
 | _,[]=>true
 | i,o :: r=>o.after.toList.all (fun e=>decide (e.on < i)) && backB (i + 1) r
theorem back_spec:∀ (l:List Oper) (n:Nat),backB n l = true→∀ (i:Nat) (o:Oper),l[i]? = some o→∀ e ∈ o.after,e.on < n + i
 | [],_,_,i,o,h,_,_=>by simp at h
 | a :: r,n,hb,0,o,h,e,he=>by
  simp at h; subst h
  simp only [backB,xb,List.all_eq_true,xc] at hb
  exact hb.1 e (by simpa using he)
 | a :: r,n,hb,i + 1,o,h,e,he=>by
  simp only [backB,xb] at hb
  have:=back_spec r (n + 1) hb.2 i o (by simpa using h) e he
  omega
theorem acyc (l:List Oper) (h:backB 0 l = true):∀ (i:Nat) (o:Oper),l[i]? = some o→∀ e ∈ o.after,e.on < i:=fun i o Y e he=>by
 have:=back_spec l 0 h i o Y e he; omega
def C10 (b1 b2 p5 p6 N1 N2:Nat):Nat→Value→Prop
 | 0,v=>v = I p5 2
 | 1,v=>v = .func (.func 124) #[I b1 0] #[]
 | 2,v=>∃ a c,v = .slice a N1 c
 | 3,v=>v = H N1
 | 4,v=>v = I p6 2
 | 5,v=>v = .func (.func 128) #[I b2 0] #[]
 | 6,v=>∃ a c,v = .slice a N2 c
 | 7,v=>v = H N2
 | 8,v=>v = H ((N1:Int) + N2)
 | 9,v=>v = H ((N1:Int) + N2)
 | _,_=>True
theorem ey (b1 b2:Nat) (sd1 sd2:Int) (s1 s2:List Od) (w:World) (z:aC 176 true w b1 sd1 s1) (K:aC 179 false w b2 sd2 s2) (n1:s1.length ≤ 20) (n2:s2.length ≤ 20) :
  Calls Tryz.prog 39 #[aU b1,aV b2] w fun e w'=>e = yk (H (((aB true sd1 s1).length:Int) + (aB false sd2 s2).length))∧yl w w':=by
 have xR:=zJ z
 have ue:=zJ K
 generalize hL1:(aB true sd1 s1).length = N1
 generalize hL2:(aB false sd2 s2).length = N2
 have hN1:N1 ≤ 20:=by rw [← hL1,aB,List.length_map]; exact yK (tks_len _ _) n1
 have hN2:N2 ≤ 20:=by rw [← hL2,aB,List.length_map]; exact yK (tks_len _ _) n2
 have HLL:Hid ((aB true sd1 s1).length = N1∧(aB false sd2 s2).length = N2):=⟨hL1,hL2⟩
 have xz:=ze w (E (cE b1).toArray 81)
 have xY:((w.alloc (E (cE b1).toArray 81)).alloc (E (cU b2).toArray 81)).heap.size = w.heap.size + 1 + 1:=by rw [ze,xz]
 have r0:=zg w (cE b1) 81
 have r1:=zg (w.alloc (E (cE b1).toArray 81)) (cU b2) 81
 rw [xz] at r1
 have r0':=zb r0 (C:=w.heap.size + 1) ((Below.refl _ _).alloc (by rw [xz]; omega) (E (cU b2).toArray 81)) (by omega)
 have ua:Hid (yl w ((w.alloc (E (cE b1).toArray 81)).alloc (E (cU b2).toArray 81))):=(eD _ _).alloc (by rw [xz]; omega) _
 have pV:=Q r0'
 have vf:=Q r1
 have vK:=Q xY
 have qD:=Q (zt z ((M ua).block _ xR))
 have vh:=Q (zt K ((M ua).block _ ue))
 clear r0 r1 r0' xz xY hL1 hL2 z K
 unfold aU aV
 go_enter Tryz.func39,Tryz.ntmps39
 go_wp2_with fail
 unfold cE cU at ua pV vf vK qD vh
 generalize hW:((w.alloc (E (List.toArray [.func (.func 122) #[I b1 0] #[],.func (.func 123) #[I b1 0] #[],.func (.func 124) #[I b1 0] #[]]) 81)).alloc (E (List.toArray [.func (.func 126) #[I b2 0] #[],.func (.func 127) #[I b2 0] #[],.func (.func 128) #[I b2 0] #[]]) 81)) = W at ua pV vf vK qD vh
 have hb1s:b1 < W.heap.size:=zJ (M qD)
 have hb2s:b2 < W.heap.size:=zJ (M vh)
 have hp5:w.heap.size < W.heap.size:=by rw [M vK]; omega
 have hp6:w.heap.size + 1 < W.heap.size:=by rw [M vK]; omega
 refine dl (RGrow W (fun f=>{ tmps:=#[aU b1,aV b2,ym w 0,I (w.heap.size + 1) 0,f 9,f 0,f 1,f 2,f 3,f 4,f 5,f 6,f 7,f 8],defers:=[] }) (C10 b1 b2 w.heap.size (w.heap.size + 1) N1 N2)) (by kernel_rfl) ?_ ?_ ?_
 ·refine ⟨upd (fun _=>Z) 9 (H 0),rfl,?_,fun j L=>by rw [yF] at L; split at L <;> simp at L⟩
  rw [← hW]
  exact ⟨rfl,rfl,rfl,Nat.le_refl _,fun _ _=>rfl⟩
 ·rintro x hR V ⟨f,rfl,xe,hC⟩ hx xK
  have hall9:=aK xK hx (acyc _ (by kernel_rfl)) 9 (by simp)
  have e9:f 9 = H ((N1:Int) + N2):=hC 9 hall9
  simp only [e9]
  have xo:=Q xe
  clear hC hx xK hall9 e9 xe
  go_wp2_with fail
  go_ret
  exact ⟨rfl,(M ua).trans ((M xo).mono (M ua).size)⟩
 ·rintro x hR V i o ⟨f,rfl,xe,hC⟩ hx Y xq D
  have xo:=Q xe
  have HC:=Q hC
  match i,Y with
  | 0,Y =>
   obtain rfl:=hD Y
   clear D hC xe
   rw [if_pos (by rfl)];unfold Oper.wp;go_simp
   exact ⟨upd f 0 (ym w 2),by simp [upd],M xo,zz (M HC) rfl⟩
  | 1,Y =>
   obtain rfl:=hD Y
   have g0:C10 b1 b2 w.heap.size (w.heap.size + 1) N1 N2 0 (f 0):=hC 0 (yc D 0 rfl)
   simp only [C10] at g0
   have d2:=zb (M pV) xe hp5 2 _ rfl
   clear D hC xe
   rw [if_pos (by rfl)];unfold Oper.wp;go_simp
   exact ⟨upd f 1 (.func (.func 124) #[I b1 0] #[]),by simp [upd,g0],M xo,zz (M HC) rfl⟩
  | 2,Y =>
   obtain rfl:=hD Y
   have g1:C10 b1 b2 w.heap.size (w.heap.size + 1) N1 N2 1 (f 1):=hC 1 (yc D 1 rfl)
   simp only [C10] at g1
   have ht:=zt (M qD) (xe.block _ hb1s)
   have HTV:=Q ht
   clear D hC xe ht
   rw [if_pos (by rfl)];unfold Oper.wp;go_simp
   refine (levels_b b1 sd1 s1 V (M HTV) n1).mono ?_
   rintro e w4 ⟨v4,rfl,⟨al,cp,rfl,-,-⟩,xy⟩
   rw [(M HLL).1]
   exact ⟨upd f 2 (.slice al N1 cp),by simp [upd,g1],(M xo).trans (xy.mono (M xo).size),zz (M HC) ⟨al,cp,rfl⟩⟩
  | 3,Y =>
   obtain rfl:=hD Y
   have g2:C10 b1 b2 w.heap.size (w.heap.size + 1) N1 N2 2 (f 2):=hC 2 (yc D 2 rfl)
   obtain ⟨al,cp,g2⟩:=g2
   clear D hC xe
   rw [if_pos (by rfl)];unfold Oper.wp;go_simp
   exact ⟨upd f 3 (H N1),by simp [upd,g2],M xo,zz (M HC) rfl⟩
  | 4,Y =>
   obtain rfl:=hD Y
   clear D hC xe
   rw [if_pos (by rfl)];unfold Oper.wp;go_simp
   exact ⟨upd f 4 (I (w.heap.size + 1) 2),by simp [upd],M xo,zz (M HC) rfl⟩
  | 5,Y =>
   obtain rfl:=hD Y
   have g4:C10 b1 b2 w.heap.size (w.heap.size + 1) N1 N2 4 (f 4):=hC 4 (yc D 4 rfl)
   simp only [C10] at g4
   have d2:=zb (M vf) xe hp6 2 _ rfl
   clear D hC xe
   rw [if_pos (by rfl)];unfold Oper.wp;go_simp
   exact ⟨upd f 5 (.func (.func 128) #[I b2 0] #[]),by simp [upd,g4],M xo,zz (M HC) rfl⟩
  | 6,Y =>
   obtain rfl:=hD Y
   have g5:C10 b1 b2 w.heap.size (w.heap.size + 1) N1 N2 5 (f 5):=hC 5 (yc D 5 rfl)
   simp only [C10] at g5
   have ht:=zt (M vh) (xe.block _ hb2s)
   have HTV:=Q ht
   clear D hC xe ht
   rw [if_pos (by rfl)];unfold Oper.wp;go_simp
   refine (levels_s b2 sd2 s2 V (M HTV) n2).mono ?_
   rintro e w4 ⟨v4,rfl,⟨al,cp,rfl,-,-⟩,xy⟩
   rw [(M HLL).2]
   exact ⟨upd f 6 (.slice al N2 cp),by simp [upd,g5],(M xo).trans (xy.mono (M xo).size),zz (M HC) ⟨al,cp,rfl⟩⟩
  | 7,Y =>
   obtain rfl:=hD Y
   have g6:C10 b1 b2 w.heap.size (w.heap.size + 1) N1 N2 6 (f 6):=hC 6 (yc D 6 rfl)
   obtain ⟨al,cp,g6⟩:=g6
   clear D hC xe
   rw [if_pos (by rfl)];unfold Oper.wp;go_simp
   exact ⟨upd f 7 (H N2),by simp [upd,g6],M xo,zz (M HC) rfl⟩
  | 8,Y =>
   obtain rfl:=hD Y
   have g3:C10 b1 b2 w.heap.size (w.heap.size + 1) N1 N2 3 (f 3):=hC 3 (yc D 3 rfl)
   have g7:C10 b1 b2 w.heap.size (w.heap.size + 1) N1 N2 7 (f 7):=hC 7 (yc D 7 rfl)
   simp only [C10] at g3
   simp only [C10] at g7
   have hwr8:IntKind.i64.wrap ((N1:Int) + N2) = (N1:Int) + N2:=by rw [IntKind.wrap_i64]; omega
   clear D hC xe
   rw [if_pos (by rfl)];unfold Oper.wp;go_simp
   exact ⟨upd f 8 (H ((N1:Int) + N2)),by simp [upd,g3,g7],M xo,zz (M HC) rfl⟩
  | 9,Y =>
   obtain rfl:=hD Y
   have g8:C10 b1 b2 w.heap.size (w.heap.size + 1) N1 N2 8 (f 8):=hC 8 (yc D 8 rfl)
   simp only [C10] at g8
   clear D hC xe
   rw [if_pos (by rfl)];unfold Oper.wp;go_simp
   exact ⟨upd f 9 (H ((N1:Int) + N2)),by simp [upd,g8],M xo,zz (M HC) rfl⟩
  | n + 10,Y=>simp at Y
def ofC (c:Cm):Ev:=⟨0,c,0,0,0,0,0⟩
def aA (c d:Cm):Bool:=(c.k == d.k) && ((c.s == d.s) && ((c.t == d.t) && ((c.l == d.l) && ((c.q == d.q) && ((c.i == d.i) && ((fbit c.p == fbit d.p) && decide (c.g.toList = d.g.toList)))))))
theorem eqVl (c d:Cm) (W:World):(binOp .eql 187 (vlV (ofC c)) (vlV (ofC d))).run Tryz.prog W = .ok (.bool (aA c d)) W:=by
 unfold vlV ofC
 simp only
 go_simp
 unfold aA
 by_cases z:c.k = d.k
 ·by_cases K:c.s = d.s
  ·by_cases h3:c.t = d.t
   ·by_cases h4:c.l = d.l
    ·by_cases h5:c.q = d.q
     ·by_cases h6:c.i = d.i
      ·by_cases h7:fbit c.p = fbit d.p
       ·by_cases h8:c.g.toList = d.g.toList
        ·simp [z,K,h3,h4,h5,h6,h7,h8]
        ·simp [z,K,h3,h4,h5,h6,h7,h8]
       ·have h7':¬ ((fbit c.p:Int) = fbit d.p):=by omega
        have h7b:(fbit c.p == fbit d.p) = false:=by simpa using h7
        rw [if_neg h7',h7b]
        simp [z,K,h3,h4,h5,h6]
      ·simp [z,K,h3,h4,h5,h6]
     ·simp [z,K,h3,h4,h5]
    ·simp [z,K,h3,h4]
   ·simp [z,K,h3]
  ·simp [z,K]
 ·simp [z]
theorem eqGd (c d:Cm) (W:World):(eqGuard .eql 187 (.tmp 7) (.tmp 10) (vlV (ofC c)) (vlV (ofC d))).run Tryz.prog W = .ok () W:=by
 unfold vlV ofC
 simp only
 go_simp
def CS (c d:Cm):Nat→Value→Prop
 | 0,v=>v = cmV c
 | 1,v=>v = evV (ofC c)
 | 2,v=>v = vlV (ofC c)
 | 3,v=>v = cmV d
 | 4,v=>v = evV (ofC d)
 | 5,v=>v = vlV (ofC d)
 | 6,v=>v = .bool (aA c d)
 | 7,v=>v = .bool (aA c d)
 | _,_=>True
theorem dX (c d:Cm) (w:World) :
  Calls Tryz.prog 107 #[cmV c,cmV d] w fun e w'=>e = yk (.bool (aA c d))∧yl w w':=by
 have xz:=ze w (Obj.cells c.vs.toArray 43)
 have xY:((w.alloc (Obj.cells c.vs.toArray 43)).alloc (Obj.cells d.vs.toArray 43)).heap.size = w.heap.size + 1 + 1:=by rw [ze,xz]
 have r0:=zb (zg w c.vs 43) (C:=w.heap.size + 1) ((Below.refl _ _).alloc (by rw [xz]; omega) (Obj.cells d.vs.toArray 43)) (by omega)
 have r1:=zg (w.alloc (Obj.cells c.vs.toArray 43)) d.vs 43
 rw [xz] at r1
 have ua:Hid (yl w ((w.alloc (Obj.cells c.vs.toArray 43)).alloc (Obj.cells d.vs.toArray 43))):=(eD _ _).alloc (by rw [xz]; omega) _
 have HX:Hid (_∧_):=⟨r0,r1⟩
 have vK:=Q xY
 clear r0 r1 xz xY
 unfold cmV
 go_enter Tryz.func107,Tryz.ntmps107
 go_wp2_with fail
 unfold Cm.vs at ua HX vK
 generalize hW:((w.alloc (E (List.toArray (yu c.k c.s c.t c.l c.q c.i c.p c.g)) 43)).alloc (E (List.toArray (yu d.k d.s d.t d.l d.q d.i d.p d.g)) 43)) = W at ua HX vK
 refine dl (RGrow W (fun f=>{ tmps:=#[cmV c,cmV d,ym w 0,I (w.heap.size + 1) 0,f 7,f 0,f 1,f 2,f 3,f 4,f 5,f 6],defers:=[] }) (CS c d)) (by kernel_rfl) ?_ ?_ ?_
 ·refine ⟨upd (fun _=>Z) 7 (.bool false),rfl,?_,fun j L=>by rw [yF] at L; split at L <;> simp at L⟩
  rw [← hW]
  exact ⟨rfl,rfl,rfl,Nat.le_refl _,fun _ _=>rfl⟩
 ·rintro x hR V ⟨f,rfl,xe,hC⟩ hx xK
  have hall7:=aK xK hx (acyc _ (by kernel_rfl)) 7 (by simp)
  have e7:f 7 = .bool (aA c d):=hC 7 hall7
  simp only [e7]
  have xo:=Q xe
  clear hC hx xK hall7 e7 xe
  go_wp2_with fail
  go_ret
  exact ⟨rfl,(M ua).trans ((M xo).mono (M ua).size)⟩
 ·rintro x hR V i o ⟨f,rfl,xe,hC⟩ hx Y xq D
  have xo:=Q xe
  have HC:=Q hC
  have hw0:w.heap.size < W.heap.size:=by rw [M vK]; omega
  have hw1:w.heap.size + 1 < W.heap.size:=by rw [M vK]; omega
  match i,Y with
  | 0,Y =>
   obtain rfl:=hD Y
   obtain ⟨x0,x1,x2,x3,x4,x5,x6,x7⟩:=da (c:=c) (zb (M HX).1 xe hw0)
   simp only [Nat.zero_add] at x0 x1 x2 x3 x4 x5 x6 x7
   clear D hC xe
   rw [if_pos (by rfl)];unfold Oper.wp;go_simp
   exact ⟨upd f 0 (cmV c),by simp [upd,cmV],M xo,zz (M HC) rfl⟩
  | 1,Y =>
   obtain rfl:=hD Y
   have g0:f 0 = cmV c:=hC 0 (yc D 0 rfl)
   clear D hC xe
   rw [if_pos (by rfl)]
   unfold Oper.wp
   unfold cmV at g0
   go_simp
   exact ⟨upd f 1 (evV (ofC c)),by simp [upd,evV,ofC,cmV,g0],M xo,zz (M HC) rfl⟩
  | 2,Y =>
   obtain rfl:=hD Y
   have g1:f 1 = evV (ofC c):=hC 1 (yc D 1 rfl)
   clear D hC xe
   rw [if_pos (by rfl)];unfold Oper.wp;go_simp
   refine (valueOf_any (ofC c) V).mono ?_
   rintro e w4 ⟨rfl,xy⟩
   exact ⟨upd f 2 (vlV (ofC c)),by simp [upd,g1],(M xo).trans (xy.mono (M xo).size),zz (M HC) rfl⟩
  | 3,Y =>
   obtain rfl:=hD Y
   obtain ⟨x0,x1,x2,x3,x4,x5,x6,x7⟩:=da (c:=d) (zb (M HX).2 xe hw1)
   simp only [Nat.zero_add] at x0 x1 x2 x3 x4 x5 x6 x7
   clear D hC xe
   rw [if_pos (by rfl)];unfold Oper.wp;go_simp
   exact ⟨upd f 3 (cmV d),by simp [upd,cmV],M xo,zz (M HC) rfl⟩
  | 4,Y =>
   obtain rfl:=hD Y
   have g0:f 3 = cmV d:=hC 3 (yc D 3 rfl)
   clear D hC xe
   rw [if_pos (by rfl)]
   unfold Oper.wp
   unfold cmV at g0
   go_simp
   exact ⟨upd f 4 (evV (ofC d)),by simp [upd,evV,ofC,cmV,g0],M xo,zz (M HC) rfl⟩
  | 5,Y =>
   obtain rfl:=hD Y
   have g1:f 4 = evV (ofC d):=hC 4 (yc D 4 rfl)
   clear D hC xe
   rw [if_pos (by rfl)];unfold Oper.wp;go_simp
   refine (valueOf_any (ofC d) V).mono ?_
   rintro e w4 ⟨rfl,xy⟩
   exact ⟨upd f 5 (vlV (ofC d)),by simp [upd,g1],(M xo).trans (xy.mono (M xo).size),zz (M HC) rfl⟩
  | 6,Y =>
   obtain rfl:=hD Y
   have g2:f 2 = vlV (ofC c):=hC 2 (yc D 2 rfl)
   have g5:f 5 = vlV (ofC d):=hC 5 (yc D 5 rfl)
   have he:=eqVl c d V
   have hg:=eqGd c d V
   clear D hC xe
   rw [if_pos (by rfl)];unfold Oper.wp;go_simp
   exact ⟨upd f 6 (.bool (aA c d)),by simp [upd,g2,g5],M xo,zz (M HC) rfl⟩
  | 7,Y =>
   obtain rfl:=hD Y
   have g6:f 6 = .bool (aA c d):=hC 6 (yc D 6 rfl)
   clear D hC xe
   rw [if_pos (by rfl)];unfold Oper.wp;go_simp
   exact ⟨upd f 7 (.bool (aA c d)),by simp [upd,g6],M xo,zz (M HC) rfl⟩
  | n + 8,Y=>simp at Y
theorem bJ {w:World} {b o n:Nat} (h:w.there b o n) (j:Nat) (L:j < n):∃ v,w.cell? (J b (o + j)) = some v∧w.frozen? (J b (o + j)) = false:=by
 obtain ⟨v,hv⟩:=Option.isSome_iff_exists.1 (h j L).1
 exact ⟨v,hv,(h j L).2⟩
theorem there6 {w:World} {b o:Nat} (h:w.there b o 6) :
  (∃ v,w.cell? (J b o) = some v∧w.frozen? (J b o) = false)∧(∃ v,w.cell? (J b (o + 1)) = some v∧w.frozen? (J b (o + 1)) = false) ∧
  (∃ v,w.cell? (J b (o + 2)) = some v∧w.frozen? (J b (o + 2)) = false)∧(∃ v,w.cell? (J b (o + 3)) = some v∧w.frozen? (J b (o + 3)) = false) ∧
  (∃ v,w.cell? (J b (o + 4)) = some v∧w.frozen? (J b (o + 4)) = false)∧(∃ v,w.cell? (J b (o + 5)) = some v∧w.frozen? (J b (o + 5)) = false) :=
 ⟨bJ h 0 (by omega),bJ h 1 (by omega),bJ h 2 (by omega),bJ h 3 (by omega),bJ h 4 (by omega),bJ h 5 (by omega)⟩
theorem takeR {α:Type} (l:List α) (k:Nat) (c:α) (h:l[k]? = some c):l.take (k + 1) = l.take k ++ [c]:=by
 obtain ⟨hk,rfl⟩:=yD.1 h
 rw [List.take_succ_eq_append_getElem hk]
theorem Tryz.infoOrder:(Tryz.prog.info? 49).map (fun i=>(i.zero,i.size,i.bytes)) = some (some (.agg (yt 0 0 0 0 0 ⟨#[]⟩).toArray),6,56):=by kernel_rfl
end Go.Proofs.YtbakanofkghmiaaGreat
