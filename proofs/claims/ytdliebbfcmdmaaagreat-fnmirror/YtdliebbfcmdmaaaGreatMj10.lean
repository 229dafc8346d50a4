/-
  How many levels two sides have together, by the program: proved by walking the function.
-/
import Derived.Test.YtdliebbfcmdmaaaGreatMj09
set_option linter.unusedVariables false
set_option maxHeartbeats 6400000
set_option maxRecDepth 100000
namespace Go.Proofs.YtdliebbfcmdmaaaGreat
open Go.RowKit
theorem insT_len (s:Bool) (k:Int):∀ T:List Int,(insT s k T).length ≤ T.length + 1
 | []=>by simp [insT]
 | a :: r=>by
  have:=insT_len s k r
  rw [insT]; split
  ·simp
  ·split <;> simp <;> omega
theorem tks_len (s:Bool):∀ seq:List Od,(tks s seq).length ≤ seq.length
 | []=>by simp [tks]
 | o :: r=>by
  have Q:=insT_len s o.ticks (tks s r)
  have N:=tks_len s r
  rw [tks]; simp; omega
def backB:Nat→List Oper→Bool
 | _,[]=>true
 | i,o :: r=>o.after.toList.all (fun e=>decide (e.on < i)) && backB (i + 1) r
theorem back_spec:∀ (l:List Oper) (n:Nat),backB n l = true→∀ (i:Nat) (o:Oper),l[i]? = some o→∀ e ∈ o.after,e.on < n + i
 | [],_,_,i,o,h,_,_=>by simp at h
 | a :: r,n,L,0,o,h,e,he=>by
  simp at h; subst h
  simp only [backB,xe,List.all_eq_true,xh] at L
  exact L.1 e (by simpa using he)
 | a :: r,n,L,i + 1,o,h,e,he=>by
  simp only [backB,xe] at L
  have:=back_spec r (n + 1) L.2 i o (by simpa using h) e he
  omega
theorem acyc (l:List Oper) (h:backB 0 l = true):∀ (i:Nat) (o:Oper),l[i]? = some o→∀ e ∈ o.after,e.on < i:=fun i o Z e he=>by
 have:=back_spec l 0 h i o Z e he; omega
def C10 (b1 b2 p5 p6 N1 N2:Nat):Nat→Value→Prop
 | 0,v=>v = I p5 2
 | 1,v=>v = .func (.func 110) #[I b1 0] #[]
 | 2,v=>∃ a c,v = .slice a N1 c
 | 3,v=>v = H N1
 | 4,v=>v = I p6 2
 | 5,v=>v = .func (.func 114) #[I b2 0] #[]
 | 6,v=>∃ a c,v = .slice a N2 c
 | 7,v=>v = H N2
 | 8,v=>v = H ((N1:Int) + N2)
 | 9,v=>v = H ((N1:Int) + N2)
 | _,_=>True
theorem countLevels_any (b1 b2:Nat) (sd1 sd2:Int) (s1 s2:List Od) (w:World) (Q:aG 164 true w b1 sd1 s1) (N:aG 166 false w b2 sd2 s2) (n1:s1.length ≤ 20) (n2:s2.length ≤ 20) :
  Calls Tryz.prog 107 #[bJ b1,bK b2] w fun e w'=>e = ym (H (((aE true sd1 s1).length:Int) + (aE false sd2 s2).length))∧yn w w':=by
 have xX:=aX Q
 have xZ:=aX N
 generalize hL1:(aE true sd1 s1).length = N1
 generalize hL2:(aE false sd2 s2).length = N2
 have hN1:N1 ≤ 20:=by rw [← hL1,aE,List.length_map]; exact yN (tks_len _ _) n1
 have hN2:N2 ≤ 20:=by rw [← hL2,aE,List.length_map]; exact yN (tks_len _ _) n2
 have HLL:Hid ((aE true sd1 s1).length = N1∧(aE false sd2 s2).length = N2):=⟨hL1,hL2⟩
 have xA:=ze w (E (sideL_b b1).toArray 135)
 have uc:((w.alloc (E (sideL_b b1).toArray 135)).alloc (E (sideL_s b2).toArray 135)).heap.size = w.heap.size + 1 + 1:=by rw [ze,xA]
 have r0:=zg w (sideL_b b1) 135
 have r1:=zg (w.alloc (E (sideL_b b1).toArray 135)) (sideL_s b2) 135
 rw [xA] at r1
 have r0':=zb r0 (C:=w.heap.size + 1) ((Below.refl _ _).alloc (by rw [xA]; omega) (E (sideL_s b2).toArray 135)) (by omega)
 have vj:Hid (yn w ((w.alloc (E (sideL_b b1).toArray 135)).alloc (E (sideL_s b2).toArray 135))):=(ed _ _).alloc (by rw [xA]; omega) _
 have HR5:=Y r0'
 have HR6:=Y r1
 have qY:=Y uc
 have jg:=Y (zE Q ((U vj).block _ xX))
 have vE:=Y (zE N ((U vj).block _ xZ))
 clear r0 r1 r0' xA uc hL1 hL2 Q N
 unfold bJ bK
 go_enter Tryz.func107,Tryz.ntmps107
 go_wp2_with fail
 unfold sideL_b sideL_s at vj HR5 HR6 qY jg vE
 generalize hW:((w.alloc (E (List.toArray [.func (.func 108) #[I b1 0] #[],.func (.func 109) #[I b1 0] #[],.func (.func 110) #[I b1 0] #[]]) 135)).alloc (E (List.toArray [.func (.func 112) #[I b2 0] #[],.func (.func 113) #[I b2 0] #[],.func (.func 114) #[I b2 0] #[]]) 135)) = W at vj HR5 HR6 qY jg vE
 have hb1s:b1 < W.heap.size:=aX (U jg)
 have hb2s:b2 < W.heap.size:=aX (U vE)
 have hp5:w.heap.size < W.heap.size:=by rw [U qY]; omega
 have hp6:w.heap.size + 1 < W.heap.size:=by rw [U qY]; omega
 refine dl (RGrow W (fun f=>{ tmps:=#[bJ b1,bK b2,yp w 0,I (w.heap.size + 1) 0,f 9,f 0,f 1,f 2,f 3,f 4,f 5,f 6,f 7,f 8],defers:=[] }) (C10 b1 b2 w.heap.size (w.heap.size + 1) N1 N2)) (by kernel_rfl) ?_ ?_ ?_
 ·refine ⟨upd (fun _=>M) 9 (H 0),rfl,?_,fun j R=>by rw [yI] at R; split at R <;> simp at R⟩
  rw [← hW]
  exact ⟨rfl,rfl,rfl,Nat.le_refl _,fun _ _=>rfl⟩
 ·rintro x xm V ⟨f,rfl,xk,hC⟩ hx xP
  have hall9:=zT xP hx (acyc _ (by kernel_rfl)) 9 (by simp)
  have e9:f 9 = H ((N1:Int) + N2):=hC 9 hall9
  simp only [e9]
  have xv:=Y xk
  clear hC hx xP hall9 e9 xk
  go_wp2_with fail
  go_ret
  exact ⟨rfl,(U vj).trans ((U xv).mono (U vj).size)⟩
 ·rintro x xm V i o ⟨f,rfl,xk,hC⟩ hx Z xy D
  have xv:=Y xk
  have HC:=Y hC
  match i,Z with
  | 0,Z =>
   obtain rfl:=ya Z
   clear D hC xk
   rw [if_pos (by rfl)];unfold Oper.wp;go_simp
   exact ⟨upd f 0 (yp w 2),by simp [upd],U xv,zx (U HC) rfl⟩
  | 1,Z =>
   obtain rfl:=ya Z
   have g0:C10 b1 b2 w.heap.size (w.heap.size + 1) N1 N2 0 (f 0):=hC 0 (ye D 0 rfl)
   simp only [C10] at g0
   have d2:=zb (U HR5) xk hp5 2 _ rfl
   clear D hC xk
   rw [if_pos (by rfl)];unfold Oper.wp;go_simp
   exact ⟨upd f 1 (.func (.func 110) #[I b1 0] #[]),by simp [upd,g0],U xv,zx (U HC) rfl⟩
  | 2,Z =>
   obtain rfl:=ya Z
   have g1:C10 b1 b2 w.heap.size (w.heap.size + 1) N1 N2 1 (f 1):=hC 1 (ye D 1 rfl)
   simp only [C10] at g1
   have ht:=zE (U jg) (xk.block _ hb1s)
   have qw:=Y ht
   clear D hC xk ht
   rw [if_pos (by rfl)];unfold Oper.wp;go_simp
   refine (levels_b b1 sd1 s1 V (U qw) n1).mono ?_
   rintro e w4 ⟨v4,rfl,⟨al,cp,rfl,-,-⟩,xC⟩
   rw [(U HLL).1]
   exact ⟨upd f 2 (.slice al N1 cp),by simp [upd,g1],(U xv).trans (xC.mono (U xv).size),zx (U HC) ⟨al,cp,rfl⟩⟩
  | 3,Z =>
   obtain rfl:=ya Z
   have g2:C10 b1 b2 w.heap.size (w.heap.size + 1) N1 N2 2 (f 2):=hC 2 (ye D 2 rfl)
   obtain ⟨al,cp,g2⟩:=g2
   clear D hC xk
   rw [if_pos (by rfl)];unfold Oper.wp;go_simp
   exact ⟨upd f 3 (H N1),by simp [upd,g2],U xv,zx (U HC) rfl⟩
  | 4,Z =>
   obtain rfl:=ya Z
   clear D hC xk
   rw [if_pos (by rfl)];unfold Oper.wp;go_simp
   exact ⟨upd f 4 (I (w.heap.size + 1) 2),by simp [upd],U xv,zx (U HC) rfl⟩
  | 5,Z =>
   obtain rfl:=ya Z
   have g4:C10 b1 b2 w.heap.size (w.heap.size + 1) N1 N2 4 (f 4):=hC 4 (ye D 4 rfl)
   simp only [C10] at g4
   have d2:=zb (U HR6) xk hp6 2 _ rfl
   clear D hC xk
   rw [if_pos (by rfl)];unfold Oper.wp;go_simp
   exact ⟨upd f 5 (.func (.func 114) #[I b2 0] #[]),by simp [upd,g4],U xv,zx (U HC) rfl⟩
  | 6,Z =>
   obtain rfl:=ya Z
   have g5:C10 b1 b2 w.heap.size (w.heap.size + 1) N1 N2 5 (f 5):=hC 5 (ye D 5 rfl)
   simp only [C10] at g5
   have ht:=zE (U vE) (xk.block _ hb2s)
   have qw:=Y ht
   clear D hC xk ht
   rw [if_pos (by rfl)];unfold Oper.wp;go_simp
   refine (levels_s b2 sd2 s2 V (U qw) n2).mono ?_
   rintro e w4 ⟨v4,rfl,⟨al,cp,rfl,-,-⟩,xC⟩
   rw [(U HLL).2]
   exact ⟨upd f 6 (.slice al N2 cp),by simp [upd,g5],(U xv).trans (xC.mono (U xv).size),zx (U HC) ⟨al,cp,rfl⟩⟩
  | 7,Z =>
   obtain rfl:=ya Z
   have g6:C10 b1 b2 w.heap.size (w.heap.size + 1) N1 N2 6 (f 6):=hC 6 (ye D 6 rfl)
   obtain ⟨al,cp,g6⟩:=g6
   clear D hC xk
   rw [if_pos (by rfl)];unfold Oper.wp;go_simp
   exact ⟨upd f 7 (H N2),by simp [upd,g6],U xv,zx (U HC) rfl⟩
  | 8,Z =>
   obtain rfl:=ya Z
   have g3:C10 b1 b2 w.heap.size (w.heap.size + 1) N1 N2 3 (f 3):=hC 3 (ye D 3 rfl)
   have g7:C10 b1 b2 w.heap.size (w.heap.size + 1) N1 N2 7 (f 7):=hC 7 (ye D 7 rfl)
   simp only [C10] at g3
   simp only [C10] at g7
   have hwr8:IntKind.i64.wrap ((N1:Int) + N2) = (N1:Int) + N2:=by rw [IntKind.wrap_i64]; omega
   clear D hC xk
   rw [if_pos (by rfl)];unfold Oper.wp;go_simp
   exact ⟨upd f 8 (H ((N1:Int) + N2)),by simp [upd,g3,g7],U xv,zx (U HC) rfl⟩
  | 9,Z =>
   obtain rfl:=ya Z
   have g8:C10 b1 b2 w.heap.size (w.heap.size + 1) N1 N2 8 (f 8):=hC 8 (ye D 8 rfl)
   simp only [C10] at g8
   clear D hC xk
   rw [if_pos (by rfl)];unfold Oper.wp;go_simp
   exact ⟨upd f 9 (H ((N1:Int) + N2)),by simp [upd,g8],U xv,zx (U HC) rfl⟩
  | n + 10,Z=>simp at Z
def ofC (c:Cm):Ev:=⟨0,c,0,0,0,0,0⟩
def aB (c d:Cm):Bool:=(c.k == d.k) && ((c.s == d.s) && ((c.t == d.t) && ((c.l == d.l) && ((c.q == d.q) && ((c.i == d.i) && ((fbit c.p == fbit d.p) && decide (c.g.toList = d.g.toList)))))))
theorem eqVl (c d:Cm) (W:World):(binOp .eql 126 (vlV (ofC c)) (vlV (ofC d))).run Tryz.prog W = .ok (.bool (aB c d)) W:=by
 unfold vlV ofC
 simp only
 go_simp
 unfold aB
 by_cases Q:c.k = d.k
 ·by_cases N:c.s = d.s
  ·by_cases h3:c.t = d.t
   ·by_cases h4:c.l = d.l
    ·by_cases h5:c.q = d.q
     ·by_cases h6:c.i = d.i
      ·by_cases h7:fbit c.p = fbit d.p
       ·by_cases h8:c.g.toList = d.g.toList
        ·simp [Q,N,h3,h4,h5,h6,h7,h8]
        ·simp [Q,N,h3,h4,h5,h6,h7,h8]
       ·have h7':¬ ((fbit c.p:Int) = fbit d.p):=by omega
        have h7b:(fbit c.p == fbit d.p) = false:=by simpa using h7
        rw [if_neg h7',h7b]
        simp [Q,N,h3,h4,h5,h6]
      ·simp [Q,N,h3,h4,h5,h6]
     ·simp [Q,N,h3,h4,h5]
    ·simp [Q,N,h3,h4]
   ·simp [Q,N,h3]
  ·simp [Q,N]
 ·simp [Q]
theorem eqGd (c d:Cm) (W:World):(eqGuard .eql 126 (.tmp 7) (.tmp 10) (vlV (ofC c)) (vlV (ofC d))).run Tryz.prog W = .ok () W:=by
 unfold vlV ofC
 simp only
 go_simp
def CS (c d:Cm):Nat→Value→Prop
 | 0,v=>v = cmV c
 | 1,v=>v = evV (ofC c)
 | 2,v=>v = vlV (ofC c)
 | 3,v=>v = cmV d
 | 4,v=>v = evV (ofC d)
 | 5,v=>v = vlV (ofC d)
 | 6,v=>v = .bool (aB c d)
 | 7,v=>v = .bool (aB c d)
 | _,_=>True
theorem dI (c d:Cm) (w:World) :
  Calls Tryz.prog 49 #[cmV c,cmV d] w fun e w'=>e = ym (.bool (aB c d))∧yn w w':=by
 have xA:=ze w (Obj.cells c.vs.toArray 27)
 have uc:((w.alloc (Obj.cells c.vs.toArray 27)).alloc (Obj.cells d.vs.toArray 27)).heap.size = w.heap.size + 1 + 1:=by rw [ze,xA]
 have r0:=zb (zg w c.vs 27) (C:=w.heap.size + 1) ((Below.refl _ _).alloc (by rw [xA]; omega) (Obj.cells d.vs.toArray 27)) (by omega)
 have r1:=zg (w.alloc (Obj.cells c.vs.toArray 27)) d.vs 27
 rw [xA] at r1
 have vj:Hid (yn w ((w.alloc (Obj.cells c.vs.toArray 27)).alloc (Obj.cells d.vs.toArray 27))):=(ed _ _).alloc (by rw [xA]; omega) _
 have HX:Hid (_∧_):=⟨r0,r1⟩
 have qY:=Y uc
 clear r0 r1 xA uc
 unfold cmV
 go_enter Tryz.func49,Tryz.ntmps49
 go_wp2_with fail
 unfold Cm.vs at vj HX qY
 generalize hW:((w.alloc (E (List.toArray (yw c.k c.s c.t c.l c.q c.i c.p c.g)) 27)).alloc (E (List.toArray (yw d.k d.s d.t d.l d.q d.i d.p d.g)) 27)) = W at vj HX qY
 refine dl (RGrow W (fun f=>{ tmps:=#[cmV c,cmV d,yp w 0,I (w.heap.size + 1) 0,f 7,f 0,f 1,f 2,f 3,f 4,f 5,f 6],defers:=[] }) (CS c d)) (by kernel_rfl) ?_ ?_ ?_
 ·refine ⟨upd (fun _=>M) 7 (.bool false),rfl,?_,fun j R=>by rw [yI] at R; split at R <;> simp at R⟩
  rw [← hW]
  exact ⟨rfl,rfl,rfl,Nat.le_refl _,fun _ _=>rfl⟩
 ·rintro x xm V ⟨f,rfl,xk,hC⟩ hx xP
  have hall7:=zT xP hx (acyc _ (by kernel_rfl)) 7 (by simp)
  have e7:f 7 = .bool (aB c d):=hC 7 hall7
  simp only [e7]
  have xv:=Y xk
  clear hC hx xP hall7 e7 xk
  go_wp2_with fail
  go_ret
  exact ⟨rfl,(U vj).trans ((U xv).mono (U vj).size)⟩
 ·rintro x xm V i o ⟨f,rfl,xk,hC⟩ hx Z xy D
  have xv:=Y xk
  have HC:=Y hC
  have hw0:w.heap.size < W.heap.size:=by rw [U qY]; omega
  have hw1:w.heap.size + 1 < W.heap.size:=by rw [U qY]; omega
  match i,Z with
  | 0,Z =>
   obtain rfl:=ya Z
   obtain ⟨x0,x1,x2,x3,x4,x5,x6,x7⟩:=cm_cells (c:=c) (zb (U HX).1 xk hw0)
   simp only [Nat.zero_add] at x0 x1 x2 x3 x4 x5 x6 x7
   clear D hC xk
   rw [if_pos (by rfl)];unfold Oper.wp;go_simp
   exact ⟨upd f 0 (cmV c),by simp [upd,cmV],U xv,zx (U HC) rfl⟩
  | 1,Z =>
   obtain rfl:=ya Z
   have g0:f 0 = cmV c:=hC 0 (ye D 0 rfl)
   clear D hC xk
   rw [if_pos (by rfl)]
   unfold Oper.wp
   unfold cmV at g0
   go_simp
   exact ⟨upd f 1 (evV (ofC c)),by simp [upd,evV,ofC,cmV,g0],U xv,zx (U HC) rfl⟩
  | 2,Z =>
   obtain rfl:=ya Z
   have g1:f 1 = evV (ofC c):=hC 1 (ye D 1 rfl)
   clear D hC xk
   rw [if_pos (by rfl)];unfold Oper.wp;go_simp
   refine (valueOf_any (ofC c) V).mono ?_
   rintro e w4 ⟨rfl,xC⟩
   exact ⟨upd f 2 (vlV (ofC c)),by simp [upd,g1],(U xv).trans (xC.mono (U xv).size),zx (U HC) rfl⟩
  | 3,Z =>
   obtain rfl:=ya Z
   obtain ⟨x0,x1,x2,x3,x4,x5,x6,x7⟩:=cm_cells (c:=d) (zb (U HX).2 xk hw1)
   simp only [Nat.zero_add] at x0 x1 x2 x3 x4 x5 x6 x7
   clear D hC xk
   rw [if_pos (by rfl)];unfold Oper.wp;go_simp
   exact ⟨upd f 3 (cmV d),by simp [upd,cmV],U xv,zx (U HC) rfl⟩
  | 4,Z =>
   obtain rfl:=ya Z
   have g0:f 3 = cmV d:=hC 3 (ye D 3 rfl)
   clear D hC xk
   rw [if_pos (by rfl)]
   unfold Oper.wp
   unfold cmV at g0
   go_simp
   exact ⟨upd f 4 (evV (ofC d)),by simp [upd,evV,ofC,cmV,g0],U xv,zx (U HC) rfl⟩
  | 5,Z =>
   obtain rfl:=ya Z
   have g1:f 4 = evV (ofC d):=hC 4 (ye D 4 rfl)
   clear D hC xk
   rw [if_pos (by rfl)];unfold Oper.wp;go_simp
   refine (valueOf_any (ofC d) V).mono ?_
   rintro e w4 ⟨rfl,xC⟩
   exact ⟨upd f 5 (vlV (ofC d)),by simp [upd,g1],(U xv).trans (xC.mono (U xv).size),zx (U HC) rfl⟩
  | 6,Z =>
   obtain rfl:=ya Z
   have g2:f 2 = vlV (ofC c):=hC 2 (ye D 2 rfl)
   have g5:f 5 = vlV (ofC d):=hC 5 (ye D 5 rfl)
   have he:=eqVl c d V
   have hg:=eqGd c d V
   clear D hC xk
   rw [if_pos (by rfl)];unfold Oper.wp;go_simp
   exact ⟨upd f 6 (.bool (aB c d)),by simp [upd,g2,g5],U xv,zx (U HC) rfl⟩
  | 7,Z =>
   obtain rfl:=ya Z
   have g6:f 6 = .bool (aB c d):=hC 6 (ye D 6 rfl)
   clear D hC xk
   rw [if_pos (by rfl)];unfold Oper.wp;go_simp
   exact ⟨upd f 7 (.bool (aB c d)),by simp [upd,g6],U xv,zx (U HC) rfl⟩
  | n + 8,Z=>simp at Z
theorem takeR {α:Type} (l:List α) (k:Nat) (c:α) (h:l[k]? = some c):l.take (k + 1) = l.take k ++ [c]:=by
 obtain ⟨hk,rfl⟩:=yG.1 h
 rw [List.take_succ_eq_append_getElem hk]
theorem Tryz.infoOrder:(Tryz.prog.info? 66).map (fun i=>(i.zero,i.size,i.bytes)) = some (some (.agg (yv 0 0 0 0 0 ⟨#[]⟩).toArray),6,56):=by kernel_rfl

def ahdB (a b:Od):Bool:=if a.ticks = b.ticks then decide (a.id < b.id) else (decide (b.ticks < a.ticks) == decide (a.side = 1))
theorem ahd_iff (a b:Od):ahdB a b = true ↔ ahd (decide (a.side = 1)) a b:=by
 unfold ahdB ahd
 by_cases h:a.ticks = b.ticks
 ·rw [if_pos h]
  simp only [xh]
  constructor
  ·exact fun Q=>.inr ⟨h,Q⟩
  ·rintro (Q | Q)
   ·rw [h] at Q; exact absurd Q (bt_irr _ _)
   ·exact Q.2
 ·rw [if_neg h]
  by_cases hs:a.side = 1
  ·simp only [hs,decide_true,beq_true,xh,bt]
   constructor
   ·exact fun Q=>.inl Q
   ·rintro (Q | Q)
    ·exact Q
    ·exact absurd Q.1 h
  ·simp only [hs,decide_false,beq_false,Bool.not_eq_true',decide_eq_false_iff_not,bt]
   constructor
   ·exact fun Q=>.inl (by omega)
   ·rintro (Q | Q)
    ·omega
    ·exact absurd Q.1 h
def FrPre (l:List Od) (sd:Int) (k:Nat) (best:Int):Prop :=
 (best = -1∧∀ j o,j < k→l[j]? = some o→o.side ≠ sd) ∨
 ∃ (i:Nat) (o:Od),best = i∧i < k∧l[i]? = some o∧o.side = sd∧∀ j o',j < k→l[j]? = some o'→o'.side = sd→j ≠ i→ahd (decide (sd = 1)) o o'
theorem frPre_skip {l:List Od} {sd:Int} {k:Nat} {best:Int} {c:Od} (h:FrPre l sd k best) (hc:l[k]? = some c) (hs:c.side ≠ sd):FrPre l sd (k + 1) best:=by
 rcases h with ⟨rfl,h⟩ | ⟨i,o,rfl,Q,N,h3,h4⟩
 ·refine .inl ⟨rfl,fun j o R Z=>?_⟩
  by_cases hjk:j = k
  ·subst hjk; rw [hc] at Z; obtain rfl:=ya Z; exact hs
  ·exact h j o (by omega) Z
 ·refine .inr ⟨i,o,rfl,by omega,N,h3,fun j o' R Z pf xB=>?_⟩
  by_cases hjk:j = k
  ·subst hjk; rw [hc] at Z; obtain rfl:=ya Z; exact absurd pf hs
  ·exact h4 j o' (by omega) Z pf xB
theorem frPre_first {l:List Od} {sd:Int} {k:Nat} {c:Od} (h:FrPre l sd k (-1)) (hc:l[k]? = some c) (hs:c.side = sd):FrPre l sd (k + 1) k:=by
 rcases h with ⟨_,h⟩ | ⟨i,o,h0,_⟩
 ·refine .inr ⟨k,c,rfl,by omega,hc,hs,fun j o' R Z pf xB=>?_⟩
  exact absurd pf (h j o' (by omega) Z)
 ·omega
theorem rising_ne {l:List Od} (hr:ba l) {i j:Nat} {a b:Od} (ha:l[i]? = some a) (L:l[j]? = some b) (xB:i ≠ j):a.id ≠ b.id:=by
 obtain ⟨Q,rfl⟩:=yG.1 ha
 obtain ⟨N,rfl⟩:=yG.1 L
 have hp:=List.pairwise_iff_getElem.1 hr
 rcases Nat.lt_or_gt_of_ne xB with h | h
 ·have:=hp i j Q N h; omega
 ·have:=hp j i N Q h; omega
theorem frPre_better {l:List Od} {sd:Int} {k i:Nat} {c o:Od} (hr:ba l) (h:FrPre l sd k i) (Z:l[i]? = some o) (hc:l[k]? = some c) (hs:c.side = sd) (L:ahdB c o = true):FrPre l sd (k + 1) k:=by
 rcases h with ⟨h0,h⟩ | ⟨i',o',h0,Q,N,h3,h4⟩
 ·omega
 ·obtain rfl:i = i':=by omega
  rw [Z] at N; obtain rfl:=Option.some.inj N
  have hco:ahd (decide (sd = 1)) c o:=by rw [← hs]; exact (ahd_iff c o).1 L
  refine .inr ⟨k,c,rfl,by omega,hc,hs,fun j o' R vC pf xB=>?_⟩
  by_cases hji:j = i
  ·subst hji; rw [Z] at vC; obtain rfl:=ya vC; exact hco
  ·exact ahd_trans hco (h4 j o' (by omega) vC pf hji)
theorem frPre_worse {l:List Od} {sd:Int} {k i:Nat} {c o:Od} (hr:ba l) (h:FrPre l sd k i) (Z:l[i]? = some o) (hc:l[k]? = some c) (hs:c.side = sd) (L:ahdB c o = false):FrPre l sd (k + 1) i:=by
 rcases h with ⟨h0,h⟩ | ⟨i',o',h0,Q,N,h3,h4⟩
 ·omega
 ·obtain rfl:i = i':=by omega
  rw [Z] at N; obtain rfl:=Option.some.inj N
  have hnco:¬ ahd (decide (sd = 1)) c o:=by rw [← hs]; intro hh; rw [(ahd_iff c o).2 hh] at L; cases L
  have hoc:ahd (decide (sd = 1)) o c:=by
   rcases ahd_total (s:=decide (sd = 1)) (rising_ne hr hc Z (by omega)) with hh | hh
   ·exact absurd hh hnco
   ·exact hh
  refine .inr ⟨i,o,rfl,by omega,Z,h3,fun j o' R vC pf xB=>?_⟩
  by_cases hjk:j = k
  ·subst hjk; rw [hc] at vC; obtain rfl:=ya vC; exact hoc
  ·exact h4 j o' (by omega) vC pf xB
def difB (c y:Od):Bool:=decide (y.side ≠ c.side) || decide (y.ticks ≠ c.ticks)
def bH (c:Od) (hb:List Od):Bool:=hb.all (difB c)
theorem nlev_fresh (l:List Od) (x:Od):nlev (l ++ [x]) = nlev l + (bH x l).toNat:=by
 rw [nlev_snoc]
 congr 1
 by_cases h:∃ y ∈ l,y.side = x.side∧y.ticks = x.ticks
 ·rw [if_pos h]
  have:bH x l = false:=by
   obtain ⟨y,Q,N,h3⟩:=h
   rw [bH,List.all_eq_false]
   exact ⟨y,Q,by simp [difB,N,h3]⟩
  rw [this]; rfl
 ·rw [if_neg h]
  have:bH x l = true:=by
   rw [bH,List.all_eq_true]
   intro y hy
   simp only [difB,ne_eq,Bool.or_eq_true,xh]
   by_cases Q:y.side = x.side
   ·exact .inr fun N=>h ⟨y,hy,Q,N⟩
   ·exact .inl Q
  rw [this]; rfl
theorem frPre_end {l:List Od} {sd:Int} {k:Int} (h:FrPre l sd l.length k):(k = -1∧∀ o ∈ l,o.side ≠ sd) ∨ ∃ (i:Nat) (o:Od),k = i∧i < l.length∧IsFront (decide (sd = 1)) l sd i o:=by
 rcases h with ⟨rfl,h⟩ | ⟨i,o,rfl,Q,N,h3,h4⟩
 ·refine .inl ⟨rfl,fun o Z=>?_⟩
  obtain ⟨j,R⟩:=List.mem_iff_getElem?.1 Z
  exact h j o (yG.1 R).1 R
 ·exact .inr ⟨i,o,rfl,Q,N,h3,fun j o' Z hs xB=>h4 j o' (yG.1 Z).1 Z hs xB⟩
theorem front_head {s:Bool} {l:List Od} {sd:Int} (hr:ba l):((quOf s (zt l sd)).head? = none∧∀ o ∈ l,o.side ≠ sd) ∨ ∃ i o,(quOf s (zt l sd)).head? = some o∧IsFront s l sd i o:=by
 cases h:(quOf s (zt l sd)).head? with
 | none=>exact .inl ⟨rfl,queue_none (cQ s _) h⟩
 | some o =>
  obtain ⟨i,hi⟩:=queue_front hr (cQ s _) h
  exact .inr ⟨i,o,rfl,hi⟩
end Go.Proofs.YtdliebbfcmdmaaaGreat
