/-
  Commands held against each other, by the program: proved by walking the function.
-/
import Derived.Test.YtbakanofkghmiaaGreatQj11
set_option linter.unusedVariables false
set_option maxHeartbeats 6400000
set_option maxRecDepth 100000
namespace Go.Proofs.YtbakanofkghmiaaGreat
open Go.RowKit
def ofC (c:Cm):Ev:=⟨0,c,0,0,0,0,0⟩
def aK (c d:Cm):Bool:=(c.k == d.k) && ((c.s == d.s) && ((c.t == d.t) && ((c.l == d.l) && ((c.q == d.q) && ((c.i == d.i) && ((fbit c.p == fbit d.p) && decide (c.g.toList = d.g.toList)))))))
theorem eqVl (c d:Cm) (W:World):(binOp .eql 187 (vlV (ofC c)) (vlV (ofC d))).run Tryz.prog W = .ok (.bool (aK c d)) W:=by
 unfold vlV ofC
 simp only
 go_simp
 unfold aK
 by_cases Q:c.k = d.k
 ·by_cases N:c.s = d.s
  ·by_cases h3:c.t = d.t
   ·by_cases h4:c.l = d.l
    ·by_cases h5:c.q = d.q
     ·by_cases h6:c.i = d.i
      ·by_cases h7:fbit c.p = fbit d.p
       ·by_cases h8:c.g.toList = d.g.toList
        ·simp [Q,N,h3,h4,h5,h6,h7,h8]
        ·simp [Q,N,h3,h4,h5,h6,h7,h8]
       ·have h7':¬ ((fbit c.p:Int) = fbit d.p):=by omega
        have h7b:(fbit c.p == fbit d.p) = false:=by simpa using h7
        rw [if_neg h7',h7b]
        simp [Q,N,h3,h4,h5,h6]
      ·simp [Q,N,h3,h4,h5,h6]
     ·simp [Q,N,h3,h4,h5]
    ·simp [Q,N,h3,h4]
   ·simp [Q,N,h3]
  ·simp [Q,N]
 ·simp [Q]
theorem eqGd (c d:Cm) (W:World):(eqGuard .eql 187 (.tmp 7) (.tmp 10) (vlV (ofC c)) (vlV (ofC d))).run Tryz.prog W = .ok () W:=by
 unfold vlV ofC
 simp only
 go_simp
def CS (c d:Cm):Nat→Value→Prop
 | 0,v=>v = cmV c
 | 1,v=>v = evV (ofC c)
 | 2,v=>v = vlV (ofC c)
 | 3,v=>v = cmV d
 | 4,v=>v = evV (ofC d)
 | 5,v=>v = vlV (ofC d)
 | 6,v=>v = .bool (aK c d)
 | 7,v=>v = .bool (aK c d)
 | _,_=>True
theorem dV (c d:Cm) (w:World) :
  Calls Tryz.prog 107 #[cmV c,cmV d] w fun e w'=>e = ym (.bool (aK c d))∧yn w w':=by
 have xC:=zh w (Obj.cells c.vs.toArray 43)
 have ua:((w.alloc (Obj.cells c.vs.toArray 43)).alloc (Obj.cells d.vs.toArray 43)).heap.size = w.heap.size + 1 + 1:=by rw [zh,xC]
 have r0:=zb (zi w c.vs 43) (C:=w.heap.size + 1) ((Below.refl _ _).alloc (by rw [xC]; omega) (Obj.cells d.vs.toArray 43)) (by omega)
 have r1:=zi (w.alloc (Obj.cells c.vs.toArray 43)) d.vs 43
 rw [xC] at r1
 have uO:Hid (yn w ((w.alloc (Obj.cells c.vs.toArray 43)).alloc (Obj.cells d.vs.toArray 43))):=(eE _ _).alloc (by rw [xC]; omega) _
 have HX:Hid (_∧_):=⟨r0,r1⟩
 have qw:=Y ua
 clear r0 r1 xC ua
 unfold cmV
 go_enter Tryz.func107,Tryz.ntmps107
 go_wp2_with fail
 unfold Cm.vs at uO HX qw
 generalize hW:((w.alloc (E (List.toArray (yx c.k c.s c.t c.l c.q c.i c.p c.g)) 43)).alloc (E (List.toArray (yx d.k d.s d.t d.l d.q d.i d.p d.g)) 43)) = W at uO HX qw
 refine dk (RGrow W (fun f=>{ tmps:=#[cmV c,cmV d,yp w 0,I (w.heap.size + 1) 0,f 7,f 0,f 1,f 2,f 3,f 4,f 5,f 6],defers:=[] }) (CS c d)) (by kernel_rfl) ?_ ?_ ?_
 ·refine ⟨upd (fun _=>M) 7 (.bool false),rfl,?_,fun j R=>by rw [yJ] at R; split at R <;> simp at R⟩
  rw [← hW]
  exact ⟨rfl,rfl,rfl,Nat.le_refl _,fun _ _=>rfl⟩
 ·rintro x xn V ⟨f,rfl,xm,hC⟩ hx xN
  have oJ:=zS xN hx (acyc _ (by kernel_rfl)) 7 (by simp)
  have e7:f 7 = .bool (aK c d):=hC 7 oJ
  simp only [e7]
  have xw:=Y xm
  clear hC hx xN oJ e7 xm
  go_wp2_with fail
  go_ret
  exact ⟨rfl,(U uO).trans ((U xw).mono (U uO).size)⟩
 ·rintro x xn V i o ⟨f,rfl,xm,hC⟩ hx Z xz D
  have xw:=Y xm
  have HC:=Y hC
  have hw0:w.heap.size < W.heap.size:=by rw [U qw]; omega
  have hw1:w.heap.size + 1 < W.heap.size:=by rw [U qw]; omega
  match i,Z with
  | 0,Z =>
   obtain rfl:=ya Z
   obtain ⟨x0,x1,x2,x3,x4,x5,x6,x7⟩:=cm_cells (c:=c) (zb (U HX).1 xm hw0)
   simp only [Nat.zero_add] at x0 x1 x2 x3 x4 x5 x6 x7
   clear D hC xm
   rw [if_pos (by rfl)];unfold Oper.wp;go_simp
   exact ⟨upd f 0 (cmV c),by simp [upd,cmV],U xw,zy (U HC) rfl⟩
  | 1,Z =>
   obtain rfl:=ya Z
   have g0:f 0 = cmV c:=hC 0 (ye D 0 rfl)
   clear D hC xm
   rw [if_pos (by rfl)]
   unfold Oper.wp
   unfold cmV at g0
   go_simp
   exact ⟨upd f 1 (evV (ofC c)),by simp [upd,evV,ofC,cmV,g0],U xw,zy (U HC) rfl⟩
  | 2,Z =>
   obtain rfl:=ya Z
   have g1:f 1 = evV (ofC c):=hC 1 (ye D 1 rfl)
   clear D hC xm
   rw [if_pos (by rfl)];unfold Oper.wp;go_simp
   refine (dX (ofC c) V).mono ?_
   rintro e w4 ⟨rfl,xD⟩
   exact ⟨upd f 2 (vlV (ofC c)),by simp [upd,g1],(U xw).trans (xD.mono (U xw).size),zy (U HC) rfl⟩
  | 3,Z =>
   obtain rfl:=ya Z
   obtain ⟨x0,x1,x2,x3,x4,x5,x6,x7⟩:=cm_cells (c:=d) (zb (U HX).2 xm hw1)
   simp only [Nat.zero_add] at x0 x1 x2 x3 x4 x5 x6 x7
   clear D hC xm
   rw [if_pos (by rfl)];unfold Oper.wp;go_simp
   exact ⟨upd f 3 (cmV d),by simp [upd,cmV],U xw,zy (U HC) rfl⟩
  | 4,Z =>
   obtain rfl:=ya Z
   have g0:f 3 = cmV d:=hC 3 (ye D 3 rfl)
   clear D hC xm
   rw [if_pos (by rfl)]
   unfold Oper.wp
   unfold cmV at g0
   go_simp
   exact ⟨upd f 4 (evV (ofC d)),by simp [upd,evV,ofC,cmV,g0],U xw,zy (U HC) rfl⟩
  | 5,Z =>
   obtain rfl:=ya Z
   have g1:f 4 = evV (ofC d):=hC 4 (ye D 4 rfl)
   clear D hC xm
   rw [if_pos (by rfl)];unfold Oper.wp;go_simp
   refine (dX (ofC d) V).mono ?_
   rintro e w4 ⟨rfl,xD⟩
   exact ⟨upd f 5 (vlV (ofC d)),by simp [upd,g1],(U xw).trans (xD.mono (U xw).size),zy (U HC) rfl⟩
  | 6,Z =>
   obtain rfl:=ya Z
   have g2:f 2 = vlV (ofC c):=hC 2 (ye D 2 rfl)
   have g5:f 5 = vlV (ofC d):=hC 5 (ye D 5 rfl)
   have he:=eqVl c d V
   have hg:=eqGd c d V
   clear D hC xm
   rw [if_pos (by rfl)];unfold Oper.wp;go_simp
   exact ⟨upd f 6 (.bool (aK c d)),by simp [upd,g2,g5],U xw,zy (U HC) rfl⟩
  | 7,Z =>
   obtain rfl:=ya Z
   have g6:f 6 = .bool (aK c d):=hC 6 (ye D 6 rfl)
   clear D hC xm
   rw [if_pos (by rfl)];unfold Oper.wp;go_simp
   exact ⟨upd f 7 (.bool (aK c d)),by simp [upd,g6],U xw,zy (U HC) rfl⟩
  | n + 8,Z=>simp at Z
theorem takeR {α:Type} (l:List α) (k:Nat) (c:α) (h:l[k]? = some c):l.take (k + 1) = l.take k ++ [c]:=by
 obtain ⟨hk,rfl⟩:=yH.1 h
 rw [List.take_succ_eq_append_getElem hk]
theorem Tryz.infoOrder:(Tryz.prog.info? 49).map (fun i=>(i.zero,i.size,i.bytes)) = some (some (.agg (yw 0 0 0 0 0 ⟨#[]⟩).toArray),6,56):=by kernel_rfl

def ahdB (a b:Od):Bool:=if a.ticks = b.ticks then decide (a.id < b.id) else (decide (b.ticks < a.ticks) == decide (a.side = 1))
theorem ahd_iff (a b:Od):ahdB a b = true ↔ ahd (decide (a.side = 1)) a b:=by
 unfold ahdB ahd
 by_cases h:a.ticks = b.ticks
 ·rw [if_pos h]
  simp only [xj]
  constructor
  ·exact fun Q=>.inr ⟨h,Q⟩
  ·rintro (Q | Q)
   ·rw [h] at Q; exact absurd Q (bt_irr _ _)
   ·exact Q.2
 ·rw [if_neg h]
  by_cases hs:a.side = 1
  ·simp only [hs,decide_true,beq_true,xj,bt]
   constructor
   ·exact fun Q=>.inl Q
   ·rintro (Q | Q)
    ·exact Q
    ·exact absurd Q.1 h
  ·simp only [hs,decide_false,beq_false,Bool.not_eq_true',decide_eq_false_iff_not,bt]
   constructor
   ·exact fun Q=>.inl (by omega)
   ·rintro (Q | Q)
    ·omega
    ·exact absurd Q.1 h
def FrPre (l:List Od) (sd:Int) (k:Nat) (best:Int):Prop :=
 (best = -1∧∀ j o,j < k→l[j]? = some o→o.side ≠ sd) ∨
 ∃ (i:Nat) (o:Od),best = i∧i < k∧l[i]? = some o∧o.side = sd∧∀ j o',j < k→l[j]? = some o'→o'.side = sd→j ≠ i→ahd (decide (sd = 1)) o o'
theorem frPre_skip {l:List Od} {sd:Int} {k:Nat} {best:Int} {c:Od} (h:FrPre l sd k best) (hc:l[k]? = some c) (hs:c.side ≠ sd):FrPre l sd (k + 1) best:=by
 rcases h with ⟨rfl,h⟩ | ⟨i,o,rfl,Q,N,h3,h4⟩
 ·refine .inl ⟨rfl,fun j o R Z=>?_⟩
  by_cases hjk:j = k
  ·subst hjk; rw [hc] at Z; obtain rfl:=ya Z; exact hs
  ·exact h j o (by omega) Z
 ·refine .inr ⟨i,o,rfl,by omega,N,h3,fun j o' R Z pm xB=>?_⟩
  by_cases hjk:j = k
  ·subst hjk; rw [hc] at Z; obtain rfl:=ya Z; exact absurd pm hs
  ·exact h4 j o' (by omega) Z pm xB
theorem frPre_first {l:List Od} {sd:Int} {k:Nat} {c:Od} (h:FrPre l sd k (-1)) (hc:l[k]? = some c) (hs:c.side = sd):FrPre l sd (k + 1) k:=by
 rcases h with ⟨_,h⟩ | ⟨i,o,h0,_⟩
 ·refine .inr ⟨k,c,rfl,by omega,hc,hs,fun j o' R Z pm xB=>?_⟩
  exact absurd pm (h j o' (by omega) Z)
 ·omega
theorem rising_ne {l:List Od} (hr:bu l) {i j:Nat} {a b:Od} (ha:l[i]? = some a) (X:l[j]? = some b) (xB:i ≠ j):a.id ≠ b.id:=by
 obtain ⟨Q,rfl⟩:=yH.1 ha
 obtain ⟨N,rfl⟩:=yH.1 X
 have hp:=List.pairwise_iff_getElem.1 hr
 rcases Nat.lt_or_gt_of_ne xB with h | h
 ·have:=hp i j Q N h; omega
 ·have:=hp j i N Q h; omega
theorem frPre_better {l:List Od} {sd:Int} {k i:Nat} {c o:Od} (hr:bu l) (h:FrPre l sd k i) (Z:l[i]? = some o) (hc:l[k]? = some c) (hs:c.side = sd) (X:ahdB c o = true):FrPre l sd (k + 1) k:=by
 rcases h with ⟨h0,h⟩ | ⟨i',o',h0,Q,N,h3,h4⟩
 ·omega
 ·obtain rfl:i = i':=by omega
  rw [Z] at N; obtain rfl:=Option.some.inj N
  have hco:ahd (decide (sd = 1)) c o:=by rw [← hs]; exact (ahd_iff c o).1 X
  refine .inr ⟨k,c,rfl,by omega,hc,hs,fun j o' R vB pm xB=>?_⟩
  by_cases hji:j = i
  ·subst hji; rw [Z] at vB; obtain rfl:=ya vB; exact hco
  ·exact ahd_trans hco (h4 j o' (by omega) vB pm hji)
theorem frPre_worse {l:List Od} {sd:Int} {k i:Nat} {c o:Od} (hr:bu l) (h:FrPre l sd k i) (Z:l[i]? = some o) (hc:l[k]? = some c) (hs:c.side = sd) (X:ahdB c o = false):FrPre l sd (k + 1) i:=by
 rcases h with ⟨h0,h⟩ | ⟨i',o',h0,Q,N,h3,h4⟩
 ·omega
 ·obtain rfl:i = i':=by omega
  rw [Z] at N; obtain rfl:=Option.some.inj N
  have hnco:¬ ahd (decide (sd = 1)) c o:=by rw [← hs]; intro hh; rw [(ahd_iff c o).2 hh] at X; cases X
  have hoc:ahd (decide (sd = 1)) o c:=by
   rcases ahd_total (s:=decide (sd = 1)) (rising_ne hr hc Z (by omega)) with hh | hh
   ·exact absurd hh hnco
   ·exact hh
  refine .inr ⟨i,o,rfl,by omega,Z,h3,fun j o' R vB pm xB=>?_⟩
  by_cases hjk:j = k
  ·subst hjk; rw [hc] at vB; obtain rfl:=ya vB; exact hoc
  ·exact h4 j o' (by omega) vB pm xB
def difB (c y:Od):Bool:=decide (y.side ≠ c.side) || decide (y.ticks ≠ c.ticks)
def bU (c:Od) (qt:List Od):Bool:=qt.all (difB c)
theorem nlev_fresh (l:List Od) (x:Od):nlev (l ++ [x]) = nlev l + (bU x l).toNat:=by
 rw [nlev_snoc]
 congr 1
 by_cases h:∃ y ∈ l,y.side = x.side∧y.ticks = x.ticks
 ·rw [if_pos h]
  have:bU x l = false:=by
   obtain ⟨y,Q,N,h3⟩:=h
   rw [bU,List.all_eq_false]
   exact ⟨y,Q,by simp [difB,N,h3]⟩
  rw [this]; rfl
 ·rw [if_neg h]
  have:bU x l = true:=by
   rw [bU,List.all_eq_true]
   intro y hy
   simp only [difB,ne_eq,Bool.or_eq_true,xj]
   by_cases Q:y.side = x.side
   ·exact .inr fun N=>h ⟨y,hy,Q,N⟩
   ·exact .inl Q
  rw [this]; rfl
theorem frPre_end {l:List Od} {sd:Int} {k:Int} (h:FrPre l sd l.length k):(k = -1∧∀ o ∈ l,o.side ≠ sd) ∨ ∃ (i:Nat) (o:Od),k = i∧i < l.length∧IsFront (decide (sd = 1)) l sd i o:=by
 rcases h with ⟨rfl,h⟩ | ⟨i,o,rfl,Q,N,h3,h4⟩
 ·refine .inl ⟨rfl,fun o Z=>?_⟩
  obtain ⟨j,R⟩:=List.mem_iff_getElem?.1 Z
  exact h j o (yH.1 R).1 R
 ·exact .inr ⟨i,o,rfl,Q,N,h3,fun j o' Z hs xB=>h4 j o' (yH.1 Z).1 Z hs xB⟩
theorem front_head {s:Bool} {l:List Od} {sd:Int} (hr:bu l):((quOf s (zA l sd)).head? = none∧∀ o ∈ l,o.side ≠ sd) ∨ ∃ i o,(quOf s (zA l sd)).head? = some o∧IsFront s l sd i o:=by
 cases h:(quOf s (zA l sd)).head? with
 | none=>exact .inl ⟨rfl,queue_none (dd s _) h⟩
 | some o =>
  obtain ⟨i,hi⟩:=queue_front hr (dd s _) h
  exact .inr ⟨i,o,rfl,hi⟩
def cmdI (c:Cm):Value:=if c.k = 1 then .iface 112 (noV c) else if c.k = 2 then .iface 115 (.agg #[H c.i]) else if c.k = 3 then .iface 118 (.agg #[H c.i,H c.q]) else if c.k = 4 then .iface 121 (.agg #[]) else .nilIface
theorem newOrderOf_any (c:Cm) (w:World) :
  Calls Tryz.prog 111 #[cmV c] w fun e w'=>e = ym (noV c)∧yn w w':=by
 obtain ⟨k,s,t,l,q,i,p,g⟩:=c
 unfold cmV noV
 simp only
 have hsf:=sfl
 go_enter Tryz.func111,Tryz.ntmps111
 go_wp2_with fail
 go_returns
 exact ⟨rfl,by go_grown⟩
theorem cz (c:Cm) (w:World) :
  Calls Tryz.prog 66 #[cmV c] w fun e w'=>e = ym (cmdI c)∧yn w w':=by
 obtain ⟨k,s,t,l,q,i,p,g⟩:=c
 unfold cmV
 simp only
 by_cases Q:k = 1
 ·subst Q
  have xU:Hid (yn w (w.alloc (E (yx 1 s t l q i p g).toArray 43))):=eE _ _
  go_enter Tryz.func66,Tryz.ntmps66
  go_wp2_with fail
  refine (newOrderOf_any ⟨1,s,t,l,q,i,p,g⟩ _).mono ?_
  rintro e w' ⟨rfl,X⟩
  have xE:=Y (eH (U xU) X)
  clear X
  go_wp2_with fail
  go_ret
  exact ⟨rfl,U xE⟩
 have b1:(k == 1) = false:=by simpa using Q
 by_cases N:k = 2
 ·subst N
  go_enter Tryz.func66,Tryz.ntmps66
  go_wp2_with fail
  go_ret
  exact ⟨rfl,by go_grown⟩
 have b2:(k == 2) = false:=by simpa using N
 by_cases h3:k = 3
 ·subst h3
  go_enter Tryz.func66,Tryz.ntmps66
  go_wp2_with fail
  go_ret
  exact ⟨rfl,by go_grown⟩
 have b3:(k == 3) = false:=by simpa using h3
 by_cases h4:k = 4
 ·subst h4
  go_enter Tryz.func66,Tryz.ntmps66
  go_wp2_with fail
  go_ret
  exact ⟨rfl,by go_grown⟩
 have b4:(k == 4) = false:=by simpa using h4
 have HC:Hid (cmdI ⟨k,s,t,l,q,i,p,g⟩ = .nilIface):=by show _ = _; simp [cmdI,Q,N,h3,h4]
 go_enter Tryz.func66,Tryz.ntmps66
 go_wp2_with fail
 go_ret
 exact ⟨by rw [U HC]; rfl,by go_grown⟩
def plcF (id:Int):List Od→Nat→Int
 | [],_=>-1
 | o :: r,k=>if o.id = id then k else plcF id r (k + 1)
def plc (l:List Od) (id:Int):Int:=plcF id l 0
theorem plcF_spec (id:Int):∀ (l:List Od) (k:Nat),(plcF id l k = -1∧∀ o ∈ l,o.id ≠ id) ∨ ∃ i o,plcF id l k = ((k + i:Nat):Int)∧l[i]? = some o∧o.id = id∧∀ j o',j < i→l[j]? = some o'→o'.id ≠ id
 | [],k=>.inl ⟨rfl,by simp⟩
 | o :: r,k=>by
  by_cases h:o.id = id
  ·exact .inr ⟨0,o,by rw [plcF,if_pos h]; rfl,rfl,h,by simp⟩
  ·rcases plcF_spec id r (k + 1) with ⟨Q,N⟩ | ⟨i,o',Q,N,h3,h4⟩
   ·refine .inl ⟨by rw [plcF,if_neg h,Q],fun x hx=>?_⟩
    rcases List.mem_cons.1 hx with rfl | hx
    ·exact h
    ·exact N x hx
   ·refine .inr ⟨i + 1,o',by rw [plcF,if_neg h,Q]; congr 1; omega,N,h3,fun j x R hx=>?_⟩
    cases j with
    | zero=>simp at hx; subst hx; exact h
    | succ j=>exact h4 j x (by omega) (by simpa using hx)
theorem drop_get {l:List Od} {k:Nat} {c:Od} (h:l[k]? = some c):l.drop k = c :: l.drop (k + 1):=by
 obtain ⟨Q,rfl⟩:=yH.1 h
 exact xd Q
theorem place1_any (o:Od) (B:Nat) (id:Int) (w:World) (hB:w.cell? (J B 0) = some (H id)) :
  Calls Tryz.prog 153 #[.agg (yw o.id o.side o.ticks o.left o.life o.tag).toArray,I B 0] w fun e w'=>e = ym (.bool (o.id == id))∧yn w w':=by
 obtain ⟨uN,side,ticks,left,life,tag⟩:=o
 simp only
 have hB':(w.alloc (E (yw uN side ticks left life tag).toArray 49)).cell? (J B 0) = some (H id):=(yW _ _ (J B 0) (yL w _ hB)).trans hB
 go_enter Tryz.func153,Tryz.ntmps153
 go_wp2_with fail
 go_ret
 exact ⟨rfl,by go_grown⟩
theorem indexFunc_any (v:Value) (l:List Od) (B:Nat) (id:Int) (w:World) (hr:RdR Od.vs 6 w v l) (hB:w.cell? (J B 0) = some (H id)) :
  Calls Tryz.prog 152 #[v,.func (.func 153) #[] #[I B 0]] w fun e w'=>e = ym (H (plc l id))∧yn w w':=by
 obtain ⟨a,A,rfl,xG,hc⟩:=hr
 have xr:∀ (k:Nat) (c:Od),l[k]? = some c→∃ b off,a = some (J b off)∧b < w.heap.size∧w.rangeAt b (off + k * 6) c.vs:=by
  intro k c hk
  obtain ⟨b,off,Q,N,h3⟩:=hc (by intro h; rw [h] at hk; simp at hk)
  exact ⟨b,off,Q,N,h3 k c hk⟩
 have HC:=Y xr
 have HBC:=Y hB
 have hBl:=yL w _ hB
 simp only at hBl
 clear xr hc hB
 go_enter Tryz.func152,Tryz.ntmps152
 go_wp2_with fail
 go_loopw [8] (fun iv wr=>∃ (k:Nat),k ≤ l.length∧iv = H k∧Hid (plc l id = plcF id (l.drop k) k)∧yn w wr) (fun iv _=>l.length - (intOf iv).toNat)
 case atStart=>exact ⟨0,Nat.zero_le _,rfl,rfl,Below.refl _ _⟩
 case round =>
  obtain ⟨k,hk,rfl,jZ,xm⟩:=hrel
  have HB:=Y xm
  clear xm
  by_cases xL:k < l.length
  ·obtain ⟨c,vd⟩:∃ c,l[k]? = some c:=⟨_,yI xL⟩
   have HP:Hid (plc l id = if c.id = id then (k:Int) else plcF id (l.drop (k + 1)) (k + 1)):=by
    have:=U jZ
    rw [drop_get vd] at this
    exact this
   obtain ⟨b,off,rfl,X,xp⟩:=U HC k c vd
   obtain ⟨g0,g1,g2,g3,g4,g5⟩:=zF (zb xp (U HB) X)
   have uy:(k:Int) < l.length:=by omega
   have uA:=Y (((U HB).cell (p:=(J B 0)) hBl).trans (U HBC))
   clear vd xp X jZ
   go_wp2_with fail
   refine (place1_any c B id wr (U uA)).mono ?_
   rintro e w3 ⟨rfl,um⟩
   have xQ:=Y (eH (U HB) um)
   clear um
   by_cases qq:c.id = id
   ·have X:(c.id == id) = true:=by simpa using qq
    have HK:Hid (plc l id = k):=by have:=U HP; rw [if_pos qq] at this; exact this
    clear qq
    go_wp2_with fail
    go_ret
    exact ⟨zt (U HK).symm,U xQ⟩
   ·have X:(c.id == id) = false:=by simpa using qq
    have HK:Hid (plc l id = plcF id (l.drop (k + 1)) (k + 1)):=by have:=U HP; rw [if_neg qq] at this; exact this
    clear qq
    go_wp2_with fail
    go_roundw
    case rel=>exact ⟨k + 1,by omega,by go_num,U HK,U xQ⟩
    case measure=>simp [intOf]; omega
  ·have HK:Hid (plc l id = -1):=by
    have h:=U jZ
    rw [xb (by omega)] at h
    exact h
   go_wp2_with fail
   go_ret
   exact ⟨zt (U HK).symm,U HB⟩
theorem dJ (next:Int) (v:Value) (l:List Od) (id:Int) (w:World) (hr:RdR Od.vs 6 w v l) :
  Calls Tryz.prog 116 #[.agg #[H next,v],H id] w fun e w'=>e = ym (H (plc l id))∧yn w w':=by
 have HR:=Y hr
 obtain ⟨a,A,rfl,xG,hc⟩:=hr
 have hmf:∀ (fn:Fn) (first A:Array Value) (w:World),(Instr.makeFunc fn first A).run Tryz.prog w = .ok (.func fn first A) w:=fun _ _ _ _=>rfl
 have xC:=zh w (E #[H next,.slice a l.length A] 28)
 have r1:=zi (w.alloc (E #[H next,.slice a l.length A] 28)) [H id] 3
 rw [xC] at r1
 have HX:=Y (r1 0 _ rfl)
 have uO:Hid (yn w ((w.alloc (E #[H next,.slice a l.length A] 28)).alloc (E #[H id] 3))):=(eE _ _).alloc (by rw [xC]; omega) _
 clear hc r1 xC
 go_enter Tryz.func116,Tryz.ntmps116
 go_wp2_with fail
 have HX:Hid (World.cell? ((w.alloc (E #[H next,.slice a l.length A] 28)).alloc (E #[H id] 3)) (J (w.heap.size + 1) 0) = some (H id)):=U HX
 generalize ((w.alloc (E #[H next,.slice a l.length A] 28)).alloc (E #[H id] 3)) = W2 at HX uO ⊢
 refine (indexFunc_any _ l (w.heap.size + 1) id W2 (zn (U HR) (U uO) tg) (U HX)).mono ?_
 rintro e w3 ⟨rfl,um⟩
 have xQ:=Y (eH (U uO) um)
 clear um
 go_wp2_with fail
 go_ret
 exact ⟨rfl,U xQ⟩
end Go.Proofs.YtbakanofkghmiaaGreat
