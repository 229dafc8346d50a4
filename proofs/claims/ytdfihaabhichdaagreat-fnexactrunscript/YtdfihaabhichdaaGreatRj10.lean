/-
  Commands held against each other, by the program: proved by walking the function.
-/
import Derived.Test.YtdfihaabhichdaaGreatRj03
import Derived.Test.YtdfihaabhichdaaGreatRj04
import Derived.Test.YtdfihaabhichdaaGreatRj09
import Derived.BigQuiet
namespace Go.Proofs.YtdfihaabhichdaaGreat
open Go.RowKit
set_option linter.unusedVariables false

def ofC (c:Cm):Ev:=⟨0,c,0,0,0,0,0⟩
def zaB (c d:Cm):Bool:=(c.k == d.k) && ((c.s == d.s) && ((c.t == d.t) && ((c.l == d.l) && ((c.q == d.q) && ((c.i == d.i) && ((fbit c.p == fbit d.p) && decide (c.g.toList = d.g.toList)))))))
theorem eqVl (c d:Cm) (W:World):(binOp .eql 182 (vlV (ofC c)) (vlV (ofC d))).run Tryz.prog W = .ok (.bool (zaB c d)) W:=by
 unfold vlV ofC
 simp only
 go_simp
 unfold zaB
 by_cases h1:c.k = d.k
 ·by_cases h2:c.s = d.s
  ·by_cases h3:c.t = d.t
   ·by_cases h4:c.l = d.l
    ·by_cases h5:c.q = d.q
     ·by_cases h6:c.i = d.i
      ·by_cases h7:fbit c.p = fbit d.p
       ·by_cases h8:c.g.toList = d.g.toList
        ·simp [h1,h2,h3,h4,h5,h6,h7,h8]
        ·simp [h1,h2,h3,h4,h5,h6,h7,h8]
       ·have h7':¬ ((fbit c.p:Int) = fbit d.p):=by omega
        have h7b:(fbit c.p == fbit d.p) = false:=by simpa using h7
        rw [if_neg h7',h7b]
        simp [h1,h2,h3,h4,h5,h6]
      ·simp [h1,h2,h3,h4,h5,h6]
     ·simp [h1,h2,h3,h4,h5]
    ·simp [h1,h2,h3,h4]
   ·simp [h1,h2,h3]
  ·simp [h1,h2]
 ·simp [h1]
theorem eqGd (c d:Cm) (W:World):(eqGuard .eql 182 (.tmp 7) (.tmp 10) (vlV (ofC c)) (vlV (ofC d))).run Tryz.prog W = .ok () W:=by
 unfold vlV ofC
 simp only
 go_simp
def CS (c d:Cm):Nat→Value→Prop
 | 0,v=>v = cmV c
 | 1,v=>v = evV (ofC c)
 | 2,v=>v = vlV (ofC c)
 | 3,v=>v = cmV d
 | 4,v=>v = evV (ofC d)
 | 5,v=>v = vlV (ofC d)
 | 6,v=>v = .bool (zaB c d)
 | 7,v=>v = .bool (zaB c d)
 | _,_=>True
set_option maxRecDepth 100000 in
set_option maxHeartbeats 1600000 in
theorem zbL (c d:Cm) (w:World) :
  Calls Tryz.prog 112 #[cmV c,cmV d] w fun e w'=>e = .returned (.bool (zaB c d))∧Below w.heap.size w w':=by
 have hs1:(w.alloc (Obj.cells c.vs.toArray 37)).heap.size = w.heap.size + 1:=zf _ _
 have hs2:((w.alloc (Obj.cells c.vs.toArray 37)).alloc (Obj.cells d.vs.toArray 37)).heap.size = w.heap.size + 1 + 1:=by rw [zf,hs1]
 have r0:=zb (zg w c.vs 37) (C:=w.heap.size + 1) ((Below.refl _ _).alloc (by rw [hs1]; omega) (Obj.cells d.vs.toArray 37)) (by omega)
 have r1:=zg (w.alloc (Obj.cells c.vs.toArray 37)) d.vs 37
 rw [hs1] at r1
 have HB0:Hid (Below w.heap.size w ((w.alloc (Obj.cells c.vs.toArray 37)).alloc (Obj.cells d.vs.toArray 37))):=((Below.refl _ _).alloc (Nat.le_refl _) _).alloc (by rw [hs1]; omega) _
 have HX:Hid (_∧_):=⟨r0,r1⟩
 have HS2:=hide hs2
 clear r0 r1 hs1 hs2
 unfold cmV
 go_enter Tryz.func112,Tryz.ntmps112
 go_wp2_with fail
 unfold Cm.vs at HB0 HX HS2
 generalize hW:((w.alloc (Obj.cells (List.toArray [.int .i64 c.k,.int .i64 c.s,.int .i64 c.t,.int .i64 c.l,.int .i64 c.q,.int .i64 c.i,.float .f64 c.p,.string c.g]) 37)).alloc (Obj.cells (List.toArray [.int .i64 d.k,.int .i64 d.s,.int .i64 d.t,.int .i64 d.l,.int .i64 d.q,.int .i64 d.i,.float .f64 d.p,.string d.g]) 37)) = W at HB0 HX HS2
 refine zaV (RGrow W (fun f=>{ tmps:=#[cmV c,cmV d,.pointer (some ⟨w.heap.size,0,none⟩),.pointer (some ⟨w.heap.size + 1,0,none⟩),f 7,f 0,f 1,f 2,f 3,f 4,f 5,f 6],defers:=[] }) (CS c d)) (by kernel_rfl) ?_ ?_ ?_
 ·refine ⟨upd (fun _=>undef) 7 (.bool false),rfl,?_,fun j hj=>by rw [List.getElem?_replicate] at hj; split at hj <;> simp at hj⟩
  rw [← hW]
  exact ⟨rfl,rfl,rfl,Nat.le_refl _,fun _ _=>rfl⟩
 ·rintro x A V ⟨f,rfl,hbel,hC⟩ hx hrd
  have hall7:=zY hrd hx (acyc _ (by kernel_rfl)) 7 (by simp)
  have e7:f 7 = .bool (zaB c d):=hC 7 hall7
  simp only [e7]
  have HBV:=hide hbel
  clear hC hx hrd hall7 e7 hbel
  go_wp2_with fail
  go_ret
  exact ⟨rfl,(za HB0).trans ((za HBV).mono (za HB0).size)⟩
 ·rintro x A V i o ⟨f,rfl,hbel,hC⟩ hx ho hxi hall
  have HBV:=hide hbel
  have HC:=hide hC
  have hw0:w.heap.size < W.heap.size:=by rw [za HS2]; omega
  have hw1:w.heap.size + 1 < W.heap.size:=by rw [za HS2]; omega
  match i,ho with
  | 0,ho =>
   obtain rfl:=Option.some.inj ho
   obtain ⟨x0,x1,x2,x3,x4,x5,x6,x7⟩:=zbw (c:=c) (zb (za HX).1 hbel hw0)
   simp only [Nat.zero_add] at x0 x1 x2 x3 x4 x5 x6 x7
   clear hall hC hbel
   rw [if_pos (by rfl)]
   unfold Oper.wp
   go_simp
   exact ⟨upd f 0 (cmV c),by simp [upd,cmV],za HBV,zE (za HC) rfl⟩
  | 1,ho =>
   obtain rfl:=Option.some.inj ho
   have g0:f 0 = cmV c:=hC 0 (hall ⟨0,.data⟩ (by simp) rfl)
   clear hall hC hbel
   rw [if_pos (by rfl)]
   unfold Oper.wp
   unfold cmV at g0
   go_simp
   exact ⟨upd f 1 (evV (ofC c)),by simp [upd,evV,ofC,cmV,g0],za HBV,zE (za HC) rfl⟩
  | 2,ho =>
   obtain rfl:=Option.some.inj ho
   have g1:f 1 = evV (ofC c):=hC 1 (hall ⟨1,.data⟩ (by simp) rfl)
   clear hall hC hbel
   rw [if_pos (by rfl)]
   unfold Oper.wp
   go_simp
   refine (valueOf_any (ofC c) V).mono ?_
   rintro e w4 ⟨rfl,hb4⟩
   exact ⟨upd f 2 (vlV (ofC c)),by simp [upd,g1],(za HBV).trans (hb4.mono (za HBV).size),zE (za HC) rfl⟩
  | 3,ho =>
   obtain rfl:=Option.some.inj ho
   obtain ⟨x0,x1,x2,x3,x4,x5,x6,x7⟩:=zbw (c:=d) (zb (za HX).2 hbel hw1)
   simp only [Nat.zero_add] at x0 x1 x2 x3 x4 x5 x6 x7
   clear hall hC hbel
   rw [if_pos (by rfl)]
   unfold Oper.wp
   go_simp
   exact ⟨upd f 3 (cmV d),by simp [upd,cmV],za HBV,zE (za HC) rfl⟩
  | 4,ho =>
   obtain rfl:=Option.some.inj ho
   have g0:f 3 = cmV d:=hC 3 (hall ⟨3,.data⟩ (by simp) rfl)
   clear hall hC hbel
   rw [if_pos (by rfl)]
   unfold Oper.wp
   unfold cmV at g0
   go_simp
   exact ⟨upd f 4 (evV (ofC d)),by simp [upd,evV,ofC,cmV,g0],za HBV,zE (za HC) rfl⟩
  | 5,ho =>
   obtain rfl:=Option.some.inj ho
   have g1:f 4 = evV (ofC d):=hC 4 (hall ⟨4,.data⟩ (by simp) rfl)
   clear hall hC hbel
   rw [if_pos (by rfl)]
   unfold Oper.wp
   go_simp
   refine (valueOf_any (ofC d) V).mono ?_
   rintro e w4 ⟨rfl,hb4⟩
   exact ⟨upd f 5 (vlV (ofC d)),by simp [upd,g1],(za HBV).trans (hb4.mono (za HBV).size),zE (za HC) rfl⟩
  | 6,ho =>
   obtain rfl:=Option.some.inj ho
   have g2:f 2 = vlV (ofC c):=hC 2 (hall ⟨2,.data⟩ (by simp) rfl)
   have g5:f 5 = vlV (ofC d):=hC 5 (hall ⟨5,.data⟩ (by simp) rfl)
   have he:=eqVl c d V
   have hg:=eqGd c d V
   clear hall hC hbel
   rw [if_pos (by rfl)]
   unfold Oper.wp
   go_simp
   exact ⟨upd f 6 (.bool (zaB c d)),by simp [upd,g2,g5],za HBV,zE (za HC) rfl⟩
  | 7,ho =>
   obtain rfl:=Option.some.inj ho
   have g6:f 6 = .bool (zaB c d):=hC 6 (hall ⟨6,.data⟩ (by simp) rfl)
   clear hall hC hbel
   rw [if_pos (by rfl)]
   unfold Oper.wp
   go_simp
   exact ⟨upd f 7 (.bool (zaB c d)),by simp [upd,g6],za HBV,zE (za HC) rfl⟩
  | n + 8,ho=>simp at ho
end Go.Proofs.YtdfihaabhichdaaGreat
namespace Go.Proofs.YtdfihaabhichdaaGreat
open Go.RowKit
set_option linter.unusedVariables false

end Go.Proofs.YtdfihaabhichdaaGreat
namespace Go.Proofs.YtdfihaabhichdaaGreat
open Go.RowKit
set_option linter.unusedVariables false

def ahdB (a b:Od):Bool:=if a.ticks = b.ticks then decide (a.id < b.id) else (decide (b.ticks < a.ticks) == decide (a.side = 1))
theorem ahd_iff (a b:Od):ahdB a b = true ↔ ahd (decide (a.side = 1)) a b:=by
  unfold ahdB ahd
  by_cases h:a.ticks = b.ticks
  · rw [if_pos h]
    simp only [decide_eq_true_eq]
    constructor
    · exact fun h1=>.inr ⟨h,h1⟩
    · rintro (h1 | h1)
      · rw [h] at h1; exact absurd h1 (bt_irr _ _)
      · exact h1.2
  · rw [if_neg h]
    by_cases hs:a.side = 1
    · simp only [hs,decide_true,beq_true,decide_eq_true_eq,bt]
      constructor
      · exact fun h1=>.inl h1
      · rintro (h1 | h1)
        · exact h1
        · exact absurd h1.1 h
    · simp only [hs,decide_false,beq_false,Bool.not_eq_true',decide_eq_false_iff_not,bt]
      constructor
      · exact fun h1=>.inl (by omega)
      · rintro (h1 | h1)
        · omega
        · exact absurd h1.1 h
def FrPre (l:List Od) (sd:Int) (k:Nat) (best:Int):Prop :=
  (best = -1∧∀ j o,j < k→l[j]? = some o→o.side ≠ sd) ∨
  ∃ (i:Nat) (o:Od),best = i∧i < k∧l[i]? = some o∧o.side = sd∧∀ j o',j < k→l[j]? = some o'→o'.side = sd→j ≠ i→ahd (decide (sd = 1)) o o'
theorem frPre_skip {l:List Od} {sd:Int} {k:Nat} {best:Int} {c:Od} (h:FrPre l sd k best) (hc:l[k]? = some c) (hs:c.side ≠ sd):FrPre l sd (k + 1) best:=by
  rcases h with ⟨rfl,h⟩ | ⟨i,o,rfl,h1,h2,h3,h4⟩
  · refine .inl ⟨rfl,fun j o hj ho=>?_⟩
    by_cases hjk:j = k
    · subst hjk; rw [hc] at ho; obtain rfl:=Option.some.inj ho; exact hs
    · exact h j o (by omega) ho
  · refine .inr ⟨i,o,rfl,by omega,h2,h3,fun j o' hj ho hso hne=>?_⟩
    by_cases hjk:j = k
    · subst hjk; rw [hc] at ho; obtain rfl:=Option.some.inj ho; exact absurd hso hs
    · exact h4 j o' (by omega) ho hso hne
theorem frPre_first {l:List Od} {sd:Int} {k:Nat} {c:Od} (h:FrPre l sd k (-1)) (hc:l[k]? = some c) (hs:c.side = sd):FrPre l sd (k + 1) k:=by
  rcases h with ⟨_,h⟩ | ⟨i,o,h0,_⟩
  · refine .inr ⟨k,c,rfl,by omega,hc,hs,fun j o' hj ho hso hne=>?_⟩
    exact absurd hso (h j o' (by omega) ho)
  · omega
theorem rising_ne {l:List Od} (hr:zbe l) {i j:Nat} {a b:Od} (ha:l[i]? = some a) (hb:l[j]? = some b) (hne:i ≠ j):a.id ≠ b.id:=by
  obtain ⟨h1,rfl⟩:=List.getElem?_eq_some_iff.1 ha
  obtain ⟨h2,rfl⟩:=List.getElem?_eq_some_iff.1 hb
  have hp:=List.pairwise_iff_getElem.1 hr
  rcases Nat.lt_or_gt_of_ne hne with h | h
  · have:=hp i j h1 h2 h; omega
  · have:=hp j i h2 h1 h; omega
theorem frPre_better {l:List Od} {sd:Int} {k i:Nat} {c o:Od} (hr:zbe l) (h:FrPre l sd k i) (ho:l[i]? = some o) (hc:l[k]? = some c) (hs:c.side = sd) (hb:ahdB c o = true):FrPre l sd (k + 1) k:=by
  rcases h with ⟨h0,h⟩ | ⟨i',o',h0,h1,h2,h3,h4⟩
  · omega
  · obtain rfl:i = i':=by omega
    rw [ho] at h2; obtain rfl:=Option.some.inj h2
    have hco:ahd (decide (sd = 1)) c o:=by rw [← hs]; exact (ahd_iff c o).1 hb
    refine .inr ⟨k,c,rfl,by omega,hc,hs,fun j o' hj ho' hso hne=>?_⟩
    by_cases hji:j = i
    · subst hji; rw [ho] at ho'; obtain rfl:=Option.some.inj ho'; exact hco
    · exact ahd_trans hco (h4 j o' (by omega) ho' hso hji)
theorem frPre_worse {l:List Od} {sd:Int} {k i:Nat} {c o:Od} (hr:zbe l) (h:FrPre l sd k i) (ho:l[i]? = some o) (hc:l[k]? = some c) (hs:c.side = sd) (hb:ahdB c o = false):FrPre l sd (k + 1) i:=by
  rcases h with ⟨h0,h⟩ | ⟨i',o',h0,h1,h2,h3,h4⟩
  · omega
  · obtain rfl:i = i':=by omega
    rw [ho] at h2; obtain rfl:=Option.some.inj h2
    have hnco:¬ ahd (decide (sd = 1)) c o:=by rw [← hs]; intro hh; rw [(ahd_iff c o).2 hh] at hb; cases hb
    have hoc:ahd (decide (sd = 1)) o c:=by
      rcases ahd_total (s:=decide (sd = 1)) (rising_ne hr hc ho (by omega)) with hh | hh
      · exact absurd hh hnco
      · exact hh
    refine .inr ⟨i,o,rfl,by omega,ho,h3,fun j o' hj ho' hso hne=>?_⟩
    by_cases hjk:j = k
    · subst hjk; rw [hc] at ho'; obtain rfl:=Option.some.inj ho'; exact hoc
    · exact h4 j o' (by omega) ho' hso hne
end Go.Proofs.YtdfihaabhichdaaGreat
namespace Go.Proofs.YtdfihaabhichdaaGreat
open Go.RowKit
set_option linter.unusedVariables false

def difB (c y:Od):Bool:=decide (y.side ≠ c.side) || decide (y.ticks ≠ c.ticks)
def zbV (c:Od) (L:List Od):Bool:=L.all (difB c)
theorem nlev_fresh (l:List Od) (x:Od):nlev (l ++ [x]) = nlev l + (zbV x l).toNat:=by
  rw [nlev_snoc]
  congr 1
  by_cases h:∃ y ∈ l,y.side = x.side∧y.ticks = x.ticks
  · rw [if_pos h]
    have:zbV x l = false:=by
      obtain ⟨y,h1,h2,h3⟩:=h
      rw [zbV,List.all_eq_false]
      exact ⟨y,h1,by simp [difB,h2,h3]⟩
    rw [this]; rfl
  · rw [if_neg h]
    have:zbV x l = true:=by
      rw [zbV,List.all_eq_true]
      intro y hy
      simp only [difB,ne_eq,Bool.or_eq_true,decide_eq_true_eq]
      by_cases h1:y.side = x.side
      · exact .inr fun h2=>h ⟨y,hy,h1,h2⟩
      · exact .inl h1
    rw [this]; rfl
end Go.Proofs.YtdfihaabhichdaaGreat
namespace Go.Proofs.YtdfihaabhichdaaGreat
open Go.RowKit
set_option linter.unusedVariables false

theorem frPre_end {l:List Od} {sd:Int} {k:Int} (h:FrPre l sd l.length k):(k = -1∧∀ o ∈ l,o.side ≠ sd) ∨ ∃ (i:Nat) (o:Od),k = i∧i < l.length∧IsFront (decide (sd = 1)) l sd i o:=by
  rcases h with ⟨rfl,h⟩ | ⟨i,o,rfl,h1,h2,h3,h4⟩
  · refine .inl ⟨rfl,fun o ho=>?_⟩
    obtain ⟨j,hj⟩:=List.mem_iff_getElem?.1 ho
    exact h j o (List.getElem?_eq_some_iff.1 hj).1 hj
  · exact .inr ⟨i,o,rfl,h1,h2,h3,fun j o' ho hs hne=>h4 j o' (List.getElem?_eq_some_iff.1 ho).1 ho hs hne⟩
end Go.Proofs.YtdfihaabhichdaaGreat
namespace Go.Proofs.YtdfihaabhichdaaGreat
open Go.RowKit
set_option linter.unusedVariables false

theorem front_head {s:Bool} {l:List Od} {sd:Int} (hr:zbe l):((quOf s (zA l sd)).head? = none∧∀ o ∈ l,o.side ≠ sd) ∨ ∃ i o,(quOf s (zA l sd)).head? = some o∧IsFront s l sd i o:=by
  cases h:(quOf s (zA l sd)).head? with
  | none=>exact .inl ⟨rfl,queue_none (zcn s _) h⟩
  | some o =>
    obtain ⟨i,hi⟩:=queue_front hr (zcn s _) h
    exact .inr ⟨i,o,rfl,hi⟩
end Go.Proofs.YtdfihaabhichdaaGreat
namespace Go.Proofs.YtdfihaabhichdaaGreat
open Go.RowKit
set_option linter.unusedVariables false

def cmdI (c:Cm):Value:=if c.k = 1 then .iface 128 (noV c) else if c.k = 2 then .iface 131 (.agg #[.int .i64 c.i]) else if c.k = 3 then .iface 134 (.agg #[.int .i64 c.i,.int .i64 c.q]) else if c.k = 4 then .iface 137 (.agg #[]) else .nilIface
set_option maxHeartbeats 800000 in
theorem newOrderOf_any (c:Cm) (w:World) :
  Calls Tryz.prog 116 #[cmV c] w fun e w'=>e = .returned (noV c)∧Below w.heap.size w w':=by
 obtain ⟨k,s,t,l,q,i,p,g⟩:=c
 unfold cmV noV
 simp only
 have hsf:=sfl
 go_enter Tryz.func116,Tryz.ntmps116
 go_wp2_with fail
 go_returns
 exact ⟨rfl,by go_grown⟩
set_option maxHeartbeats 800000 in
theorem zaf (c:Cm) (w:World) :
  Calls Tryz.prog 82 #[cmV c] w fun e w'=>e = .returned (cmdI c)∧Below w.heap.size w w':=by
 obtain ⟨k,s,t,l,q,i,p,g⟩:=c
 unfold cmV
 simp only
 by_cases h1:k = 1
 ·subst h1
  have HB1:Hid (Below w.heap.size w (w.alloc (Obj.cells #[.int .i64 1,.int .i64 s,.int .i64 t,.int .i64 l,.int .i64 q,.int .i64 i,.float .f64 p,.string g] 37))):=(Below.refl _ _).alloc (Nat.le_refl _) _
  go_enter Tryz.func82,Tryz.ntmps82
  go_wp2_with fail
  refine (newOrderOf_any ⟨1,s,t,l,q,i,p,g⟩ _).mono ?_
  rintro e w' ⟨rfl,hb⟩
  have HB2:=hide ((za HB1).trans (hb.mono (za HB1).size))
  clear hb
  go_wp2_with fail
  go_ret
  exact ⟨rfl,za HB2⟩
 have b1:(k == 1) = false:=by simpa using h1
 by_cases h2:k = 2
 ·subst h2
  go_enter Tryz.func82,Tryz.ntmps82
  go_wp2_with fail
  go_ret
  exact ⟨rfl,by go_grown⟩
 have b2:(k == 2) = false:=by simpa using h2
 by_cases h3:k = 3
 ·subst h3
  go_enter Tryz.func82,Tryz.ntmps82
  go_wp2_with fail
  go_ret
  exact ⟨rfl,by go_grown⟩
 have b3:(k == 3) = false:=by simpa using h3
 by_cases h4:k = 4
 ·subst h4
  go_enter Tryz.func82,Tryz.ntmps82
  go_wp2_with fail
  go_ret
  exact ⟨rfl,by go_grown⟩
 have b4:(k == 4) = false:=by simpa using h4
 have HC:Hid (cmdI ⟨k,s,t,l,q,i,p,g⟩ = .nilIface):=by show _ = _; simp [cmdI,h1,h2,h3,h4]
 go_enter Tryz.func82,Tryz.ntmps82
 go_wp2_with fail
 go_ret
 exact ⟨by rw [za HC]; rfl,by go_grown⟩
def plcF (id:Int):List Od→Nat→Int
 | [],_=>-1
 | o :: r,k=>if o.id = id then k else plcF id r (k + 1)
def plc (l:List Od) (id:Int):Int:=plcF id l 0
theorem plcF_spec (id:Int):∀ (l:List Od) (k:Nat),(plcF id l k = -1∧∀ o ∈ l,o.id ≠ id) ∨ ∃ i o,plcF id l k = ((k + i:Nat):Int)∧l[i]? = some o∧o.id = id∧∀ j o',j < i→l[j]? = some o'→o'.id ≠ id
 | [],k=>.inl ⟨rfl,by simp⟩
 | o :: r,k=>by
  by_cases h:o.id = id
  ·exact .inr ⟨0,o,by rw [plcF,if_pos h]; rfl,rfl,h,by simp⟩
  ·rcases plcF_spec id r (k + 1) with ⟨h1,h2⟩ | ⟨i,o',h1,h2,h3,h4⟩
   ·refine .inl ⟨by rw [plcF,if_neg h,h1],fun x hx=>?_⟩
    rcases List.mem_cons.1 hx with rfl | hx
    ·exact h
    ·exact h2 x hx
   ·refine .inr ⟨i + 1,o',by rw [plcF,if_neg h,h1]; congr 1; omega,h2,h3,fun j x hj hx=>?_⟩
    cases j with
    | zero=>simp at hx; subst hx; exact h
    | succ j=>exact h4 j x (by omega) (by simpa using hx)
theorem drop_get {l:List Od} {k:Nat} {c:Od} (h:l[k]? = some c):l.drop k = c :: l.drop (k + 1):=by
 obtain ⟨h1,rfl⟩:=List.getElem?_eq_some_iff.1 h
 exact List.drop_eq_getElem_cons h1
set_option maxHeartbeats 400000 in
theorem place1_any (o:Od) (B:Nat) (id:Int) (w:World) (hB:w.cell? ⟨B,0,none⟩ = some (.int .i64 id)) :
  Calls Tryz.prog 148 #[.agg #[.int .i64 o.id,.int .i64 o.side,.int .i64 o.ticks,.int .i64 o.left,.int .i64 o.life,.string o.tag],.pointer (some ⟨B,0,none⟩)] w fun e w'=>e = .returned (.bool (o.id == id))∧Below w.heap.size w w':=by
 obtain ⟨oid,side,ticks,left,life,tag⟩:=o
 simp only
 have hB':(w.alloc (Obj.cells #[.int .i64 oid,.int .i64 side,.int .i64 ticks,.int .i64 left,.int .i64 life,.string tag] 100)).cell? ⟨B,0,none⟩ = some (.int .i64 id):=(World.cell?_alloc_lt _ _ ⟨B,0,none⟩ (World.block_lt_of_cell? w _ hB)).trans hB
 go_enter Tryz.func148,Tryz.ntmps148
 go_wp2_with fail
 go_ret
 exact ⟨rfl,by go_grown⟩
set_option maxRecDepth 100000 in
set_option maxHeartbeats 800000 in
theorem indexFunc_any (v:Value) (l:List Od) (B:Nat) (id:Int) (w:World) (hr:RdR Od.vs 6 w v l) (hB:w.cell? ⟨B,0,none⟩ = some (.int .i64 id)) :
  Calls Tryz.prog 147 #[v,.func (.func 148) #[] #[.pointer (some ⟨B,0,none⟩)]] w fun e w'=>e = .returned (.int .i64 (plc l id))∧Below w.heap.size w w':=by
 obtain ⟨a,cap,rfl,hlen,hc⟩:=hr
 have hcell:∀ (k:Nat) (c:Od),l[k]? = some c→∃ b off,a = some ⟨b,off,none⟩∧b < w.heap.size∧w.rangeAt b (off + k * 6) c.vs:=by
  intro k c hk
  obtain ⟨b,off,h1,h2,h3⟩:=hc (by intro h; rw [h] at hk; simp at hk)
  exact ⟨b,off,h1,h2,h3 k c hk⟩
 have HC:=hide hcell
 have HBC:=hide hB
 have hBl:=World.block_lt_of_cell? w _ hB
 simp only at hBl
 clear hcell hc hB
 go_enter Tryz.func147,Tryz.ntmps147
 go_wp2_with fail
 go_loopw [8] (fun iv wr=>∃ (k:Nat),k ≤ l.length∧iv = .int .i64 k∧Hid (plc l id = plcF id (l.drop k) k)∧Below w.heap.size w wr) (fun iv _=>l.length - (intOf iv).toNat)
 case atStart=>exact ⟨0,Nat.zero_le _,rfl,rfl,Below.refl _ _⟩
 case round =>
  obtain ⟨k,hk,rfl,hpl,hbel⟩:=hrel
  have HB:=hide hbel
  clear hbel
  by_cases hlt:k < l.length
  ·obtain ⟨c,hkc⟩:∃ c,l[k]? = some c:=⟨_,List.getElem?_eq_getElem hlt⟩
   have HP:Hid (plc l id = if c.id = id then (k:Int) else plcF id (l.drop (k + 1)) (k + 1)):=by
    have:=za hpl
    rw [drop_get hkc] at this
    exact this
   obtain ⟨b,off,rfl,hb,hcl⟩:=za HC k c hkc
   obtain ⟨g0,g1,g2,g3,g4,g5⟩:=zC (zb hcl (za HB) hb)
   have hlt':(k:Int) < l.length:=by omega
   have HBX:=hide (((za HB).cell (p:=⟨B,0,none⟩) hBl).trans (za HBC))
   clear hkc hcl hb hpl
   go_wp2_with fail
   refine (place1_any c B id wr (za HBX)).mono ?_
   rintro e w3 ⟨rfl,hb3⟩
   have HB3:=hide ((za HB).trans (hb3.mono (za HB).size))
   clear hb3
   by_cases hid:c.id = id
   ·have hb:(c.id == id) = true:=by simpa using hid
    have HK:Hid (plc l id = k):=by have:=za HP; rw [if_pos hid] at this; exact this
    clear hid
    go_wp2_with fail
    go_ret
    exact ⟨zo (za HK).symm,za HB3⟩
   ·have hb:(c.id == id) = false:=by simpa using hid
    have HK:Hid (plc l id = plcF id (l.drop (k + 1)) (k + 1)):=by have:=za HP; rw [if_neg hid] at this; exact this
    clear hid
    go_wp2_with fail
    go_roundw
    case rel=>exact ⟨k + 1,by omega,by go_num,za HK,za HB3⟩
    case measure=>simp [intOf]; omega
  ·have HK:Hid (plc l id = -1):=by
    have h:=za hpl
    rw [List.drop_of_length_le (by omega)] at h
    exact h
   go_wp2_with fail
   go_ret
   exact ⟨zo (za HK).symm,za HB⟩
set_option maxHeartbeats 800000 in
theorem zbs (next:Int) (v:Value) (l:List Od) (id:Int) (w:World) (hr:RdR Od.vs 6 w v l) :
  Calls Tryz.prog 121 #[.agg #[.int .i64 next,v],.int .i64 id] w fun e w'=>e = .returned (.int .i64 (plc l id))∧Below w.heap.size w w':=by
 have HR:=hide hr
 obtain ⟨a,cap,rfl,hlen,hc⟩:=hr
 have hmf:∀ (fn:Fn) (first cap:Array Value) (w:World),(Instr.makeFunc fn first cap).run Tryz.prog w = .ok (.func fn first cap) w:=fun _ _ _ _=>rfl
 have hs1:(w.alloc (Obj.cells #[.int .i64 next,.slice a l.length cap] 32)).heap.size = w.heap.size + 1:=zf _ _
 have r1:=zg (w.alloc (Obj.cells #[.int .i64 next,.slice a l.length cap] 32)) [.int .i64 id] 3
 rw [hs1] at r1
 have HX:=hide (r1 0 _ rfl)
 have HB0:Hid (Below w.heap.size w ((w.alloc (Obj.cells #[.int .i64 next,.slice a l.length cap] 32)).alloc (Obj.cells #[.int .i64 id] 3))):=((Below.refl _ _).alloc (Nat.le_refl _) _).alloc (by rw [hs1]; omega) _
 clear hc r1 hs1
 go_enter Tryz.func121,Tryz.ntmps121
 go_wp2_with fail
 have HX:Hid (World.cell? ((w.alloc (Obj.cells #[.int .i64 next,.slice a l.length cap] 32)).alloc (Obj.cells #[.int .i64 id] 3)) ⟨w.heap.size + 1,0,none⟩ = some (.int .i64 id)):=za HX
 generalize ((w.alloc (Obj.cells #[.int .i64 next,.slice a l.length cap] 32)).alloc (Obj.cells #[.int .i64 id] 3)) = W2 at HX HB0 ⊢
 refine (indexFunc_any _ l (w.heap.size + 1) id W2 (zi (za HR) (za HB0) (Nat.le_refl _)) (za HX)).mono ?_
 rintro e w3 ⟨rfl,hb3⟩
 have HB3:=hide ((za HB0).trans (hb3.mono (za HB0).size))
 clear hb3
 go_wp2_with fail
 go_ret
 exact ⟨rfl,za HB3⟩
end Go.Proofs.YtdfihaabhichdaaGreat
