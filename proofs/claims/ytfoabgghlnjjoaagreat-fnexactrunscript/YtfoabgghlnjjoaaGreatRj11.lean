/-
  Commands held against each other, by the program: proved by walking the function.
-/
import Derived.Test.YtfoabgghlnjjoaaGreatRj05
import Derived.Test.YtfoabgghlnjjoaaGreatRj10
import Derived.Deep.RegionWith
import Derived.BigQuiet
namespace Go.Proofs.YtfoabgghlnjjoaaGreat
open Go.RowKit
set_option linter.unusedVariables false

def ofC (c:Cm):Ev:=⟨0,c,0,0,0,0,0⟩
def zaB (c d:Cm):Bool:=(c.k == d.k) && ((c.s == d.s) && ((c.t == d.t) && ((c.l == d.l) && ((c.q == d.q) && ((c.i == d.i) && ((fbit c.p == fbit d.p) && decide (c.g.toList = d.g.toList)))))))
theorem eqVl (c d:Cm) (W:World):(binOp .eql 182 (vlV (ofC c)) (vlV (ofC d))).run Tryz.prog W = .ok (.bool (zaB c d)) W:=by
 unfold vlV ofC
 simp only
 go_simp
 unfold zaB
 by_cases h1:c.k = d.k
 ·by_cases h2:c.s = d.s
  ·by_cases h3:c.t = d.t
   ·by_cases h4:c.l = d.l
    ·by_cases h5:c.q = d.q
     ·by_cases h6:c.i = d.i
      ·by_cases h7:fbit c.p = fbit d.p
       ·by_cases h8:c.g.toList = d.g.toList
        ·simp [h1,h2,h3,h4,h5,h6,h7,h8]
        ·simp [h1,h2,h3,h4,h5,h6,h7,h8]
       ·have h7':¬ ((fbit c.p:Int) = fbit d.p):=by omega
        have h7b:(fbit c.p == fbit d.p) = false:=by simpa using h7
        rw [if_neg h7',h7b]
        simp [h1,h2,h3,h4,h5,h6]
      ·simp [h1,h2,h3,h4,h5,h6]
     ·simp [h1,h2,h3,h4,h5]
    ·simp [h1,h2,h3,h4]
   ·simp [h1,h2,h3]
  ·simp [h1,h2]
 ·simp [h1]
theorem eqGd (c d:Cm) (W:World):(eqGuard .eql 182 (.tmp 7) (.tmp 10) (vlV (ofC c)) (vlV (ofC d))).run Tryz.prog W = .ok () W:=by
 unfold vlV ofC
 simp only
 go_simp
def CS (c d:Cm):Nat→Value→Prop
 | 0,v=>v = cmV c
 | 1,v=>v = evV (ofC c)
 | 2,v=>v = vlV (ofC c)
 | 3,v=>v = cmV d
 | 4,v=>v = evV (ofC d)
 | 5,v=>v = vlV (ofC d)
 | 6,v=>v = .bool (zaB c d)
 | 7,v=>v = .bool (zaB c d)
 | _,_=>True
set_option maxRecDepth 100000 in
set_option maxHeartbeats 1600000 in
theorem zbL (c d:Cm) (w:World) :
  Calls Tryz.prog 112 #[cmV c,cmV d] w fun e w'=>e = .returned (.bool (zaB c d))∧Below w.heap.size w w':=by
 have hs1:(w.alloc (Obj.cells c.vs.toArray 37)).heap.size = w.heap.size + 1:=zf _ _
 have hs2:((w.alloc (Obj.cells c.vs.toArray 37)).alloc (Obj.cells d.vs.toArray 37)).heap.size = w.heap.size + 1 + 1:=by rw [zf,hs1]
 have r0:=zb (zg w c.vs 37) (C:=w.heap.size + 1) ((Below.refl _ _).alloc (by rw [hs1]; omega) (Obj.cells d.vs.toArray 37)) (by omega)
 have r1:=zg (w.alloc (Obj.cells c.vs.toArray 37)) d.vs 37
 rw [hs1] at r1
 have HB0:Hid (Below w.heap.size w ((w.alloc (Obj.cells c.vs.toArray 37)).alloc (Obj.cells d.vs.toArray 37))):=((Below.refl _ _).alloc (Nat.le_refl _) _).alloc (by rw [hs1]; omega) _
 have HX:Hid (_∧_):=⟨r0,r1⟩
 have HS2:=hide hs2
 clear r0 r1 hs1 hs2
 unfold cmV
 go_enter Tryz.func112,Tryz.ntmps112
 go_wp2_with fail
 unfold Cm.vs at HB0 HX HS2
 generalize hW:((w.alloc (Obj.cells (List.toArray [.int .i64 c.k,.int .i64 c.s,.int .i64 c.t,.int .i64 c.l,.int .i64 c.q,.int .i64 c.i,.float .f64 c.p,.string c.g]) 37)).alloc (Obj.cells (List.toArray [.int .i64 d.k,.int .i64 d.s,.int .i64 d.t,.int .i64 d.l,.int .i64 d.q,.int .i64 d.i,.float .f64 d.p,.string d.g]) 37)) = W at HB0 HX HS2
 refine zaV (RGrow W (fun f=>{ tmps:=#[cmV c,cmV d,.pointer (some ⟨w.heap.size,0,none⟩),.pointer (some ⟨w.heap.size + 1,0,none⟩),f 7,f 0,f 1,f 2,f 3,f 4,f 5,f 6],defers:=[] }) (CS c d)) (by kernel_rfl) ?_ ?_ ?_
 ·refine ⟨upd (fun _=>undef) 7 (.bool false),rfl,?_,fun j hj=>by rw [List.getElem?_replicate] at hj; split at hj <;> simp at hj⟩
  rw [← hW]
  exact ⟨rfl,rfl,rfl,Nat.le_refl _,fun _ _=>rfl⟩
 ·rintro x A V ⟨f,rfl,hbel,hC⟩ hx hrd
  have hall7:=zY hrd hx (acyc _ (by kernel_rfl)) 7 (by simp)
  have e7:f 7 = .bool (zaB c d):=hC 7 hall7
  simp only [e7]
  have HBV:=hide hbel
  clear hC hx hrd hall7 e7 hbel
  go_wp2_with fail
  go_ret
  exact ⟨rfl,(za HB0).trans ((za HBV).mono (za HB0).size)⟩
 ·rintro x A V i o ⟨f,rfl,hbel,hC⟩ hx ho hxi hall
  have HBV:=hide hbel
  have HC:=hide hC
  have hw0:w.heap.size < W.heap.size:=by rw [za HS2]; omega
  have hw1:w.heap.size + 1 < W.heap.size:=by rw [za HS2]; omega
  match i,ho with
  | 0,ho =>
   obtain rfl:=Option.some.inj ho
   obtain ⟨x0,x1,x2,x3,x4,x5,x6,x7⟩:=zbw (c:=c) (zb (za HX).1 hbel hw0)
   simp only [Nat.zero_add] at x0 x1 x2 x3 x4 x5 x6 x7
   clear hall hC hbel
   rw [if_pos (by rfl)]
   unfold Oper.wp
   go_simp
   exact ⟨upd f 0 (cmV c),by simp [upd,cmV],za HBV,zE (za HC) rfl⟩
  | 1,ho =>
   obtain rfl:=Option.some.inj ho
   have g0:f 0 = cmV c:=hC 0 (hall ⟨0,.data⟩ (by simp) rfl)
   clear hall hC hbel
   rw [if_pos (by rfl)]
   unfold Oper.wp
   unfold cmV at g0
   go_simp
   exact ⟨upd f 1 (evV (ofC c)),by simp [upd,evV,ofC,cmV,g0],za HBV,zE (za HC) rfl⟩
  | 2,ho =>
   obtain rfl:=Option.some.inj ho
   have g1:f 1 = evV (ofC c):=hC 1 (hall ⟨1,.data⟩ (by simp) rfl)
   clear hall hC hbel
   rw [if_pos (by rfl)]
   unfold Oper.wp
   go_simp
   refine (valueOf_any (ofC c) V).mono ?_
   rintro e w4 ⟨rfl,hb4⟩
   exact ⟨upd f 2 (vlV (ofC c)),by simp [upd,g1],(za HBV).trans (hb4.mono (za HBV).size),zE (za HC) rfl⟩
  | 3,ho =>
   obtain rfl:=Option.some.inj ho
   obtain ⟨x0,x1,x2,x3,x4,x5,x6,x7⟩:=zbw (c:=d) (zb (za HX).2 hbel hw1)
   simp only [Nat.zero_add] at x0 x1 x2 x3 x4 x5 x6 x7
   clear hall hC hbel
   rw [if_pos (by rfl)]
   unfold Oper.wp
   go_simp
   exact ⟨upd f 3 (cmV d),by simp [upd,cmV],za HBV,zE (za HC) rfl⟩
  | 4,ho =>
   obtain rfl:=Option.some.inj ho
   have g0:f 3 = cmV d:=hC 3 (hall ⟨3,.data⟩ (by simp) rfl)
   clear hall hC hbel
   rw [if_pos (by rfl)]
   unfold Oper.wp
   unfold cmV at g0
   go_simp
   exact ⟨upd f 4 (evV (ofC d)),by simp [upd,evV,ofC,cmV,g0],za HBV,zE (za HC) rfl⟩
  | 5,ho =>
   obtain rfl:=Option.some.inj ho
   have g1:f 4 = evV (ofC d):=hC 4 (hall ⟨4,.data⟩ (by simp) rfl)
   clear hall hC hbel
   rw [if_pos (by rfl)]
   unfold Oper.wp
   go_simp
   refine (valueOf_any (ofC d) V).mono ?_
   rintro e w4 ⟨rfl,hb4⟩
   exact ⟨upd f 5 (vlV (ofC d)),by simp [upd,g1],(za HBV).trans (hb4.mono (za HBV).size),zE (za HC) rfl⟩
  | 6,ho =>
   obtain rfl:=Option.some.inj ho
   have g2:f 2 = vlV (ofC c):=hC 2 (hall ⟨2,.data⟩ (by simp) rfl)
   have g5:f 5 = vlV (ofC d):=hC 5 (hall ⟨5,.data⟩ (by simp) rfl)
   have he:=eqVl c d V
   have hg:=eqGd c d V
   clear hall hC hbel
   rw [if_pos (by rfl)]
   unfold Oper.wp
   go_simp
   exact ⟨upd f 6 (.bool (zaB c d)),by simp [upd,g2,g5],za HBV,zE (za HC) rfl⟩
  | 7,ho =>
   obtain rfl:=Option.some.inj ho
   have g6:f 6 = .bool (zaB c d):=hC 6 (hall ⟨6,.data⟩ (by simp) rfl)
   clear hall hC hbel
   rw [if_pos (by rfl)]
   unfold Oper.wp
   go_simp
   exact ⟨upd f 7 (.bool (zaB c d)),by simp [upd,g6],za HBV,zE (za HC) rfl⟩
  | n + 8,ho=>simp at ho
end Go.Proofs.YtfoabgghlnjjoaaGreat
namespace Go.Proofs.YtfoabgghlnjjoaaGreat
open Go.RowKit
set_option linter.unusedVariables false

theorem zcc {w:World} {b o n:Nat} (h:w.there b o n) (j:Nat) (hj:j < n):∃ v,w.cell? ⟨b,o + j,none⟩ = some v∧w.frozen? ⟨b,o + j,none⟩ = false:=by
  obtain ⟨v,hv⟩:=Option.isSome_iff_exists.1 (h j hj).1
  exact ⟨v,hv,(h j hj).2⟩
theorem there6 {w:World} {b o:Nat} (h:w.there b o 6) :
    (∃ v,w.cell? ⟨b,o,none⟩ = some v∧w.frozen? ⟨b,o,none⟩ = false)∧(∃ v,w.cell? ⟨b,o + 1,none⟩ = some v∧w.frozen? ⟨b,o + 1,none⟩ = false) ∧
    (∃ v,w.cell? ⟨b,o + 2,none⟩ = some v∧w.frozen? ⟨b,o + 2,none⟩ = false)∧(∃ v,w.cell? ⟨b,o + 3,none⟩ = some v∧w.frozen? ⟨b,o + 3,none⟩ = false) ∧
    (∃ v,w.cell? ⟨b,o + 4,none⟩ = some v∧w.frozen? ⟨b,o + 4,none⟩ = false)∧(∃ v,w.cell? ⟨b,o + 5,none⟩ = some v∧w.frozen? ⟨b,o + 5,none⟩ = false) :=
  ⟨zcc h 0 (by omega),zcc h 1 (by omega),zcc h 2 (by omega),zcc h 3 (by omega),zcc h 4 (by omega),zcc h 5 (by omega)⟩
theorem takeR {α:Type} (l:List α) (k:Nat) (c:α) (h:l[k]? = some c):l.take (k + 1) = l.take k ++ [c]:=by
  obtain ⟨hk,rfl⟩:=List.getElem?_eq_some_iff.1 h
  rw [List.take_succ_eq_append_getElem hk]
theorem Tryz.infoOrder:(Tryz.prog.info? 100).map (fun i=>(i.zero,i.size,i.bytes)) = some (some (.agg #[.int .i64 0,.int .i64 0,.int .i64 0,.int .i64 0,.int .i64 0,.string ⟨#[]⟩]),6,56):=by kernel_rfl
set_option maxHeartbeats 400000 in
theorem eqOrder_same (o:Od) (w:World) :
    Calls Tryz.prog 87 #[.agg #[.int .i64 o.id,.int .i64 o.side,.int .i64 o.ticks,.int .i64 o.left,.int .i64 o.life,.string o.tag],.agg #[.int .i64 o.id,.int .i64 o.side,.int .i64 o.ticks,.int .i64 o.left,.int .i64 o.life,.string o.tag]] w fun e w'=>e = .returned (.bool true)∧Below w.heap.size w w':=by
  obtain ⟨id,side,ticks,left,life,tag⟩:=o
  simp only
  go_enter Tryz.func87,Tryz.ntmps87
  go_wp2_with fail
  go_returns
  refine ⟨rfl,?_⟩
  go_grown
set_option maxRecDepth 100000 in
set_option maxHeartbeats 400000 in
theorem eqOrderS_same (va vb:Value) (l:List Od) (w:World) (ha:RdR Od.vs 6 w va l) (hb:RdR Od.vs 6 w vb l) :
    Calls Tryz.prog 40 #[va,vb] w fun e w'=>e = .returned (.bool true)∧Below w.heap.size w w':=by
  obtain ⟨aa,ca,rfl,hl,hca⟩:=ha
  obtain ⟨ab,cb,rfl,_,hcb⟩:=hb
  have hcell:∀ (k:Nat) (c:Od),l[k]? = some c→∃ b off b' off',aa = some ⟨b,off,none⟩∧ab = some ⟨b',off',none⟩∧b < w.heap.size∧b' < w.heap.size∧w.rangeAt b (off + k * 6) c.vs∧w.rangeAt b' (off' + k * 6) c.vs:=by
    intro k c hk
    have hne:l ≠ []:=by intro h; rw [h] at hk; simp at hk
    obtain ⟨b,off,h1,h2,h3⟩:=hca hne
    obtain ⟨b',off',h1',h2',h3'⟩:=hcb hne
    exact ⟨b,off,b',off',h1,h1',h2,h2',h3 k c hk,h3' k c hk⟩
  have HC:=hide hcell
  clear hcell hca hcb
  go_enter Tryz.func40,Tryz.ntmps40
  go_wp2_with fail
  go_loopw [5] (fun i wr=>∃ k:Nat,k ≤ l.length∧i = .int .i64 k∧Below w.heap.size w wr) (fun i _=>l.length - (intOf i).toNat)
  case atStart=>exact ⟨0,Nat.zero_le _,rfl,Below.refl _ _⟩
  case round =>
    obtain ⟨k,hk,rfl,hbel⟩:=hrel
    have HB:=hide hbel
    clear hbel
    by_cases hlt:k < l.length
    · obtain ⟨c,hkc⟩:∃ c,l[k]? = some c:=⟨_,List.getElem?_eq_getElem hlt⟩
      obtain ⟨b,off,b',off',rfl,rfl,hb,hb',hcl,hcl'⟩:=za HC k c hkc
      obtain ⟨g0,g1,g2,g3,g4,g5⟩:=zC (zb hcl (za HB) hb)
      obtain ⟨e0,e1,e2,e3,e4,e5⟩:=zC (zb hcl' (za HB) hb')
      have hlt':(k:Int) < l.length:=by omega
      clear hkc hcl hcl' hb hb'
      go_wp2_with fail
      go_region_with (go_at_call 87; refine (eqOrder_same c _).mono ?_; rintro e w2 ⟨rfl,hb2⟩; have HB2:=hide ((za HB).drew.trans (hb2.mono (za HB).drew.size)); clear hb2)
      go_wp2_with fail
      go_roundw
      case rel=>exact ⟨k + 1,by omega,by go_num,za HB2⟩
      case measure=>simp [intOf]; omega
      all_goals exact ⟨⟨k + 1,by omega,by go_num,za HB2⟩,by simp [intOf]; omega⟩
    · go_wp2_with fail
      go_ret
      exact ⟨rfl,za HB⟩
set_option maxHeartbeats 400000 in
theorem eqBook_same (n:Int) (va vb:Value) (l:List Od) (w:World) (ha:RdR Od.vs 6 w va l) (hb:RdR Od.vs 6 w vb l) :
    Calls Tryz.prog 12 #[.agg #[.int .i64 n,va],.agg #[.int .i64 n,vb]] w fun e w'=>e = .returned (.bool true)∧Below w.heap.size w w':=by
  have HA:=hide ha
  have HB:=hide hb
  obtain ⟨aa,ca,rfl,_,_⟩:=ha
  obtain ⟨ab,cb,rfl,_,_⟩:=hb
  have H0:Hid (Below w.heap.size w ((w.alloc (Obj.cells #[.int .i64 n,.slice aa l.length ca] 32)).alloc (Obj.cells #[.int .i64 n,.slice ab l.length cb] 32))):=((Below.refl _ _).alloc (Nat.le_refl _) _).alloc (by rw [zf]; omega) _
  go_enter Tryz.func12,Tryz.ntmps12
  go_wp2_with fail
  refine (eqOrderS_same _ _ l _ (zi (za HA) (za H0) (Nat.le_refl _)) (zi (za HB) (za H0) (Nat.le_refl _))).mono ?_
  rintro e w1 ⟨rfl,hb1⟩
  have HB1:=hide ((za H0).trans (hb1.mono (za H0).size))
  clear hb1
  go_wp2_with fail
  go_ret
  exact ⟨rfl,za HB1⟩
end Go.Proofs.YtfoabgghlnjjoaaGreat
namespace Go.Proofs.YtfoabgghlnjjoaaGreat
open Go.RowKit
set_option linter.unusedVariables false

end Go.Proofs.YtfoabgghlnjjoaaGreat
namespace Go.Proofs.YtfoabgghlnjjoaaGreat
open Go.RowKit
set_option linter.unusedVariables false

def ahdB (a b:Od):Bool:=if a.ticks = b.ticks then decide (a.id < b.id) else (decide (b.ticks < a.ticks) == decide (a.side = 1))
theorem l03Better_any (o c:Od) (w:World) :
    Calls Tryz.prog 97 #[.agg #[.int .i64 o.id,.int .i64 o.side,.int .i64 o.ticks,.int .i64 o.left,.int .i64 o.life,.string o.tag],.agg #[.int .i64 c.id,.int .i64 c.side,.int .i64 c.ticks,.int .i64 c.left,.int .i64 c.life,.string c.tag]] w fun e w'=>e = .returned (.bool (ahdB o c))∧w.grownBy w' none:=by
  by_cases h:o.ticks = c.ticks
  · have h':(o.ticks == c.ticks) = true:=by simpa using h
    have HA:Hid (ahdB o c = decide (o.id < c.id)):=if_pos h
    go_enter Tryz.func97,Tryz.ntmps97
    go_wp2_with fail
    go_ret
    exact ⟨zF (za HA).symm,(World.grownBy_alloc _ _ _).trans (World.grownBy_alloc _ _ _)⟩
  · have HA:Hid (ahdB o c = (decide (c.ticks < o.ticks) == decide (o.side = 1))):=if_neg h
    go_enter Tryz.func97,Tryz.ntmps97
    go_wp2_with fail
    go_ret
    exact ⟨zF (by rw [za HA]; rfl),(World.grownBy_alloc _ _ _).trans (World.grownBy_alloc _ _ _)⟩
theorem ahd_iff (a b:Od):ahdB a b = true ↔ ahd (decide (a.side = 1)) a b:=by
  unfold ahdB ahd
  by_cases h:a.ticks = b.ticks
  · rw [if_pos h]
    simp only [decide_eq_true_eq]
    constructor
    · exact fun h1=>.inr ⟨h,h1⟩
    · rintro (h1 | h1)
      · rw [h] at h1; exact absurd h1 (bt_irr _ _)
      · exact h1.2
  · rw [if_neg h]
    by_cases hs:a.side = 1
    · simp only [hs,decide_true,beq_true,decide_eq_true_eq,bt]
      constructor
      · exact fun h1=>.inl h1
      · rintro (h1 | h1)
        · exact h1
        · exact absurd h1.1 h
    · simp only [hs,decide_false,beq_false,Bool.not_eq_true',decide_eq_false_iff_not,bt]
      constructor
      · exact fun h1=>.inl (by omega)
      · rintro (h1 | h1)
        · omega
        · exact absurd h1.1 h
def FrPre (l:List Od) (sd:Int) (k:Nat) (best:Int):Prop :=
  (best = -1∧∀ j o,j < k→l[j]? = some o→o.side ≠ sd) ∨
  ∃ (i:Nat) (o:Od),best = i∧i < k∧l[i]? = some o∧o.side = sd∧∀ j o',j < k→l[j]? = some o'→o'.side = sd→j ≠ i→ahd (decide (sd = 1)) o o'
theorem frPre_skip {l:List Od} {sd:Int} {k:Nat} {best:Int} {c:Od} (h:FrPre l sd k best) (hc:l[k]? = some c) (hs:c.side ≠ sd):FrPre l sd (k + 1) best:=by
  rcases h with ⟨rfl,h⟩ | ⟨i,o,rfl,h1,h2,h3,h4⟩
  · refine .inl ⟨rfl,fun j o hj ho=>?_⟩
    by_cases hjk:j = k
    · subst hjk; rw [hc] at ho; obtain rfl:=Option.some.inj ho; exact hs
    · exact h j o (by omega) ho
  · refine .inr ⟨i,o,rfl,by omega,h2,h3,fun j o' hj ho hso hne=>?_⟩
    by_cases hjk:j = k
    · subst hjk; rw [hc] at ho; obtain rfl:=Option.some.inj ho; exact absurd hso hs
    · exact h4 j o' (by omega) ho hso hne
theorem frPre_first {l:List Od} {sd:Int} {k:Nat} {c:Od} (h:FrPre l sd k (-1)) (hc:l[k]? = some c) (hs:c.side = sd):FrPre l sd (k + 1) k:=by
  rcases h with ⟨_,h⟩ | ⟨i,o,h0,_⟩
  · refine .inr ⟨k,c,rfl,by omega,hc,hs,fun j o' hj ho hso hne=>?_⟩
    exact absurd hso (h j o' (by omega) ho)
  · omega
theorem rising_ne {l:List Od} (hr:zbe l) {i j:Nat} {a b:Od} (ha:l[i]? = some a) (hb:l[j]? = some b) (hne:i ≠ j):a.id ≠ b.id:=by
  obtain ⟨h1,rfl⟩:=List.getElem?_eq_some_iff.1 ha
  obtain ⟨h2,rfl⟩:=List.getElem?_eq_some_iff.1 hb
  have hp:=List.pairwise_iff_getElem.1 hr
  rcases Nat.lt_or_gt_of_ne hne with h | h
  · have:=hp i j h1 h2 h; omega
  · have:=hp j i h2 h1 h; omega
theorem frPre_better {l:List Od} {sd:Int} {k i:Nat} {c o:Od} (hr:zbe l) (h:FrPre l sd k i) (ho:l[i]? = some o) (hc:l[k]? = some c) (hs:c.side = sd) (hb:ahdB c o = true):FrPre l sd (k + 1) k:=by
  rcases h with ⟨h0,h⟩ | ⟨i',o',h0,h1,h2,h3,h4⟩
  · omega
  · obtain rfl:i = i':=by omega
    rw [ho] at h2; obtain rfl:=Option.some.inj h2
    have hco:ahd (decide (sd = 1)) c o:=by rw [← hs]; exact (ahd_iff c o).1 hb
    refine .inr ⟨k,c,rfl,by omega,hc,hs,fun j o' hj ho' hso hne=>?_⟩
    by_cases hji:j = i
    · subst hji; rw [ho] at ho'; obtain rfl:=Option.some.inj ho'; exact hco
    · exact ahd_trans hco (h4 j o' (by omega) ho' hso hji)
theorem frPre_worse {l:List Od} {sd:Int} {k i:Nat} {c o:Od} (hr:zbe l) (h:FrPre l sd k i) (ho:l[i]? = some o) (hc:l[k]? = some c) (hs:c.side = sd) (hb:ahdB c o = false):FrPre l sd (k + 1) i:=by
  rcases h with ⟨h0,h⟩ | ⟨i',o',h0,h1,h2,h3,h4⟩
  · omega
  · obtain rfl:i = i':=by omega
    rw [ho] at h2; obtain rfl:=Option.some.inj h2
    have hnco:¬ ahd (decide (sd = 1)) c o:=by rw [← hs]; intro hh; rw [(ahd_iff c o).2 hh] at hb; cases hb
    have hoc:ahd (decide (sd = 1)) o c:=by
      rcases ahd_total (s:=decide (sd = 1)) (rising_ne hr hc ho (by omega)) with hh | hh
      · exact absurd hh hnco
      · exact hh
    refine .inr ⟨i,o,rfl,by omega,ho,h3,fun j o' hj ho' hso hne=>?_⟩
    by_cases hjk:j = k
    · subst hjk; rw [hc] at ho'; obtain rfl:=Option.some.inj ho'; exact hoc
    · exact h4 j o' (by omega) ho' hso hne
set_option maxRecDepth 100000 in
set_option maxHeartbeats 800000 in
theorem l03Front_any (v:Value) (l:List Od) (sd:Int) (w:World) (hr:RdR Od.vs 6 w v l) (hri:zbe l) (hn:l.length ≤ 1000) :
    Calls Tryz.prog 62 #[v,.int .i64 sd] w fun e w'=>∃ k:Int,e = .returned (.int .i64 k)∧FrPre l sd l.length k∧w.grownBy w' none:=by
  obtain ⟨a,cap,rfl,hlen,hc⟩:=hr
  have hcell:∀ (k:Nat) (c:Od),l[k]? = some c→∃ b off,a = some ⟨b,off,none⟩∧b < w.heap.size∧w.rangeAt b (off + k * 6) c.vs:=by
    intro k c hk
    obtain ⟨b,off,h1,h2,h3⟩:=hc (by intro h; rw [h] at hk; simp at hk)
    exact ⟨b,off,h1,h2,h3 k c hk⟩
  have HC:=hide hcell
  have HRI:=hide hri
  clear hcell hc hri
  go_enter Tryz.func62,Tryz.ntmps62
  go_wp2_with fail
  go_loopw [5,6] (fun bv iv wr=>∃ (k:Nat) (best:Int),bv = .int .i64 best∧k ≤ l.length∧iv = .int .i64 k∧Hid (FrPre l sd k best)∧w.grownBy wr none) (fun _ iv _=>l.length - (intOf iv).toNat)
  case atStart=>exact ⟨0,-1,rfl,Nat.zero_le _,rfl,.inl ⟨rfl,fun j o hj=>by omega⟩,World.grownBy.refl _ _⟩
  case round =>
    obtain ⟨k,best,rfl,hk,rfl,hfr,hg⟩:=hrel
    have HG:=hide hg
    clear hg
    by_cases hlt:k < l.length
    · obtain ⟨c,hkc⟩:∃ c,l[k]? = some c:=⟨_,List.getElem?_eq_getElem hlt⟩
      obtain ⟨b,off,rfl,hb,hcl⟩:=za HC k c hkc
      have HKC:=hide hkc
      obtain ⟨g0,g1,g2,g3,g4,g5⟩:=zC (zr hcl (za HG) hb (by simp))
      have hlt':(k:Int) < l.length:=by omega
      have HCL:=hide hcl
      have HHB:=hide hb
      clear hkc hcl
      by_cases hs:c.side = sd
      · subst hs
        rcases za hfr with ⟨rfl,hno⟩ | ⟨i,o,rfl,hi,hio,hso,hah⟩
        · have HN:=hide (frPre_first (za hfr) (za HKC) rfl)
          clear hno
          go_wp2_with fail
          go_quiet (fail)
          go_wp2_with fail
          go_roundw
          case rel=>exact ⟨k + 1,k,rfl,by omega,by go_num,za HN,zaZ (za HG) rfl rfl rfl rfl⟩
          case measure=>simp [intOf]; omega
        · obtain ⟨b',off',hbe,hb',hcl'⟩:=za HC i o hio
          simp only [Option.some.injEq,Addr.mk.injEq,and_true] at hbe
          obtain ⟨rfl,rfl⟩:=hbe
          obtain ⟨e0,e1,e2,e3,e4,e5⟩:=zC (zr hcl' (za HG) hb (by simp))
          have hlti:(i:Int) < l.length:=by have:=(List.getElem?_eq_some_iff.1 hio).1; omega
          have hi0:¬ ((i:Int) < 0):=by omega
          have hi0':decide ((i:Int) < 0) = false:=by simp
          have HCEL:Hid (∀ w',wr.grownBy w' none→w'.rangeAt b (off + k * 6) c.vs∧w'.rangeAt b (off + i * 6) o.vs):=fun w' h'=>⟨zr (zr (za HCL) (za HG) hb (by simp)) h' (Nat.lt_of_lt_of_le hb (za HG).size) (by simp),zr (zr hcl' (za HG) hb (by simp)) h' (Nat.lt_of_lt_of_le hb (za HG).size) (by simp)⟩
          have HHI:Hid (l[i]? = some o):=hio
          clear hah hio hcl' hso
          go_wp2_with fail
          refine zar (W:=wr) (by kernel_rfl) (by kernel_rfl) (World.grownBy.refl _ _) ?_
          iterate 19 (
            refine zag (v:=?_) ?_ ?_ ?_
            rotate_left
            · rfl
            · intro w' hw'
              obtain ⟨c0,c1,c2,c3,c4,c5⟩:=zC (za HCEL w' hw').1
              obtain ⟨d0,d1,d2,d3,d4,d5⟩:=zC (za HCEL w' hw').2
              go_simp
              try rfl
            intro K hK
            go_simp
            refine hK _ ?_
            clear hK K)
          refine zag (v:=.bool (ahdB c o)) ?_ ?_ ?_
          · rfl
          · intro w' hw'
            go_simp
            refine (l03Better_any c o _).mono ?_
            rintro e w3 ⟨rfl,hg3⟩
            exact ⟨rfl,hw'.trans hg3⟩
          intro K hK
          go_simp
          refine hK _ ?_
          clear hK K
          iterate 2 (
            refine zag (v:=?_) ?_ ?_ ?_
            rotate_left
            · rfl
            · intro w' hw'
              go_simp
              try rfl
            intro K hK
            go_simp
            refine hK _ ?_
            clear hK K)
          refine wpQuiet_nil ?_
          intro w2 hg2
          have HG2:=hide ((za HG).trans hg2)
          clear hg2 g0 g1 g2 g3 g4 g5 e0 e1 e2 e3 e4 e5
          cases hah:ahdB c o
          · have HN:=hide (frPre_worse (za HRI) (za hfr) (za HHI) (za HKC) rfl hah)
            go_wp2_with fail
            go_roundw
            case rel=>exact ⟨k + 1,i,rfl,by omega,by go_num,za HN,za HG2⟩
            case measure=>simp [intOf]; omega
          · have HN:=hide (frPre_better (za HRI) (za hfr) (za HHI) (za HKC) rfl hah)
            go_wp2_with fail
            go_roundw
            case rel=>exact ⟨k + 1,k,rfl,by omega,by go_num,za HN,za HG2⟩
            case measure=>simp [intOf]; omega
      · have HN:=hide (frPre_skip (za hfr) (za HKC) hs)
        have hs':(c.side == sd) = false:=by simpa using hs
        go_wp2_with fail
        go_quiet (fail)
        go_wp2_with fail
        go_roundw
        case rel=>exact ⟨k + 1,best,rfl,by omega,by go_num,za HN,zaZ (za HG) rfl rfl rfl rfl⟩
        case measure=>simp [intOf]; omega
    · go_wp2_with fail
      go_ret
      have h:=za hfr
      rw [show k = l.length by omega] at h
      exact ⟨_,rfl,h,za HG⟩
end Go.Proofs.YtfoabgghlnjjoaaGreat
