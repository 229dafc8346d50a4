/-
  What the laws' own comparison of floats answers, proved by walking it.
-/
import Derived.Test.YtdfihaabhichdaaGreatSj04
import Derived.Test.YtdfihaabhichdaaGreatSj05
import Derived.Test.YtdfihaabhichdaaGreatSj07
import Derived.Test.YtdfihaabhichdaaGreatSj26
import Derived.Test.YtdfihaabhichdaaGreatSj46
import Derived.Deep.RegionWith
import Derived.WalkLawsBesides
import Derived.Deep.Slices
import Derived.ChangeArms
import Derived.OpenShut
namespace Go.Proofs.YtdfihaabhichdaaGreat
open Go.RowKit
set_option linter.unusedVariables false

theorem zero_read:FloatKind.f64.format.read 0 = .number false 0 FloatKind.f64.format.leastPlace:=by decide
theorem one_read:∃ m j,FloatKind.f64.format.read 4607182418800017408 = .number false m j∧m ≠ 0:=⟨_,_,rfl,by decide⟩
theorem zero_mag (s:Bool) (m a b:Nat) (h:Ieee.signed s m a = Ieee.signed false 0 b):m = 0:=by
  have h0:Ieee.signed false 0 b = 0:=by simp [Ieee.signed]
  rw [h0] at h
  have h2:m <<< a = 0:=by
    cases s
    · have h':((m <<< a:Nat):Int) = 0:=h
      omega
    · have h':-((m <<< a:Nat):Int) = 0:=h
      omega
  rw [Nat.shiftLeft_eq] at h2
  have:=Nat.two_pow_pos a
  rcases Nat.mul_eq_zero.1 h2 with h | h
  · exact h
  · omega
theorem div_zero (x:Nat) (h:FloatKind.f64.format.order x 0 = some Ordering.eq):∃ r,FloatKind.f64.format.div 4607182418800017408 x = some r:=by
  obtain ⟨m1,j1,h1,hm1⟩:=one_read
  unfold Ieee.Format.order at h
  rw [zero_read] at h
  unfold Ieee.Format.div
  rw [h1]
  cases hx:FloatKind.f64.format.read x with
  | nan s f=>rw [hx] at h; simp [Ieee.Datum.order] at h
  | infinity s=>rw [hx] at h; cases s <;> simp [Ieee.Datum.order] at h
  | number s m i =>
    rw [hx] at h
    simp only [Ieee.Datum.order,Option.some.injEq] at h
    have hm:=zero_mag s m _ _ (Std.LawfulEqCmp.eq_of_compare h)
    subst hm
    exact ⟨FloatKind.f64.format.write (.infinity s),by simp [Ieee.Datum.quotient,hm1]⟩
set_option maxRecDepth 100000 in
set_option maxHeartbeats 400000 in
theorem sameFloat_any (x:Nat) (w:World) :
    Calls Tryz.prog 89 #[.float .f64 x,.float .f64 x] w fun e w'=>e = .returned (.bool true)∧w' = w:=by
  cases hn:nanB x with
  | true =>
    have h':(FloatKind.f64.format.order x x != some Ordering.eq) = true:=hn
    clear hn
    go_enter Tryz.func89,Tryz.ntmps89
    go_wp2
    go_ret
    exact ⟨rfl,rfl⟩
  | false =>
    have h':(FloatKind.f64.format.order x x != some Ordering.eq) = false:=hn
    have h2:FloatKind.f64.format.order x x = some Ordering.eq:=by simpa using h'
    clear hn
    by_cases hz:FloatKind.f64.format.order x 0 = some Ordering.eq
    · obtain ⟨r,hr⟩:=div_zero x hz
      have hq:∀ W,(binOp .quo 25 (.float .f64 4607182418800017408) (.float .f64 x)).run Tryz.prog W = .ok (.float .f64 r) W:=fun W=>by simp [binOp,Op.floatArith,hr]
      have hz':(FloatKind.f64.format.order x 0 == some Ordering.eq) = true:=by rw [hz]; rfl
      clear hz hr
      go_enter Tryz.func89,Tryz.ntmps89
      go_wp2
      all_goals go_ret
      all_goals exact ⟨zl (by simp),rfl⟩
    · have hz':(FloatKind.f64.format.order x 0 == some Ordering.eq) = false:=by simpa using hz
      clear hz
      go_enter Tryz.func89,Tryz.ntmps89
      go_wp2
      go_ret
      exact ⟨zl (by simp),rfl⟩
end Go.Proofs.YtdfihaabhichdaaGreat
namespace Go.Proofs.YtdfihaabhichdaaGreat
open Go.RowKit
set_option linter.unusedVariables false

set_option maxHeartbeats 400000 in
theorem eqCmd_same (c:Cm) (w:World) :
    Calls Tryz.prog 48 #[.agg #[.int .i64 c.k,.int .i64 c.s,.int .i64 c.t,.int .i64 c.l,.int .i64 c.q,.int .i64 c.i,.float .f64 c.p,.string c.g],.agg #[.int .i64 c.k,.int .i64 c.s,.int .i64 c.t,.int .i64 c.l,.int .i64 c.q,.int .i64 c.i,.float .f64 c.p,.string c.g]] w fun e w' =>
      e = .returned (.bool true)∧Below w.heap.size w w':=by
  obtain ⟨k,s,t,l,q,i,p,g⟩:=c
  simp only
  go_enter Tryz.func48,Tryz.ntmps48
  go_wp2_with (go_at_call 89; refine (sameFloat_any _ _).mono ?_; rintro e w' ⟨rfl,rfl⟩)
  go_returns
  refine ⟨rfl,?_⟩
  go_grown
end Go.Proofs.YtdfihaabhichdaaGreat
namespace Go.Proofs.YtdfihaabhichdaaGreat
open Go.RowKit
set_option linter.unusedVariables false

end Go.Proofs.YtdfihaabhichdaaGreat
namespace Go.Proofs.YtdfihaabhichdaaGreat
open Go.RowKit Go.ChangeShapes Go.WideShapes Go.Deep
set_option linter.unusedVariables false

set_option maxHeartbeats 400000 in
theorem szCmd_any (c:Cm) (x:Int) (w:World) (h0:0 ≤ x) (h1:x ≤ 1073741824) (hg:c.g.size ≤ maxLen) :
    Calls Tryz.prog 7 #[.agg #[.int .i64 c.k,.int .i64 c.s,.int .i64 c.t,.int .i64 c.l,.int .i64 c.q,.int .i64 c.i,.float .f64 c.p,.string c.g],.int .i64 x] w fun e w' =>
      ∃ y:Int,e = .returned (.int .i64 y)∧-1 ≤ y∧y ≤ x∧Below w.heap.size w w':=by
  obtain ⟨k,s,t,l,q,i,p,g⟩:=c
  simp only at *
  unfold maxLen at hg
  by_cases h:x < g.size
  · go_enter Tryz.func7,Tryz.ntmps7
    go_wp2_with fail
    go_ret
    exact ⟨_,rfl,by omega,by omega,by go_grown⟩
  · go_enter Tryz.func7,Tryz.ntmps7
    go_wp2_with fail
    go_ret
    exact ⟨_,rfl,by omega,by omega,by go_grown⟩
structure Cm.ok (c:Cm):Prop where
  k:(Lit.int .i64 c.k).wf = true
  s:(Lit.int .i64 c.s).wf = true
  t:(Lit.int .i64 c.t).wf = true
  l:(Lit.int .i64 c.l).wf = true
  q:(Lit.int .i64 c.q).wf = true
  i:(Lit.int .i64 c.i).wf = true
  p:(Lit.float .f64 c.p).wf = true
  g:c.g.size ≤ maxLen
section
variable {H:Type} {enc:TypeId × Value→H} {w:World} {base:Nat} {spare:Nat→Bool} {held:Bool}

theorem trod_flt {P:Program} {t:TypeId} {k:FloatKind} {fuel:Nat} {cs:List Value} {x:DataW H × List MemPlace} (ht:P.underlying t = some (.float k)) (h:DataW.trod enc P w base spare held fuel t cs = some x) :
    ∃ n,cs = [.float k n]∧(Lit.float k n).wf = true:=by
  cases fuel with
  | zero=>simp [DataW.trod] at h
  | succ n =>
    unfold DataW.trod at h
    rw [ht] at h
    split at h <;> simp_all
theorem list8 {cs:List Value} (h:cs.length = 8):∃ v0 v1 v2 v3 v4 v5 v6 v7,cs = [v0,v1,v2,v3,v4,v5,v6,v7] :=
  match cs,h with
  | [v0,v1,v2,v3,v4,v5,v6,v7],_=>⟨v0,v1,v2,v3,v4,v5,v6,v7,rfl⟩
theorem cm_opened {fuel:Nat} {cs:List Value} {x:DataW H × List MemPlace} (h:DataW.trod enc Tryz.prog w base spare held fuel 27 cs = some x):∃ c:Cm,cs = c.vs∧c.ok:=by
  obtain ⟨xs,n,_,_,hlen,hxl,hf⟩:=DataW.trod_struct Tryz.underlying27 h
  have hl8:cs.length = 8:=hlen.trans (by kernel_rfl)
  have k3:Tryz.prog.cellsOf 3 = 1:=by kernel_rfl
  have k22:Tryz.prog.cellsOf 25 = 1:=by kernel_rfl
  have k9:Tryz.prog.cellsOf 9 = 1:=by kernel_rfl
  have hx:∀ i,i < 8→∃ y,xs[i]? = some y:=fun i hi=>⟨_,List.getElem?_eq_getElem (by rw [hxl]; exact hi)⟩
  obtain ⟨y0,e0⟩:=hx 0 (by omega)
  obtain ⟨y1,e1⟩:=hx 1 (by omega)
  obtain ⟨y2,e2⟩:=hx 2 (by omega)
  obtain ⟨y3,e3⟩:=hx 3 (by omega)
  obtain ⟨y4,e4⟩:=hx 4 (by omega)
  obtain ⟨y5,e5⟩:=hx 5 (by omega)
  obtain ⟨y6,e6⟩:=hx 6 (by omega)
  obtain ⟨y7,e7⟩:=hx 7 (by omega)
  have f0:DataW.trod enc Tryz.prog w base spare held n 3 ((cs.drop 0).take (Tryz.prog.cellsOf 3)) = some y0:=(hf 0 _ rfl).trans e0
  have f1:DataW.trod enc Tryz.prog w base spare held n 3 ((cs.drop 1).take (Tryz.prog.cellsOf 3)) = some y1:=(hf 1 _ rfl).trans e1
  have f2:DataW.trod enc Tryz.prog w base spare held n 3 ((cs.drop 2).take (Tryz.prog.cellsOf 3)) = some y2:=(hf 2 _ rfl).trans e2
  have f3:DataW.trod enc Tryz.prog w base spare held n 3 ((cs.drop 3).take (Tryz.prog.cellsOf 3)) = some y3:=(hf 3 _ rfl).trans e3
  have f4:DataW.trod enc Tryz.prog w base spare held n 3 ((cs.drop 4).take (Tryz.prog.cellsOf 3)) = some y4:=(hf 4 _ rfl).trans e4
  have f5:DataW.trod enc Tryz.prog w base spare held n 3 ((cs.drop 5).take (Tryz.prog.cellsOf 3)) = some y5:=(hf 5 _ rfl).trans e5
  have f6:DataW.trod enc Tryz.prog w base spare held n 25 ((cs.drop 6).take (Tryz.prog.cellsOf 25)) = some y6:=(hf 6 _ rfl).trans e6
  have f7:DataW.trod enc Tryz.prog w base spare held n 9 ((cs.drop 7).take (Tryz.prog.cellsOf 9)) = some y7:=(hf 7 _ rfl).trans e7
  clear hf hx e0 e1 e2 e3 e4 e5 e6 e7 h hlen
  obtain ⟨v0,v1,v2,v3,v4,v5,v6,v7,rfl⟩:=list8 hl8
  · clear hl8
    simp only [k3,k22,k9,List.drop_zero,List.drop_succ_cons,List.take_succ_cons,List.take_zero] at f0 f1 f2 f3 f4 f5 f6 f7
    obtain ⟨n0,c0,_,b0⟩:=DataW.trod_int Tryz.underlying3 f0
    obtain ⟨n1,c1,_,b1⟩:=DataW.trod_int Tryz.underlying3 f1
    obtain ⟨n2,c2,_,b2⟩:=DataW.trod_int Tryz.underlying3 f2
    obtain ⟨n3,c3,_,b3⟩:=DataW.trod_int Tryz.underlying3 f3
    obtain ⟨n4,c4,_,b4⟩:=DataW.trod_int Tryz.underlying3 f4
    obtain ⟨n5,c5,_,b5⟩:=DataW.trod_int Tryz.underlying3 f5
    obtain ⟨n6,c6,b6⟩:=trod_flt Tryz.underlying25 f6
    obtain ⟨n7,c7,_,b7⟩:=DataW.trod_string Tryz.underlying9 f7
    simp only [List.cons.injEq,and_true] at c0 c1 c2 c3 c4 c5 c6 c7
    subst c0 c1 c2 c3 c4 c5 c6 c7
    exact ⟨⟨n0,n1,n2,n3,n4,n5,n6,n7⟩,rfl,⟨b0,b1,b2,b3,b4,b5,b6,b7⟩⟩
end
end Go.Proofs.YtdfihaabhichdaaGreat
namespace Go.Proofs.YtdfihaabhichdaaGreat
open Go.RowKit
set_option linter.unusedVariables false

end Go.Proofs.YtdfihaabhichdaaGreat
namespace Go.Proofs.YtdfihaabhichdaaGreat
open Go.RowKit
set_option linter.unusedVariables false

set_option maxRecDepth 100000 in
set_option maxHeartbeats 1600000 in
theorem eqEvent_same (e:Ev) (w:World) :
  Calls Tryz.prog 41 #[evV e,evV e] w fun x w'=>x = .returned (.bool true)∧Below w.heap.size w w':=by
 obtain ⟨kind,⟨k,s,t,l,q,i,p,g⟩,id,other,qty,price,reason⟩:=e
 unfold evV
 have HE:=hide (fun W=>eqCmd_same ⟨k,s,t,l,q,i,p,g⟩ W)
 simp only at *
 have hs1:(w.alloc (Obj.cells #[.int .i64 kind,.int .i64 k,.int .i64 s,.int .i64 t,.int .i64 l,.int .i64 q,.int .i64 i,.float .f64 p,.string g,.int .i64 id,.int .i64 other,.int .i64 qty,.int .i64 price,.int .i64 reason] 80)).heap.size = w.heap.size + 1:=ze _ _
 have hs2:((w.alloc (Obj.cells #[.int .i64 kind,.int .i64 k,.int .i64 s,.int .i64 t,.int .i64 l,.int .i64 q,.int .i64 i,.float .f64 p,.string g,.int .i64 id,.int .i64 other,.int .i64 qty,.int .i64 price,.int .i64 reason] 80)).alloc (Obj.cells #[.int .i64 kind,.int .i64 k,.int .i64 s,.int .i64 t,.int .i64 l,.int .i64 q,.int .i64 i,.float .f64 p,.string g,.int .i64 id,.int .i64 other,.int .i64 qty,.int .i64 price,.int .i64 reason] 80)).heap.size = w.heap.size + 1 + 1:=by rw [ze,hs1]
 have b1:Below (w.heap.size + 1) (w.alloc (Obj.cells #[.int .i64 kind,.int .i64 k,.int .i64 s,.int .i64 t,.int .i64 l,.int .i64 q,.int .i64 i,.float .f64 p,.string g,.int .i64 id,.int .i64 other,.int .i64 qty,.int .i64 price,.int .i64 reason] 80)) ((w.alloc (Obj.cells #[.int .i64 kind,.int .i64 k,.int .i64 s,.int .i64 t,.int .i64 l,.int .i64 q,.int .i64 i,.float .f64 p,.string g,.int .i64 id,.int .i64 other,.int .i64 qty,.int .i64 price,.int .i64 reason] 80)).alloc (Obj.cells #[.int .i64 kind,.int .i64 k,.int .i64 s,.int .i64 t,.int .i64 l,.int .i64 q,.int .i64 i,.float .f64 p,.string g,.int .i64 id,.int .i64 other,.int .i64 qty,.int .i64 price,.int .i64 reason] 80)):=(Below.refl _ _).alloc (by rw [hs1]; omega) _
 have r1:=zb (zh w [.int .i64 kind,.int .i64 k,.int .i64 s,.int .i64 t,.int .i64 l,.int .i64 q,.int .i64 i,.float .f64 p,.string g,.int .i64 id,.int .i64 other,.int .i64 qty,.int .i64 price,.int .i64 reason] 80) b1 (by omega)
 have r2:=zh (w.alloc (Obj.cells #[.int .i64 kind,.int .i64 k,.int .i64 s,.int .i64 t,.int .i64 l,.int .i64 q,.int .i64 i,.float .f64 p,.string g,.int .i64 id,.int .i64 other,.int .i64 qty,.int .i64 price,.int .i64 reason] 80)) [.int .i64 kind,.int .i64 k,.int .i64 s,.int .i64 t,.int .i64 l,.int .i64 q,.int .i64 i,.float .f64 p,.string g,.int .i64 id,.int .i64 other,.int .i64 qty,.int .i64 price,.int .i64 reason] 80
 rw [hs1] at r2
 have HB:Hid (Below w.heap.size w ((w.alloc (Obj.cells #[.int .i64 kind,.int .i64 k,.int .i64 s,.int .i64 t,.int .i64 l,.int .i64 q,.int .i64 i,.float .f64 p,.string g,.int .i64 id,.int .i64 other,.int .i64 qty,.int .i64 price,.int .i64 reason] 80)).alloc (Obj.cells #[.int .i64 kind,.int .i64 k,.int .i64 s,.int .i64 t,.int .i64 l,.int .i64 q,.int .i64 i,.float .f64 p,.string g,.int .i64 id,.int .i64 other,.int .i64 qty,.int .i64 price,.int .i64 reason] 80))):=((Below.refl _ _).alloc (Nat.le_refl _) _).alloc (by rw [hs1]; omega) _
 have HX:Hid (_∧_∧_):=⟨r1,r2,hs2⟩
 clear r1 r2 b1 hs1 hs2
 go_enter Tryz.func41,Tryz.ntmps41
 go_wp2_with fail
 generalize ((w.alloc (Obj.cells #[.int .i64 kind,.int .i64 k,.int .i64 s,.int .i64 t,.int .i64 l,.int .i64 q,.int .i64 i,.float .f64 p,.string g,.int .i64 id,.int .i64 other,.int .i64 qty,.int .i64 price,.int .i64 reason] 80)).alloc (Obj.cells #[.int .i64 kind,.int .i64 k,.int .i64 s,.int .i64 t,.int .i64 l,.int .i64 q,.int .i64 i,.float .f64 p,.string g,.int .i64 id,.int .i64 other,.int .i64 qty,.int .i64 price,.int .i64 reason] 80)) = W at HX HB ⊢
 obtain ⟨hr1,hr2,hsW⟩:=za HX
 refine (za HE _).mono ?_
 rintro e w2 ⟨rfl,hb2⟩
 have HB2:=hide ((za HB).trans (hb2.mono (za HB).size))
 have q1:=zb hr1 hb2 (by omega)
 have q2:=zb hr2 hb2 (by omega)
 have x9:=q1 9 _ rfl
 have x10:=q1 10 _ rfl
 have x11:=q1 11 _ rfl
 have x12:=q1 12 _ rfl
 have x13:=q1 13 _ rfl
 have y9:=q2 9 _ rfl
 have y10:=q2 10 _ rfl
 have y11:=q2 11 _ rfl
 have y12:=q2 12 _ rfl
 have y13:=q2 13 _ rfl
 clear hr1 hr2 q1 q2 hb2 HX HB hsW
 go_wp2_with fail
 go_returns
 exact ⟨rfl,za HB2⟩
set_option maxRecDepth 100000 in
set_option maxHeartbeats 1600000 in
theorem zbQ (va vb:Value) (l:List Ev) (w:World) (ha:RdR Ev.vs 14 w va l) (hb:RdR Ev.vs 14 w vb l) :
  Calls Tryz.prog 13 #[va,vb] w fun e w'=>e = .returned (.bool true)∧Below w.heap.size w w':=by
 obtain ⟨aa,ca,rfl,hl,hca⟩:=ha
 obtain ⟨ab,cb,rfl,_,hcb⟩:=hb
 have hcell:∀ (k:Nat) (c:Ev),l[k]? = some c→∃ b off b' off',aa = some ⟨b,off,none⟩∧ab = some ⟨b',off',none⟩∧b < w.heap.size∧b' < w.heap.size∧w.rangeAt b (off + k * 14) c.vs∧w.rangeAt b' (off' + k * 14) c.vs:=by
  intro k c hk
  have hne:l ≠ []:=by intro h; rw [h] at hk; simp at hk
  obtain ⟨b,off,h1,h2,h3⟩:=hca hne
  obtain ⟨b',off',h1',h2',h3'⟩:=hcb hne
  exact ⟨b,off,b',off',h1,h1',h2,h2',h3 k c hk,h3' k c hk⟩
 have HC:=hide hcell
 clear hcell hca hcb
 go_enter Tryz.func13,Tryz.ntmps13
 go_wp2_with fail
 go_loopw [5] (fun i wr=>∃ k:Nat,k ≤ l.length∧i = .int .i64 k∧Below w.heap.size w wr) (fun i _=>l.length - (intOf i).toNat)
 case atStart=>exact ⟨0,Nat.zero_le _,rfl,Below.refl _ _⟩
 case round =>
  obtain ⟨k,hk,rfl,hbel⟩:=hrel
  have HB:=hide hbel
  clear hbel
  by_cases hlt:k < l.length
  ·obtain ⟨c,hkc⟩:∃ c,l[k]? = some c:=⟨_,List.getElem?_eq_getElem hlt⟩
   obtain ⟨b,off,b',off',rfl,rfl,hb,hb',hcl,hcl'⟩:=za HC k c hkc
   obtain ⟨g0,g1,g2,g3,g4,g5,g6,g7,g8,g9,g10,g11,g12,g13⟩:=zaP (zb hcl (za HB) hb)
   obtain ⟨e0,e1,e2,e3,e4,e5,e6,e7,e8,e9,e10,e11,e12,e13⟩:=zaP (zb hcl' (za HB) hb')
   have hlt':(k:Int) < l.length:=by omega
   clear hkc hcl hcl' hb hb'
   go_wp2_with fail
   go_region_with (go_at_call 41; refine (eqEvent_same c _).mono ?_; rintro e w2 ⟨rfl,hb2⟩; have HB2:=hide ((za HB).drew.trans (hb2.mono (za HB).drew.size)); clear hb2)
   go_wp2_with fail
   go_roundw
   case rel=>exact ⟨k + 1,by omega,by go_num,za HB2⟩
   case measure=>simp [intOf]; omega
   all_goals exact ⟨⟨k + 1,by omega,by go_num,za HB2⟩,by simp [intOf]; omega⟩
  ·go_wp2_with fail
   go_ret
   exact ⟨rfl,za HB⟩
end Go.Proofs.YtdfihaabhichdaaGreat
namespace Go.Proofs.YtdfihaabhichdaaGreat
open Go.RowKit
set_option linter.unusedVariables false

def markO (k:Nat):Od:=⟨k,(k:Int) + 1,(k:Int) + 1 + 1,(k:Int) + 1 + 1 + 1,(k:Int) + 1 + 1 + 1 + 1,markS (k + 5)⟩
def mark5 (k:Nat):List Value:=[.int .i64 (k:Int),.int .i64 ((k:Int) + 1),.int .i64 ((k:Int) + 1 + 1),.int .i64 ((k:Int) + 1 + 1 + 1),.int .i64 ((k:Int) + 1 + 1 + 1 + 1)]
def zaX (k n:Nat):List Od:=(List.range n).map fun i=>markO (k + 6 * i)
theorem zaI (k n:Nat):(zaX k n).length = n:=by simp [zaX]
theorem marksO_more (k n:Nat):zaX k (n + 1) = zaX k n ++ [markO (k + 6 * n)]:=by simp [zaX,List.range_succ]
theorem marksO_get {k n i:Nat} (h:i < n):(zaX k n)[i]? = some (markO (k + 6 * i)):=by simp [zaX,h]
set_option maxRecDepth 100000 in
set_option maxHeartbeats 800000 in
theorem markOrderS_any (g len cap k:Nat) (w:World) (hl:len ≤ 2097152) (hk0:0 < k) (hk1:k ≤ 1000000000) (hg:g < w.heap.size) (ht:w.there g 0 (len * 6)) :
    Calls Tryz.prog 42 #[.slice (some ⟨g,0,none⟩) len cap,.int .i64 k] w fun e w'=>e = .returned (.int .i64 ((k + 6 * len:Nat):Int))∧MarkR Od.vs 6 len g w w' (zaX k len):=by
  have HM:Hid (MarkR Od.vs 6 len g w w (zaX k 0)):=⟨by simp [zaX],ht,World.grownBy.refl _ _,by simp [zaX],hg⟩
  clear ht
  go_enter Tryz.func42,Tryz.ntmps42
  go_wp2_with fail
  go_loopw [1,5] (fun kv i wr=>∃ m kk:Nat,m ≤ len∧i = .int .i64 m∧kv = .int .i64 kk∧Hid (kk = k + 6 * m)∧MarkR Od.vs 6 len g w wr (zaX k m)) (fun _ i _=>len - (intOf i).toNat)
  case atStart=>exact ⟨0,k,Nat.zero_le _,rfl,rfl,rfl,za HM⟩
  case round =>
    obtain ⟨m,kk,hm,rfl,rfl,hkk,hmr⟩:=hrel
    have HR:=hide hmr
    have hkb:(kk:Int) ≤ 1020000000:=by have:=za hkk; omega
    clear hmr HM
    by_cases hlt:m < len
    · obtain ⟨⟨x0,y0,z0⟩,⟨x1,y1,z1⟩,⟨x2,y2,z2⟩,⟨x3,y3,z3⟩,⟨x4,y4,z4⟩,x5,y5,z5⟩:=there6 (zaK (i:=m * 6) (m:=6) (za HR).2.1 (by omega))
      have hlt':(m:Int) < len:=by omega
      go_wp2_with fail
      refine (zbT _ (kk + 5) _ (by omega) (by omega) (by omega)).mono ?_
      rintro e W2 ⟨rfl,hb⟩
      have hb':Below (wr.setCells g (m * 6) (mark5 kk)).heap.size (wr.setCells g (m * 6) (mark5 kk)) W2:=hb
      have T2:=zf (World.there_setCells (za HR).2.1 g (m * 6) (mark5 kk)) hb' (by rw [zB]; exact (za HR).2.2.2.2)
      obtain ⟨v7,c7,f7⟩:=zaW (zaK (i:=m * 6 + 5) (m:=1) T2 (by omega)) 0 (by omega)
      have HB:=hide hb'
      clear hb hb' T2 y0 z0 y1 z1 y2 z2 y3 z3 y4 z4 y5 z5
      rw [Nat.add_zero] at c7 f7
      go_wp2_with fail
      go_roundw
      case rel =>
        refine ⟨m + 1,kk + 6,by omega,by go_num,congrArg (Value.int .i64) (by omega),by have:=za hkk; show kk + 6 = _; omega,?_⟩
        have h:=mark_stepR (markO kk) (mark5 kk) (.string (markS (kk + 5))) rfl (za HR) (by rw [zaI]; exact hlt) Od.len (by rw [zaI]; exact za HB) (by rw [zB]; exact Nat.le_refl _)
        rw [zaI,za hkk,← marksO_more,← za hkk] at h
        exact h
      case measure=>simp [intOf]; omega
    · go_wp2_with fail
      go_ret
      obtain rfl:m = len:=by omega
      have h:=za hkk
      subst h
      exact ⟨rfl,za HR⟩
set_option maxRecDepth 100000 in
set_option maxHeartbeats 800000 in
theorem heldOrderS_any (v:Value) (len k:Nat) (w:World) (hl:len ≤ 2097152) (hk0:0 < k) (hk1:k ≤ 1000000000) (hr:RdR Od.vs 6 w v (zaX k len)) :
    Calls Tryz.prog 44 #[v,.int .i64 k] w fun e w'=>e = .returned (.int .i64 ((k + 6 * len:Nat):Int))∧Below w.heap.size w w':=by
  obtain ⟨a,cap,rfl,_,hc⟩:=hr
  rw [zaI]
  have hcell:∀ (m:Nat),m < len→∃ b off,a = some ⟨b,off,none⟩∧b < w.heap.size∧w.rangeAt b (off + m * 6) (markO (k + 6 * m)).vs:=by
    intro m hm
    have hg:=marksO_get (k:=k) hm
    obtain ⟨b,off,h1,h2,h3⟩:=hc (by intro h; rw [h] at hg; simp at hg)
    exact ⟨b,off,h1,h2,h3 m _ hg⟩
  have HC:=hide hcell
  clear hcell hc
  go_enter Tryz.func44,Tryz.ntmps44
  go_wp2_with fail
  go_loopw [1,5] (fun kv i wr=>∃ m kk:Nat,m ≤ len∧i = .int .i64 m∧kv = .int .i64 kk∧Hid (kk = k + 6 * m)∧Below w.heap.size w wr) (fun _ i _=>len - (intOf i).toNat)
  case atStart=>exact ⟨0,k,Nat.zero_le _,rfl,rfl,rfl,Below.refl _ _⟩
  case round =>
    obtain ⟨m,kk,hm,rfl,rfl,hkk,hbel⟩:=hrel
    have HB:=hide hbel
    have hkb:(kk:Int) ≤ 1020000000:=by have:=za hkk; omega
    clear hbel
    by_cases hlt:m < len
    · obtain ⟨b,off,rfl,hb,hcl⟩:=za HC m hlt
      rw [← za hkk] at hcl
      obtain ⟨g0,g1,g2,g3,g4,g5⟩:=zy (zb hcl (za HB) hb)
      simp only [markO] at g0 g1 g2 g3 g4 g5
      have HG5:=hide g5
      have hlt':(m:Int) < len:=by omega
      have hbw:Hid (b < wr.heap.size):=Nat.lt_of_lt_of_le hb (za HB).size
      clear hcl hb
      go_wp2_with fail
      go_region_with (go_at_call 43; refine (zbT _ (kk + 5) _ (by omega) (by omega) (by omega)).mono ?_; rintro e W2 ⟨rfl,hb2⟩; have c7:=(hb2.cell (p:=⟨b,off + m * 6 + 5,none⟩) (za hbw)).trans (za HG5); have HB2:=hide ((za HB).drew.trans (hb2.mono (za HB).drew.size)); clear hb2)
      all_goals go_wp2_with fail
      all_goals
        exact ⟨⟨m + 1,kk + 6,by omega,by go_num,congrArg (Value.int .i64) (by omega),by have:=za hkk; show kk + 6 = _; omega,za HB2⟩,by simp [intOf]; omega⟩
    · go_wp2_with fail
      go_ret
      obtain rfl:m = len:=by omega
      have h:=za hkk
      subst h
      exact ⟨rfl,za HB⟩
theorem markOrderS_nil (a:Option Addr) (cap k:Nat) (w:World) :
    Calls Tryz.prog 42 #[.slice a 0 cap,.int .i64 k] w fun e w'=>e = .returned (.int .i64 k)∧w' = w:=by
  go_enter Tryz.func42,Tryz.ntmps42
  go_wp2
  refine wp_loop_rounds 1 ?_
  rw [rounds_succ]
  go_wp2
  go_ret
  exact ⟨rfl,rfl⟩
theorem markO_own {B:Nat} (v:Value) (l:List Od) (w:World) (h:OwnR Od.vs 6 B w v l) (hl:l.length ≤ 2097152) :
    Calls Tryz.prog 42 #[v,.int .i64 1] w fun e w'=>e = .returned (.int .i64 ((1 + 6 * l.length:Nat):Int))∧OwnR Od.vs 6 B w' v (zaX 1 l.length) ∧
      ∃ G,w.grownBy w' G∧∀ g,G = some g→v.ownBlock = some g∧B ≤ g∧l ≠ []:=by
  obtain ⟨a,cap,rfl,hlen,h⟩:=h
  by_cases hne:l = []
  · subst hne
    refine (markOrderS_nil a cap 1 w).mono ?_
    rintro e w' ⟨rfl,rfl⟩
    exact ⟨rfl,⟨a,cap,rfl,by simp [zaX],fun h=>absurd rfl h⟩,none,World.grownBy.refl _ _,fun g hg=>by cases hg⟩
  · obtain ⟨g,rfl,h0,h1,h2,h3⟩:=h hne
    refine (markOrderS_any g l.length cap 1 w hl (by omega) (by omega) h1 h3).mono ?_
    rintro e w' ⟨rfl,m1,m2,m3,m4,m5⟩
    refine ⟨rfl,⟨_,cap,by rw [zaI],by rw [zaI]; exact hlen,fun _=>⟨g,rfl,h0,m5,m1,by rw [zaI]; exact m2⟩⟩,some g,m3,fun g' hg=>?_⟩
    obtain rfl:=Option.some.inj hg
    exact ⟨rfl,h0,hne⟩
end Go.Proofs.YtdfihaabhichdaaGreat
namespace Go.Proofs.YtdfihaabhichdaaGreat
open Go.RowKit
set_option linter.unusedVariables false

theorem zcA {B:Nat} (n:Int) (v:Value) (l:List Od) (w:World) (h:OwnR Od.vs 6 B w v l) (hl:l.length ≤ 2097152) :
    Calls Tryz.prog 14 #[.agg #[.int .i64 n,v],.int .i64 1] w fun e w'=>e = .returned (.int .i64 ((1 + 6 * l.length:Nat):Int))∧OwnR Od.vs 6 B w' v (zaX 1 l.length) ∧
      ∃ G,w.grownBy w' G∧∀ g,G = some g→v.ownBlock = some g∧B ≤ g∧l ≠ []:=by
  have H:=hide h
  obtain ⟨a,cap,rfl,_,_⟩:=h
  have HO:Hid (OwnR Od.vs 6 B (w.alloc (Obj.cells #[.int .i64 n,.slice a l.length cap] 32)) (.slice a l.length cap) l):=zN (za H) ((Below.refl _ _).alloc (Nat.le_refl _) _) (Nat.le_refl _)
  go_enter Tryz.func14,Tryz.ntmps14
  go_wp2_with fail
  refine (markO_own _ l _ (za HO) hl).mono ?_
  rintro e w1 ⟨rfl,ho,G,hgr,hG⟩
  have HG:Hid (w.grownBy w1 G∧∀ g,G = some g→(Value.slice a l.length cap).ownBlock = some g∧B ≤ g∧l ≠ []):=⟨(World.grownBy_alloc w _ G).trans hgr,hG⟩
  have HM:=hide ho
  clear hgr hG ho
  go_wp2_with fail
  go_ret
  exact ⟨rfl,za HM,G,(za HG).1,(za HG).2⟩
theorem heldBook_any (n:Int) (v:Value) (len k:Nat) (w:World) (hl:len ≤ 2097152) (hk0:0 < k) (hk1:k ≤ 1000000000) (hr:RdR Od.vs 6 w v (zaX k len)) :
    Calls Tryz.prog 16 #[.agg #[.int .i64 n,v],.int .i64 k] w fun e w'=>e = .returned (.int .i64 ((k + 6 * len:Nat):Int))∧Below w.heap.size w w':=by
  have HA:Hid (RdR Od.vs 6 (w.alloc (Obj.cells #[.int .i64 n,v] 32)) v (zaX k len)):=by
    obtain ⟨a,cap,rfl,h1,h2⟩:=hr
    refine ⟨a,cap,rfl,h1,fun hne=>?_⟩
    obtain ⟨b,off,e1,hb,hc⟩:=h2 hne
    exact ⟨b,off,e1,Nat.lt_of_lt_of_le hb (by rw [ze]; omega),fun i c hi=>zb (hc i c hi) ((Below.refl _ _).alloc (Nat.le_refl _) _) hb⟩
  have HB:Hid (Below w.heap.size w (w.alloc (Obj.cells #[.int .i64 n,v] 32))):=(Below.refl _ _).alloc (Nat.le_refl _) _
  obtain ⟨a,cap,rfl,_,_⟩:=hr
  rw [zaI] at *
  have hneg:¬ (((k + 6 * len:Nat):Int) < 0):=by omega
  go_enter Tryz.func16,Tryz.ntmps16
  go_wp2_with fail
  refine (heldOrderS_any _ len k _ hl hk0 hk1 (za HA)).mono ?_
  rintro e w2 ⟨rfl,hb2⟩
  have HB2:=hide ((za HB).trans (hb2.mono (za HB).size))
  clear hb2
  generalize hkk:((k + 6 * len:Nat):Int) = kk at hneg ⊢
  have HK:=hide hkk
  clear hkk
  go_wp2_with fail
  go_ret
  exact ⟨by rw [za HK]; rfl,za HB2⟩
end Go.Proofs.YtdfihaabhichdaaGreat
