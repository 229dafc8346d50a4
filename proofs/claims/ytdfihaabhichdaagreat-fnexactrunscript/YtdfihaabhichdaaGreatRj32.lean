/-
  A row of events marked, and the marks found: proved by walking the laws' own helpers.
-/
import Derived.Test.YtdfihaabhichdaaGreatRj04
import Derived.Test.YtdfihaabhichdaaGreatRj21
import Derived.Test.YtdfihaabhichdaaGreatRj31
import Derived.Deep.RegionWith
import Derived.WalkLawsBesides
import Derived.Deep.Slices
import Derived.ChangeArms
import Derived.OpenShut
namespace Go.Proofs.YtdfihaabhichdaaGreat
open Go.RowKit
set_option linter.unusedVariables false

def markE (k:Nat):Ev:=⟨(k:Int),⟨(k:Int) + 1,(k:Int) + 1 + 1,(k:Int) + 1 + 1 + 1,(k:Int) + 1 + 1 + 1 + 1,(k:Int) + 1 + 1 + 1 + 1 + 1,(k:Int) + 1 + 1 + 1 + 1 + 1 + 1,floatOfInt .f64 ((k:Int) + 1 + 1 + 1 + 1 + 1 + 1 + 1),markS (k + 8)⟩,(k:Int) + 1 + 1 + 1 + 1 + 1 + 1 + 1 + 1 + 1,(k:Int) + 1 + 1 + 1 + 1 + 1 + 1 + 1 + 1 + 1 + 1,(k:Int) + 1 + 1 + 1 + 1 + 1 + 1 + 1 + 1 + 1 + 1 + 1,(k:Int) + 1 + 1 + 1 + 1 + 1 + 1 + 1 + 1 + 1 + 1 + 1 + 1,(k:Int) + 1 + 1 + 1 + 1 + 1 + 1 + 1 + 1 + 1 + 1 + 1 + 1 + 1⟩
def mark8 (k:Nat):List Value:=[.int .i64 ((k:Int)),.int .i64 ((k:Int) + 1),.int .i64 ((k:Int) + 1 + 1),.int .i64 ((k:Int) + 1 + 1 + 1),.int .i64 ((k:Int) + 1 + 1 + 1 + 1),.int .i64 ((k:Int) + 1 + 1 + 1 + 1 + 1),.int .i64 ((k:Int) + 1 + 1 + 1 + 1 + 1 + 1),.float .f64 (floatOfInt .f64 ((k:Int) + 1 + 1 + 1 + 1 + 1 + 1 + 1))]
def mark6 (k:Nat):List Value:=[.string (markS (k + 8)),.int .i64 ((k:Int) + 1 + 1 + 1 + 1 + 1 + 1 + 1 + 1 + 1),.int .i64 ((k:Int) + 1 + 1 + 1 + 1 + 1 + 1 + 1 + 1 + 1 + 1),.int .i64 ((k:Int) + 1 + 1 + 1 + 1 + 1 + 1 + 1 + 1 + 1 + 1 + 1),.int .i64 ((k:Int) + 1 + 1 + 1 + 1 + 1 + 1 + 1 + 1 + 1 + 1 + 1 + 1),.int .i64 ((k:Int) + 1 + 1 + 1 + 1 + 1 + 1 + 1 + 1 + 1 + 1 + 1 + 1 + 1)]
def zaQ (k n:Nat):List Ev:=(List.range n).map fun i=>markE (k + 14 * i)
theorem zaL (k n:Nat):(zaQ k n).length = n:=by simp [zaQ]
theorem marksE_more (k n:Nat):zaQ k (n + 1) = zaQ k n ++ [markE (k + 14 * n)]:=by simp [zaQ,List.range_succ]
theorem marksE_get {k n i:Nat} (h:i < n):(zaQ k n)[i]? = some (markE (k + 14 * i)):=by simp [zaQ,h]
theorem zaU {w:World} {b o n:Nat} (h:w.there b o n) (j:Nat) (hj:j < n):∃ v,w.cell? ⟨b,o + j,none⟩ = some v∧w.frozen? ⟨b,o + j,none⟩ = false:=zcc h j hj
section
variable {α:Type} {f:α→List Value} {sz:Nat}
theorem mark_stepL {n g C:Nat} {w wr W2:World} {done:List α} (x:α) (a z:List Value) (hx:f x = a ++ z) (h:MarkR f sz n g w wr done) (hn:done.length < n) (hf:∀ c,(f c).length = sz)
  (hb:Below C (wr.setCells g (done.length * sz) a) W2) (hC:wr.heap.size ≤ C):MarkR f sz n g w (W2.setCells g (done.length * sz + a.length) z) (done ++ [x]):=by
 obtain ⟨h1,h2,h3,h4,h5⟩:=h
 have hsz:a.length + z.length = sz:=by rw [← hf x,hx]; simp
 have hle:done.length * sz + sz ≤ n * sz:=by
  have:=Nat.mul_le_mul_right sz (show done.length + 1 ≤ n by omega)
  rw [Nat.add_mul] at this; omega
 have hlt:g < C:=by omega
 have t1:(wr.setCells g (done.length * sz) a).there g 0 (n * sz):=World.there_setCells h2 _ _ _
 have t2:=zd t1 hb hlt
 have ra:W2.rangeAt g (done.length * sz) a:=zb (World.rangeAt_setCells_same _ _ _ _ (zap h2 (by omega))) hb hlt
 refine ⟨fun i c hc=>?_,World.there_setCells t2 _ _ _,?_,by simp; omega,?_⟩
 ·by_cases hi:i < done.length
  ·rw [List.getElem?_append_left hi] at hc
   have hi':=Nat.mul_le_mul_right sz (show i + 1 ≤ done.length by omega)
   rw [Nat.add_mul] at hi'
   refine World.rangeAt_setCells_apart (zb (World.rangeAt_setCells_apart (h1 i c hc) _ _ _ (.inr (.inl ?_))) hb hlt) _ _ _ (.inr (.inl ?_))
   ·rw [hf c]; omega
   ·rw [hf c]; omega
  ·have hlen:i < (done ++ [x]).length:=(List.getElem?_eq_some_iff.1 hc).1
   have hi':i = done.length:=by simp at hlen; omega
   subst hi'
   simp only [List.getElem?_append_right (Nat.le_refl _),Nat.sub_self,List.getElem?_cons_zero,Option.some.injEq] at hc
   subst hc
   rw [Nat.zero_add,hx]
   exact range_append (World.rangeAt_setCells_apart ra _ _ _ (.inr (.inl (by omega)))) (World.rangeAt_setCells_same _ _ _ _ (zap t2 (by omega)))
 ·exact zbp g _ _ _ (gr_trans (zbp g _ _ _ h3) (zaa hb (by rw [zv]; exact hC)))
 ·rw [zv]
  have:=hb.size
  rw [zv] at this
  omega
end

set_option maxRecDepth 100000 in
set_option maxHeartbeats 1600000 in
theorem heldEventS_any (v:Value) (len k:Nat) (w:World) (hl:len ≤ 2097152) (hk0:0 < k) (hk1:k ≤ 1000000000) (hr:RdR Ev.vs 14 w v (zaQ k len)) :
  Calls Tryz.prog 17 #[v,.int .i64 k] w fun e w'=>e = .returned (.int .i64 ((k + 14 * len:Nat):Int))∧Below w.heap.size w w':=by
 obtain ⟨a,cap,rfl,_,hc⟩:=hr
 rw [zaL]
 have hcell:∀ (m:Nat),m < len→∃ b off,a = some ⟨b,off,none⟩∧b < w.heap.size∧w.rangeAt b (off + m * 14) (markE (k + 14 * m)).vs:=by
  intro m hm
  have hg:=marksE_get (k:=k) hm
  obtain ⟨b,off,h1,h2,h3⟩:=hc (by intro h; rw [h] at hg; simp at hg)
  exact ⟨b,off,h1,h2,h3 m _ hg⟩
 have HC:=hide hcell
 clear hcell hc
 go_enter Tryz.func17,Tryz.ntmps17
 go_wp2_with fail
 go_loopw [1,5] (fun kv i wr=>∃ m kk:Nat,m ≤ len∧i = .int .i64 m∧kv = .int .i64 kk∧Hid (kk = k + 14 * m)∧Below w.heap.size w wr) (fun _ i _=>len - (intOf i).toNat)
 case atStart=>exact ⟨0,k,Nat.zero_le _,rfl,rfl,rfl,Below.refl _ _⟩
 case round =>
  obtain ⟨m,kk,hm,rfl,rfl,hkk,hbel⟩:=hrel
  have HB:=hide hbel
  have hkb:(kk:Int) ≤ 1030000000:=by have:=za hkk; omega
  clear hbel
  by_cases hlt:m < len
  ·obtain ⟨b,off,rfl,hb,hcl⟩:=za HC m hlt
   rw [← za hkk] at hcl
   have hbw:=Nat.lt_of_lt_of_le hb (za HB).size
   have HBW:=hide hbw
   have hclr:=zb hcl (za HB) hb
   have HCR:=hide hclr
   obtain ⟨g0,g1,g2,g3,g4,g5,g6,g7,g8,-⟩:=zav hclr
   simp only [markE] at g0 g1 g2 g3 g4 g5 g6 g7 g8
   have ho:=ofInt_order ((kk:Int) + 1 + 1 + 1 + 1 + 1 + 1 + 1)
   have ho':(FloatKind.f64.format.order (floatOfInt .f64 ((kk:Int) + 1 + 1 + 1 + 1 + 1 + 1 + 1)) (floatOfInt .f64 ((kk:Int) + 1 + 1 + 1 + 1 + 1 + 1 + 1)) != some Ordering.eq) = false:=by rw [ho]; rfl
   have hlt':(m:Int) < len:=by omega
   clear hcl ho hb hclr hbw
   go_wp2_with fail
   go_region_with (go_at_call 43; refine (zbq _ (kk + 8) _ (by omega) (by omega) (by omega)).mono ?_; rintro e W2 ⟨rfl,hb2⟩; have hc2:=zb (za HCR) ((Below.refl _ _).drew.trans hb2) (za HBW); have c8:=(zav hc2).2.2.2.2.2.2.2.2.1; have c9:=(zav hc2).2.2.2.2.2.2.2.2.2.1; have c10:=(zav hc2).2.2.2.2.2.2.2.2.2.2.1; have c11:=(zav hc2).2.2.2.2.2.2.2.2.2.2.2.1; have c12:=(zav hc2).2.2.2.2.2.2.2.2.2.2.2.2.1; have c13:=(zav hc2).2.2.2.2.2.2.2.2.2.2.2.2.2; simp only [markE] at c8 c9 c10 c11 c12 c13; have HB2:=hide ((za HB).drew.trans (hb2.mono (za HB).drew.size)); clear hb2 hc2)
   all_goals go_wp2_with fail
   all_goals
    exact ⟨⟨m + 1,kk + 14,by omega,by go_num,congrArg (Value.int .i64) (by omega),by have:=za hkk; show kk + 14 = _; omega,za HB2⟩,by simp [intOf]; omega⟩
  ·go_wp2_with fail
   go_ret
   obtain rfl:m = len:=by omega
   have h:=za hkk
   subst h
   exact ⟨rfl,za HB⟩
set_option maxRecDepth 100000 in
set_option maxHeartbeats 1600000 in
theorem markEventS_any (g len cap k:Nat) (w:World) (hl:len ≤ 2097152) (hk0:0 < k) (hk1:k ≤ 1000000000) (hg:g < w.heap.size) (ht:w.there g 0 (len * 14)) :
  Calls Tryz.prog 15 #[.slice (some ⟨g,0,none⟩) len cap,.int .i64 k] w fun e w'=>e = .returned (.int .i64 ((k + 14 * len:Nat):Int))∧MarkR Ev.vs 14 len g w w' (zaQ k len):=by
 have HM:Hid (MarkR Ev.vs 14 len g w w (zaQ k 0)):=⟨by simp [zaQ],ht,World.grownBy.refl _ _,by simp [zaQ],hg⟩
 have hsf:=sfl
 clear ht
 go_enter Tryz.func15,Tryz.ntmps15
 go_wp2_with fail
 go_loopw [1,5] (fun kv i wr=>∃ m kk:Nat,m ≤ len∧i = .int .i64 m∧kv = .int .i64 kk∧Hid (kk = k + 14 * m)∧MarkR Ev.vs 14 len g w wr (zaQ k m)) (fun _ i _=>len - (intOf i).toNat)
 case atStart=>exact ⟨0,k,Nat.zero_le _,rfl,rfl,rfl,za HM⟩
 case round =>
  obtain ⟨m,kk,hm,rfl,rfl,hkk,hmr⟩:=hrel
  have HR:=hide hmr
  have hkb:(kk:Int) ≤ 1030000000:=by have:=za hkk; omega
  clear hmr HM
  by_cases hlt:m < len
  ·have ht8:=zap (i:=m * 14) (m:=14) (za HR).2.1 (by omega)
   obtain ⟨x0,y0,z0⟩:=zaU ht8 0 (by omega)
   obtain ⟨x1,y1,z1⟩:=zaU ht8 1 (by omega)
   obtain ⟨x2,y2,z2⟩:=zaU ht8 2 (by omega)
   obtain ⟨x3,y3,z3⟩:=zaU ht8 3 (by omega)
   obtain ⟨x4,y4,z4⟩:=zaU ht8 4 (by omega)
   obtain ⟨x5,y5,z5⟩:=zaU ht8 5 (by omega)
   obtain ⟨x6,y6,z6⟩:=zaU ht8 6 (by omega)
   obtain ⟨x7,y7,z7⟩:=zaU ht8 7 (by omega)
   rw [Nat.add_zero] at y0 z0
   have hlt':(m:Int) < len:=by omega
   clear ht8
   go_wp2_with fail
   refine (zbq _ (kk + 8) _ (by omega) (by omega) (by omega)).mono ?_
   rintro e W2 ⟨rfl,hb⟩
   have hb':Below (wr.setCells g (m * 14) (mark8 kk)).heap.size (wr.setCells g (m * 14) (mark8 kk)) W2:=hb
   have T2:=zap (i:=m * 14) (m:=14) (zd (World.there_setCells (za HR).2.1 g (m * 14) (mark8 kk)) hb' (by rw [zv]; exact (za HR).2.2.2.2)) (by omega)
   obtain ⟨v8,c8,f8⟩:=zaU T2 8 (by omega)
   obtain ⟨v9,c9,f9⟩:=zaU T2 9 (by omega)
   obtain ⟨v10,c10,f10⟩:=zaU T2 10 (by omega)
   obtain ⟨v11,c11,f11⟩:=zaU T2 11 (by omega)
   obtain ⟨v12,c12,f12⟩:=zaU T2 12 (by omega)
   obtain ⟨v13,c13,f13⟩:=zaU T2 13 (by omega)
   have HB:=hide hb'
   clear hb hb' T2 y0 z0 y1 z1 y2 z2 y3 z3 y4 z4 y5 z5 y6 z6 y7 z7
   go_wp2_with fail
   go_roundw
   case rel =>
    refine ⟨m + 1,kk + 14,by omega,by go_num,congrArg (Value.int .i64) (by omega),by have:=za hkk; show kk + 14 = _; omega,?_⟩
    have h:=mark_stepL (markE kk) (mark8 kk) (mark6 kk) rfl (za HR) (by rw [zaL]; exact hlt) Ev.len (by rw [zaL]; exact za HB) (by rw [zv]; exact Nat.le_refl _)
    rw [zaL,za hkk,← marksE_more,← za hkk] at h
    exact h
   case measure=>simp [intOf]; omega
  ·go_wp2_with fail
   go_ret
   obtain rfl:m = len:=by omega
   have h:=za hkk
   subst h
   exact ⟨rfl,za HR⟩
theorem markEventS_nil (a:Option Addr) (cap k:Nat) (w:World) :
  Calls Tryz.prog 15 #[.slice a 0 cap,.int .i64 k] w fun e w'=>e = .returned (.int .i64 k)∧w' = w:=by
 go_enter Tryz.func15,Tryz.ntmps15
 go_wp2
 refine wp_loop_rounds 1 ?_
 rw [rounds_succ]
 go_wp2
 go_ret
 exact ⟨rfl,rfl⟩
theorem markE_own {B:Nat} (v:Value) (l:List Ev) (k:Nat) (w:World) (h:OwnR Ev.vs 14 B w v l) (hl:l.length ≤ 2097152) (hk0:0 < k) (hk1:k ≤ 1000000000) :
  Calls Tryz.prog 15 #[v,.int .i64 k] w fun e w'=>e = .returned (.int .i64 ((k + 14 * l.length:Nat):Int))∧OwnR Ev.vs 14 B w' v (zaQ k l.length) ∧
   ∃ G,w.grownBy w' G∧∀ g,G = some g→v.ownBlock = some g∧B ≤ g∧l ≠ []:=by
 obtain ⟨a,cap,rfl,hlen,h⟩:=h
 by_cases hne:l = []
 ·subst hne
  refine (markEventS_nil a cap k w).mono ?_
  rintro e w' ⟨rfl,rfl⟩
  exact ⟨rfl,⟨a,cap,rfl,by simp [zaQ],fun h=>absurd rfl h⟩,none,World.grownBy.refl _ _,fun g hg=>by cases hg⟩
 ·obtain ⟨g,rfl,h0,h1,h2,h3⟩:=h hne
  refine (markEventS_any g l.length cap k w hl hk0 hk1 h1 h3).mono ?_
  rintro e w' ⟨rfl,m1,m2,m3,m4,m5⟩
  refine ⟨rfl,⟨_,cap,by rw [zaL],by rw [zaL]; exact hlen,fun _=>⟨g,rfl,h0,m5,m1,by rw [zaL]; exact m2⟩⟩,some g,m3,fun g' hg=>?_⟩
  obtain rfl:=Option.some.inj hg
  exact ⟨rfl,h0,hne⟩
end Go.Proofs.YtdfihaabhichdaaGreat
namespace Go.Proofs.YtdfihaabhichdaaGreat
open Go.RowKit
set_option linter.unusedVariables false

theorem zero_read:FloatKind.f64.format.read 0 = .number false 0 FloatKind.f64.format.leastPlace:=by decide
theorem one_read:∃ m j,FloatKind.f64.format.read 4607182418800017408 = .number false m j∧m ≠ 0:=⟨_,_,rfl,by decide⟩
theorem zero_mag (s:Bool) (m a b:Nat) (h:Ieee.signed s m a = Ieee.signed false 0 b):m = 0:=by
  have h0:Ieee.signed false 0 b = 0:=by simp [Ieee.signed]
  rw [h0] at h
  have h2:m <<< a = 0:=by
    cases s
    · have h':((m <<< a:Nat):Int) = 0:=h
      omega
    · have h':-((m <<< a:Nat):Int) = 0:=h
      omega
  rw [Nat.shiftLeft_eq] at h2
  have:=Nat.two_pow_pos a
  rcases Nat.mul_eq_zero.1 h2 with h | h
  · exact h
  · omega
theorem div_zero (x:Nat) (h:FloatKind.f64.format.order x 0 = some Ordering.eq):∃ r,FloatKind.f64.format.div 4607182418800017408 x = some r:=by
  obtain ⟨m1,j1,h1,hm1⟩:=one_read
  unfold Ieee.Format.order at h
  rw [zero_read] at h
  unfold Ieee.Format.div
  rw [h1]
  cases hx:FloatKind.f64.format.read x with
  | nan s f=>rw [hx] at h; simp [Ieee.Datum.order] at h
  | infinity s=>rw [hx] at h; cases s <;> simp [Ieee.Datum.order] at h
  | number s m i =>
    rw [hx] at h
    simp only [Ieee.Datum.order,Option.some.injEq] at h
    have hm:=zero_mag s m _ _ (Std.LawfulEqCmp.eq_of_compare h)
    subst hm
    exact ⟨FloatKind.f64.format.write (.infinity s),by simp [Ieee.Datum.quotient,hm1]⟩
set_option maxRecDepth 100000 in
set_option maxHeartbeats 400000 in
theorem sameFloat_any (x:Nat) (w:World) :
    Calls Tryz.prog 89 #[.float .f64 x,.float .f64 x] w fun e w'=>e = .returned (.bool true)∧w' = w:=by
  cases hn:nanB x with
  | true =>
    have h':(FloatKind.f64.format.order x x != some Ordering.eq) = true:=hn
    clear hn
    go_enter Tryz.func89,Tryz.ntmps89
    go_wp2
    go_ret
    exact ⟨rfl,rfl⟩
  | false =>
    have h':(FloatKind.f64.format.order x x != some Ordering.eq) = false:=hn
    have h2:FloatKind.f64.format.order x x = some Ordering.eq:=by simpa using h'
    clear hn
    by_cases hz:FloatKind.f64.format.order x 0 = some Ordering.eq
    · obtain ⟨r,hr⟩:=div_zero x hz
      have hq:∀ W,(binOp .quo 25 (.float .f64 4607182418800017408) (.float .f64 x)).run Tryz.prog W = .ok (.float .f64 r) W:=fun W=>by simp [binOp,Op.floatArith,hr]
      have hz':(FloatKind.f64.format.order x 0 == some Ordering.eq) = true:=by rw [hz]; rfl
      clear hz hr
      go_enter Tryz.func89,Tryz.ntmps89
      go_wp2
      all_goals go_ret
      all_goals exact ⟨zF (by simp),rfl⟩
    · have hz':(FloatKind.f64.format.order x 0 == some Ordering.eq) = false:=by simpa using hz
      clear hz
      go_enter Tryz.func89,Tryz.ntmps89
      go_wp2
      go_ret
      exact ⟨zF (by simp),rfl⟩
end Go.Proofs.YtdfihaabhichdaaGreat
namespace Go.Proofs.YtdfihaabhichdaaGreat
open Go.RowKit
set_option linter.unusedVariables false

set_option maxHeartbeats 400000 in
theorem eqCmd_same (c:Cm) (w:World) :
    Calls Tryz.prog 48 #[.agg #[.int .i64 c.k,.int .i64 c.s,.int .i64 c.t,.int .i64 c.l,.int .i64 c.q,.int .i64 c.i,.float .f64 c.p,.string c.g],.agg #[.int .i64 c.k,.int .i64 c.s,.int .i64 c.t,.int .i64 c.l,.int .i64 c.q,.int .i64 c.i,.float .f64 c.p,.string c.g]] w fun e w' =>
      e = .returned (.bool true)∧Below w.heap.size w w':=by
  obtain ⟨k,s,t,l,q,i,p,g⟩:=c
  simp only
  go_enter Tryz.func48,Tryz.ntmps48
  go_wp2_with (go_at_call 89; refine (sameFloat_any _ _).mono ?_; rintro e w' ⟨rfl,rfl⟩)
  go_returns
  refine ⟨rfl,?_⟩
  go_grown
set_option maxRecDepth 100000 in
set_option maxHeartbeats 400000 in
theorem eqCmdS_same (va vb:Value) (l:List Cm) (w:World) (ha:RdR Cm.vs 8 w va l) (hb:RdR Cm.vs 8 w vb l) :
    Calls Tryz.prog 23 #[va,vb] w fun e w'=>e = .returned (.bool true)∧Below w.heap.size w w':=by
  obtain ⟨aa,ca,rfl,hl,hca⟩:=ha
  obtain ⟨ab,cb,rfl,_,hcb⟩:=hb
  have hcell:∀ (k:Nat) (c:Cm),l[k]? = some c→∃ b off b' off',aa = some ⟨b,off,none⟩∧ab = some ⟨b',off',none⟩∧b < w.heap.size∧b' < w.heap.size∧w.rangeAt b (off + k * 8) c.vs∧w.rangeAt b' (off' + k * 8) c.vs:=by
    intro k c hk
    have hne:l ≠ []:=by intro h; rw [h] at hk; simp at hk
    obtain ⟨b,off,h1,h2,h3⟩:=hca hne
    obtain ⟨b',off',h1',h2',h3'⟩:=hcb hne
    exact ⟨b,off,b',off',h1,h1',h2,h2',h3 k c hk,h3' k c hk⟩
  have HC:=hide hcell
  clear hcell hca hcb
  go_enter Tryz.func23,Tryz.ntmps23
  go_wp2_with fail
  go_loopw [5] (fun i wr=>∃ k:Nat,k ≤ l.length∧i = .int .i64 k∧Below w.heap.size w wr) (fun i _=>l.length - (intOf i).toNat)
  case atStart=>exact ⟨0,Nat.zero_le _,rfl,Below.refl _ _⟩
  case round =>
    obtain ⟨k,hk,rfl,hbel⟩:=hrel
    have HB:=hide hbel
    clear hbel
    by_cases hlt:k < l.length
    · obtain ⟨c,hkc⟩:∃ c,l[k]? = some c:=⟨_,List.getElem?_eq_getElem hlt⟩
      obtain ⟨b,off,b',off',rfl,rfl,hb,hb',hcl,hcl'⟩:=za HC k c hkc
      obtain ⟨g0,g1,g2,g3,g4,g5,g6,g7⟩:=zbw (zb hcl (za HB) hb)
      obtain ⟨e0,e1,e2,e3,e4,e5,e6,e7⟩:=zbw (zb hcl' (za HB) hb')
      have hlt':(k:Int) < l.length:=by omega
      clear hkc hcl hcl' hb hb'
      go_wp2_with fail
      go_region_with (go_at_call 48; refine (eqCmd_same c _).mono ?_; rintro e w2 ⟨rfl,hb2⟩; have HB2:=hide ((za HB).drew.trans (hb2.mono (za HB).drew.size)); clear hb2)
      go_wp2_with fail
      go_roundw
      case rel=>exact ⟨k + 1,by omega,by go_num,za HB2⟩
      case measure=>simp [intOf]; omega
      all_goals exact ⟨⟨k + 1,by omega,by go_num,za HB2⟩,by simp [intOf]; omega⟩
    · go_wp2_with fail
      go_ret
      exact ⟨rfl,za HB⟩
end Go.Proofs.YtdfihaabhichdaaGreat
namespace Go.Proofs.YtdfihaabhichdaaGreat
open Go.RowKit
set_option linter.unusedVariables false

theorem toCmd_any (c:Cm) (w:World) :
    Calls Tryz.prog 10 #[.agg #[.int .i64 c.k,.int .i64 c.s,.int .i64 c.t,.int .i64 c.l,.int .i64 c.q,.int .i64 c.i,.float .f64 c.p,.string c.g]] w fun e w' =>
      e = .returned (.agg #[.int .i64 c.k,.int .i64 c.s,.int .i64 c.t,.int .i64 c.l,.int .i64 c.q,.int .i64 c.i,.float .f64 c.p,.string c.g])∧Below w.heap.size w w':=by
  obtain ⟨k,s,t,l,q,i,p,g⟩:=c
  have hsf:=sfl
  simp only
  go_enter Tryz.func10,Tryz.ntmps10
  go_wp2_with fail
  go_returns
  refine ⟨rfl,?_⟩
  go_grown
end Go.Proofs.YtdfihaabhichdaaGreat
namespace Go.Proofs.YtdfihaabhichdaaGreat
open Go.RowKit
set_option linter.unusedVariables false

theorem Tryz.infoCmd:(Tryz.prog.info? 37).map (fun i=>(i.zero,i.size,i.bytes)) = some (some (.agg #[.int .i64 0,.int .i64 0,.int .i64 0,.int .i64 0,.int .i64 0,.int .i64 0,.float .f64 0,.string ⟨#[]⟩]),8,72):=by kernel_rfl
theorem take_snocR {α:Type} (l:List α) (k:Nat) (c:α) (h:l[k]? = some c):l.take (k + 1) = l.take k ++ [c]:=by
  obtain ⟨hk,rfl⟩:=List.getElem?_eq_some_iff.1 h
  rw [List.take_succ_eq_append_getElem hk]
set_option maxRecDepth 100000 in
set_option maxHeartbeats 400000 in
theorem zch (v:Value) (l:List Cm) (w:World) (hr:RdR Cm.vs 8 w v l) :
    Calls Tryz.prog 20 #[v] w fun e w'=>∃ v',e = .returned v'∧OwnR Cm.vs 8 w.heap.size w' v' l∧Below w.heap.size w w':=by
  obtain ⟨a,cap,rfl,hl,hc⟩:=hr
  obtain ⟨i0,hi,hz0,hz1,hz2⟩:=info_parts Tryz.infoCmd
  have hcell:∀ (k:Nat) (c:Cm),l[k]? = some c→∃ b off,a = some ⟨b,off,none⟩∧b < w.heap.size∧w.rangeAt b (off + k * 8) c.vs:=by
    intro k c hk
    obtain ⟨b,off,h1,h2,h3⟩:=hc (by intro h; rw [h] at hk; simp at hk)
    exact ⟨b,off,h1,h2,h3 k c hk⟩
  have HC:=hide hcell
  clear hcell hc
  go_enter Tryz.func20,Tryz.ntmps20
  go_wp2_with (at_make; go_must (refine wpList_make_full _ rfl _ _ 53 rfl w.heap.size 37 i0 _ 8 Tryz.underlying53 hi hz0 hz1 _ _ _ _ l.length rfl rfl rfl rfl (by rw [hz2]; omega) (by unfold maxLen; omega) (Nat.le_refl _) ?_); intro w1 hown hgrow)
  have HA:=hide (fill_made (f:=Cm.vs) hown hgrow)
  clear hown hgrow hi hz0 hz1 hz2
  go_loopw [4] (fun i wr=>∃ k:Nat,k ≤ l.length∧i = .int .i64 k∧FillR Cm.vs 8 l.length w.heap.size w wr (l.take k)) (fun i _=>l.length - (intOf i).toNat)
  case atStart=>exact ⟨0,Nat.zero_le _,rfl,by simpa using za HA⟩
  case round =>
    obtain ⟨k,hk,rfl,harr⟩:=hrel
    have HF:=hide harr
    clear harr HA
    by_cases hlt:k < l.length
    · obtain ⟨c,hkc⟩:∃ c,l[k]? = some c:=⟨_,List.getElem?_eq_getElem hlt⟩
      have HKC:=hide hkc
      obtain ⟨b,off,rfl,hb,hcl⟩:=za HC k c hkc
      have hcr:=zb hcl (za HF).2.2.2.2 hb
      obtain ⟨g0,g1,g2,g3,g4,g5,g6,g7⟩:=zbw hcr
      have hlt':(k:Int) < l.length:=by omega
      clear hkc hcl hb hcr
      go_wp2_with fail
      refine (toCmd_any c _).mono ?_
      rintro e w2 ⟨rfl,hb2⟩
      have HF2:=hide (fill_below (za HF) hb2 (Nat.le_refl _))
      clear hb2
      obtain ⟨⟨x0,y0,z0⟩,⟨x1,y1,z1⟩,⟨x2,y2,z2⟩,⟨x3,y3,z3⟩,⟨x4,y4,z4⟩,⟨x5,y5,z5⟩,⟨x6,y6,z6⟩,x7,y7,z7⟩:=there8 (fill_there (za HF2) hlt)
      have hsf:=sfl
      go_wp2_with fail
      go_roundw
      case rel =>
        refine ⟨k + 1,by omega,by go_num,?_⟩
        have h:=fill_step c (za HF2) (by rw [List.length_take]; omega) Cm.len
        rw [← take_snocR l k c (za HKC),show (l.take k).length = k by rw [List.length_take]; omega] at h
        exact h
      case measure=>simp [intOf]; omega
    · go_wp2_with fail
      go_ret
      have h:=za HF
      rw [List.take_of_length_le (by omega)] at h
      exact ⟨_,rfl,fill_own h rfl hl,h.2.2.2.2⟩
end Go.Proofs.YtdfihaabhichdaaGreat
namespace Go.Proofs.YtdfihaabhichdaaGreat
open Go.RowKit Go.ChangeShapes Go.WideShapes Go.Deep
set_option linter.unusedVariables false

set_option maxHeartbeats 400000 in
theorem szCmd_any (c:Cm) (x:Int) (w:World) (h0:0 ≤ x) (h1:x ≤ 1073741824) (hg:c.g.size ≤ maxLen) :
    Calls Tryz.prog 7 #[.agg #[.int .i64 c.k,.int .i64 c.s,.int .i64 c.t,.int .i64 c.l,.int .i64 c.q,.int .i64 c.i,.float .f64 c.p,.string c.g],.int .i64 x] w fun e w' =>
      ∃ y:Int,e = .returned (.int .i64 y)∧-1 ≤ y∧y ≤ x∧Below w.heap.size w w':=by
  obtain ⟨k,s,t,l,q,i,p,g⟩:=c
  simp only at *
  unfold maxLen at hg
  by_cases h:x < g.size
  · go_enter Tryz.func7,Tryz.ntmps7
    go_wp2_with fail
    go_ret
    exact ⟨_,rfl,by omega,by omega,by go_grown⟩
  · go_enter Tryz.func7,Tryz.ntmps7
    go_wp2_with fail
    go_ret
    exact ⟨_,rfl,by omega,by omega,by go_grown⟩
structure Cm.ok (c:Cm):Prop where
  k:(Lit.int .i64 c.k).wf = true
  s:(Lit.int .i64 c.s).wf = true
  t:(Lit.int .i64 c.t).wf = true
  l:(Lit.int .i64 c.l).wf = true
  q:(Lit.int .i64 c.q).wf = true
  i:(Lit.int .i64 c.i).wf = true
  p:(Lit.float .f64 c.p).wf = true
  g:c.g.size ≤ maxLen
section
variable {H:Type} {enc:TypeId × Value→H} {w:World} {base:Nat} {spare:Nat→Bool} {held:Bool}

theorem trod_flt {P:Program} {t:TypeId} {k:FloatKind} {fuel:Nat} {cs:List Value} {x:DataW H × List MemPlace} (ht:P.underlying t = some (.float k)) (h:DataW.trod enc P w base spare held fuel t cs = some x) :
    ∃ n,cs = [.float k n]∧(Lit.float k n).wf = true:=by
  cases fuel with
  | zero=>simp [DataW.trod] at h
  | succ n =>
    unfold DataW.trod at h
    rw [ht] at h
    split at h <;> simp_all
theorem list8 {cs:List Value} (h:cs.length = 8):∃ v0 v1 v2 v3 v4 v5 v6 v7,cs = [v0,v1,v2,v3,v4,v5,v6,v7] :=
  match cs,h with
  | [v0,v1,v2,v3,v4,v5,v6,v7],_=>⟨v0,v1,v2,v3,v4,v5,v6,v7,rfl⟩
theorem cm_opened {fuel:Nat} {cs:List Value} {x:DataW H × List MemPlace} (h:DataW.trod enc Tryz.prog w base spare held fuel 27 cs = some x):∃ c:Cm,cs = c.vs∧c.ok:=by
  obtain ⟨xs,n,_,_,hlen,hxl,hf⟩:=DataW.trod_struct Tryz.underlying27 h
  have hl8:cs.length = 8:=hlen.trans (by kernel_rfl)
  have k3:Tryz.prog.cellsOf 3 = 1:=by kernel_rfl
  have k22:Tryz.prog.cellsOf 25 = 1:=by kernel_rfl
  have k9:Tryz.prog.cellsOf 9 = 1:=by kernel_rfl
  have hx:∀ i,i < 8→∃ y,xs[i]? = some y:=fun i hi=>⟨_,List.getElem?_eq_getElem (by rw [hxl]; exact hi)⟩
  obtain ⟨y0,e0⟩:=hx 0 (by omega)
  obtain ⟨y1,e1⟩:=hx 1 (by omega)
  obtain ⟨y2,e2⟩:=hx 2 (by omega)
  obtain ⟨y3,e3⟩:=hx 3 (by omega)
  obtain ⟨y4,e4⟩:=hx 4 (by omega)
  obtain ⟨y5,e5⟩:=hx 5 (by omega)
  obtain ⟨y6,e6⟩:=hx 6 (by omega)
  obtain ⟨y7,e7⟩:=hx 7 (by omega)
  have f0:DataW.trod enc Tryz.prog w base spare held n 3 ((cs.drop 0).take (Tryz.prog.cellsOf 3)) = some y0:=(hf 0 _ rfl).trans e0
  have f1:DataW.trod enc Tryz.prog w base spare held n 3 ((cs.drop 1).take (Tryz.prog.cellsOf 3)) = some y1:=(hf 1 _ rfl).trans e1
  have f2:DataW.trod enc Tryz.prog w base spare held n 3 ((cs.drop 2).take (Tryz.prog.cellsOf 3)) = some y2:=(hf 2 _ rfl).trans e2
  have f3:DataW.trod enc Tryz.prog w base spare held n 3 ((cs.drop 3).take (Tryz.prog.cellsOf 3)) = some y3:=(hf 3 _ rfl).trans e3
  have f4:DataW.trod enc Tryz.prog w base spare held n 3 ((cs.drop 4).take (Tryz.prog.cellsOf 3)) = some y4:=(hf 4 _ rfl).trans e4
  have f5:DataW.trod enc Tryz.prog w base spare held n 3 ((cs.drop 5).take (Tryz.prog.cellsOf 3)) = some y5:=(hf 5 _ rfl).trans e5
  have f6:DataW.trod enc Tryz.prog w base spare held n 25 ((cs.drop 6).take (Tryz.prog.cellsOf 25)) = some y6:=(hf 6 _ rfl).trans e6
  have f7:DataW.trod enc Tryz.prog w base spare held n 9 ((cs.drop 7).take (Tryz.prog.cellsOf 9)) = some y7:=(hf 7 _ rfl).trans e7
  clear hf hx e0 e1 e2 e3 e4 e5 e6 e7 h hlen
  obtain ⟨v0,v1,v2,v3,v4,v5,v6,v7,rfl⟩:=list8 hl8
  · clear hl8
    simp only [k3,k22,k9,List.drop_zero,List.drop_succ_cons,List.take_succ_cons,List.take_zero] at f0 f1 f2 f3 f4 f5 f6 f7
    obtain ⟨n0,c0,_,b0⟩:=DataW.trod_int Tryz.underlying3 f0
    obtain ⟨n1,c1,_,b1⟩:=DataW.trod_int Tryz.underlying3 f1
    obtain ⟨n2,c2,_,b2⟩:=DataW.trod_int Tryz.underlying3 f2
    obtain ⟨n3,c3,_,b3⟩:=DataW.trod_int Tryz.underlying3 f3
    obtain ⟨n4,c4,_,b4⟩:=DataW.trod_int Tryz.underlying3 f4
    obtain ⟨n5,c5,_,b5⟩:=DataW.trod_int Tryz.underlying3 f5
    obtain ⟨n6,c6,b6⟩:=trod_flt Tryz.underlying25 f6
    obtain ⟨n7,c7,_,b7⟩:=DataW.trod_string Tryz.underlying9 f7
    simp only [List.cons.injEq,and_true] at c0 c1 c2 c3 c4 c5 c6 c7
    subst c0 c1 c2 c3 c4 c5 c6 c7
    exact ⟨⟨n0,n1,n2,n3,n4,n5,n6,n7⟩,rfl,⟨b0,b1,b2,b3,b4,b5,b6,b7⟩⟩
end
end Go.Proofs.YtdfihaabhichdaaGreat
