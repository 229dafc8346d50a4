/-
  Commands as records of eight cells; no function walked but the copying of one.
-/
import Derived.Test.YtbakanofkghmiaaGreatQj01
import GoSem.Core.Float
set_option linter.unusedVariables false
set_option maxHeartbeats 6400000
set_option maxRecDepth 100000
namespace Go.Proofs.YtbakanofkghmiaaGreat
open Go.RowKit
structure Cm where
 k:Int
 s:Int
 t:Int
 l:Int
 q:Int
 i:Int
 p:Nat
 g:ByteArray
def Cm.vs (c:Cm):List Value:=(yx c.k c.s c.t c.l c.q c.i c.p c.g)
theorem Cm.len (c:Cm):c.vs.length = 8:=rfl
theorem cm_cells {w:World} {b o:Nat} {c:Cm} (h:w.rangeAt b o c.vs) :
  w.cell? (J b o) = some (H c.k)∧w.cell? (J b (o + 1)) = some (H c.s)∧w.cell? (J b (o + 2)) = some (H c.t)∧w.cell? (J b (o + 3)) = some (H c.l) ∧
  w.cell? (J b (o + 4)) = some (H c.q)∧w.cell? (J b (o + 5)) = some (H c.i)∧w.cell? (J b (o + 6)) = some (yj c.p)∧w.cell? (J b (o + 7)) = some (yk c.g) :=
 ⟨h 0 _ rfl,h 1 _ rfl,h 2 _ rfl,h 3 _ rfl,h 4 _ rfl,h 5 _ rfl,h 6 _ rfl,h 7 _ rfl⟩
theorem zG {w:World} {b o n:Nat} (h:w.there b o n) (j:Nat) (R:j < n):∃ v,w.cell? (J b (o + j)) = some v∧w.frozen? (J b (o + j)) = false:=by
 obtain ⟨v,hv⟩:=Option.isSome_iff_exists.1 (h j R).1
 exact ⟨v,hv,(h j R).2⟩
theorem sfl (a:Addr) (x:Nat) (m:Mode) (w:World):(store a (yj x) m).run Tryz.prog w = stored Tryz.prog w a (yj x) m:=run_store _ w a _ m rfl
structure Bx (W:World) (b:Nat) (vs:List Value):Prop where
 r:W.rangeAt b 0 vs
 t:W.there b 0 vs.length
theorem bD (w:World) (vs:List Value) (t:TypeId):Bx (w.alloc (Obj.cells vs.toArray t)) w.heap.size vs :=
 ⟨fun j u h=>by
  rw [cell_of_row _ w.heap.size (0 + j) vs.toArray t (0,0) (heap_alloc_new w _)]
  simpa using h,cJ (heap_alloc_new w _) (by simp)⟩
theorem bT {C b:Nat} {W V:World} {vs:List Value} (h:Bx W b vs) (X:Below C W V) (hC:b < C):Bx V b vs:=⟨zb h.r X hC,zg h.t X hC⟩
theorem zq {W:World} {b:Nat} {vs:List Value} (h:Bx W b vs) (j:Nat) {u:Value} (R:vs[j]? = some u):W.cell? (J b j) = some u:=by
 have:=h.r j u R; rwa [Nat.zero_add] at this
theorem zV {W:World} {b:Nat} {vs:List Value} (h:Bx W b vs) (j:Nat) (R:j < vs.length):W.frozen? (J b j) = false:=by
 have:=(h.t j R).2; rwa [Nat.zero_add] at this
theorem dT {W:World} {b:Nat} {vs us:List Value} (h:Bx W b vs) (hl:us.length = vs.length):Bx (W.setCells b 0 us) b us :=
 ⟨yY W b 0 us (fun j R=>h.t j (by omega)),by rw [hl]; exact xc h.t b 0 us⟩
theorem yz {W:World} {b:Nat} {v0 v1 v2 v3 v4 v5 v6 v7 v8 v9 v10 v11 v12 v13:Value} (h:Bx W b [v0,v1,v2,v3,v4,v5,v6,v7,v8,v9,v10,v11,v12,v13]):W.cell? ⟨b,0,none⟩ = some v0∧W.cell? ⟨b,1,none⟩ = some v1∧W.cell? ⟨b,2,none⟩ = some v2∧W.cell? ⟨b,3,none⟩ = some v3∧W.cell? ⟨b,4,none⟩ = some v4∧W.cell? ⟨b,5,none⟩ = some v5∧W.cell? ⟨b,6,none⟩ = some v6∧W.cell? ⟨b,7,none⟩ = some v7∧W.cell? ⟨b,8,none⟩ = some v8∧W.cell? ⟨b,9,none⟩ = some v9∧W.cell? ⟨b,10,none⟩ = some v10∧W.cell? ⟨b,11,none⟩ = some v11∧W.cell? ⟨b,12,none⟩ = some v12∧W.cell? ⟨b,13,none⟩ = some v13:=⟨zq h 0 rfl,zq h 1 rfl,zq h 2 rfl,zq h 3 rfl,zq h 4 rfl,zq h 5 rfl,zq h 6 rfl,zq h 7 rfl,zq h 8 rfl,zq h 9 rfl,zq h 10 rfl,zq h 11 rfl,zq h 12 rfl,zq h 13 rfl⟩
theorem yA {W:World} {b:Nat} {v0 v1 v2 v3 v4 v5 v6 v7:Value} (h:Bx W b [v0,v1,v2,v3,v4,v5,v6,v7]):W.cell? ⟨b,0,none⟩ = some v0∧W.cell? ⟨b,1,none⟩ = some v1∧W.cell? ⟨b,2,none⟩ = some v2∧W.cell? ⟨b,3,none⟩ = some v3∧W.cell? ⟨b,4,none⟩ = some v4∧W.cell? ⟨b,5,none⟩ = some v5∧W.cell? ⟨b,6,none⟩ = some v6∧W.cell? ⟨b,7,none⟩ = some v7:=⟨zq h 0 rfl,zq h 1 rfl,zq h 2 rfl,zq h 3 rfl,zq h 4 rfl,zq h 5 rfl,zq h 6 rfl,zq h 7 rfl⟩
theorem yB {W:World} {b:Nat} {v0 v1 v2 v3 v4 v5:Value} (h:Bx W b [v0,v1,v2,v3,v4,v5]):W.cell? ⟨b,0,none⟩ = some v0∧W.cell? ⟨b,1,none⟩ = some v1∧W.cell? ⟨b,2,none⟩ = some v2∧W.cell? ⟨b,3,none⟩ = some v3∧W.cell? ⟨b,4,none⟩ = some v4∧W.cell? ⟨b,5,none⟩ = some v5:=⟨zq h 0 rfl,zq h 1 rfl,zq h 2 rfl,zq h 3 rfl,zq h 4 rfl,zq h 5 rfl⟩
theorem eJ (w:World) (vs:List Value) (t:TypeId):Below w.heap.size w (w.alloc (Obj.cells vs.toArray t))∧Hid (Bx (w.alloc (Obj.cells vs.toArray t)) w.heap.size vs):=⟨(Below.refl _ _).alloc (Nat.le_refl _) _,bD w vs t⟩
theorem eK (w:World) (vs:List Value) (t:TypeId):Hid (Below w.heap.size w (w.alloc (Obj.cells vs.toArray t)))∧Hid (Bx (w.alloc (Obj.cells vs.toArray t)) w.heap.size vs):=⟨(Below.refl _ _).alloc (Nat.le_refl _) _,bD w vs t⟩
def tags8:List ByteArray:=[⟨#[]⟩,⟨#[97]⟩,⟨#[100,101,115,107,32,55]⟩,⟨#[49,50,51,52,53,54,55,56,57,48,49,50]⟩,⟨#[49,50,51,52,53,54,55,56,57,48,49,50,51]⟩,⟨#[49,50,51,52,53,54,55,56,57,48,49,50,51,52,53,54,55,56,57,48]⟩,⟨#[195,169]⟩,⟨#[120,10]⟩]
theorem tags8_len:∀ s ∈ tags8,s.size ≤ 20:=by decide +kernel
theorem src_far {B:Nat} {w:World} {v:Value} {l:List Int} {m:Int} (h:Src B w v l m):l ≠ []→∃ k,v.ownBlock = some k∧k < w.heap.size:=fun xB=>by
 obtain ⟨a,A,rfl,hl,hc⟩:=h.rd
 obtain ⟨b,off,rfl,xr⟩:=hc xB
 exact ⟨b,rfl,yL w _ (xr 0 (List.length_pos_iff.2 xB))⟩
theorem src_keep {B:Nat} {w w':World} {v:Value} {l:List Int} {m:Int} {G:Option Nat} (h:Src B w v l m) (hg:w.grownBy w' G) (hB:some B ≠ G) (hv:l ≠ []→v.ownBlock ≠ G):Src B w' v l m:=by
 have X:=hg.block B (bY h) hB
 obtain ⟨a,s,k1,k2,k3,k4,k5,k6⟩:=h.cells
 have e:∀ i,w'.cell? (J B i) = w.cell? (J B i):=fun i=>yR (a:=(J B i)) X
 have f:∀ i,w'.frozen? (J B i) = w.frozen? (J B i):=fun i=>World.frozen?_of_block (a:=(J B i)) X
 refine ⟨?_,h.ne,h.bts,(e 0).trans h.code,⟨a,s,k1,k2,k3,k4,(e 1).trans k5,(e 2).trans k6⟩,(f 1).trans h.free1,(f 2).trans h.free2⟩
 obtain ⟨a,A,rfl,hl,hc⟩:=h.rd
 refine ⟨a,A,rfl,hl,fun xB=>?_⟩
 obtain ⟨b,off,rfl,xr⟩:=hc xB
 exact ⟨b,off,rfl,fun i hi=>(yR (a:=(J b (off + i))) (hg.block b (yL w _ (xr i hi)) (hv xB))).trans (xr i hi)⟩
theorem gr_setsD (b:Nat):∀ (vs:List Value) (o:Nat) (w:World),w.grownBy (w.setCells b o vs) (some b)
 | [],o,w=>by rw [World.setCells]; exact yS _ _
 | v :: vs,o,w=>by rw [World.setCells]; exact zZ (gr_set w (J b o) v) (gr_setsD b vs (o + 1) _)
theorem srcE_set {B b o:Nat} {w W:World} {v:Value} {l:List Int} {m:Int} (hv:l ≠ []→∃ k,v.ownBlock = some k∧k < w.heap.size) (h:bE B w v l m W) (hB:B < w.heap.size) (X:w.heap.size ≤ b) (vs:List Value):bE B w v l m (W.setCells b o vs):=by
 have g:=gr_setsD b vs o W
 refine ⟨src_keep h.1 g (fun e=>by have:=Option.some.inj e; omega) (fun xB e=>?_),?_⟩
 ·obtain ⟨k,Q,N⟩:=hv xB
  rw [Q] at e
  have:=Option.some.inj e
  omega
 ·exact ⟨g.os.trans h.2.os,g.tape.trans h.2.tape,g.output.trans h.2.output,yO h.2.size g.size,fun k hk xB=>(g.block k (yK hk h.2.size) (fun e=>by have:=Option.some.inj e; omega)).trans (h.2.block k hk xB)⟩
theorem by_at (l:List Int) (s:Sr):(byF l s).2.at_ = s.at_ + 1:=by
 rw [byF]; split
 ·rfl
 ·split <;> rfl
theorem by_bd {l:List Int} {s:Sr} (X:Bts l) (hs:0 ≤ s.seed):0 ≤ (byF l s).1∧(byF l s).1 ≤ 255:=by
 rw [byF]; split
 ·have:=bts_get X s.at_.toNat; exact ⟨this.1,by have:=this.2; show l.getD s.at_.toNat 0 ≤ 255; omega⟩
 ·split
  ·exact ⟨by show (0:Int) ≤ 0; omega,by show (0:Int) ≤ 255; omega⟩
  ·exact ⟨by show 0 ≤ (s.seed * 1103515245 + 12345) % 2147483648 / 65536 % 256; omega,by show (s.seed * 1103515245 + 12345) % 2147483648 / 65536 % 256 ≤ 255; omega⟩
theorem by_seed {l:List Int} {s:Sr} (hs:0 ≤ s.seed):0 ≤ (byF l s).2.seed:=by
 rw [byF]; split
 ·show 0 ≤ (s.seed * 31 + l.getD s.at_.toNat 0 + 7) % 2147483648; omega
 ·split
  ·exact hs
  ·show 0 ≤ (s.seed * 1103515245 + 12345) % 2147483648; omega
theorem aN (l:List Int) (n:Int) (s:Sr):(nxF l n s).2.at_ ≤ s.at_ + 3:=by
 rw [nxF]; split
 ·show s.at_ ≤ s.at_ + 3; omega
 ·split
  ·show (byF l s).2.at_ ≤ s.at_ + 3; rw [by_at]; omega
  ·show (byF l (byF l (byF l s).2).2).2.at_ ≤ s.at_ + 3; rw [by_at,by_at,by_at]; omega
theorem nx_bd {l:List Int} {n:Int} {s:Sr} (Q:1 ≤ n):0 ≤ (nxF l n s).1∧(nxF l n s).1 < n:=by
 rw [nxF]; split
 ·exact ⟨by show (0:Int) ≤ 0; omega,by show (0:Int) < n; omega⟩
 ·split
  ·exact ⟨Int.emod_nonneg _ (by omega),Int.emod_lt_of_pos _ (by omega)⟩
  ·exact ⟨Int.emod_nonneg _ (by omega),Int.emod_lt_of_pos _ (by omega)⟩
set_option maxRecDepth 100000 in
set_option maxHeartbeats 800000 in
theorem bd (B:Nat) (v:Value) (l:List Int) (n:Int) (s:Sr) (w:World) (h:SrX B w v l s) (hm:s.at_ ≤ 1000000000) (Q:1 ≤ n) (N:n ≤ 1073741824) :
  Calls Tryz.prog 59 #[.pointer (some ⟨B,0,none⟩),.int .i64 n] w fun e w'=>e = .returned (.int .i64 (nxF l n s).1)∧SrXE B w v l (nxF l n s).2 w':=by
 have HS:=hide h
 have HBT:=hide h.src.bts
 have kO:=h.s0
 clear h
 by_cases k1:n ≤ 1
 ·rw [nxF,if_pos k1]
  go_enter Tryz.func59,Tryz.ntmps59
  go_wp2_with fail
  go_ret
  exact ⟨rfl,U HS,yS _ _⟩
 rw [nxF,if_neg k1]
 by_cases k2:n ≤ 256
 ·rw [if_pos k2]
  have X:=by_bd (U HBT) kO
  have oA:=hide (byte_ex B v l s w (U HS) (by omega))
  generalize byF l s = hj at X oA ⊢
  go_enter Tryz.func59,Tryz.ntmps59
  go_wp2_with fail
  refine (U oA).mono ?_
  rintro e w1 ⟨rfl,hE⟩
  have HE:=hide hE
  clear hE
  have xB:(n == 0) = false:=by simp; omega
  go_wp2_with fail
  go_ret
  exact ⟨zt (by first | rfl | simp),U HE⟩
 rw [if_neg k2]
 have a1:=by_at l s
 have a2:=by_at l (byF l s).2
 have g1:=by_bd (U HBT) kO
 have g2:=by_bd (s:=(byF l s).2) (U HBT) (by_seed kO)
 have g3:=by_bd (s:=(byF l (byF l s).2).2) (U HBT) (by_seed (by_seed kO))
 have xU:=hide (byte_ex B v l s w (U HS) (by omega))
 have xE:=hide (fun W hW=>byte_ex B v l (byF l s).2 W hW (by omega))
 have xQ:=hide (fun W hW=>byte_ex B v l (byF l (byF l s).2).2 W hW (by omega))
 generalize byF l (byF l (byF l s).2).2 = R3 at g3 xQ ⊢
 generalize byF l (byF l s).2 = R2 at g2 xE xQ a2 ⊢
 generalize byF l s = R1 at g1 xU xE a1 a2 ⊢
 clear a1 a2
 go_enter Tryz.func59,Tryz.ntmps59
 go_wp2_with fail
 refine (U xU).mono ?_
 rintro e w1 ⟨rfl,hE⟩
 have ps:=hide hE
 clear hE
 go_wp2_with fail
 refine (U xE w1 (U ps).1).mono ?_
 rintro e w2 ⟨rfl,hE⟩
 have ah:=hide hE
 clear hE
 go_wp2_with fail
 refine (U xQ w2 (U ah).1).mono ?_
 rintro e w3 ⟨rfl,hE⟩
 have HE3:=hide hE
 clear hE
 have xB:(n == 0) = false:=by simp; omega
 go_wp2_with fail
 go_ret
 exact ⟨zt (by first | rfl | simp),(U HE3).1,zZ (zZ (U ps).2 (U ah).2) (U HE3).2⟩
set_option maxHeartbeats 400000 in
theorem chance_ex (B:Nat) (v:Value) (l:List Int) (n:Int) (s:Sr) (w:World) (h:SrX B w v l s) (hm:s.at_ ≤ 1000000000) (Q:1 ≤ n) (N:n ≤ 1073741824) :
  Calls Tryz.prog 105 #[.pointer (some ⟨B,0,none⟩),.int .i64 n] w fun e w'=>e = .returned (.bool ((nxF l n s).1 == n - 1))∧SrXE B w v l (nxF l n s).2 w':=by
 have HN:=hide (bd B v l n s w h hm Q N)
 have hw:IntKind.i64.wrap (n - 1) = n - 1:=by rw [IntKind.wrap_i64]; omega
 clear h
 generalize nxF l n s = hj at HN ⊢
 go_enter Tryz.func105,Tryz.ntmps105
 go_wp2_with fail
 refine (U HN).mono ?_
 rintro e w1 ⟨rfl,hE⟩
 have HE:=hide hE
 clear hE
 go_wp2_with fail
 go_ret
 exact ⟨rfl,U HE⟩
def fbit (x:Nat):Nat:=if nanB x = true then 9221120237041090560 else x
theorem floatBits_any (x:Nat) (w:World) :
  Calls Tryz.prog 161 #[yj x] w fun e w'=>e = ym (.int .u64 (fbit x))∧w' = w:=by
 have X:=fbits
 cases h:nanB x
 case true =>
  have HX:Hid (fbit x = 9221120237041090560):=if_pos h
  go_enter Tryz.func161,Tryz.ntmps161
  go_wp2_with (go_at_call 167; refine (isNaN_any _ _).mono ?_; rintro e w' ⟨rfl,rfl⟩)
  go_ret
  exact ⟨by rw [U HX]; rfl,rfl⟩
 case false =>
  have HX:Hid (fbit x = x):=if_neg (by rw [h]; decide)
  go_enter Tryz.func161,Tryz.ntmps161
  go_wp2_with (go_at_call 167; refine (isNaN_any _ _).mono ?_; rintro e w' ⟨rfl,rfl⟩)
  go_ret
  exact ⟨by rw [U HX]; rfl,rfl⟩
end Go.Proofs.YtbakanofkghmiaaGreat
namespace Go.Proofs.YtbakanofkghmiaaGreat
open Go Ieee

theorem fb:double.fractionBits = 52:=rfl
theorem lp:double.leastPlace = -1074:=by decide
theorem bin:double.binade = 4503599627370496:=by decide
theorem inf:double.infRung = 9218868437227405312:=by decide
theorem sw:double.signWeight = 9223372036854775808:=by decide
theorem read_mag {x:Nat} {s:Bool} {m:Nat} {i:Int} (h:double.read x = .number s m i):m < 9007199254740992:=by
 unfold Format.read at h
 simp only [bin,inf,sw] at h
 split at h
 ·simp only [Datum.number.injEq] at h; omega
 ·split at h
  ·simp only [Datum.number.injEq] at h; omega
  ·split at h <;> cases h
theorem read_zero:double.read 0 = .number false 0 (-1074):=by decide
theorem read_top:double.read 4687829947429945344 = .number false 8589934592000000 (-35):=by decide
theorem read_four:double.read 4616189618054758400 = .number false 4503599627370496 (-50):=by decide
theorem signed_neg (m a:Nat):signed true m a ≤ 0:=by
 show -((m <<< a:Nat):Int) ≤ 0
 exact Int.neg_nonpos_of_nonneg (Int.natCast_nonneg _)
theorem above_zero {x:Nat} (h:double.order x 0 = some .gt):double.read x = .infinity false ∨ ∃ m i,double.read x = .number false m i∧m ≠ 0:=by
 unfold Format.order at h
 rw [read_zero] at h
 cases hx:double.read x with
 | nan s f=>rw [hx] at h; simp [Datum.order] at h
 | infinity s=>cases s with
  | false=>exact .inl rfl
  | true=>rw [hx] at h; simp [Datum.order] at h
 | number s m i =>
  rw [hx] at h
  simp only [Datum.order,Option.some.injEq] at h
  have hz:∀ b,signed false 0 b = 0:=fun b=>by simp [signed]
  rw [hz] at h
  have hgt:=Std.compare_eq_gt.1 h
  cases s with
  | false =>
   refine .inr ⟨m,i,rfl,fun e=>?_⟩
   subst e
   rw [hz] at hgt
   exact absurd hgt (by decide)
  | true =>
   exact absurd hgt (Int.not_lt.2 (signed_neg m _))
theorem log_le {m k:Nat} (hm:m ≠ 0) (h:m < 2 ^ k):m.log2 < k:=(Nat.log2_lt hm).2 h
theorem within {m:Nat} {i:Int} {x:Nat} (hx:double.read x = .number false m i) (hm:m ≠ 0) (h:double.order x 4687829947429945344 = some .lt ∨ double.order x 4687829947429945344 = some .eq):i + m.log2 ≤ 17:=by
 have hmag:=read_mag hx
 unfold Format.order at h
 rw [read_top,hx] at h
 simp only [Datum.order,Option.some.injEq] at h
 have jI:signed false m (i - min i (-35)).toNat ≤ signed false 8589934592000000 (-35 - min i (-35)).toNat:=by
  rcases h with h | h
  ·exact Int.le_of_lt (Std.compare_eq_lt.1 h)
  ·exact Int.le_of_eq (Std.LawfulEqCmp.eq_of_compare h)
 by_cases hi:i < -35
 ·have:=log_le hm (show m < 2 ^ 53 by omega)
  omega
 ·have e1:min i (-35) = -35:=by omega
  rw [e1] at jI
  have e2:((-35:Int) - -35).toNat = 0:=by decide
  rw [e2] at jI
  have hle':(m <<< (i - -35).toNat:Nat) ≤ (8589934592000000 <<< 0:Nat):=by
   have:((m <<< (i - -35).toNat:Nat):Int) ≤ ((8589934592000000 <<< 0:Nat):Int):=jI
   omega
  rw [Nat.shiftLeft_eq,Nat.shiftLeft_zero] at hle'
  have hlog:m.log2 + (i - -35).toNat < 53:=by
   have Q:2 ^ m.log2 ≤ m:=Nat.log2_self_le hm
   have N:2 ^ (m.log2 + (i - -35).toNat) ≤ m * 2 ^ (i - -35).toNat:=by
    rw [Nat.pow_add]; exact Nat.mul_le_mul_right _ Q
   have h3:2 ^ (m.log2 + (i - -35).toNat) < 2 ^ 53:=by omega
   exact (Nat.pow_lt_pow_iff_right (by decide)).1 h3
  omega
theorem log_up {m:Nat} (hm:m ≠ 0):(m * 4503599627370496).log2 = m.log2 + 52:=by
 have h:=(Nat.log2_eq_iff hm).1 rfl
 refine (Nat.log2_eq_iff (by omega)).2 ?_
 rw [Nat.pow_add,show m.log2 + 52 + 1 = (m.log2 + 1) + 52 by omega,Nat.pow_add 2 (m.log2 + 1) 52,show (2:Nat) ^ 52 = 4503599627370496 from rfl]
 exact ⟨Nat.mul_le_mul_right _ h.1,Nat.mul_lt_mul_of_pos_right h.2 (by decide)⟩
theorem cut_le (n p drop:Nat) (hn:n < 2 ^ (p + 53)) (hp:p ≤ drop) (hl:p ≤ n.log2 + 2):Toward.even.cut false n drop ≤ 9007199254740993:=by
 unfold Toward.cut
 simp only
 have hg:2 ^ p ≤ 1 <<< min drop (n.log2 + 2):=by
  rw [Nat.one_shiftLeft]
  exact Nat.pow_le_pow_right (by decide) (by omega)
 have hq:n / (1 <<< min drop (n.log2 + 2)) ≤ 9007199254740992:=by
  refine yO (Nat.div_le_div_left hg (Nat.two_pow_pos p)) ?_
  have:n / 2 ^ p < 2 ^ 53:=by
   rw [Nat.div_lt_iff_lt_mul (Nat.two_pow_pos p),← Nat.pow_add,Nat.add_comm]
   exact hn
  omega
 have X:∀ b:Bool,b.toNat ≤ 1:=by decide
 have:=X (decide (1 <<< min drop (n.log2 + 2) < 2 * (n % 1 <<< min drop (n.log2 + 2))) || (1 <<< min drop (n.log2 + 2) == 2 * (n % 1 <<< min drop (n.log2 + 2)) && n / 1 <<< min drop (n.log2 + 2) % 2 == 1))
 omega
theorem near_le {m:Nat} {i:Int} (hm:m ≠ 0) (hi:i + m.log2 ≤ 17):double.nearest false (m * 4503599627370496) (i + -50) < 1075 * 4503599627370496:=by
 have hmag:¬ m * 4503599627370496 = 0:=by omega
 have hlog:=log_up hm
 have xL:m * 4503599627370496 < 2 ^ (m.log2 + 53):=by
  have h:=((Nat.log2_eq_iff hm).1 rfl).2
  rw [show m.log2 + 53 = (m.log2 + 1) + 52 by omega,Nat.pow_add 2 (m.log2 + 1) 52,show (2:Nat) ^ 52 = 4503599627370496 from rfl]
  exact Nat.mul_lt_mul_of_pos_right h (by decide)
 unfold Format.nearest
 rw [if_neg hmag]
 simp only [hlog,fb,lp,bin,inf,Format.word,Bool.false_eq_true,if_false]
 have hlast:i + -50 + ((m.log2 + 52:Nat):Int) - (52:Nat) ≤ max (i + -50 + ((m.log2 + 52:Nat):Int) - (52:Nat)) (-1074):=Int.le_max_left _ _
 have hup:max (i + -50 + ((m.log2 + 52:Nat):Int) - (52:Nat)) (-1074) ≤ -33:=Int.max_le.2 ⟨by omega,by omega⟩
 generalize max (i + -50 + ((m.log2 + 52:Nat):Int) - (52:Nat)) (-1074) = last at *
 have e0:(i + -50 - last).toNat = 0:=by omega
 rw [e0,Nat.shiftLeft_zero]
 have hc:=cut_le (m * 4503599627370496) m.log2 (last - (i + -50)).toNat xL (by omega) (by omega)
 generalize Toward.even.cut false (m * 4503599627370496) (last - (i + -50)).toNat = kept at *
 have e1:(last - -1074).toNat ≤ 1041:=by omega
 have e2:(last - -1074).toNat * 4503599627370496 ≤ 1041 * 4503599627370496:=Nat.mul_le_mul_right _ e1
 omega
theorem whole {r:Nat} (h:r < 1075 * 4503599627370496):∃ n:Nat,(double.read r).toInt .zero = some (n:Int)∧n < 9007199254740992:=by
 have hneg:(r / 9223372036854775808 % 2 == 1) = false:=by simp; omega
 have hr:r % 9223372036854775808 = r:=by omega
 have cutz:∀ (n d:Nat),Toward.zero.cut false n d ≤ n:=by
  intro n d
  unfold Toward.cut
  simp only [Bool.toNat_false,Nat.add_zero]
  exact Nat.div_le_self _ _
 unfold Format.read
 simp only [bin,inf,sw,hneg,hr,lp]
 split
 ·refine ⟨Toward.zero.cut false (r <<< (-1074:Int).toNat) (1074:Int).toNat,?_,?_⟩
  ·simp [Datum.toInt,Datum.integral,signed]
  ·have:=cutz (r <<< (-1074:Int).toNat) (1074:Int).toNat
   rw [show (-1074:Int).toNat = 0 from rfl,Nat.shiftLeft_zero] at this ⊢
   omega
 ·rw [if_pos (by omega)]
  have hi:(-1074 + ((r / 4503599627370496 - 1:Nat):Int)).toNat = 0:=by omega
  refine ⟨Toward.zero.cut false ((4503599627370496 + r % 4503599627370496) <<< (-1074 + ((r / 4503599627370496 - 1:Nat):Int)).toNat) (-(-1074 + ((r / 4503599627370496 - 1:Nat):Int))).toNat,?_,?_⟩
  ·simp [Datum.toInt,Datum.integral,signed]
  ·have:=cutz ((4503599627370496 + r % 4503599627370496) <<< (-1074 + ((r / 4503599627370496 - 1:Nat):Int)).toNat) (-(-1074 + ((r / 4503599627370496 - 1:Nat):Int))).toNat
   rw [hi,Nat.shiftLeft_zero] at this ⊢
   omega
theorem price_four {x:Nat} (h0:double.order x 0 = some .gt) (Q:double.order x 4687829947429945344 = some .lt ∨ double.order x 4687829947429945344 = some .eq) :
  ∃ (r n:Nat),double.mul x 4616189618054758400 = some r∧(double.read r).toInt .zero = some (n:Int)∧n < 9007199254740992:=by
 rcases above_zero h0 with hx | ⟨m,i,hx,hm⟩
 ·exfalso
  unfold Format.order at Q
  rw [hx,read_top] at Q
  simp [Datum.order] at Q
 ·have hw:=within hx hm Q
  have jy:double.mul x 4616189618054758400 = some (double.nearest false (m * 4503599627370496) (i + -50)):=by
   unfold Format.mul
   rw [hx,read_four]
   rfl
  obtain ⟨n,N,h3⟩:=whole (near_le hm hw)
  exact ⟨_,n,jy,N,h3⟩
end Go.Proofs.YtbakanofkghmiaaGreat
namespace Go.Proofs.YtbakanofkghmiaaGreat
open Go.RowKit
def tkR (x:Nat):Nat:=(FloatKind.f64.format.mul x 4616189618054758400).getD 0
def tkN (x:Nat):Int:=((FloatKind.f64.decode (tkR x)).toInt .zero).getD 0
def tkOk (x:Nat):Bool:=(FloatKind.f64.format.order x 0 == some Ordering.gt) && ((FloatKind.f64.format.order x 4687829947429945344 == some Ordering.lt) || (FloatKind.f64.format.order x 4687829947429945344 == some Ordering.eq)) &&
 (FloatKind.f64.format.order (floatOfInt .f64 (tkN x)) (tkR x) == some Ordering.eq)
def tk (x:Nat):Int:=if tkOk x = true then tkN x else 0
theorem dS (x:Nat) (w:World) :
  Calls Tryz.prog 19 #[yj x] w fun e w'=>e = ym (.tuple #[H (tk x),.bool (tkOk x)])∧w' = w:=by
 by_cases h0:FloatKind.f64.format.order x 0 = some Ordering.gt
 ·by_cases Q:FloatKind.f64.format.order x 4687829947429945344 = some Ordering.lt ∨ FloatKind.f64.format.order x 4687829947429945344 = some Ordering.eq
  ·obtain ⟨r,n,jy,pJ,hn⟩:=price_four h0 Q
   have hn':(n:Int) < 9007199254740992:=by omega
   have eR:tkR x = r:=by unfold tkR; rw [show FloatKind.f64.format.mul x 4616189618054758400 = some r from jy]; rfl
   have eN:tkN x = n:=by unfold tkN; rw [eR,show (FloatKind.f64.decode r).toInt .zero = some (n:Int) from pJ]; rfl
   have b0:(FloatKind.f64.format.order x 0 == some Ordering.gt) = true:=by rw [h0]; rfl
   have hm:∀ W,(binOp .mul 41 (yj x) (yj 4616189618054758400)).run Tryz.prog W = .ok (yj r) W:=fun W=>by
    have:FloatKind.f64.format.mul x 4616189618054758400 = some r:=jy
    simp [binOp,Op.floatArith,this]
   have hc:∀ W,(convert 41 3 (yj r)).run Tryz.prog W = .ok (H n) W:=fun W=>by
    have N:(FloatKind.f64.decode r).toInt .zero = some (n:Int):=pJ
    have X:IntKind.i64.min ≤ (n:Int)∧(n:Int) ≤ IntKind.i64.max:=by
     rw [show IntKind.i64.min = -9223372036854775808 by decide,show IntKind.i64.max = 9223372036854775807 by decide]; omega
    simp [convert,run_underlying Tryz.underlying41,run_underlying Tryz.underlying3,Conv.floatToInt,N,X.1]
    intro h
    omega
   have qD:((FloatKind.f64.format.order x 4687829947429945344 == some Ordering.lt) || (FloatKind.f64.format.order x 4687829947429945344 == some Ordering.eq)) = true:=by
    rcases Q with Q | Q <;> rw [Q] <;> rfl
   have qa:tkOk x = (FloatKind.f64.format.order (floatOfInt .f64 n) r == some Ordering.eq):=by unfold tkOk; rw [eN,eR,b0,qD]; rfl
   clear jy pJ h0 qD
   cases he:(FloatKind.f64.format.order (floatOfInt .f64 n) r == some Ordering.eq)
   all_goals
    have he2:(FloatKind.f64.format.order (floatOfInt .f64 n) r != some Ordering.eq) = !(FloatKind.f64.format.order (floatOfInt .f64 n) r == some Ordering.eq):=rfl
    rw [he] at he2
    rw [he] at qa
   ·have HT:Hid (tk x = 0∧tkOk x = false):=⟨by unfold tk; rw [qa]; rfl,qa⟩
    clear qa eN eR
    rcases Q with Q | Q
    ·have b1:(FloatKind.f64.format.order x 4687829947429945344 == some Ordering.lt) = true:=by rw [Q]; rfl
     have b2:(FloatKind.f64.format.order x 4687829947429945344 == some Ordering.eq) = false:=by rw [Q]; rfl
     clear Q
     go_enter Tryz.func19,Tryz.ntmps19
     go_wp2
     go_ret2
     exact ⟨by rw [(U HT).1,(U HT).2]; rfl,rfl⟩
    ·have b1:(FloatKind.f64.format.order x 4687829947429945344 == some Ordering.lt) = false:=by rw [Q]; rfl
     have b2:(FloatKind.f64.format.order x 4687829947429945344 == some Ordering.eq) = true:=by rw [Q]; rfl
     clear Q
     go_enter Tryz.func19,Tryz.ntmps19
     go_wp2
     go_ret2
     exact ⟨by rw [(U HT).1,(U HT).2]; rfl,rfl⟩
   ·have HT:Hid (tk x = n∧tkOk x = true):=⟨by unfold tk; rw [qa,eN]; rfl,qa⟩
    clear qa eN eR
    rcases Q with Q | Q
    ·have b1:(FloatKind.f64.format.order x 4687829947429945344 == some Ordering.lt) = true:=by rw [Q]; rfl
     have b2:(FloatKind.f64.format.order x 4687829947429945344 == some Ordering.eq) = false:=by rw [Q]; rfl
     clear Q
     go_enter Tryz.func19,Tryz.ntmps19
     go_wp2
     go_ret2
     exact ⟨by rw [(U HT).1,(U HT).2]; rfl,rfl⟩
    ·have b1:(FloatKind.f64.format.order x 4687829947429945344 == some Ordering.lt) = false:=by rw [Q]; rfl
     have b2:(FloatKind.f64.format.order x 4687829947429945344 == some Ordering.eq) = true:=by rw [Q]; rfl
     clear Q
     go_enter Tryz.func19,Tryz.ntmps19
     go_wp2
     go_ret2
     exact ⟨by rw [(U HT).1,(U HT).2]; rfl,rfl⟩
  ·have b0:(FloatKind.f64.format.order x 0 == some Ordering.gt) = true:=by rw [h0]; rfl
   have b1:(FloatKind.f64.format.order x 4687829947429945344 == some Ordering.lt) = false:=by rw [xe]; exact fun h=>Q (.inl h)
   have b2:(FloatKind.f64.format.order x 4687829947429945344 == some Ordering.eq) = false:=by rw [xe]; exact fun h=>Q (.inr h)
   have qa:tkOk x = false:=by unfold tkOk; rw [b0,b1,b2]; rfl
   have HT:Hid (tk x = 0∧tkOk x = false):=⟨by unfold tk; rw [qa]; rfl,qa⟩
   clear h0 Q qa
   go_enter Tryz.func19,Tryz.ntmps19
   go_wp2
   go_ret2
   exact ⟨by rw [(U HT).1,(U HT).2]; rfl,rfl⟩
 ·have b0:(FloatKind.f64.format.order x 0 == some Ordering.gt) = false:=by rw [xe]; exact h0
  have qa:tkOk x = false:=by unfold tkOk; rw [b0]; rfl
  have HT:Hid (tk x = 0∧tkOk x = false):=⟨by unfold tk; rw [qa]; rfl,qa⟩
  clear h0 qa
  go_enter Tryz.func19,Tryz.ntmps19
  go_wp2
  go_ret2
  exact ⟨by rw [(U HT).1,(U HT).2]; rfl,rfl⟩
def PrW (p:Nat):Prop:=tkOk p = true→1 ≤ tk p∧tk p ≤ 1000000
end Go.Proofs.YtbakanofkghmiaaGreat
namespace Go.Proofs.YtbakanofkghmiaaGreat
open Go Ieee

theorem d_bin:double.binade = 4503599627370496:=by decide
theorem d_inf:double.infRung = 9218868437227405312:=by decide
theorem d_sw:double.signWeight = 9223372036854775808:=by decide
theorem d_lp:double.leastPlace = -1074:=by decide
theorem nan_iff (x:Nat):nanB x = true ↔ (double.read x).isNaN = true:=by
 constructor
 ·intro h
  by_cases hn:(double.read x).isNaN = true
  ·exact hn
  ·have:=datum_self _ hn
   have e:FloatKind.f64.format.order x x = some Ordering.eq:=this
   simp [nanB,e] at h
 ·intro h
  cases hx:double.read x with
  | nan s f =>
   have e:FloatKind.f64.format.order x x = none:=by
    show (double.read x).order (double.read x) = none
    rw [hx]; rfl
   simp [nanB,e]
  | infinity s=>rw [hx] at h; simp [Datum.isNaN] at h
  | number s m i=>rw [hx] at h; simp [Datum.isNaN] at h
theorem nan_rung (x:Nat):nanB x = true ↔ 9218868437227405312 < x % 9223372036854775808:=by
 rw [nan_iff]
 unfold Format.read
 simp only [d_bin,d_inf,d_sw,d_lp]
 split
 ·simp [Datum.isNaN]; omega
 ·split
  ·simp [Datum.isNaN]; omega
  ·split
   ·simp [Datum.isNaN]; omega
   ·simp [Datum.isNaN]; omega
theorem nan_drawn (t:Nat):nanB ((t % 2) * 2 ^ 63 + 0x7ff0000000000000 + 1 + (t / 2) % (2 ^ 52 - 1)) = true:=by
 rw [nan_rung]
 have Q:t % 2 < 2:=Nat.mod_lt _ (by decide)
 have N:(t / 2) % (2 ^ 52 - 1) < 2 ^ 52 - 1:=Nat.mod_lt _ (by decide)
 rw [show (2:Nat) ^ 63 = 9223372036854775808 from rfl]
 rw [show (2:Nat) ^ 52 - 1 = 4503599627370495 from rfl] at *
 generalize (t / 2) % 4503599627370495 = b at *
 generalize t % 2 = a at *
 rcases (show a = 0 ∨ a = 1 by omega) with rfl | rfl <;> omega
end Go.Proofs.YtbakanofkghmiaaGreat
