/-
  Commands drawn out of the source, of any kind: proved by walking the methods.
-/
import Derived.Test.YthhkapcbocgcoaaGreatDoorGj01
import GoSem.Core.Float
set_option linter.unusedVariables false
set_option maxHeartbeats 6400000
set_option maxRecDepth 100000
namespace Go.Proofs.YthhkapcbocgcoaaGreatDoor
open Go.RowKit
def tags8:List ByteArray:=[⟨#[]⟩,⟨#[97]⟩,⟨#[100,101,115,107,32,55]⟩,⟨#[49,50,51,52,53,54,55,56,57,48,49,50]⟩,⟨#[49,50,51,52,53,54,55,56,57,48,49,50,51]⟩,⟨#[49,50,51,52,53,54,55,56,57,48,49,50,51,52,53,54,55,56,57,48]⟩,⟨#[195,169]⟩,⟨#[120,10]⟩]
theorem tags8_len:∀ s ∈ tags8,s.size ≤ 20:=by decide +kernel
theorem src_far {B:Nat} {w:World} {v:Value} {l:List Int} {m:Int} (h:Src B w v l m):l ≠ []→∃ k,v.ownBlock = some k∧k < w.heap.size:=fun xC=>by
 obtain ⟨a,cap,rfl,hl,hc⟩:=h.rd
 obtain ⟨b,off,rfl,xr⟩:=hc xC
 exact ⟨b,rfl,yL w _ (xr 0 (List.length_pos_iff.2 xC))⟩
theorem src_keep {B:Nat} {w w':World} {v:Value} {l:List Int} {m:Int} {G:Option Nat} (h:Src B w v l m) (hg:w.grownBy w' G) (hB:some B ≠ G) (hv:l ≠ []→v.ownBlock ≠ G):Src B w' v l m:=by
 have A:=hg.block B (dW h) hB
 obtain ⟨a,s,k1,k2,k3,k4,k5,k6⟩:=h.cells
 have e:∀ i,w'.cell? (J B i) = w.cell? (J B i):=fun i=>yR (a:=(J B i)) A
 have f:∀ i,w'.frozen? (J B i) = w.frozen? (J B i):=fun i=>World.frozen?_of_block (a:=(J B i)) A
 refine ⟨?_,h.ne,h.bts,(e 0).trans h.code,⟨a,s,k1,k2,k3,k4,(e 1).trans k5,(e 2).trans k6⟩,(f 1).trans h.free1,(f 2).trans h.free2⟩
 obtain ⟨a,cap,rfl,hl,hc⟩:=h.rd
 refine ⟨a,cap,rfl,hl,fun xC=>?_⟩
 obtain ⟨b,off,rfl,xr⟩:=hc xC
 exact ⟨b,off,rfl,fun i hi=>(yR (a:=(J b (off + i))) (hg.block b (yL w _ (xr i hi)) (hv xC))).trans (xr i hi)⟩
theorem gr_setsD (b:Nat):∀ (vs:List Value) (o:Nat) (w:World),w.grownBy (w.setCells b o vs) (some b)
 | [],o,w=>by rw [World.setCells]; exact yS _ _
 | v :: vs,o,w=>by rw [World.setCells]; exact zA (ei w (J b o) v) (gr_setsD b vs (o + 1) _)
theorem srcE_set {B b o:Nat} {w W:World} {v:Value} {l:List Int} {m:Int} (hv:l ≠ []→∃ k,v.ownBlock = some k∧k < w.heap.size) (h:dx B w v l m W) (hB:B < w.heap.size) (A:w.heap.size ≤ b) (vs:List Value):dx B w v l m (W.setCells b o vs):=by
 have g:=gr_setsD b vs o W
 refine ⟨src_keep h.1 g (fun e=>by have:=Option.some.inj e; omega) (fun xC e=>?_),?_⟩
 ·obtain ⟨k,Q,D⟩:=hv xC
  rw [Q] at e
  have:=Option.some.inj e
  omega
 ·exact ⟨g.os.trans h.2.os,g.tape.trans h.2.tape,g.output.trans h.2.output,yO h.2.size g.size,fun k E xC=>(g.block k (yK E h.2.size) (fun e=>by have:=Option.some.inj e; omega)).trans (h.2.block k E xC)⟩
theorem by_at (l:List Int) (s:Sr):(byF l s).2.at_ = s.at_ + 1:=by
 rw [byF]; split
 ·rfl
 ·split <;> rfl
theorem by_bd {l:List Int} {s:Sr} (A:Bts l) (hs:0 ≤ s.seed):0 ≤ (byF l s).1∧(byF l s).1 ≤ 255:=by
 rw [byF]; split
 ·have:=bts_get A s.at_.toNat; exact ⟨this.1,by have:=this.2; show l.getD s.at_.toNat 0 ≤ 255; omega⟩
 ·split
  ·exact ⟨by show (0:Int) ≤ 0; omega,by show (0:Int) ≤ 255; omega⟩
  ·exact ⟨by show 0 ≤ (s.seed * 1103515245 + 12345) % 2147483648 / 65536 % 256; omega,by show (s.seed * 1103515245 + 12345) % 2147483648 / 65536 % 256 ≤ 255; omega⟩
theorem by_seed {l:List Int} {s:Sr} (hs:0 ≤ s.seed):0 ≤ (byF l s).2.seed:=by
 rw [byF]; split
 ·show 0 ≤ (s.seed * 31 + l.getD s.at_.toNat 0 + 7) % 2147483648; omega
 ·split
  ·exact hs
  ·show 0 ≤ (s.seed * 1103515245 + 12345) % 2147483648; omega
theorem bU (l:List Int) (n:Int) (s:Sr):(nxF l n s).2.at_ ≤ s.at_ + 3:=by
 rw [nxF]; split
 ·show s.at_ ≤ s.at_ + 3; omega
 ·split
  ·show (byF l s).2.at_ ≤ s.at_ + 3; rw [by_at]; omega
  ·show (byF l (byF l (byF l s).2).2).2.at_ ≤ s.at_ + 3; rw [by_at,by_at,by_at]; omega
theorem cZ {l:List Int} {n:Int} {s:Sr} (Q:1 ≤ n):0 ≤ (nxF l n s).1∧(nxF l n s).1 < n:=by
 rw [nxF]; split
 ·exact ⟨by show (0:Int) ≤ 0; omega,by show (0:Int) < n; omega⟩
 ·split
  ·exact ⟨Int.emod_nonneg _ (by omega),Int.emod_lt_of_pos _ (by omega)⟩
  ·exact ⟨Int.emod_nonneg _ (by omega),Int.emod_lt_of_pos _ (by omega)⟩
set_option maxRecDepth 100000 in
set_option maxHeartbeats 800000 in
theorem cJ (B:Nat) (v:Value) (l:List Int) (n:Int) (s:Sr) (w:World) (h:SrX B w v l s) (hm:s.at_ ≤ 1000000000) (Q:1 ≤ n) (D:n ≤ 1073741824) :
  Calls Tryz.prog 28 #[.pointer (some ⟨B,0,none⟩),.int .i64 n] w fun e w'=>e = .returned (.int .i64 (nxF l n s).1)∧SrXE B w v l (nxF l n s).2 w':=by
 have HS:=hide h
 have HBT:=hide h.src.bts
 have qH:=h.s0
 clear h
 by_cases k1:n ≤ 1
 ·rw [nxF,if_pos k1]
  go_enter Tryz.func28,Tryz.ntmps28
  go_wp2_with fail
  go_ret
  exact ⟨rfl,U HS,yS _ _⟩
 rw [nxF,if_neg k1]
 by_cases k2:n ≤ 256
 ·rw [if_pos k2]
  have A:=by_bd (U HBT) qH
  have HBY:=hide (byte_ex B v l s w (U HS) (by omega))
  generalize byF l s = R at A HBY ⊢
  go_enter Tryz.func28,Tryz.ntmps28
  go_wp2_with fail
  refine (U HBY).mono ?_
  rintro e w1 ⟨rfl,hE⟩
  have HE:=hide hE
  clear hE
  have xC:(n == 0) = false:=by simp; omega
  go_wp2_with fail
  go_ret
  exact ⟨zw (by first | rfl | simp),U HE⟩
 rw [if_neg k2]
 have a1:=by_at l s
 have a2:=by_at l (byF l s).2
 have g1:=by_bd (U HBT) qH
 have g2:=by_bd (s:=(byF l s).2) (U HBT) (by_seed qH)
 have g3:=by_bd (s:=(byF l (byF l s).2).2) (U HBT) (by_seed (by_seed qH))
 have xU:=hide (byte_ex B v l s w (U HS) (by omega))
 have xt:=hide (fun W hW=>byte_ex B v l (byF l s).2 W hW (by omega))
 have xG:=hide (fun W hW=>byte_ex B v l (byF l (byF l s).2).2 W hW (by omega))
 generalize byF l (byF l (byF l s).2).2 = R3 at g3 xG ⊢
 generalize byF l (byF l s).2 = R2 at g2 xt xG a2 ⊢
 generalize byF l s = R1 at g1 xU xt a1 a2 ⊢
 clear a1 a2
 go_enter Tryz.func28,Tryz.ntmps28
 go_wp2_with fail
 refine (U xU).mono ?_
 rintro e w1 ⟨rfl,hE⟩
 have oM:=hide hE
 clear hE
 go_wp2_with fail
 refine (U xt w1 (U oM).1).mono ?_
 rintro e w2 ⟨rfl,hE⟩
 have oX:=hide hE
 clear hE
 go_wp2_with fail
 refine (U xG w2 (U oX).1).mono ?_
 rintro e w3 ⟨rfl,hE⟩
 have pB:=hide hE
 clear hE
 have xC:(n == 0) = false:=by simp; omega
 go_wp2_with fail
 go_ret
 exact ⟨zw (by first | rfl | simp),(U pB).1,zA (zA (U oM).2 (U oX).2) (U pB).2⟩
set_option maxHeartbeats 400000 in
theorem chance_ex (B:Nat) (v:Value) (l:List Int) (n:Int) (s:Sr) (w:World) (h:SrX B w v l s) (hm:s.at_ ≤ 1000000000) (Q:1 ≤ n) (D:n ≤ 1073741824) :
  Calls Tryz.prog 55 #[.pointer (some ⟨B,0,none⟩),.int .i64 n] w fun e w'=>e = .returned (.bool ((nxF l n s).1 == n - 1))∧SrXE B w v l (nxF l n s).2 w':=by
 have HN:=hide (cJ B v l n s w h hm Q D)
 have hw:IntKind.i64.wrap (n - 1) = n - 1:=by rw [IntKind.wrap_i64]; omega
 clear h
 generalize nxF l n s = R at HN ⊢
 go_enter Tryz.func55,Tryz.ntmps55
 go_wp2_with fail
 refine (U HN).mono ?_
 rintro e w1 ⟨rfl,hE⟩
 have HE:=hide hE
 clear hE
 go_wp2_with fail
 go_ret
 exact ⟨rfl,U HE⟩
def fbit (x:Nat):Nat:=if nanB x = true then 9221120237041090560 else x
theorem gJ (x:Nat) (w:World) :
  Calls Tryz.prog 93 #[yj x] w fun e w'=>e = ym (.int .u64 (fbit x))∧w' = w:=by
 have A:=fbits
 cases h:nanB x
 case true =>
  have HX:Hid (fbit x = 9221120237041090560):=if_pos h
  go_enter Tryz.func93,Tryz.ntmps93
  go_wp2_with (go_at_call 146; refine (gg _ _).mono ?_; rintro e w' ⟨rfl,rfl⟩)
  go_ret
  exact ⟨by rw [U HX]; rfl,rfl⟩
 case false =>
  have HX:Hid (fbit x = x):=if_neg (by rw [h]; decide)
  go_enter Tryz.func93,Tryz.ntmps93
  go_wp2_with (go_at_call 146; refine (gg _ _).mono ?_; rintro e w' ⟨rfl,rfl⟩)
  go_ret
  exact ⟨by rw [U HX]; rfl,rfl⟩
end Go.Proofs.YthhkapcbocgcoaaGreatDoor
namespace Go.Proofs.YthhkapcbocgcoaaGreatDoor
open Go Ieee

theorem fb:double.fractionBits = 52:=rfl
theorem lp:double.leastPlace = -1074:=by decide
theorem bin:double.binade = 4503599627370496:=by decide
theorem inf:double.infRung = 9218868437227405312:=by decide
theorem sw:double.signWeight = 9223372036854775808:=by decide
theorem read_mag {x:Nat} {s:Bool} {m:Nat} {i:Int} (h:double.read x = .number s m i):m < 9007199254740992:=by
 unfold Format.read at h
 simp only [bin,inf,sw] at h
 split at h
 ·simp only [Datum.number.injEq] at h; omega
 ·split at h
  ·simp only [Datum.number.injEq] at h; omega
  ·split at h <;> cases h
theorem read_zero:double.read 0 = .number false 0 (-1074):=by decide
theorem read_top:double.read 4687829947429945344 = .number false 8589934592000000 (-35):=by decide
theorem read_four:double.read 4616189618054758400 = .number false 4503599627370496 (-50):=by decide
theorem signed_neg (m a:Nat):signed true m a ≤ 0:=by
 show -((m <<< a:Nat):Int) ≤ 0
 exact Int.neg_nonpos_of_nonneg (Int.natCast_nonneg _)
theorem above_zero {x:Nat} (h:double.order x 0 = some .gt):double.read x = .infinity false ∨ ∃ m i,double.read x = .number false m i∧m ≠ 0:=by
 unfold Format.order at h
 rw [read_zero] at h
 cases hx:double.read x with
 | nan s f=>rw [hx] at h; simp [Datum.order] at h
 | infinity s=>cases s with
  | false=>exact .inl rfl
  | true=>rw [hx] at h; simp [Datum.order] at h
 | number s m i =>
  rw [hx] at h
  simp only [Datum.order,Option.some.injEq] at h
  have hz:∀ b,signed false 0 b = 0:=fun b=>by simp [signed]
  rw [hz] at h
  have kC:=Std.compare_eq_gt.1 h
  cases s with
  | false =>
   refine .inr ⟨m,i,rfl,fun e=>?_⟩
   subst e
   rw [hz] at kC
   exact absurd kC (by decide)
  | true =>
   exact absurd kC (Int.not_lt.2 (signed_neg m _))
theorem log_le {m k:Nat} (hm:m ≠ 0) (h:m < 2 ^ k):m.log2 < k:=(Nat.log2_lt hm).2 h
theorem within {m:Nat} {i:Int} {x:Nat} (hx:double.read x = .number false m i) (hm:m ≠ 0) (h:double.order x 4687829947429945344 = some .lt ∨ double.order x 4687829947429945344 = some .eq):i + m.log2 ≤ 17:=by
 have hmag:=read_mag hx
 unfold Format.order at h
 rw [read_top,hx] at h
 simp only [Datum.order,Option.some.injEq] at h
 have qx:signed false m (i - min i (-35)).toNat ≤ signed false 8589934592000000 (-35 - min i (-35)).toNat:=by
  rcases h with h | h
  ·exact Int.le_of_lt (Std.compare_eq_lt.1 h)
  ·exact Int.le_of_eq (Std.LawfulEqCmp.eq_of_compare h)
 by_cases hi:i < -35
 ·have:=log_le hm (show m < 2 ^ 53 by omega)
  omega
 ·have e1:min i (-35) = -35:=by omega
  rw [e1] at qx
  have e2:((-35:Int) - -35).toNat = 0:=by decide
  rw [e2] at qx
  have hle':(m <<< (i - -35).toNat:Nat) ≤ (8589934592000000 <<< 0:Nat):=by
   have:((m <<< (i - -35).toNat:Nat):Int) ≤ ((8589934592000000 <<< 0:Nat):Int):=qx
   omega
  rw [Nat.shiftLeft_eq,Nat.shiftLeft_zero] at hle'
  have hlog:m.log2 + (i - -35).toNat < 53:=by
   have Q:2 ^ m.log2 ≤ m:=Nat.log2_self_le hm
   have D:2 ^ (m.log2 + (i - -35).toNat) ≤ m * 2 ^ (i - -35).toNat:=by
    rw [Nat.pow_add]; exact Nat.mul_le_mul_right _ Q
   have X:2 ^ (m.log2 + (i - -35).toNat) < 2 ^ 53:=by omega
   exact (Nat.pow_lt_pow_iff_right (by decide)).1 X
  omega
theorem log_up {m:Nat} (hm:m ≠ 0):(m * 4503599627370496).log2 = m.log2 + 52:=by
 have h:=(Nat.log2_eq_iff hm).1 rfl
 refine (Nat.log2_eq_iff (by omega)).2 ?_
 rw [Nat.pow_add,show m.log2 + 52 + 1 = (m.log2 + 1) + 52 by omega,Nat.pow_add 2 (m.log2 + 1) 52,show (2:Nat) ^ 52 = 4503599627370496 from rfl]
 exact ⟨Nat.mul_le_mul_right _ h.1,Nat.mul_lt_mul_of_pos_right h.2 (by decide)⟩
theorem cut_le (n p drop:Nat) (hn:n < 2 ^ (p + 53)) (hp:p ≤ drop) (hl:p ≤ n.log2 + 2):Toward.even.cut false n drop ≤ 9007199254740993:=by
 unfold Toward.cut
 simp only
 have hg:2 ^ p ≤ 1 <<< min drop (n.log2 + 2):=by
  rw [Nat.one_shiftLeft]
  exact Nat.pow_le_pow_right (by decide) (by omega)
 have hq:n / (1 <<< min drop (n.log2 + 2)) ≤ 9007199254740992:=by
  refine yO (Nat.div_le_div_left hg (Nat.two_pow_pos p)) ?_
  have:n / 2 ^ p < 2 ^ 53:=by
   rw [Nat.div_lt_iff_lt_mul (Nat.two_pow_pos p),← Nat.pow_add,Nat.add_comm]
   exact hn
  omega
 have A:∀ b:Bool,b.toNat ≤ 1:=by decide
 have:=A (decide (1 <<< min drop (n.log2 + 2) < 2 * (n % 1 <<< min drop (n.log2 + 2))) || (1 <<< min drop (n.log2 + 2) == 2 * (n % 1 <<< min drop (n.log2 + 2)) && n / 1 <<< min drop (n.log2 + 2) % 2 == 1))
 omega
theorem near_le {m:Nat} {i:Int} (hm:m ≠ 0) (hi:i + m.log2 ≤ 17):double.nearest false (m * 4503599627370496) (i + -50) < 1075 * 4503599627370496:=by
 have hmag:¬ m * 4503599627370496 = 0:=by omega
 have hlog:=log_up hm
 have xM:m * 4503599627370496 < 2 ^ (m.log2 + 53):=by
  have h:=((Nat.log2_eq_iff hm).1 rfl).2
  rw [show m.log2 + 53 = (m.log2 + 1) + 52 by omega,Nat.pow_add 2 (m.log2 + 1) 52,show (2:Nat) ^ 52 = 4503599627370496 from rfl]
  exact Nat.mul_lt_mul_of_pos_right h (by decide)
 unfold Format.nearest
 rw [if_neg hmag]
 simp only [hlog,fb,lp,bin,inf,Format.word,Bool.false_eq_true,if_false]
 have hlast:i + -50 + ((m.log2 + 52:Nat):Int) - (52:Nat) ≤ max (i + -50 + ((m.log2 + 52:Nat):Int) - (52:Nat)) (-1074):=Int.le_max_left _ _
 have hup:max (i + -50 + ((m.log2 + 52:Nat):Int) - (52:Nat)) (-1074) ≤ -33:=Int.max_le.2 ⟨by omega,by omega⟩
 generalize max (i + -50 + ((m.log2 + 52:Nat):Int) - (52:Nat)) (-1074) = last at *
 have e0:(i + -50 - last).toNat = 0:=by omega
 rw [e0,Nat.shiftLeft_zero]
 have hc:=cut_le (m * 4503599627370496) m.log2 (last - (i + -50)).toNat xM (by omega) (by omega)
 generalize Toward.even.cut false (m * 4503599627370496) (last - (i + -50)).toNat = kept at *
 have e1:(last - -1074).toNat ≤ 1041:=by omega
 have e2:(last - -1074).toNat * 4503599627370496 ≤ 1041 * 4503599627370496:=Nat.mul_le_mul_right _ e1
 omega
theorem whole {r:Nat} (h:r < 1075 * 4503599627370496):∃ n:Nat,(double.read r).toInt .zero = some (n:Int)∧n < 9007199254740992:=by
 have hneg:(r / 9223372036854775808 % 2 == 1) = false:=by simp; omega
 have hr:r % 9223372036854775808 = r:=by omega
 have cutz:∀ (n d:Nat),Toward.zero.cut false n d ≤ n:=by
  intro n d
  unfold Toward.cut
  simp only [Bool.toNat_false,Nat.add_zero]
  exact Nat.div_le_self _ _
 unfold Format.read
 simp only [bin,inf,sw,hneg,hr,lp]
 split
 ·refine ⟨Toward.zero.cut false (r <<< (-1074:Int).toNat) (1074:Int).toNat,?_,?_⟩
  ·simp [Datum.toInt,Datum.integral,signed]
  ·have:=cutz (r <<< (-1074:Int).toNat) (1074:Int).toNat
   rw [show (-1074:Int).toNat = 0 from rfl,Nat.shiftLeft_zero] at this ⊢
   omega
 ·rw [if_pos (by omega)]
  have hi:(-1074 + ((r / 4503599627370496 - 1:Nat):Int)).toNat = 0:=by omega
  refine ⟨Toward.zero.cut false ((4503599627370496 + r % 4503599627370496) <<< (-1074 + ((r / 4503599627370496 - 1:Nat):Int)).toNat) (-(-1074 + ((r / 4503599627370496 - 1:Nat):Int))).toNat,?_,?_⟩
  ·simp [Datum.toInt,Datum.integral,signed]
  ·have:=cutz ((4503599627370496 + r % 4503599627370496) <<< (-1074 + ((r / 4503599627370496 - 1:Nat):Int)).toNat) (-(-1074 + ((r / 4503599627370496 - 1:Nat):Int))).toNat
   rw [hi,Nat.shiftLeft_zero] at this ⊢
   omega
theorem price_four {x:Nat} (h0:double.order x 0 = some .gt) (Q:double.order x 4687829947429945344 = some .lt ∨ double.order x 4687829947429945344 = some .eq) :
  ∃ (r n:Nat),double.mul x 4616189618054758400 = some r∧(double.read r).toInt .zero = some (n:Int)∧n < 9007199254740992:=by
 rcases above_zero h0 with hx | ⟨m,i,hx,hm⟩
 ·exfalso
  unfold Format.order at Q
  rw [hx,read_top] at Q
  simp [Datum.order] at Q
 ·have hw:=within hx hm Q
  have jN:double.mul x 4616189618054758400 = some (double.nearest false (m * 4503599627370496) (i + -50)):=by
   unfold Format.mul
   rw [hx,read_four]
   rfl
  obtain ⟨n,D,X⟩:=whole (near_le hm hw)
  exact ⟨_,n,jN,D,X⟩
end Go.Proofs.YthhkapcbocgcoaaGreatDoor
namespace Go.Proofs.YthhkapcbocgcoaaGreatDoor
open Go.RowKit
def tkR (x:Nat):Nat:=(FloatKind.f64.format.mul x 4616189618054758400).getD 0
def tkN (x:Nat):Int:=((FloatKind.f64.decode (tkR x)).toInt .zero).getD 0
def tkOk (x:Nat):Bool:=(FloatKind.f64.format.order x 0 == some Ordering.gt) && ((FloatKind.f64.format.order x 4687829947429945344 == some Ordering.lt) || (FloatKind.f64.format.order x 4687829947429945344 == some Ordering.eq)) &&
 (FloatKind.f64.format.order (floatOfInt .f64 (tkN x)) (tkR x) == some Ordering.eq)
def tk (x:Nat):Int:=if tkOk x = true then tkN x else 0
theorem gj (x:Nat) (w:World) :
  Calls Tryz.prog 157 #[yj x] w fun e w'=>e = ym (.tuple #[H (tk x),.bool (tkOk x)])∧w' = w:=by
 by_cases h0:FloatKind.f64.format.order x 0 = some Ordering.gt
 ·by_cases Q:FloatKind.f64.format.order x 4687829947429945344 = some Ordering.lt ∨ FloatKind.f64.format.order x 4687829947429945344 = some Ordering.eq
  ·obtain ⟨r,n,jN,aS,hn⟩:=price_four h0 Q
   have hn':(n:Int) < 9007199254740992:=by omega
   have eR:tkR x = r:=by unfold tkR; rw [show FloatKind.f64.format.mul x 4616189618054758400 = some r from jN]; rfl
   have eN:tkN x = n:=by unfold tkN; rw [eR,show (FloatKind.f64.decode r).toInt .zero = some (n:Int) from aS]; rfl
   have b0:(FloatKind.f64.format.order x 0 == some Ordering.gt) = true:=by rw [h0]; rfl
   have hm:∀ W,(binOp .mul 31 (yj x) (yj 4616189618054758400)).run Tryz.prog W = .ok (yj r) W:=fun W=>by
    have:FloatKind.f64.format.mul x 4616189618054758400 = some r:=jN
    simp [binOp,Op.floatArith,this]
   have hc:∀ W,(convert 31 3 (yj r)).run Tryz.prog W = .ok (H n) W:=fun W=>by
    have D:(FloatKind.f64.decode r).toInt .zero = some (n:Int):=aS
    have A:IntKind.i64.min ≤ (n:Int)∧(n:Int) ≤ IntKind.i64.max:=by
     rw [show IntKind.i64.min = -9223372036854775808 by decide,show IntKind.i64.max = 9223372036854775807 by decide]; omega
    simp [convert,run_underlying Tryz.underlying31,run_underlying Tryz.underlying3,Conv.floatToInt,D,A.1]
    intro h
    omega
   have vX:((FloatKind.f64.format.order x 4687829947429945344 == some Ordering.lt) || (FloatKind.f64.format.order x 4687829947429945344 == some Ordering.eq)) = true:=by
    rcases Q with Q | Q <;> rw [Q] <;> rfl
   have un:tkOk x = (FloatKind.f64.format.order (floatOfInt .f64 n) r == some Ordering.eq):=by unfold tkOk; rw [eN,eR,b0,vX]; rfl
   clear jN aS h0 vX
   cases he:(FloatKind.f64.format.order (floatOfInt .f64 n) r == some Ordering.eq)
   all_goals
    have he2:(FloatKind.f64.format.order (floatOfInt .f64 n) r != some Ordering.eq) = !(FloatKind.f64.format.order (floatOfInt .f64 n) r == some Ordering.eq):=rfl
    rw [he] at he2
    rw [he] at un
   ·have HT:Hid (tk x = 0∧tkOk x = false):=⟨by unfold tk; rw [un]; rfl,un⟩
    clear un eN eR
    rcases Q with Q | Q
    ·have b1:(FloatKind.f64.format.order x 4687829947429945344 == some Ordering.lt) = true:=by rw [Q]; rfl
     have b2:(FloatKind.f64.format.order x 4687829947429945344 == some Ordering.eq) = false:=by rw [Q]; rfl
     clear Q
     go_enter Tryz.func157,Tryz.ntmps157
     go_wp2
     go_ret2
     exact ⟨by rw [(U HT).1,(U HT).2]; rfl,rfl⟩
    ·have b1:(FloatKind.f64.format.order x 4687829947429945344 == some Ordering.lt) = false:=by rw [Q]; rfl
     have b2:(FloatKind.f64.format.order x 4687829947429945344 == some Ordering.eq) = true:=by rw [Q]; rfl
     clear Q
     go_enter Tryz.func157,Tryz.ntmps157
     go_wp2
     go_ret2
     exact ⟨by rw [(U HT).1,(U HT).2]; rfl,rfl⟩
   ·have HT:Hid (tk x = n∧tkOk x = true):=⟨by unfold tk; rw [un,eN]; rfl,un⟩
    clear un eN eR
    rcases Q with Q | Q
    ·have b1:(FloatKind.f64.format.order x 4687829947429945344 == some Ordering.lt) = true:=by rw [Q]; rfl
     have b2:(FloatKind.f64.format.order x 4687829947429945344 == some Ordering.eq) = false:=by rw [Q]; rfl
     clear Q
     go_enter Tryz.func157,Tryz.ntmps157
     go_wp2
     go_ret2
     exact ⟨by rw [(U HT).1,(U HT).2]; rfl,rfl⟩
    ·have b1:(FloatKind.f64.format.order x 4687829947429945344 == some Ordering.lt) = false:=by rw [Q]; rfl
     have b2:(FloatKind.f64.format.order x 4687829947429945344 == some Ordering.eq) = true:=by rw [Q]; rfl
     clear Q
     go_enter Tryz.func157,Tryz.ntmps157
     go_wp2
     go_ret2
     exact ⟨by rw [(U HT).1,(U HT).2]; rfl,rfl⟩
  ·have b0:(FloatKind.f64.format.order x 0 == some Ordering.gt) = true:=by rw [h0]; rfl
   have b1:(FloatKind.f64.format.order x 4687829947429945344 == some Ordering.lt) = false:=by rw [xe]; exact fun h=>Q (.inl h)
   have b2:(FloatKind.f64.format.order x 4687829947429945344 == some Ordering.eq) = false:=by rw [xe]; exact fun h=>Q (.inr h)
   have un:tkOk x = false:=by unfold tkOk; rw [b0,b1,b2]; rfl
   have HT:Hid (tk x = 0∧tkOk x = false):=⟨by unfold tk; rw [un]; rfl,un⟩
   clear h0 Q un
   go_enter Tryz.func157,Tryz.ntmps157
   go_wp2
   go_ret2
   exact ⟨by rw [(U HT).1,(U HT).2]; rfl,rfl⟩
 ·have b0:(FloatKind.f64.format.order x 0 == some Ordering.gt) = false:=by rw [xe]; exact h0
  have un:tkOk x = false:=by unfold tkOk; rw [b0]; rfl
  have HT:Hid (tk x = 0∧tkOk x = false):=⟨by unfold tk; rw [un]; rfl,un⟩
  clear h0 un
  go_enter Tryz.func157,Tryz.ntmps157
  go_wp2
  go_ret2
  exact ⟨by rw [(U HT).1,(U HT).2]; rfl,rfl⟩
def PrW (p:Nat):Prop:=tkOk p = true→1 ≤ tk p∧tk p ≤ 1000000
end Go.Proofs.YthhkapcbocgcoaaGreatDoor
namespace Go.Proofs.YthhkapcbocgcoaaGreatDoor
open Go Ieee

theorem d_bin:double.binade = 4503599627370496:=by decide
theorem d_inf:double.infRung = 9218868437227405312:=by decide
theorem d_sw:double.signWeight = 9223372036854775808:=by decide
theorem d_lp:double.leastPlace = -1074:=by decide
theorem nan_iff (x:Nat):nanB x = true ↔ (double.read x).isNaN = true:=by
 constructor
 ·intro h
  by_cases hn:(double.read x).isNaN = true
  ·exact hn
  ·have:=datum_self _ hn
   have e:FloatKind.f64.format.order x x = some Ordering.eq:=this
   simp [nanB,e] at h
 ·intro h
  cases hx:double.read x with
  | nan s f =>
   have e:FloatKind.f64.format.order x x = none:=by
    show (double.read x).order (double.read x) = none
    rw [hx]; rfl
   simp [nanB,e]
  | infinity s=>rw [hx] at h; simp [Datum.isNaN] at h
  | number s m i=>rw [hx] at h; simp [Datum.isNaN] at h
theorem nan_rung (x:Nat):nanB x = true ↔ 9218868437227405312 < x % 9223372036854775808:=by
 rw [nan_iff]
 unfold Format.read
 simp only [d_bin,d_inf,d_sw,d_lp]
 split
 ·simp [Datum.isNaN]; omega
 ·split
  ·simp [Datum.isNaN]; omega
  ·split
   ·simp [Datum.isNaN]; omega
   ·simp [Datum.isNaN]; omega
theorem nan_drawn (t:Nat):nanB ((t % 2) * 2 ^ 63 + 0x7ff0000000000000 + 1 + (t / 2) % (2 ^ 52 - 1)) = true:=by
 rw [nan_rung]
 have Q:t % 2 < 2:=Nat.mod_lt _ (by decide)
 have D:(t / 2) % (2 ^ 52 - 1) < 2 ^ 52 - 1:=Nat.mod_lt _ (by decide)
 rw [show (2:Nat) ^ 63 = 9223372036854775808 from rfl]
 rw [show (2:Nat) ^ 52 - 1 = 4503599627370495 from rfl] at *
 generalize (t / 2) % 4503599627370495 = b at *
 generalize t % 2 = a at *
 rcases (show a = 0 ∨ a = 1 by omega) with rfl | rfl <;> omega
end Go.Proofs.YthhkapcbocgcoaaGreatDoor
namespace Go.Proofs.YthhkapcbocgcoaaGreatDoor
open Go.RowKit Ieee
set_option linter.unusedVariables false

def prB (p:Nat):Bool:=!tkOk p || (decide (1 ≤ tk p) && decide (tk p ≤ 1000000))
theorem prW_of {p:Nat} (h:prB p = true):PrW p:=fun E=>by
 rw [prB,E] at h
 simpa using h
theorem prW_nan {x:Nat} (h:nanB x = true):PrW x:=fun E=>by
 exfalso
 have Q:=(nan_iff x).1 h
 have e:FloatKind.f64.format.order x 0 = none:=by
  show (double.read x).order (double.read 0) = none
  cases hx:double.read x with
  | nan s f=>rfl
  | infinity s=>rw [hx] at Q; simp [Datum.isNaN] at Q
  | number s m i=>rw [hx] at Q; simp [Datum.isNaN] at Q
 rw [tkOk,e] at E
 simp at E
end Go.Proofs.YthhkapcbocgcoaaGreatDoor
namespace Go.Proofs.YthhkapcbocgcoaaGreatDoor
open Go.RowKit Ieee
set_option linter.unusedVariables false

theorem dO {B:Nat} {w0 w:World} {v:Value} {l:List Int} {s:Sr} (h:SrXE B w0 v l s w) (o:Obj):SrXE B w0 v l s (w.alloc o):=by
 have hB:=dW h.1.src
 exact ⟨⟨(src_alloc (src_refl h.1.src) o).1,h.1.a0,h.1.s0,h.1.s1,(yW _ _ ⟨B,1,none⟩ hB).trans h.1.c1,(yW _ _ ⟨B,2,none⟩ hB).trans h.1.c2⟩,zA h.2 (dF w o _)⟩
theorem ew {B:Nat} {w:World} {v:Value} {l:List Int} {s:Sr} (h:SrX B w v l s):SrXE B w v l s w:=⟨h,yS _ _⟩
def szF (l:List Int) (most:Int):Int:=if 1 + (l.length:Int) / 12 ≤ most then 1 + (l.length:Int) / 12 else most
theorem size_ex (B:Nat) (v:Value) (l:List Int) (most:Int) (s:Sr) (w:World) (h:SrX B w v l s) :
  Calls Tryz.prog 29 #[.pointer (some ⟨B,0,none⟩),.int .i64 most] w fun e w'=>e = .returned (.int .i64 (szF l most))∧w' = w:=by
 have c:=h.src.code
 obtain ⟨a,cap,rfl,hl,_⟩:=h.src.rd
 clear h
 by_cases hm:1 + (l.length:Int) / 12 ≤ most
 ·rw [szF,if_pos hm]
  go_enter Tryz.func29,Tryz.ntmps29
  go_wp2_with fail
  all_goals go_ret
  all_goals first | exact ⟨rfl,rfl⟩ | exact ⟨zw (by omega),rfl⟩
 ·rw [szF,if_neg hm]
  go_enter Tryz.func29,Tryz.ntmps29
  go_wp2_with fail
  all_goals go_ret
  all_goals first | exact ⟨rfl,rfl⟩ | exact ⟨zw (by omega),rfl⟩
set_option maxHeartbeats 400000 in
theorem pick_ex (B g n:Nat) (v:Value) (l:List Int) (s:Sr) (ts:List ByteArray) (w:World) (h:SrX B w v l s) (hm:s.at_ ≤ 1000000000) (hg:g ≠ B) (hn:ts.length = n) (Q:1 ≤ n) (D:n ≤ 256) (hr:∀ k t,ts[k]? = some t→w.cell? ⟨g,k,none⟩ = some (.string t)) :
  Calls Tryz.prog 64 #[.pointer (some ⟨B,0,none⟩),.slice (some ⟨g,0,none⟩) n n] w fun e w'=>e = .returned (.string (ts.getD (nxF l n s).1.toNat ⟨#[]⟩))∧SrXE B w v l (nxF l n s).2 w':=by
 have HN:=hide (cJ B v l n s w h hm (by omega) (by omega))
 have HR:=hide hr
 have A:((n:Int) == 0) = false:=by simp; omega
 obtain ⟨y0,y1⟩:=cZ (l:=l) (n:=n) (s:=s) (by omega)
 clear h hr
 generalize nxF l n s = R at HN y0 y1 ⊢
 obtain ⟨y,s'⟩:=R
 simp only at HN y0 y1 ⊢
 obtain ⟨k,rfl⟩:=Int.eq_ofNat_of_zero_le y0
 go_enter Tryz.func64,Tryz.ntmps64
 go_wp2_with fail
 refine (U HN).mono ?_
 rintro e w1 ⟨rfl,hE⟩
 have HE:=hide hE
 have E:k < n:=by omega
 obtain ⟨t,ht⟩:∃ t,ts[k]? = some t:=⟨_,yI (by omega)⟩
 have hc:=hE.2.cell (U HR k t ht) (fun e=>hg (Option.some.inj e))
 have HT:Hid (ts.getD (k:Int).toNat ⟨#[]⟩ = t):=by show _ = _; rw [Int.toNat_natCast,List.getD_eq_getElem?_getD,ht]; rfl
 clear hE ht
 go_wp2_with fail
 go_ret
 rw [U HT]
 exact ⟨rfl,U HE⟩
def oddL:List Int:=[0,-1,1,2,63,64,65,4096,4097,9223372036854775807,-9223372036854775808,30]
set_option maxRecDepth 100000 in
set_option maxHeartbeats 800000 in
theorem odd_ex (B:Nat) (v:Value) (l:List Int) (s:Sr) (w:World) (h:SrX B w v l s) (hm:s.at_ ≤ 1000000000) :
  Calls Tryz.prog 158 #[.pointer (some ⟨B,0,none⟩)] w fun e w'=>e = .returned (.int .i64 (oddL.getD (nxF l 12 s).1.toNat 0))∧SrXE B w v l (nxF l 12 s).2 w':=by
 have hB:=dW h.src
 have HN:=hide (fun W hW=>cJ B v l 12 s W hW hm (by omega) (by omega))
 have HX:=hide (zy w (oddL.map (.int .i64)) 3)
 have HA:=hide (fun o=>dO (ew h) o)
 obtain ⟨y0,y1⟩:=cZ (l:=l) (n:=12) (s:=s) (by omega)
 clear h
 generalize nxF l 12 s = R at HN y0 y1 ⊢
 obtain ⟨y,s'⟩:=R
 simp only at HN y0 y1 ⊢
 obtain ⟨k,rfl⟩:=Int.eq_ofNat_of_zero_le y0
 go_enter Tryz.func158,Tryz.ntmps158
 go_wp2_with fail
 refine (U HN _ (U HA _).1).mono ?_
 rintro e w1 ⟨rfl,hE⟩
 obtain ⟨t,ht⟩:∃ t,oddL[k]? = some t:=⟨_,yI (by show k < 12; omega)⟩
 have hc:=hE.2.cell (zb (U HX) k (u:=.int .i64 t) (by rw [List.getElem?_map,ht]; rfl)) (fun e=>by have:=Option.some.inj e; simp at this; omega)
 have HE:=hide (show SrXE B w v l s' w1 from ⟨hE.1,zA (dF w _ _) hE.2⟩)
 have HT:Hid (oddL.getD (k:Int).toNat 0 = t):=by show _ = _; rw [Int.toNat_natCast,List.getD_eq_getElem?_getD,ht]; rfl
 clear hE ht HN HX HA
 go_wp2_with fail
 go_ret
 rw [U HT]
 exact ⟨rfl,U HE⟩
def nuF (l:List Int) (s:Sr):Int × Sr :=
 if ((nxF l 4 s).1 == 3) = true then (oddL.getD (nxF l 12 (nxF l 4 s).2).1.toNat 0,(nxF l 12 (nxF l 4 s).2).2)
 else ((nxF l 400 (nxF l 4 s).2).1 - 100,(nxF l 400 (nxF l 4 s).2).2)
set_option maxRecDepth 100000 in
set_option maxHeartbeats 800000 in
theorem number_ex (B:Nat) (v:Value) (l:List Int) (s:Sr) (w:World) (h:SrX B w v l s) (hm:s.at_ ≤ 900000000) :
  Calls Tryz.prog 110 #[.pointer (some ⟨B,0,none⟩)] w fun e w'=>e = .returned (.int .i64 (nuF l s).1)∧SrXE B w v l (nuF l s).2 w':=by
 have hat:=bU l 4 s
 have HC:=hide (chance_ex B v l 4 s w h (by omega) (by omega) (by omega))
 have HO:=hide (fun W hW=>odd_ex B v l (nxF l 4 s).2 W hW (by omega))
 have HN:=hide (fun W hW=>cJ B v l 400 (nxF l 4 s).2 W hW (by omega) (by omega) (by omega))
 have hbd:=cZ (l:=l) (n:=400) (s:=(nxF l 4 s).2) (by omega)
 clear h hat
 have e3:(4:Int) - 1 = 3:=rfl
 rw [nuF]
 generalize nxF l 400 (nxF l 4 s).2 = R2 at HN hbd ⊢
 generalize nxF l 12 (nxF l 4 s).2 = R3 at HO ⊢
 generalize nxF l 4 s = R1 at HC HO HN ⊢
 rw [e3] at HC
 by_cases A:(R1.1 == 3) = true
 ·rw [if_pos A]
  go_enter Tryz.func110,Tryz.ntmps110
  go_wp2_with fail
  refine (U HC).mono ?_
  rintro e w1 ⟨rfl,hE⟩
  have HE:=hide hE
  rw [A]
  clear hE HC e3 A
  go_wp2_with fail
  refine (U HO w1 (U HE).1).mono ?_
  rintro e w2 ⟨rfl,hE2⟩
  have oX:=hide hE2
  clear hE2
  go_wp2_with fail
  go_ret
  exact ⟨rfl,(U oX).1,zA (U HE).2 (U oX).2⟩
 ·rw [if_neg A]
  have hb':(R1.1 == 3) = false:=by simpa using A
  have hw:IntKind.i64.wrap (R2.1 - 100) = R2.1 - 100:=by rw [IntKind.wrap_i64]; omega
  go_enter Tryz.func110,Tryz.ntmps110
  go_wp2_with fail
  refine (U HC).mono ?_
  rintro e w1 ⟨rfl,hE⟩
  have HE:=hide hE
  rw [hb']
  clear hE HC e3 A hb'
  go_wp2_with fail
  refine (U HN w1 (U HE).1).mono ?_
  rintro e w2 ⟨rfl,hE2⟩
  have oX:=hide hE2
  clear hE2
  go_wp2_with fail
  go_ret
  exact ⟨rfl,(U oX).1,zA (U HE).2 (U oX).2⟩
end Go.Proofs.YthhkapcbocgcoaaGreatDoor
