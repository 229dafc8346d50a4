/-
  Orders as records of six cells: copied one by one and in rows, held against each other, their size: proved by walking the laws' own helpers. (what walks the functions of the model or of the laws)
-/
import Derived.Test.YtdfihaabhichdaaGreatRj03
import Derived.Deep.RegionWith
import Derived.WalkLawsBesides
import Derived.Laws.Externs
import Derived.WalkSpells
import GoSem.Core.Float
import Derived.Handy
namespace Go.Proofs.YtdfihaabhichdaaGreat
open Go.RowKit
set_option linter.unusedVariables false

set_option maxHeartbeats 400000 in
theorem eqOrder_same (o:Od) (w:World) :
    Calls Tryz.prog 87 #[.agg #[.int .i64 o.id,.int .i64 o.side,.int .i64 o.ticks,.int .i64 o.left,.int .i64 o.life,.string o.tag],.agg #[.int .i64 o.id,.int .i64 o.side,.int .i64 o.ticks,.int .i64 o.left,.int .i64 o.life,.string o.tag]] w fun e w'=>e = .returned (.bool true)∧Below w.heap.size w w':=by
  obtain ⟨id,side,ticks,left,life,tag⟩:=o
  simp only
  go_enter Tryz.func87,Tryz.ntmps87
  go_wp2_with fail
  go_returns
  refine ⟨rfl,?_⟩
  go_grown
set_option maxRecDepth 100000 in
set_option maxHeartbeats 400000 in
theorem eqOrderS_same (va vb:Value) (l:List Od) (w:World) (ha:RdR Od.vs 6 w va l) (hb:RdR Od.vs 6 w vb l) :
    Calls Tryz.prog 40 #[va,vb] w fun e w'=>e = .returned (.bool true)∧Below w.heap.size w w':=by
  obtain ⟨aa,ca,rfl,hl,hca⟩:=ha
  obtain ⟨ab,cb,rfl,_,hcb⟩:=hb
  have hcell:∀ (k:Nat) (c:Od),l[k]? = some c→∃ b off b' off',aa = some ⟨b,off,none⟩∧ab = some ⟨b',off',none⟩∧b < w.heap.size∧b' < w.heap.size∧w.rangeAt b (off + k * 6) c.vs∧w.rangeAt b' (off' + k * 6) c.vs:=by
    intro k c hk
    have hne:l ≠ []:=by intro h; rw [h] at hk; simp at hk
    obtain ⟨b,off,h1,h2,h3⟩:=hca hne
    obtain ⟨b',off',h1',h2',h3'⟩:=hcb hne
    exact ⟨b,off,b',off',h1,h1',h2,h2',h3 k c hk,h3' k c hk⟩
  have HC:=hide hcell
  clear hcell hca hcb
  go_enter Tryz.func40,Tryz.ntmps40
  go_wp2_with fail
  go_loopw [5] (fun i wr=>∃ k:Nat,k ≤ l.length∧i = .int .i64 k∧Below w.heap.size w wr) (fun i _=>l.length - (intOf i).toNat)
  case atStart=>exact ⟨0,Nat.zero_le _,rfl,Below.refl _ _⟩
  case round =>
    obtain ⟨k,hk,rfl,hbel⟩:=hrel
    have HB:=hide hbel
    clear hbel
    by_cases hlt:k < l.length
    · obtain ⟨c,hkc⟩:∃ c,l[k]? = some c:=⟨_,List.getElem?_eq_getElem hlt⟩
      obtain ⟨b,off,b',off',rfl,rfl,hb,hb',hcl,hcl'⟩:=za HC k c hkc
      obtain ⟨g0,g1,g2,g3,g4,g5⟩:=zC (zb hcl (za HB) hb)
      obtain ⟨e0,e1,e2,e3,e4,e5⟩:=zC (zb hcl' (za HB) hb')
      have hlt':(k:Int) < l.length:=by omega
      clear hkc hcl hcl' hb hb'
      go_wp2_with fail
      go_region_with (go_at_call 87; refine (eqOrder_same c _).mono ?_; rintro e w2 ⟨rfl,hb2⟩; have HB2:=hide ((za HB).drew.trans (hb2.mono (za HB).drew.size)); clear hb2)
      go_wp2_with fail
      go_roundw
      case rel=>exact ⟨k + 1,by omega,by go_num,za HB2⟩
      case measure=>simp [intOf]; omega
      all_goals exact ⟨⟨k + 1,by omega,by go_num,za HB2⟩,by simp [intOf]; omega⟩
    · go_wp2_with fail
      go_ret
      exact ⟨rfl,za HB⟩
set_option maxHeartbeats 400000 in
theorem eqBook_same (n:Int) (va vb:Value) (l:List Od) (w:World) (ha:RdR Od.vs 6 w va l) (hb:RdR Od.vs 6 w vb l) :
    Calls Tryz.prog 12 #[.agg #[.int .i64 n,va],.agg #[.int .i64 n,vb]] w fun e w'=>e = .returned (.bool true)∧Below w.heap.size w w':=by
  have HA:=hide ha
  have HB:=hide hb
  obtain ⟨aa,ca,rfl,_,_⟩:=ha
  obtain ⟨ab,cb,rfl,_,_⟩:=hb
  have H0:Hid (Below w.heap.size w ((w.alloc (Obj.cells #[.int .i64 n,.slice aa l.length ca] 32)).alloc (Obj.cells #[.int .i64 n,.slice ab l.length cb] 32))):=((Below.refl _ _).alloc (Nat.le_refl _) _).alloc (by rw [zf]; omega) _
  go_enter Tryz.func12,Tryz.ntmps12
  go_wp2_with fail
  refine (eqOrderS_same _ _ l _ (zi (za HA) (za H0) (Nat.le_refl _)) (zi (za HB) (za H0) (Nat.le_refl _))).mono ?_
  rintro e w1 ⟨rfl,hb1⟩
  have HB1:=hide ((za H0).trans (hb1.mono (za H0).size))
  clear hb1
  go_wp2_with fail
  go_ret
  exact ⟨rfl,za HB1⟩
end Go.Proofs.YtdfihaabhichdaaGreat
namespace Go.Proofs.YtdfihaabhichdaaGreat
open Go.RowKit

def nanB (x:Nat):Bool:=FloatKind.f64.format.order x x != some Ordering.eq
theorem read_rung (neg:Bool) (r:Nat) (h:r ≤ Ieee.double.infRung):¬ (Ieee.double.read (Ieee.double.word neg r)).isNaN = true:=by
  have h1:Ieee.double.infRung = 9218868437227405312:=by decide
  have h2:Ieee.double.signWeight = 9223372036854775808:=by decide
  have hr:Ieee.double.word neg r % Ieee.double.signWeight = r:=by
    unfold Ieee.Format.word
    cases neg <;> simp only [h2,if_true,if_false,Bool.false_eq_true] <;> omega
  unfold Ieee.Format.read
  simp only [hr]
  split
  · simp [Ieee.Datum.isNaN]
  · split
    · simp [Ieee.Datum.isNaN]
    · rw [if_pos (by omega)]; simp [Ieee.Datum.isNaN]
theorem datum_self (d:Ieee.Datum) (h:¬ d.isNaN = true):d.order d = some Ordering.eq:=by
  cases d with
  | nan s f=>simp [Ieee.Datum.isNaN] at h
  | infinity s=>cases s <;> rfl
  | number s m i=>simp [Ieee.Datum.order,Std.ReflCmp.compare_self]
theorem ofInt_order (n:Int):FloatKind.f64.format.order (floatOfInt .f64 n) (floatOfInt .f64 n) = some Ordering.eq:=by
  refine datum_self _ ?_
  show ¬ (Ieee.double.read (Ieee.double.nearest (n < 0) n.natAbs 0)).isNaN = true
  unfold Ieee.Format.nearest
  split
  · exact read_rung _ _ (Nat.zero_le _)
  · exact read_rung _ _ (Nat.min_le_right _ _)
end Go.Proofs.YtdfihaabhichdaaGreat
namespace Go.Proofs.YtdfihaabhichdaaGreat
open Go.RowKit

theorem fbits (x:Nat) (w:World):(callFunc 150 #[.float .f64 x]).run Tryz.prog w = .ok (.value (.int .u64 x)) w:=by
  rw [run_callFunc_extern (e:=Extern.MathFloatBits.float64bits) Tryz.func150 (by kernel_rfl) (by kernel_rfl) (by kernel_rfl) (by kernel_rfl)]
  rfl
theorem isNaN_any (x:Nat) (w:World) :
    Calls Tryz.prog 158 #[.float .f64 x] w fun e w'=>e = .returned (.bool (nanB x))∧w' = w:=by
  go_enter Tryz.func158,Tryz.ntmps158
  go_wp2
  go_ret
  exact ⟨rfl,rfl⟩
end Go.Proofs.YtdfihaabhichdaaGreat
namespace Go.Proofs.YtdfihaabhichdaaGreat
open Go.RowKit

def fbit (x:Nat):Nat:=if nanB x = true then 9221120237041090560 else x
theorem floatBits_any (x:Nat) (w:World) :
    Calls Tryz.prog 151 #[.float .f64 x] w fun e w'=>e = .returned (.int .u64 (fbit x))∧w' = w:=by
  have hb:=fbits
  cases h:nanB x
  case true =>
    have HX:Hid (fbit x = 9221120237041090560):=if_pos h
    go_enter Tryz.func151,Tryz.ntmps151
    go_wp2_with (go_at_call 158; refine (isNaN_any _ _).mono ?_; rintro e w' ⟨rfl,rfl⟩)
    go_ret
    exact ⟨by rw [za HX]; rfl,rfl⟩
  case false =>
    have HX:Hid (fbit x = x):=if_neg (by rw [h]; decide)
    go_enter Tryz.func151,Tryz.ntmps151
    go_wp2_with (go_at_call 158; refine (isNaN_any _ _).mono ?_; rintro e w' ⟨rfl,rfl⟩)
    go_ret
    exact ⟨by rw [za HX]; rfl,rfl⟩
end Go.Proofs.YtdfihaabhichdaaGreat
namespace Go.Proofs.YtdfihaabhichdaaGreat
open Go Ieee

theorem fb:double.fractionBits = 52:=rfl
theorem lp:double.leastPlace = -1074:=by decide
theorem bin:double.binade = 4503599627370496:=by decide
theorem inf:double.infRung = 9218868437227405312:=by decide
theorem sw:double.signWeight = 9223372036854775808:=by decide
theorem read_mag {x:Nat} {s:Bool} {m:Nat} {i:Int} (h:double.read x = .number s m i):m < 9007199254740992:=by
  unfold Format.read at h
  simp only [bin,inf,sw] at h
  split at h
  · simp only [Datum.number.injEq] at h; omega
  · split at h
    · simp only [Datum.number.injEq] at h; omega
    · split at h <;> cases h
theorem read_zero:double.read 0 = .number false 0 (-1074):=by decide
theorem read_top:double.read 4687829947429945344 = .number false 8589934592000000 (-35):=by decide
theorem read_four:double.read 4616189618054758400 = .number false 4503599627370496 (-50):=by decide
theorem signed_neg (m a:Nat):signed true m a ≤ 0:=by
  show -((m <<< a:Nat):Int) ≤ 0
  exact Int.neg_nonpos_of_nonneg (Int.natCast_nonneg _)
theorem above_zero {x:Nat} (h:double.order x 0 = some .gt):double.read x = .infinity false ∨ ∃ m i,double.read x = .number false m i∧m ≠ 0:=by
  unfold Format.order at h
  rw [read_zero] at h
  cases hx:double.read x with
  | nan s f=>rw [hx] at h; simp [Datum.order] at h
  | infinity s=>cases s with
    | false=>exact .inl rfl
    | true=>rw [hx] at h; simp [Datum.order] at h
  | number s m i =>
    rw [hx] at h
    simp only [Datum.order,Option.some.injEq] at h
    have hz:∀ b,signed false 0 b = 0:=fun b=>by simp [signed]
    rw [hz] at h
    have hgt:=Std.compare_eq_gt.1 h
    cases s with
    | false =>
      refine .inr ⟨m,i,rfl,fun e=>?_⟩
      subst e
      rw [hz] at hgt
      exact absurd hgt (by decide)
    | true =>
      exact absurd hgt (Int.not_lt.2 (signed_neg m _))
theorem log_le {m k:Nat} (hm:m ≠ 0) (h:m < 2 ^ k):m.log2 < k:=(Nat.log2_lt hm).2 h
theorem within {m:Nat} {i:Int} {x:Nat} (hx:double.read x = .number false m i) (hm:m ≠ 0) (h:double.order x 4687829947429945344 = some .lt ∨ double.order x 4687829947429945344 = some .eq):i + m.log2 ≤ 17:=by
  have hmag:=read_mag hx
  unfold Format.order at h
  rw [read_top,hx] at h
  simp only [Datum.order,Option.some.injEq] at h
  have hle:signed false m (i - min i (-35)).toNat ≤ signed false 8589934592000000 (-35 - min i (-35)).toNat:=by
    rcases h with h | h
    · exact Int.le_of_lt (Std.compare_eq_lt.1 h)
    · exact Int.le_of_eq (Std.LawfulEqCmp.eq_of_compare h)
  by_cases hi:i < -35
  · have:=log_le hm (show m < 2 ^ 53 by omega)
    omega
  · have e1:min i (-35) = -35:=by omega
    rw [e1] at hle
    have e2:((-35:Int) - -35).toNat = 0:=by decide
    rw [e2] at hle
    have hle':(m <<< (i - -35).toNat:Nat) ≤ (8589934592000000 <<< 0:Nat):=by
      have:((m <<< (i - -35).toNat:Nat):Int) ≤ ((8589934592000000 <<< 0:Nat):Int):=hle
      omega
    rw [Nat.shiftLeft_eq,Nat.shiftLeft_zero] at hle'
    have hlog:m.log2 + (i - -35).toNat < 53:=by
      have h1:2 ^ m.log2 ≤ m:=Nat.log2_self_le hm
      have h2:2 ^ (m.log2 + (i - -35).toNat) ≤ m * 2 ^ (i - -35).toNat:=by
        rw [Nat.pow_add]; exact Nat.mul_le_mul_right _ h1
      have h3:2 ^ (m.log2 + (i - -35).toNat) < 2 ^ 53:=by omega
      exact (Nat.pow_lt_pow_iff_right (by decide)).1 h3
    omega
theorem log_up {m:Nat} (hm:m ≠ 0):(m * 4503599627370496).log2 = m.log2 + 52:=by
  have h:=(Nat.log2_eq_iff hm).1 rfl
  refine (Nat.log2_eq_iff (by omega)).2 ?_
  rw [Nat.pow_add,show m.log2 + 52 + 1 = (m.log2 + 1) + 52 by omega,Nat.pow_add 2 (m.log2 + 1) 52,show (2:Nat) ^ 52 = 4503599627370496 from rfl]
  exact ⟨Nat.mul_le_mul_right _ h.1,Nat.mul_lt_mul_of_pos_right h.2 (by decide)⟩
theorem cut_le (n p drop:Nat) (hn:n < 2 ^ (p + 53)) (hp:p ≤ drop) (hl:p ≤ n.log2 + 2):Toward.even.cut false n drop ≤ 9007199254740993:=by
  unfold Toward.cut
  simp only
  have hg:2 ^ p ≤ 1 <<< min drop (n.log2 + 2):=by
    rw [Nat.one_shiftLeft]
    exact Nat.pow_le_pow_right (by decide) (by omega)
  have hq:n / (1 <<< min drop (n.log2 + 2)) ≤ 9007199254740992:=by
    refine Nat.le_trans (Nat.div_le_div_left hg (Nat.two_pow_pos p)) ?_
    have:n / 2 ^ p < 2 ^ 53:=by
      rw [Nat.div_lt_iff_lt_mul (Nat.two_pow_pos p),← Nat.pow_add,Nat.add_comm]
      exact hn
    omega
  have hb:∀ b:Bool,b.toNat ≤ 1:=by decide
  have:=hb (decide (1 <<< min drop (n.log2 + 2) < 2 * (n % 1 <<< min drop (n.log2 + 2))) || (1 <<< min drop (n.log2 + 2) == 2 * (n % 1 <<< min drop (n.log2 + 2)) && n / 1 <<< min drop (n.log2 + 2) % 2 == 1))
  omega
theorem near_le {m:Nat} {i:Int} (hm:m ≠ 0) (hi:i + m.log2 ≤ 17):double.nearest false (m * 4503599627370496) (i + -50) < 1075 * 4503599627370496:=by
  have hmag:¬ m * 4503599627370496 = 0:=by omega
  have hlog:=log_up hm
  have hlt:m * 4503599627370496 < 2 ^ (m.log2 + 53):=by
    have h:=((Nat.log2_eq_iff hm).1 rfl).2
    rw [show m.log2 + 53 = (m.log2 + 1) + 52 by omega,Nat.pow_add 2 (m.log2 + 1) 52,show (2:Nat) ^ 52 = 4503599627370496 from rfl]
    exact Nat.mul_lt_mul_of_pos_right h (by decide)
  unfold Format.nearest
  rw [if_neg hmag]
  simp only [hlog,fb,lp,bin,inf,Format.word,Bool.false_eq_true,if_false]
  have hlast:i + -50 + ((m.log2 + 52:Nat):Int) - (52:Nat) ≤ max (i + -50 + ((m.log2 + 52:Nat):Int) - (52:Nat)) (-1074):=Int.le_max_left _ _
  have hup:max (i + -50 + ((m.log2 + 52:Nat):Int) - (52:Nat)) (-1074) ≤ -33:=Int.max_le.2 ⟨by omega,by omega⟩
  generalize max (i + -50 + ((m.log2 + 52:Nat):Int) - (52:Nat)) (-1074) = last at *
  have e0:(i + -50 - last).toNat = 0:=by omega
  rw [e0,Nat.shiftLeft_zero]
  have hc:=cut_le (m * 4503599627370496) m.log2 (last - (i + -50)).toNat hlt (by omega) (by omega)
  generalize Toward.even.cut false (m * 4503599627370496) (last - (i + -50)).toNat = kept at *
  have e1:(last - -1074).toNat ≤ 1041:=by omega
  have e2:(last - -1074).toNat * 4503599627370496 ≤ 1041 * 4503599627370496:=Nat.mul_le_mul_right _ e1
  omega
theorem whole {r:Nat} (h:r < 1075 * 4503599627370496):∃ n:Nat,(double.read r).toInt .zero = some (n:Int)∧n < 9007199254740992:=by
  have hneg:(r / 9223372036854775808 % 2 == 1) = false:=by simp; omega
  have hr:r % 9223372036854775808 = r:=by omega
  have cutz:∀ (n d:Nat),Toward.zero.cut false n d ≤ n:=by
    intro n d
    unfold Toward.cut
    simp only [Bool.toNat_false,Nat.add_zero]
    exact Nat.div_le_self _ _
  unfold Format.read
  simp only [bin,inf,sw,hneg,hr,lp]
  split
  · refine ⟨Toward.zero.cut false (r <<< (-1074:Int).toNat) (1074:Int).toNat,?_,?_⟩
    · simp [Datum.toInt,Datum.integral,signed]
    · have:=cutz (r <<< (-1074:Int).toNat) (1074:Int).toNat
      rw [show (-1074:Int).toNat = 0 from rfl,Nat.shiftLeft_zero] at this ⊢
      omega
  · rw [if_pos (by omega)]
    have hi:(-1074 + ((r / 4503599627370496 - 1:Nat):Int)).toNat = 0:=by omega
    refine ⟨Toward.zero.cut false ((4503599627370496 + r % 4503599627370496) <<< (-1074 + ((r / 4503599627370496 - 1:Nat):Int)).toNat) (-(-1074 + ((r / 4503599627370496 - 1:Nat):Int))).toNat,?_,?_⟩
    · simp [Datum.toInt,Datum.integral,signed]
    · have:=cutz ((4503599627370496 + r % 4503599627370496) <<< (-1074 + ((r / 4503599627370496 - 1:Nat):Int)).toNat) (-(-1074 + ((r / 4503599627370496 - 1:Nat):Int))).toNat
      rw [hi,Nat.shiftLeft_zero] at this ⊢
      omega
theorem price_four {x:Nat} (h0:double.order x 0 = some .gt) (h1:double.order x 4687829947429945344 = some .lt ∨ double.order x 4687829947429945344 = some .eq) :
    ∃ (r n:Nat),double.mul x 4616189618054758400 = some r∧(double.read r).toInt .zero = some (n:Int)∧n < 9007199254740992:=by
  rcases above_zero h0 with hx | ⟨m,i,hx,hm⟩
  · exfalso
    unfold Format.order at h1
    rw [hx,read_top] at h1
    simp [Datum.order] at h1
  · have hw:=within hx hm h1
    have hmul:double.mul x 4616189618054758400 = some (double.nearest false (m * 4503599627370496) (i + -50)):=by
      unfold Format.mul
      rw [hx,read_four]
      rfl
    obtain ⟨n,h2,h3⟩:=whole (near_le hm hw)
    exact ⟨_,n,hmul,h2,h3⟩
end Go.Proofs.YtdfihaabhichdaaGreat
namespace Go.Proofs.YtdfihaabhichdaaGreat
open Go.RowKit
set_option linter.unusedVariables false

def tkR (x:Nat):Nat:=(FloatKind.f64.format.mul x 4616189618054758400).getD 0
def tkN (x:Nat):Int:=((FloatKind.f64.decode (tkR x)).toInt .zero).getD 0
def tkOk (x:Nat):Bool:=(FloatKind.f64.format.order x 0 == some Ordering.gt) && ((FloatKind.f64.format.order x 4687829947429945344 == some Ordering.lt) || (FloatKind.f64.format.order x 4687829947429945344 == some Ordering.eq)) &&
 (FloatKind.f64.format.order (floatOfInt .f64 (tkN x)) (tkR x) == some Ordering.eq)
def tk (x:Nat):Int:=if tkOk x = true then tkN x else 0
set_option maxRecDepth 100000 in
set_option maxHeartbeats 1000000 in
theorem zbh (x:Nat) (w:World) :
  Calls Tryz.prog 156 #[.float .f64 x] w fun e w'=>e = .returned (.tuple #[.int .i64 (tk x),.bool (tkOk x)])∧w' = w:=by
 by_cases h0:FloatKind.f64.format.order x 0 = some Ordering.gt
 ·by_cases h1:FloatKind.f64.format.order x 4687829947429945344 = some Ordering.lt ∨ FloatKind.f64.format.order x 4687829947429945344 = some Ordering.eq
  ·obtain ⟨r,n,hmul,hint,hn⟩:=price_four h0 h1
   have hn':(n:Int) < 9007199254740992:=by omega
   have eR:tkR x = r:=by unfold tkR; rw [show FloatKind.f64.format.mul x 4616189618054758400 = some r from hmul]; rfl
   have eN:tkN x = n:=by unfold tkN; rw [eR,show (FloatKind.f64.decode r).toInt .zero = some (n:Int) from hint]; rfl
   have b0:(FloatKind.f64.format.order x 0 == some Ordering.gt) = true:=by rw [h0]; rfl
   have hm:∀ W,(binOp .mul 25 (.float .f64 x) (.float .f64 4616189618054758400)).run Tryz.prog W = .ok (.float .f64 r) W:=fun W=>by
    have:FloatKind.f64.format.mul x 4616189618054758400 = some r:=hmul
    simp [binOp,Op.floatArith,this]
   have hc:∀ W,(convert 25 3 (.float .f64 r)).run Tryz.prog W = .ok (.int .i64 n) W:=fun W=>by
    have h2:(FloatKind.f64.decode r).toInt .zero = some (n:Int):=hint
    have hb:IntKind.i64.min ≤ (n:Int)∧(n:Int) ≤ IntKind.i64.max:=by
     rw [show IntKind.i64.min = -9223372036854775808 by decide,show IntKind.i64.max = 9223372036854775807 by decide]; omega
    simp [convert,run_underlying Tryz.underlying25,run_underlying Tryz.underlying3,Conv.floatToInt,h2,hb.1]
    intro h
    omega
   have h12:((FloatKind.f64.format.order x 4687829947429945344 == some Ordering.lt) || (FloatKind.f64.format.order x 4687829947429945344 == some Ordering.eq)) = true:=by
    rcases h1 with h1 | h1 <;> rw [h1] <;> rfl
   have hok:tkOk x = (FloatKind.f64.format.order (floatOfInt .f64 n) r == some Ordering.eq):=by unfold tkOk; rw [eN,eR,b0,h12]; rfl
   clear hmul hint h0 h12
   cases he:(FloatKind.f64.format.order (floatOfInt .f64 n) r == some Ordering.eq)
   all_goals
    have he2:(FloatKind.f64.format.order (floatOfInt .f64 n) r != some Ordering.eq) = !(FloatKind.f64.format.order (floatOfInt .f64 n) r == some Ordering.eq):=rfl
    rw [he] at he2
    rw [he] at hok
   ·have HT:Hid (tk x = 0∧tkOk x = false):=⟨by unfold tk; rw [hok]; rfl,hok⟩
    clear hok eN eR
    rcases h1 with h1 | h1
    ·have b1:(FloatKind.f64.format.order x 4687829947429945344 == some Ordering.lt) = true:=by rw [h1]; rfl
     have b2:(FloatKind.f64.format.order x 4687829947429945344 == some Ordering.eq) = false:=by rw [h1]; rfl
     clear h1
     go_enter Tryz.func156,Tryz.ntmps156
     go_wp2
     go_ret2
     exact ⟨by rw [(za HT).1,(za HT).2]; rfl,rfl⟩
    ·have b1:(FloatKind.f64.format.order x 4687829947429945344 == some Ordering.lt) = false:=by rw [h1]; rfl
     have b2:(FloatKind.f64.format.order x 4687829947429945344 == some Ordering.eq) = true:=by rw [h1]; rfl
     clear h1
     go_enter Tryz.func156,Tryz.ntmps156
     go_wp2
     go_ret2
     exact ⟨by rw [(za HT).1,(za HT).2]; rfl,rfl⟩
   ·have HT:Hid (tk x = n∧tkOk x = true):=⟨by unfold tk; rw [hok,eN]; rfl,hok⟩
    clear hok eN eR
    rcases h1 with h1 | h1
    ·have b1:(FloatKind.f64.format.order x 4687829947429945344 == some Ordering.lt) = true:=by rw [h1]; rfl
     have b2:(FloatKind.f64.format.order x 4687829947429945344 == some Ordering.eq) = false:=by rw [h1]; rfl
     clear h1
     go_enter Tryz.func156,Tryz.ntmps156
     go_wp2
     go_ret2
     exact ⟨by rw [(za HT).1,(za HT).2]; rfl,rfl⟩
    ·have b1:(FloatKind.f64.format.order x 4687829947429945344 == some Ordering.lt) = false:=by rw [h1]; rfl
     have b2:(FloatKind.f64.format.order x 4687829947429945344 == some Ordering.eq) = true:=by rw [h1]; rfl
     clear h1
     go_enter Tryz.func156,Tryz.ntmps156
     go_wp2
     go_ret2
     exact ⟨by rw [(za HT).1,(za HT).2]; rfl,rfl⟩
  ·have b0:(FloatKind.f64.format.order x 0 == some Ordering.gt) = true:=by rw [h0]; rfl
   have b1:(FloatKind.f64.format.order x 4687829947429945344 == some Ordering.lt) = false:=by rw [beq_eq_false_iff_ne]; exact fun h=>h1 (.inl h)
   have b2:(FloatKind.f64.format.order x 4687829947429945344 == some Ordering.eq) = false:=by rw [beq_eq_false_iff_ne]; exact fun h=>h1 (.inr h)
   have hok:tkOk x = false:=by unfold tkOk; rw [b0,b1,b2]; rfl
   have HT:Hid (tk x = 0∧tkOk x = false):=⟨by unfold tk; rw [hok]; rfl,hok⟩
   clear h0 h1 hok
   go_enter Tryz.func156,Tryz.ntmps156
   go_wp2
   go_ret2
   exact ⟨by rw [(za HT).1,(za HT).2]; rfl,rfl⟩
 ·have b0:(FloatKind.f64.format.order x 0 == some Ordering.gt) = false:=by rw [beq_eq_false_iff_ne]; exact h0
  have hok:tkOk x = false:=by unfold tkOk; rw [b0]; rfl
  have HT:Hid (tk x = 0∧tkOk x = false):=⟨by unfold tk; rw [hok]; rfl,hok⟩
  clear h0 hok
  go_enter Tryz.func156,Tryz.ntmps156
  go_wp2
  go_ret2
  exact ⟨by rw [(za HT).1,(za HT).2]; rfl,rfl⟩
end Go.Proofs.YtdfihaabhichdaaGreat
namespace Go.Proofs.YtdfihaabhichdaaGreat
open Go.RowKit
set_option linter.unusedVariables false

structure Cm where
  k:Int
  s:Int
  t:Int
  l:Int
  q:Int
  i:Int
  p:Nat
  g:ByteArray
def Cm.vs (c:Cm):List Value:=[.int .i64 c.k,.int .i64 c.s,.int .i64 c.t,.int .i64 c.l,.int .i64 c.q,.int .i64 c.i,.float .f64 c.p,.string c.g]
theorem Cm.len (c:Cm):c.vs.length = 8:=rfl
theorem zbw {w:World} {b o:Nat} {c:Cm} (h:w.rangeAt b o c.vs) :
    w.cell? ⟨b,o,none⟩ = some (.int .i64 c.k)∧w.cell? ⟨b,o + 1,none⟩ = some (.int .i64 c.s)∧w.cell? ⟨b,o + 2,none⟩ = some (.int .i64 c.t)∧w.cell? ⟨b,o + 3,none⟩ = some (.int .i64 c.l) ∧
    w.cell? ⟨b,o + 4,none⟩ = some (.int .i64 c.q)∧w.cell? ⟨b,o + 5,none⟩ = some (.int .i64 c.i)∧w.cell? ⟨b,o + 6,none⟩ = some (.float .f64 c.p)∧w.cell? ⟨b,o + 7,none⟩ = some (.string c.g) :=
  ⟨h 0 _ rfl,h 1 _ rfl,h 2 _ rfl,h 3 _ rfl,h 4 _ rfl,h 5 _ rfl,h 6 _ rfl,h 7 _ rfl⟩
theorem zB {w:World} {b o n:Nat} (h:w.there b o n) (j:Nat) (hj:j < n):∃ v,w.cell? ⟨b,o + j,none⟩ = some v∧w.frozen? ⟨b,o + j,none⟩ = false:=by
  obtain ⟨v,hv⟩:=Option.isSome_iff_exists.1 (h j hj).1
  exact ⟨v,hv,(h j hj).2⟩
theorem there8 {w:World} {b o:Nat} (h:w.there b o 8) :
    (∃ v,w.cell? ⟨b,o,none⟩ = some v∧w.frozen? ⟨b,o,none⟩ = false)∧(∃ v,w.cell? ⟨b,o + 1,none⟩ = some v∧w.frozen? ⟨b,o + 1,none⟩ = false) ∧
    (∃ v,w.cell? ⟨b,o + 2,none⟩ = some v∧w.frozen? ⟨b,o + 2,none⟩ = false)∧(∃ v,w.cell? ⟨b,o + 3,none⟩ = some v∧w.frozen? ⟨b,o + 3,none⟩ = false) ∧
    (∃ v,w.cell? ⟨b,o + 4,none⟩ = some v∧w.frozen? ⟨b,o + 4,none⟩ = false)∧(∃ v,w.cell? ⟨b,o + 5,none⟩ = some v∧w.frozen? ⟨b,o + 5,none⟩ = false) ∧
    (∃ v,w.cell? ⟨b,o + 6,none⟩ = some v∧w.frozen? ⟨b,o + 6,none⟩ = false)∧(∃ v,w.cell? ⟨b,o + 7,none⟩ = some v∧w.frozen? ⟨b,o + 7,none⟩ = false) :=
  ⟨zB h 0 (by omega),zB h 1 (by omega),zB h 2 (by omega),zB h 3 (by omega),zB h 4 (by omega),zB h 5 (by omega),zB h 6 (by omega),zB h 7 (by omega)⟩
theorem sfl (a:Addr) (x:Nat) (m:Mode) (w:World):(store a (.float .f64 x) m).run Tryz.prog w = stored Tryz.prog w a (.float .f64 x) m:=run_store _ w a _ m rfl
end Go.Proofs.YtdfihaabhichdaaGreat
namespace Go.Proofs.YtdfihaabhichdaaGreat
open Go.RowKit
set_option linter.unusedVariables false

def betB (n a b:Int):Bool:=decide (a ≤ n) && decide (n ≤ b)
theorem zaN (n a b:Int) (w:World) :
    Calls Tryz.prog 72 #[.int .i64 n,.int .i64 a,.int .i64 b] w fun e w'=>e = .returned (.bool (betB n a b))∧w' = w:=by
  go_enter Tryz.func72,Tryz.ntmps72
  go_wp2
  all_goals go_ret
  all_goals exact ⟨zF (by rw [Bool.eq_iff_iff]; simp [betB]; omega),rfl⟩
theorem isSide_any (n:Int) (w:World) :
    Calls Tryz.prog 104 #[.int .i64 n] w fun e w'=>e = .returned (.bool (betB n 1 2))∧w' = w:=by
  go_enter Tryz.func104,Tryz.ntmps104
  go_wp2
  all_goals go_ret
  all_goals exact ⟨zF (by rw [Bool.eq_iff_iff]; simp [betB]; omega),rfl⟩
theorem isLife_any (n:Int) (w:World) :
    Calls Tryz.prog 105 #[.int .i64 n] w fun e w'=>e = .returned (.bool (betB n 0 1))∧w' = w:=by
  go_enter Tryz.func105,Tryz.ntmps105
  go_wp2
  all_goals go_ret
  all_goals exact ⟨zF (by rw [Bool.eq_iff_iff]; simp [betB]; omega),rfl⟩
def tagC (c:UInt8):Bool:=betB c.toNat 32 126
def tagB (s:ByteArray):Bool:=decide (s.size ≤ 12) && s.data.toList.all tagC
theorem drop_cons (s:ByteArray) (k:Nat) (h:k < s.size):s.data.toList.drop k = s[k] :: s.data.toList.drop (k + 1):=by
  rw [get_nat s k h]
  exact List.drop_eq_getElem_cons (by rw [data_len]; exact h)
theorem tag_yes (s:ByteArray) (h:s.size ≤ 12) (hk:s.data.toList.all tagC = true):tagB s = true:=by simp only [tagB,hk,decide_eq_true h,Bool.and_true]
theorem tag_long (s:ByteArray) (h:¬ s.size ≤ 12):tagB s = false:=by simp only [tagB,decide_eq_false h,Bool.false_and]
theorem tag_no (s:ByteArray) (hk:s.data.toList.all tagC = false):tagB s = false:=by simp only [tagB,hk,Bool.and_false]
set_option maxHeartbeats 400000 in
theorem isTag_any (s:ByteArray) (w:World) (hs:s.size ≤ maxLen) :
    Calls Tryz.prog 106 #[.string s] w fun e w'=>e = .returned (.bool (tagB s))∧w' = w:=by
  unfold maxLen at hs
  by_cases hl:s.size ≤ 12
  · have hl':¬ ((12:Int) < s.size):=by omega
    go_enter Tryz.func106,Tryz.ntmps106
    go_wp2_with fail
    go_loop [9] (fun i=>∃ k:Nat,k ≤ s.size∧i = .int .i64 k∧Hid (s.data.toList.all tagC = (s.data.toList.drop k).all tagC)) (fun i=>s.size - (intOf i).toNat)
    case atStart=>exact ⟨0,Nat.zero_le _,rfl,by simp [Hid]⟩
    case round =>
      obtain ⟨k,hk,rfl,hall⟩:=hrel
      by_cases hlt:k < s.size
      · have hlt':(k:Int) < s.size:=by omega
        have hdr:=drop_cons s k hlt
        have hgen:∃ c,c = s[k]:=⟨_,rfl⟩
        obtain ⟨c,hc⟩:=hgen
        have hw:betB (wrap64 (s[k].toNat:Int)) 32 126 = tagC c:=by
          have hlt256:=UInt8.toNat_lt s[k]
          rw [hc,show wrap64 (s[k].toNat:Int) = (s[k].toNat:Int) by unfold wrap64; omega]; rfl
        cases ht:tagC c
        · rw [ht] at hw
          have HT:Hid (s.data.toList.all tagC = false):=by
            have:=za hall
            rw [hdr,List.all_cons,← hc,ht,Bool.false_and] at this
            exact this
          clear hdr hc ht
          go_wp2_with fail
          refine (zaN (wrap64 (s[k].toNat:Int)) 32 126 w).mono ?_
          rintro e w1 ⟨rfl,rfl⟩
          go_wp2_with fail
          go_ret
          exact ⟨zF (tag_no s (za HT)).symm,rfl⟩
        · rw [ht] at hw
          have HN:Hid (s.data.toList.all tagC = (s.data.toList.drop (k + 1)).all tagC):=by
            have:=za hall
            rw [hdr,List.all_cons,← hc,ht,Bool.true_and] at this
            exact this
          clear hdr hc ht
          go_wp2_with fail
          refine (zaN (wrap64 (s[k].toNat:Int)) 32 126 w).mono ?_
          rintro e w1 ⟨rfl,rfl⟩
          go_wp2_with fail
          go_round
          case rel=>exact ⟨k + 1,by omega,by go_num,za HN⟩
          case measure=>simp [intOf]; omega
      · go_wp2_with fail
        go_ret
        have h:=za hall
        rw [List.drop_of_length_le (by rw [data_len]; omega)] at h
        exact ⟨zF (tag_yes s hl (by rw [h]; rfl)).symm,rfl⟩
  · have hl':(12:Int) < s.size:=by omega
    go_enter Tryz.func106,Tryz.ntmps106
    go_wp2_with fail
    go_ret
    exact ⟨zF (tag_long s hl).symm,rfl⟩
end Go.Proofs.YtdfihaabhichdaaGreat
