/-
  A price times four, in the bits of floats: it is a number, and its whole part fits an int; plain facts, no program.
-/
import Derived.Test.YtdfihaabhichdaaGreatSj04
import Derived.Test.YtdfihaabhichdaaGreatSj07
import GoSem.Core.Float
import Derived.Handy
namespace Go.Proofs.YtdfihaabhichdaaGreat
open Go Ieee

theorem fb:double.fractionBits = 52:=rfl
theorem lp:double.leastPlace = -1074:=by decide
theorem bin:double.binade = 4503599627370496:=by decide
theorem inf:double.infRung = 9218868437227405312:=by decide
theorem sw:double.signWeight = 9223372036854775808:=by decide
theorem read_mag {x:Nat} {s:Bool} {m:Nat} {i:Int} (h:double.read x = .number s m i):m < 9007199254740992:=by
  unfold Format.read at h
  simp only [bin,inf,sw] at h
  split at h
  · simp only [Datum.number.injEq] at h; omega
  · split at h
    · simp only [Datum.number.injEq] at h; omega
    · split at h <;> cases h
theorem read_zero:double.read 0 = .number false 0 (-1074):=by decide
theorem read_top:double.read 4687829947429945344 = .number false 8589934592000000 (-35):=by decide
theorem read_four:double.read 4616189618054758400 = .number false 4503599627370496 (-50):=by decide
theorem signed_neg (m a:Nat):signed true m a ≤ 0:=by
  show -((m <<< a:Nat):Int) ≤ 0
  exact Int.neg_nonpos_of_nonneg (Int.natCast_nonneg _)
theorem above_zero {x:Nat} (h:double.order x 0 = some .gt):double.read x = .infinity false ∨ ∃ m i,double.read x = .number false m i∧m ≠ 0:=by
  unfold Format.order at h
  rw [read_zero] at h
  cases hx:double.read x with
  | nan s f=>rw [hx] at h; simp [Datum.order] at h
  | infinity s=>cases s with
    | false=>exact .inl rfl
    | true=>rw [hx] at h; simp [Datum.order] at h
  | number s m i =>
    rw [hx] at h
    simp only [Datum.order,Option.some.injEq] at h
    have hz:∀ b,signed false 0 b = 0:=fun b=>by simp [signed]
    rw [hz] at h
    have hgt:=Std.compare_eq_gt.1 h
    cases s with
    | false =>
      refine .inr ⟨m,i,rfl,fun e=>?_⟩
      subst e
      rw [hz] at hgt
      exact absurd hgt (by decide)
    | true =>
      exact absurd hgt (Int.not_lt.2 (signed_neg m _))
theorem log_le {m k:Nat} (hm:m ≠ 0) (h:m < 2 ^ k):m.log2 < k:=(Nat.log2_lt hm).2 h
theorem within {m:Nat} {i:Int} {x:Nat} (hx:double.read x = .number false m i) (hm:m ≠ 0) (h:double.order x 4687829947429945344 = some .lt ∨ double.order x 4687829947429945344 = some .eq):i + m.log2 ≤ 17:=by
  have hmag:=read_mag hx
  unfold Format.order at h
  rw [read_top,hx] at h
  simp only [Datum.order,Option.some.injEq] at h
  have hle:signed false m (i - min i (-35)).toNat ≤ signed false 8589934592000000 (-35 - min i (-35)).toNat:=by
    rcases h with h | h
    · exact Int.le_of_lt (Std.compare_eq_lt.1 h)
    · exact Int.le_of_eq (Std.LawfulEqCmp.eq_of_compare h)
  by_cases hi:i < -35
  · have:=log_le hm (show m < 2 ^ 53 by omega)
    omega
  · have e1:min i (-35) = -35:=by omega
    rw [e1] at hle
    have e2:((-35:Int) - -35).toNat = 0:=by decide
    rw [e2] at hle
    have hle':(m <<< (i - -35).toNat:Nat) ≤ (8589934592000000 <<< 0:Nat):=by
      have:((m <<< (i - -35).toNat:Nat):Int) ≤ ((8589934592000000 <<< 0:Nat):Int):=hle
      omega
    rw [Nat.shiftLeft_eq,Nat.shiftLeft_zero] at hle'
    have hlog:m.log2 + (i - -35).toNat < 53:=by
      have h1:2 ^ m.log2 ≤ m:=Nat.log2_self_le hm
      have h2:2 ^ (m.log2 + (i - -35).toNat) ≤ m * 2 ^ (i - -35).toNat:=by
        rw [Nat.pow_add]; exact Nat.mul_le_mul_right _ h1
      have h3:2 ^ (m.log2 + (i - -35).toNat) < 2 ^ 53:=by omega
      exact (Nat.pow_lt_pow_iff_right (by decide)).1 h3
    omega
theorem log_up {m:Nat} (hm:m ≠ 0):(m * 4503599627370496).log2 = m.log2 + 52:=by
  have h:=(Nat.log2_eq_iff hm).1 rfl
  refine (Nat.log2_eq_iff (by omega)).2 ?_
  rw [Nat.pow_add,show m.log2 + 52 + 1 = (m.log2 + 1) + 52 by omega,Nat.pow_add 2 (m.log2 + 1) 52,show (2:Nat) ^ 52 = 4503599627370496 from rfl]
  exact ⟨Nat.mul_le_mul_right _ h.1,Nat.mul_lt_mul_of_pos_right h.2 (by decide)⟩
theorem cut_le (n p drop:Nat) (hn:n < 2 ^ (p + 53)) (hp:p ≤ drop) (hl:p ≤ n.log2 + 2):Toward.even.cut false n drop ≤ 9007199254740993:=by
  unfold Toward.cut
  simp only
  have hg:2 ^ p ≤ 1 <<< min drop (n.log2 + 2):=by
    rw [Nat.one_shiftLeft]
    exact Nat.pow_le_pow_right (by decide) (by omega)
  have hq:n / (1 <<< min drop (n.log2 + 2)) ≤ 9007199254740992:=by
    refine Nat.le_trans (Nat.div_le_div_left hg (Nat.two_pow_pos p)) ?_
    have:n / 2 ^ p < 2 ^ 53:=by
      rw [Nat.div_lt_iff_lt_mul (Nat.two_pow_pos p),← Nat.pow_add,Nat.add_comm]
      exact hn
    omega
  have hb:∀ b:Bool,b.toNat ≤ 1:=by decide
  have:=hb (decide (1 <<< min drop (n.log2 + 2) < 2 * (n % 1 <<< min drop (n.log2 + 2))) || (1 <<< min drop (n.log2 + 2) == 2 * (n % 1 <<< min drop (n.log2 + 2)) && n / 1 <<< min drop (n.log2 + 2) % 2 == 1))
  omega
theorem near_le {m:Nat} {i:Int} (hm:m ≠ 0) (hi:i + m.log2 ≤ 17):double.nearest false (m * 4503599627370496) (i + -50) < 1075 * 4503599627370496:=by
  have hmag:¬ m * 4503599627370496 = 0:=by omega
  have hlog:=log_up hm
  have hlt:m * 4503599627370496 < 2 ^ (m.log2 + 53):=by
    have h:=((Nat.log2_eq_iff hm).1 rfl).2
    rw [show m.log2 + 53 = (m.log2 + 1) + 52 by omega,Nat.pow_add 2 (m.log2 + 1) 52,show (2:Nat) ^ 52 = 4503599627370496 from rfl]
    exact Nat.mul_lt_mul_of_pos_right h (by decide)
  unfold Format.nearest
  rw [if_neg hmag]
  simp only [hlog,fb,lp,bin,inf,Format.word,Bool.false_eq_true,if_false]
  have hlast:i + -50 + ((m.log2 + 52:Nat):Int) - (52:Nat) ≤ max (i + -50 + ((m.log2 + 52:Nat):Int) - (52:Nat)) (-1074):=Int.le_max_left _ _
  have hup:max (i + -50 + ((m.log2 + 52:Nat):Int) - (52:Nat)) (-1074) ≤ -33:=Int.max_le.2 ⟨by omega,by omega⟩
  generalize max (i + -50 + ((m.log2 + 52:Nat):Int) - (52:Nat)) (-1074) = last at *
  have e0:(i + -50 - last).toNat = 0:=by omega
  rw [e0,Nat.shiftLeft_zero]
  have hc:=cut_le (m * 4503599627370496) m.log2 (last - (i + -50)).toNat hlt (by omega) (by omega)
  generalize Toward.even.cut false (m * 4503599627370496) (last - (i + -50)).toNat = kept at *
  have e1:(last - -1074).toNat ≤ 1041:=by omega
  have e2:(last - -1074).toNat * 4503599627370496 ≤ 1041 * 4503599627370496:=Nat.mul_le_mul_right _ e1
  omega
theorem whole {r:Nat} (h:r < 1075 * 4503599627370496):∃ n:Nat,(double.read r).toInt .zero = some (n:Int)∧n < 9007199254740992:=by
  have hneg:(r / 9223372036854775808 % 2 == 1) = false:=by simp; omega
  have hr:r % 9223372036854775808 = r:=by omega
  have cutz:∀ (n d:Nat),Toward.zero.cut false n d ≤ n:=by
    intro n d
    unfold Toward.cut
    simp only [Bool.toNat_false,Nat.add_zero]
    exact Nat.div_le_self _ _
  unfold Format.read
  simp only [bin,inf,sw,hneg,hr,lp]
  split
  · refine ⟨Toward.zero.cut false (r <<< (-1074:Int).toNat) (1074:Int).toNat,?_,?_⟩
    · simp [Datum.toInt,Datum.integral,signed]
    · have:=cutz (r <<< (-1074:Int).toNat) (1074:Int).toNat
      rw [show (-1074:Int).toNat = 0 from rfl,Nat.shiftLeft_zero] at this ⊢
      omega
  · rw [if_pos (by omega)]
    have hi:(-1074 + ((r / 4503599627370496 - 1:Nat):Int)).toNat = 0:=by omega
    refine ⟨Toward.zero.cut false ((4503599627370496 + r % 4503599627370496) <<< (-1074 + ((r / 4503599627370496 - 1:Nat):Int)).toNat) (-(-1074 + ((r / 4503599627370496 - 1:Nat):Int))).toNat,?_,?_⟩
    · simp [Datum.toInt,Datum.integral,signed]
    · have:=cutz ((4503599627370496 + r % 4503599627370496) <<< (-1074 + ((r / 4503599627370496 - 1:Nat):Int)).toNat) (-(-1074 + ((r / 4503599627370496 - 1:Nat):Int))).toNat
      rw [hi,Nat.shiftLeft_zero] at this ⊢
      omega
theorem price_four {x:Nat} (h0:double.order x 0 = some .gt) (h1:double.order x 4687829947429945344 = some .lt ∨ double.order x 4687829947429945344 = some .eq) :
    ∃ (r n:Nat),double.mul x 4616189618054758400 = some r∧(double.read r).toInt .zero = some (n:Int)∧n < 9007199254740992:=by
  rcases above_zero h0 with hx | ⟨m,i,hx,hm⟩
  · exfalso
    unfold Format.order at h1
    rw [hx,read_top] at h1
    simp [Datum.order] at h1
  · have hw:=within hx hm h1
    have hmul:double.mul x 4616189618054758400 = some (double.nearest false (m * 4503599627370496) (i + -50)):=by
      unfold Format.mul
      rw [hx,read_four]
      rfl
    obtain ⟨n,h2,h3⟩:=whole (near_le hm hw)
    exact ⟨_,n,hmul,h2,h3⟩
end Go.Proofs.YtdfihaabhichdaaGreat
namespace Go.Proofs.YtdfihaabhichdaaGreat
open Go.RowKit
set_option linter.unusedVariables false

def tkR (x:Nat):Nat:=(FloatKind.f64.format.mul x 4616189618054758400).getD 0
def tkN (x:Nat):Int:=((FloatKind.f64.decode (tkR x)).toInt .zero).getD 0
def tkOk (x:Nat):Bool:=(FloatKind.f64.format.order x 0 == some Ordering.gt) && ((FloatKind.f64.format.order x 4687829947429945344 == some Ordering.lt) || (FloatKind.f64.format.order x 4687829947429945344 == some Ordering.eq)) &&
 (FloatKind.f64.format.order (floatOfInt .f64 (tkN x)) (tkR x) == some Ordering.eq)
def tk (x:Nat):Int:=if tkOk x = true then tkN x else 0
set_option maxRecDepth 100000 in
set_option maxHeartbeats 1000000 in
theorem zbp (x:Nat) (w:World) :
  Calls Tryz.prog 156 #[.float .f64 x] w fun e w'=>e = .returned (.tuple #[.int .i64 (tk x),.bool (tkOk x)])∧w' = w:=by
 by_cases h0:FloatKind.f64.format.order x 0 = some Ordering.gt
 ·by_cases h1:FloatKind.f64.format.order x 4687829947429945344 = some Ordering.lt ∨ FloatKind.f64.format.order x 4687829947429945344 = some Ordering.eq
  ·obtain ⟨r,n,hmul,hint,hn⟩:=price_four h0 h1
   have hn':(n:Int) < 9007199254740992:=by omega
   have eR:tkR x = r:=by unfold tkR; rw [show FloatKind.f64.format.mul x 4616189618054758400 = some r from hmul]; rfl
   have eN:tkN x = n:=by unfold tkN; rw [eR,show (FloatKind.f64.decode r).toInt .zero = some (n:Int) from hint]; rfl
   have b0:(FloatKind.f64.format.order x 0 == some Ordering.gt) = true:=by rw [h0]; rfl
   have hm:∀ W,(binOp .mul 25 (.float .f64 x) (.float .f64 4616189618054758400)).run Tryz.prog W = .ok (.float .f64 r) W:=fun W=>by
    have:FloatKind.f64.format.mul x 4616189618054758400 = some r:=hmul
    simp [binOp,Op.floatArith,this]
   have hc:∀ W,(convert 25 3 (.float .f64 r)).run Tryz.prog W = .ok (.int .i64 n) W:=fun W=>by
    have h2:(FloatKind.f64.decode r).toInt .zero = some (n:Int):=hint
    have hb:IntKind.i64.min ≤ (n:Int)∧(n:Int) ≤ IntKind.i64.max:=by
     rw [show IntKind.i64.min = -9223372036854775808 by decide,show IntKind.i64.max = 9223372036854775807 by decide]; omega
    simp [convert,run_underlying Tryz.underlying25,run_underlying Tryz.underlying3,Conv.floatToInt,h2,hb.1]
    intro h
    omega
   have h12:((FloatKind.f64.format.order x 4687829947429945344 == some Ordering.lt) || (FloatKind.f64.format.order x 4687829947429945344 == some Ordering.eq)) = true:=by
    rcases h1 with h1 | h1 <;> rw [h1] <;> rfl
   have hok:tkOk x = (FloatKind.f64.format.order (floatOfInt .f64 n) r == some Ordering.eq):=by unfold tkOk; rw [eN,eR,b0,h12]; rfl
   clear hmul hint h0 h12
   cases he:(FloatKind.f64.format.order (floatOfInt .f64 n) r == some Ordering.eq)
   all_goals
    have he2:(FloatKind.f64.format.order (floatOfInt .f64 n) r != some Ordering.eq) = !(FloatKind.f64.format.order (floatOfInt .f64 n) r == some Ordering.eq):=rfl
    rw [he] at he2
    rw [he] at hok
   ·have HT:Hid (tk x = 0∧tkOk x = false):=⟨by unfold tk; rw [hok]; rfl,hok⟩
    clear hok eN eR
    rcases h1 with h1 | h1
    ·have b1:(FloatKind.f64.format.order x 4687829947429945344 == some Ordering.lt) = true:=by rw [h1]; rfl
     have b2:(FloatKind.f64.format.order x 4687829947429945344 == some Ordering.eq) = false:=by rw [h1]; rfl
     clear h1
     go_enter Tryz.func156,Tryz.ntmps156
     go_wp2
     go_ret2
     exact ⟨by rw [(za HT).1,(za HT).2]; rfl,rfl⟩
    ·have b1:(FloatKind.f64.format.order x 4687829947429945344 == some Ordering.lt) = false:=by rw [h1]; rfl
     have b2:(FloatKind.f64.format.order x 4687829947429945344 == some Ordering.eq) = true:=by rw [h1]; rfl
     clear h1
     go_enter Tryz.func156,Tryz.ntmps156
     go_wp2
     go_ret2
     exact ⟨by rw [(za HT).1,(za HT).2]; rfl,rfl⟩
   ·have HT:Hid (tk x = n∧tkOk x = true):=⟨by unfold tk; rw [hok,eN]; rfl,hok⟩
    clear hok eN eR
    rcases h1 with h1 | h1
    ·have b1:(FloatKind.f64.format.order x 4687829947429945344 == some Ordering.lt) = true:=by rw [h1]; rfl
     have b2:(FloatKind.f64.format.order x 4687829947429945344 == some Ordering.eq) = false:=by rw [h1]; rfl
     clear h1
     go_enter Tryz.func156,Tryz.ntmps156
     go_wp2
     go_ret2
     exact ⟨by rw [(za HT).1,(za HT).2]; rfl,rfl⟩
    ·have b1:(FloatKind.f64.format.order x 4687829947429945344 == some Ordering.lt) = false:=by rw [h1]; rfl
     have b2:(FloatKind.f64.format.order x 4687829947429945344 == some Ordering.eq) = true:=by rw [h1]; rfl
     clear h1
     go_enter Tryz.func156,Tryz.ntmps156
     go_wp2
     go_ret2
     exact ⟨by rw [(za HT).1,(za HT).2]; rfl,rfl⟩
  ·have b0:(FloatKind.f64.format.order x 0 == some Ordering.gt) = true:=by rw [h0]; rfl
   have b1:(FloatKind.f64.format.order x 4687829947429945344 == some Ordering.lt) = false:=by rw [beq_eq_false_iff_ne]; exact fun h=>h1 (.inl h)
   have b2:(FloatKind.f64.format.order x 4687829947429945344 == some Ordering.eq) = false:=by rw [beq_eq_false_iff_ne]; exact fun h=>h1 (.inr h)
   have hok:tkOk x = false:=by unfold tkOk; rw [b0,b1,b2]; rfl
   have HT:Hid (tk x = 0∧tkOk x = false):=⟨by unfold tk; rw [hok]; rfl,hok⟩
   clear h0 h1 hok
   go_enter Tryz.func156,Tryz.ntmps156
   go_wp2
   go_ret2
   exact ⟨by rw [(za HT).1,(za HT).2]; rfl,rfl⟩
 ·have b0:(FloatKind.f64.format.order x 0 == some Ordering.gt) = false:=by rw [beq_eq_false_iff_ne]; exact h0
  have hok:tkOk x = false:=by unfold tkOk; rw [b0]; rfl
  have HT:Hid (tk x = 0∧tkOk x = false):=⟨by unfold tk; rw [hok]; rfl,hok⟩
  clear h0 hok
  go_enter Tryz.func156,Tryz.ntmps156
  go_wp2
  go_ret2
  exact ⟨by rw [(za HT).1,(za HT).2]; rfl,rfl⟩
end Go.Proofs.YtdfihaabhichdaaGreat
namespace Go.Proofs.YtdfihaabhichdaaGreat
open Go.RowKit
set_option linter.unusedVariables false

theorem better_b (a c:Int) (w:World) :
    Calls Tryz.prog 177 #[.agg #[],.int .i64 a,.int .i64 c] w fun e w'=>e = .returned (.bool (decide (c < a)))∧w.grownBy w' none:=by
  go_enter Tryz.func177,Tryz.ntmps177
  go_wp2_with fail
  go_ret
  exact ⟨rfl,World.grownBy_alloc _ _ _⟩
theorem method_b (w:World):Sem.run Tryz.prog (method 327 155 (.agg #[]) "loop.example/g00092/impl.better") w = .ok (177,.agg #[]) w:=by kernel_rfl
theorem part_b {w:World} {b:Nat} (h:∃ cur,w.heap[b]? = some (.cells cur 196 (0,0))):Sem.run Tryz.prog (partAt ⟨b,0,none⟩ 0 0) w = .ok ⟨b,0,none⟩ w:=by
  obtain ⟨cur,h⟩:=h
  have hc:Tryz.prog.cellsOf 196 = 318:=by kernel_rfl
  have hy:byteOfCell Tryz.prog Tryz.prog.depth 196 0 = some 0:=by kernel_rfl
  have hs:w.shape? b = some (196,cur.size):=by simp [World.shape?,h]
  simp [partAt,byteOf,noView,viewAt,hs,hc,hy]
set_option maxRecDepth 100000 in
set_option maxHeartbeats 400000 in
theorem levelFor_b (b:Nat) (S:TS) (t:Tr) (o:Od) (w:World) (hT:TM 196 w b S) (hi:TI true S t) (hlc:S.lc < 20) :
    Calls Tryz.prog 153 #[.pointer (some ⟨b,0,none⟩),.agg #[.int .i64 o.id,.int .i64 o.side,.int .i64 o.ticks,.int .i64 o.left,.int .i64 o.life,.string o.tag]] w fun e w' =>
      ∃ (h:Nat),e = .returned (.int .i64 h)∧LFEnd true 196 b S t o w h w':=by
  have HT:=hide hT
  have HI:=hide hi
  clear hT hi
  go_enter Tryz.func153,Tryz.ntmps153
  go_wp2_with fail
  have HW:Hid (∃ W,W = (w.alloc (Obj.cells #[.int .i64 o.id,.int .i64 o.side,.int .i64 o.ticks,.int .i64 o.left,.int .i64 o.life,.string o.tag] 100))∧W.rangeAt w.heap.size 0 o.vs∧TM 196 W b S∧w.grownBy W (some b)∧w.heap.size < W.heap.size∧b ≠ w.heap.size) :=
    ⟨_,rfl,zh w o.vs _,zam (za HT) (Below.heap_alloc w _ _ (tm_lt (za HT))),World.grownBy_alloc _ _ _,by rw [ze]; omega,by have:=tm_lt (za HT); omega⟩
  obtain ⟨W,hW,hWW⟩:=za HW
  rw [← hW]
  have HW2:=hide hWW
  clear hW hWW HW HT
  go_loopg [5] (t.hs.length) (fun k p wr=>LFI true b S t o.ticks W k p wr)
  case atStart=>exact ⟨[],t,rfl,Nat.le_refl _,way_start (za HI) _,World.grownBy.refl _ _⟩
  case round =>
    obtain ⟨c,u,rfl,hk,hw,hg⟩:=hrel
    have HWay:=hide hw
    have HG:=hide hg
    have HK:=hide hk
    have hT:=zcw (za HW2).2.1 hg (by simp)
    have c0:=cur_cell hT (zW c) (cur_ok (za HI) hw hlc)
    obtain ⟨o0,o1,o2,o3,o4,o5⟩:=zy (zu (za HW2).1 hg (za HW2).2.2.2.1 (by simp))
    clear hk hw hg
    by_cases ha:S.rd (zW c) = 0
    · have hr0:=hT.lc
      have hf:=hT.fr
      have HA0:=hide ha
      rw [ha] at c0
      have hlc':(S.lc:Int) < 20:=by omega
      have e1:((S.lc + 1:Nat):Int) = (S.lc:Int) + 1:=by omega
      have hok:=cur_ok (za HI) (za HWay) hlc
      have t1:=tm_lc hT (S.lc + 1)
      have t2:=tm_cur t1 (zW c) hok (S.lc + 1)
      rw [e1] at t1 t2
      have d2:_ = _:=(cur_cell t1 (zW c) hok).trans (congrArg (fun x:Nat=>some (Value.int .i64 x)) (show TS.rd _ (zW c) = 0 from by rw [← ha]; cases (zW c) <;> rfl))
      have d3:_ = _:=t2.lc
      rw [(wr_same _ _ _).1] at d3
      simp only [e1] at d3
      have g1:=t1.fr
      have g2:=t2.fr
      obtain ⟨n0,n1,n2,n3,-⟩:=zQ (t2.nd (S.lc + 1) (by omega))
      have hb:b ≠ w.heap.size:=(za HW2).2.2.2.2
      have p1:((wr.setCell ⟨b,1,none⟩ (.int .i64 ((S.lc:Int) + 1))).setCell ⟨b,(zW c).off,none⟩ (.int .i64 ((S.lc:Int) + 1))).cell? ⟨w.heap.size,0 + 1,none⟩ = some (.int .i64 o.side):=by
        rw [World.cell?_setCell_other _ _ _ _ (fun e=>hb (congrArg Addr.block e)),World.cell?_setCell_other _ _ _ _ (fun e=>hb (congrArg Addr.block e))]; exact o1
      have p2:((wr.setCell ⟨b,1,none⟩ (.int .i64 ((S.lc:Int) + 1))).setCell ⟨b,(zW c).off,none⟩ (.int .i64 ((S.lc:Int) + 1))).cell? ⟨w.heap.size,0 + 2,none⟩ = some (.int .i64 o.ticks):=by
        rw [World.cell?_setCell_other _ _ _ _ (fun e=>hb (congrArg Addr.block e)),World.cell?_setCell_other _ _ _ _ (fun e=>hb (congrArg Addr.block e))]; exact o2
      have HT2:=hide t2
      have HB:=hide hb
      clear ha hT t1 t2 hok hb
      go_wp2_with fail
      have HG4:Hid (wr.grownBy ((wr.setCell ⟨b,1,none⟩ (.int .i64 ((S.lc:Int) + 1))).setCell ⟨b,(zW c).off,none⟩ (.int .i64 ((S.lc:Int) + 1))) (some b)):=zR (zR (World.grownBy.refl _ _) _ _) _ _
      generalize hW4:((wr.setCell ⟨b,1,none⟩ (.int .i64 ((S.lc:Int) + 1))).setCell ⟨b,(zW c).off,none⟩ (.int .i64 ((S.lc:Int) + 1))) = W4 at *
      rw [← e1] at d3
      obtain ⟨m,hm⟩:∃ m,m = S.lc + 1:=⟨_,rfl⟩
      rw [← hm] at d3 n0 n1 n2 n3
      have hm21:(m:Int) < 21:=by omega
      have HM:=hide hm
      clear hW4 hm e1 d2 hr0 hf g1 c0 o0 o1 o2 o3 o4 o5 hlc'
      go_region
      have t3:=za HT2
      have t4:=zbq t3 (S.lc + 1) 0 (by omega) (by omega) (.int .i64 o.side) { (TS.nd _ (S.lc + 1)) with side:=o.side } rfl _ rfl
      have t5:=zbq t4 (S.lc + 1) 1 (by omega) (by omega) (.int .i64 o.ticks) { (TS.nd _ (S.lc + 1)) with ticks:=o.ticks } rfl _ rfl
      have t6:=zbq t5 (S.lc + 1) 2 (by omega) (by omega) (.int .i64 0) { (TS.nd _ (S.lc + 1)) with qty:=0 } rfl _ rfl
      have t7:=zbq t6 (S.lc + 1) 3 (by omega) (by omega) (.int .i64 0) { (TS.nd _ (S.lc + 1)) with count:=0 } rfl _ rfl
      have HG7:=hide (gr_drew (zR (zR (zR (zR (za HG4) (2 + m * 8) (.int .i64 o.side)) (2 + m * 8 + 1) (.int .i64 o.ticks)) (2 + m * 8 + 2) (.int .i64 0)) (2 + m * 8 + 3) (.int .i64 0)))
      rw [← za HM] at t7
      simp only [zcc,zp] at t7
      have hS:_ = S.grow (zW c) o.side o.ticks:=grow_eq S (zW c) o m (za HM)
      rw [hS] at t7
      have d7:_ = some (Value.int .i64 (m:Int)):=t7.lc.trans (by rw [za HM]; rfl)
      have HT7:=hide t7
      clear t3 t4 t5 t6 t7 n0 n1 n2 n3 d3 p1 p2
      generalize (((W4.setCell ⟨b,2 + m * 8,none⟩ (.int .i64 o.side)).setCell ⟨b,2 + m * 8 + 1,none⟩ (.int .i64 o.ticks)).setCell ⟨b,2 + m * 8 + 2,none⟩ (.int .i64 0)).setCell ⟨b,2 + m * 8 + 3,none⟩ (.int .i64 0) = W7 at *
      go_wp2_with fail
      go_ret
      exact ⟨m,rfl,_,zam (za HT7) rfl,(za HW2).2.2.1.trans (((za HG).but _).trans (za HG7)),.inr ⟨c,u,za HWay,za HA0,za HM,rfl⟩⟩
    · have ham:=way_at (za HWay) rfl ha
      have har:=(za HI).range _ ham
      obtain ⟨a,hae⟩:∃ a,a = S.rd (zW c):=⟨_,rfl⟩
      rw [← hae] at c0 ha ham har
      have HAE:=hide hae
      have ha':¬ ((a:Int) = 0):=by omega
      have ha21:(a:Int) < 21:=by omega
      obtain ⟨n0,n1,n2,n3,n4,n5,n6,n7⟩:=zQ (hT.nd a (by omega))
      have HTM:=hide hT
      have hpt:∀ w',wr.grownBy w' none→Sem.run Tryz.prog (partAt ⟨b,0,none⟩ 0 0) w' = .ok ⟨b,0,none⟩ w':=fun w' h=>part_b (zcw (za HTM) h (by simp)).obj
      have HPT:=hide hpt
      have HN1:=hide (fun w' (h:wr.grownBy w' none)=>h.cell n1 (by simp))
      have HO2:=hide (fun w' (h:wr.grownBy w' none)=>h.cell o2 (by simp))
      clear hae hT hpt
      go_wp2_with fail
      go_quiet (fail)
      go_wp2_with fail
      refine zaq (W:=wr) (by kernel_rfl) (by kernel_rfl) ⟨rfl,rfl,rfl,Nat.le_refl _,fun _ _ _=>rfl⟩ ?_
      iterate 12 (
        refine zag (v:=?_) ?_ ?_ ?_
        rotate_left
        · rfl
        · intro w' hw'
          have f1:=za HN1 w' hw'
          have f2:=za HO2 w' hw'
          have f3:=za HPT w' hw'
          go_simp
          try rfl
        intro K hK
        go_simp
        refine hK _ ?_
        clear hK K)
      refine zag (v:=.bool (decide ((S.nd a).ticks < o.ticks))) ?_ ?_ ?_
      · rfl
      · intro w' hw'
        have hm:=method_b w'
        go_simp
        refine (better_b _ _ _).mono ?_
        rintro e w3 ⟨rfl,hg3⟩
        exact ⟨rfl,hw'.trans hg3⟩
      intro K hK
      go_simp
      refine hK _ ?_
      clear hK K
      refine zag (v:=?_) ?_ ?_ ?_
      rotate_left
      · rfl
      · intro w' hw'
        go_simp
        try rfl
      intro K hK
      go_simp
      refine hK _ ?_
      clear hK K
      refine wpQuiet_nil ?_
      intro w2 hg2
      have HG2:=hide hg2
      clear hg2
      by_cases h1:(S.nd a).ticks < o.ticks
      · have h1':decide ((S.nd a).ticks < o.ticks) = true:=by simpa using h1
        go_wp2_with fail
        obtain ⟨l,r,rfl,hw2⟩:=way_be (za HI) (za HWay) (za HAE).symm ha h1
        go_roundg (l.hs.length)
        case measure=>have:=za HK; simp [Tr.hs] at this; omega
        case rel=>exact ⟨_,l,rfl,Nat.le_refl _,hw2,(za HG).trans (za HG2)⟩
      · have h1':decide ((S.nd a).ticks < o.ticks) = false:=by simpa using h1
        go_wp2_with fail
        refine zaq (W:=wr) (by kernel_rfl) (by kernel_rfl) (za HG2) ?_
        iterate 12 (
          refine zag (v:=?_) ?_ ?_ ?_
          rotate_left
          · rfl
          · intro w' hw'
            have f1:=za HN1 w' hw'
            have f2:=za HO2 w' hw'
            have f3:=za HPT w' hw'
            go_simp
            try rfl
          intro K hK
          go_simp
          refine hK _ ?_
          clear hK K)
        refine zag (v:=.bool (decide (o.ticks < (S.nd a).ticks))) ?_ ?_ ?_
        · rfl
        · intro w' hw'
          have hm:=method_b w'
          go_simp
          refine (better_b _ _ _).mono ?_
          rintro e w3 ⟨rfl,hg3⟩
          exact ⟨rfl,hw'.trans hg3⟩
        intro K hK
        go_simp
        refine hK _ ?_
        clear hK K
        refine zag (v:=?_) ?_ ?_ ?_
        rotate_left
        · rfl
        · intro w' hw'
          go_simp
          try rfl
        intro K hK
        go_simp
        refine hK _ ?_
        clear hK K
        refine wpQuiet_nil ?_
        intro w3 hg3
        have HG3:=hide hg3
        clear hg3
        by_cases h2:o.ticks < (S.nd a).ticks
        · have h2':decide (o.ticks < (S.nd a).ticks) = true:=by simpa using h2
          go_wp2_with fail
          obtain ⟨l,r,rfl,hw2⟩:=way_wo (za HI) (za HWay) (za HAE).symm ha h2
          go_roundg (r.hs.length)
          case measure=>have:=za HK; simp [Tr.hs] at this; omega
          case rel=>exact ⟨_,r,rfl,Nat.le_refl _,hw2,(za HG).trans (za HG3)⟩
        · have h2':decide (o.ticks < (S.nd a).ticks) = false:=by simpa using h2
          have c3:=(za HG3).cell c0 (by simp)
          go_wp2_with fail
          go_ret
          have hG:=(za HG).trans (za HG3)
          exact ⟨a,rfl,S,zcw (za HW2).2.1 hG (by simp),(za HW2).2.2.1.trans (hG.but _),.inl ⟨ham,by omega,rfl⟩⟩
end Go.Proofs.YtdfihaabhichdaaGreat
