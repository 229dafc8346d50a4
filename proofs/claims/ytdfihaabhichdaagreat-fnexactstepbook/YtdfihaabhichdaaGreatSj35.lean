/-
  A float's bits, by the model: proved by walking the function.
-/
import Derived.Test.YtdfihaabhichdaaGreatSj06
import Derived.Test.YtdfihaabhichdaaGreatSj07
import Derived.Test.YtdfihaabhichdaaGreatSj08
import Derived.Test.YtdfihaabhichdaaGreatSj34
namespace Go.Proofs.YtdfihaabhichdaaGreat
open Go.RowKit
set_option linter.unusedVariables false

theorem bitsS_any (x:Nat) (w:World) :
    Calls Tryz.prog 127 #[.float .f64 x] w fun e w'=>e = .returned (.int .u64 (fbit x))∧w' = w:=by
  have hb:=fbits
  cases h:nanB x with
  | true =>
    have HF:=hide (show fbit x = 9221120237041090560 from if_pos h)
    have h':(FloatKind.f64.format.order x x != some Ordering.eq) = true:=h
    clear h
    go_enter Tryz.func127,Tryz.ntmps127
    go_wp2
    go_ret
    exact ⟨zo (by rw [za HF]; rfl),rfl⟩
  | false =>
    have HF:=hide (show fbit x = x from if_neg (by rw [h]; decide))
    have h':(FloatKind.f64.format.order x x != some Ordering.eq) = false:=h
    clear h
    go_enter Tryz.func127,Tryz.ntmps127
    go_wp2
    go_ret
    exact ⟨zo (by rw [za HF]),rfl⟩
end Go.Proofs.YtdfihaabhichdaaGreat
namespace Go.Proofs.YtdfihaabhichdaaGreat
open Go.RowKit
set_option linter.unusedVariables false

theorem l04Zero_any (x:Nat) (w:World) :
  Calls Tryz.prog 129 #[.float .f64 x] w fun e w'=>e = .returned (.bool (decide (fbit x = 0)))∧w' = w:=by
 have HL:=hide (fun w=>bitsS_any x w)
 generalize fbit x = u at *
 have hdec:decide (u = 0) = (((u:Nat):Int) == 0):=by
  by_cases h:u = 0 <;> simp [h]
 go_enter Tryz.func129,Tryz.ntmps129
 go_wp2_with fail
 refine (za HL _).mono ?_
 rintro e w' ⟨rfl,rfl⟩
 have HD:=hide hdec
 clear hdec
 go_wp2_with fail
 go_ret
 exact ⟨zl (za HD).symm,rfl⟩
end Go.Proofs.YtdfihaabhichdaaGreat
namespace Go.Proofs.YtdfihaabhichdaaGreat
open Go.RowKit
set_option linter.unusedVariables false

set_option maxRecDepth 100000 in
set_option maxHeartbeats 800000 in
theorem zaH (next:Int) (a:Option Addr) (n cap:Nat) (c:Cm) (w:World) :
  Calls Tryz.prog 69 #[.agg #[.int .i64 next,.slice a n cap],cmV c] w fun e w'=>e = .returned (.agg #[.int .i64 next,.int .i64 c.s,.int .i64 (tkS c.p),.int .i64 c.q,.int .i64 c.l,.string c.g])∧Below w.heap.size w w':=by
 obtain ⟨k,s,t,l,q,i,p,g⟩:=c
 unfold cmV
 simp only
 have HT:=hide (fun W=>l01Ticks_any p W)
 generalize tkS p = tt at HT ⊢
 generalize tkOk p = tb at HT
 go_enter Tryz.func69,Tryz.ntmps69
 go_wp2_with fail
 refine (za HT _).mono ?_
 rintro e w' ⟨rfl,rfl⟩
 go_wp2_with fail
 go_returns
 exact ⟨rfl,by go_grown⟩
end Go.Proofs.YtdfihaabhichdaaGreat
namespace Go.Proofs.YtdfihaabhichdaaGreat
open Go.RowKit
set_option linter.unusedVariables false

def zba (c:Cm):Bool :=
 if c.k = 1 then (c.i == 0) else if c.s ≠ 0 ∨ c.t ≠ 0 ∨ c.l ≠ 0 ∨ fbit c.p ≠ 0 ∨ c.g.toList.isEmpty = false then false else ((c.k == 3) || (c.q == 0)) && ((c.k != 4) || (c.i == 0))
set_option maxRecDepth 100000 in
set_option maxHeartbeats 800000 in
theorem l04Form_any (c:Cm) (w:World) :
  Calls Tryz.prog 98 #[cmV c] w fun e w'=>e = .returned (.bool (zba c))∧Below w.heap.size w w':=by
 obtain ⟨k,s,t,l,q,i,p,g⟩:=c
 unfold cmV
 simp only
 by_cases h1:k = 1
 ·subst h1
  have HK:Hid (zba ⟨1,s,t,l,q,i,p,g⟩ = (i == 0)):=by show _ = _; simp [zba]
  go_enter Tryz.func98,Tryz.ntmps98
  go_wp2_with fail
  go_ret
  exact ⟨zl (za HK).symm,by go_grown⟩
 have b1:(k == 1) = false:=by rw [beq_eq_false_iff_ne]; exact h1
 by_cases hs:s = 0
 ·subst hs
  by_cases ht:t = 0
  ·subst ht
   by_cases hl:l = 0
   ·subst hl
    have HZ:=hide (fun W=>l04Zero_any p W)
    have HFI:Hid (∀ z:Bool,decide (fbit p = 0) = z→zba ⟨k,0,0,0,q,i,p,g⟩ = if z = true then (if g.toList.isEmpty = false then false else ((k == 3) || (q == 0)) && ((k != 4) || (i == 0))) else false):=by
     intro z hz
     subst hz
     by_cases hp:fbit p = 0 <;> simp [zba,h1,hp]
    have HFJ:=hide (za HFI _ rfl)
    generalize decide (fbit p = 0) = z at HZ HFJ
    clear HFI h1
    go_enter Tryz.func98,Tryz.ntmps98
    go_wp2_with fail
    refine (za HZ _).mono ?_
    rintro e w' ⟨rfl,rfl⟩
    cases z
    ·have HK:Hid (zba ⟨k,0,0,0,q,i,p,g⟩ = false):=za HFJ
     go_wp2_with fail
     go_ret
     exact ⟨zl (za HK).symm,by go_grown⟩
    ·have HFK:Hid (zba ⟨k,0,0,0,q,i,p,g⟩ = if g.toList.isEmpty = false then false else ((k == 3) || (q == 0)) && ((k != 4) || (i == 0))):=by
      show _ = _
      have:=za HFJ
      simpa using this
     clear HFJ HZ
     cases hg:g.toList.isEmpty
     ·have bg:(!g.toList.isEmpty) = true:=by rw [hg]; rfl
      have HK:Hid (zba ⟨k,0,0,0,q,i,p,g⟩ = false):=(za HFK).trans (if_pos hg)
      clear hg
      go_wp2_with fail
      go_ret
      exact ⟨zl (za HK).symm,by go_grown⟩
     have bg:(!g.toList.isEmpty) = false:=by rw [hg]; rfl
     have HFL:Hid (zba ⟨k,0,0,0,q,i,p,g⟩ = (((k == 3) || (q == 0)) && ((k != 4) || (i == 0)))):=(za HFK).trans (if_neg (by rw [hg]; simp))
     clear hg HFK
     by_cases h3:k = 3
     ·subst h3
      have HK:Hid (zba ⟨3,0,0,0,q,i,p,g⟩ = true):=(za HFL).trans (by simp)
      go_wp2_with fail
      go_ret
      exact ⟨zl (za HK).symm,by go_grown⟩
     have b3:(k == 3) = false:=by rw [beq_eq_false_iff_ne]; exact h3
     by_cases hq:q = 0
     ·subst hq
      by_cases h4:k = 4
      ·subst h4
       have HK:Hid (zba ⟨4,0,0,0,0,i,p,g⟩ = (i == 0)):=(za HFL).trans (by simp)
       clear h3
       go_wp2_with fail
       go_ret
       exact ⟨zl (za HK).symm,by go_grown⟩
      ·have b4:(k != 4) = true:=by simpa using h4
       have HK:Hid (zba ⟨k,0,0,0,0,i,p,g⟩ = true):=(za HFL).trans (by simp [h4])
       clear h3 h4
       go_wp2_with fail
       go_ret
       exact ⟨zl (za HK).symm,by go_grown⟩
     ·have bq:(q == 0) = false:=by rw [beq_eq_false_iff_ne]; exact hq
      have HK:Hid (zba ⟨k,0,0,0,q,i,p,g⟩ = false):=(za HFL).trans (by simp [h3,hq])
      clear h3 hq
      go_wp2_with fail
      go_ret
      exact ⟨zl (za HK).symm,by go_grown⟩
   ·have HK:Hid (zba ⟨k,0,0,l,q,i,p,g⟩ = false):=by show _ = _; simp [zba,h1,hl]
    have bl:(l != 0) = true:=by simpa using hl
    clear h1 hl
    go_enter Tryz.func98,Tryz.ntmps98
    go_wp2_with fail
    go_ret
    exact ⟨zl (za HK).symm,by go_grown⟩
  ·have HK:Hid (zba ⟨k,0,t,l,q,i,p,g⟩ = false):=by show _ = _; simp [zba,h1,ht]
   have bl:(t != 0) = true:=by simpa using ht
   clear h1 ht
   go_enter Tryz.func98,Tryz.ntmps98
   go_wp2_with fail
   go_ret
   exact ⟨zl (za HK).symm,by go_grown⟩
 ·have HK:Hid (zba ⟨k,s,t,l,q,i,p,g⟩ = false):=by show _ = _; simp [zba,h1,hs]
  have bl:(s != 0) = true:=by simpa using hs
  clear h1 hs
  go_enter Tryz.func98,Tryz.ntmps98
  go_wp2_with fail
  go_ret
  exact ⟨zl (za HK).symm,by go_grown⟩
end Go.Proofs.YtdfihaabhichdaaGreat
namespace Go.Proofs.YtdfihaabhichdaaGreat
open Go Ieee

theorem read_place {x:Nat} {s:Bool} {m:Nat} {i:Int} (h:double.read x = .number s m i):-1074 ≤ i:=by
  unfold Format.read at h
  simp only [bin,inf,sw,lp] at h
  split at h
  · simp only [Datum.number.injEq] at h; omega
  · split at h
    · simp only [Datum.number.injEq] at h; omega
    · split at h <;> cases h
theorem cut_pos {n drop:Nat} (h:2 ^ drop ≤ n):0 < Toward.even.cut false n drop:=by
  unfold Toward.cut
  simp only
  have hg:1 <<< min drop (n.log2 + 2) ≤ n:=by
    rw [Nat.one_shiftLeft]
    exact Nat.le_trans (Nat.pow_le_pow_right (by decide) (Nat.min_le_left _ _)) h
  have hp:0 < 1 <<< min drop (n.log2 + 2):=by rw [Nat.one_shiftLeft]; exact Nat.two_pow_pos _
  have:=Nat.div_pos hg hp
  omega
theorem near_pos {m:Nat} {i:Int} (hm:m ≠ 0) (hi:-1074 ≤ i):0 < double.nearest false (m * 4503599627370496) (i + -50):=by
  have hmag:¬ m * 4503599627370496 = 0:=by omega
  have hlog:=log_up hm
  have h2:2 ^ (m.log2 + 52) ≤ m * 4503599627370496:=by
    have h:=((Nat.log2_eq_iff hm).1 rfl).1
    rw [Nat.pow_add,show (2:Nat) ^ 52 = 4503599627370496 from rfl]
    exact Nat.mul_le_mul_right _ h
  unfold Format.nearest
  rw [if_neg hmag]
  simp only [hlog,fb,lp,bin,inf,Format.word,Bool.false_eq_true,if_false]
  have hlast:i + -50 + ((m.log2 + 52:Nat):Int) - (52:Nat) ≤ max (i + -50 + ((m.log2 + 52:Nat):Int) - (52:Nat)) (-1074):=Int.le_max_left _ _
  have hup:max (i + -50 + ((m.log2 + 52:Nat):Int) - (52:Nat)) (-1074) ≤ i + -50 + ((m.log2 + 52:Nat):Int):=Int.max_le.2 ⟨by omega,by omega⟩
  generalize max (i + -50 + ((m.log2 + 52:Nat):Int) - (52:Nat)) (-1074) = last at *
  have e0:(i + -50 - last).toNat = 0:=by omega
  rw [e0,Nat.shiftLeft_zero]
  have hc:=cut_pos (n:=m * 4503599627370496) (drop:=(last - (i + -50)).toNat) (Nat.le_trans (Nat.pow_le_pow_right (by decide) (by omega)) h2)
  generalize Toward.even.cut false (m * 4503599627370496) (last - (i + -50)).toNat = kept at *
  omega
theorem four_pos {x r:Nat} (h0:double.order x 0 = some .gt) (h1:double.order x 4687829947429945344 = some .lt ∨ double.order x 4687829947429945344 = some .eq) (hr:double.mul x 4616189618054758400 = some r):double.order 0 r ≠ some .eq:=by
  rcases above_zero h0 with hx | ⟨m,i,hx,hm⟩
  · exfalso
    unfold Format.order at h1
    rw [hx,read_top] at h1
    simp [Datum.order] at h1
  · have hw:=within hx hm h1
    have hmul:double.mul x 4616189618054758400 = some (double.nearest false (m * 4503599627370496) (i + -50)):=by
      unfold Format.mul
      rw [hx,read_four]
      rfl
    rw [hmul] at hr
    have hr:=Option.some.inj hr
    have hpos:=near_pos hm (read_place hx)
    have hlt:=near_le hm hw
    rw [hr] at hpos hlt
    clear hr hmul
    have hneg:(r / 9223372036854775808 % 2 == 1) = false:=by simp; omega
    have hrr:r % 9223372036854775808 = r:=by omega
    obtain ⟨m',i',e,hm'⟩:∃ m' i',double.read r = .number false m' i'∧m' ≠ 0:=by
      unfold Format.read
      simp only [bin,inf,sw,hneg,hrr,lp]
      split
      · exact ⟨_,_,rfl,by omega⟩
      · rw [if_pos (by omega)]
        exact ⟨_,_,rfl,by omega⟩
    unfold Format.order
    rw [read_zero,e]
    simp only [Datum.order,ne_eq,Option.some.injEq]
    intro h
    have h:=Std.LawfulEqCmp.eq_of_compare h
    simp only [signed,Bool.false_eq_true,if_false,Nat.shiftLeft_eq,Nat.zero_mul] at h
    have hne:m' * 2 ^ (i' - min (-1074) i').toNat ≠ 0:=Nat.mul_ne_zero hm' (Nat.pos_iff_ne_zero.1 (Nat.two_pow_pos _))
    omega
end Go.Proofs.YtdfihaabhichdaaGreat
namespace Go.Proofs.YtdfihaabhichdaaGreat
open Go.RowKit
set_option linter.unusedVariables false

theorem float_nought:floatOfInt .f64 0 = 0:=by decide
theorem tkS_pos {x:Nat} (h:tkOk x = true):tkS x ≠ 0:=by
 rw [tkS_ok h]
 unfold tk
 rw [if_pos h]
 unfold tkOk at h
 simp only [Bool.and_eq_true,Bool.or_eq_true,beq_iff_eq] at h
 obtain ⟨⟨h0,h1⟩,h2⟩:=h
 intro e
 rw [e,float_nought] at h2
 obtain ⟨r,n,hm,_⟩:=price_four h0 h1
 have hr:tkR x = r:=by
  unfold tkR
  rw [show FloatKind.f64.format.mul x 4616189618054758400 = some r from hm]
  rfl
 rw [hr] at h2
 exact four_pos h0 h1 hm h2
theorem fbit_zero {x:Nat} (h:fbit x = 0):x = 0:=by
 unfold fbit at h
 split at h
 ·omega
 ·exact h
theorem tkS_zero {x:Nat} (h:fbit x = 0):tkS x = 0:=by
 rw [fbit_zero h]
 decide
theorem side_of {s:Int} (h:betB s 1 2 = true):s = 1 ∨ s = 2:=by
 simp [betB] at h; omega
theorem oth_of {s:Int} (h:s = 1 ∨ s = 2):3 - s = othS s:=by
 rcases h with rfl | rfl <;> rfl
theorem cross_meet {c:Cm} (hp:prcB c = true) (o:Od):zbE c.s (tkS c.p) o = zcG c o:=by
 unfold prcB at hp
 by_cases h2:c.t = 2
 ·rw [if_pos h2] at hp
  rw [tkS_zero (of_decide_eq_true hp),zbE,if_pos rfl,zcG,if_pos h2]
 ·rw [if_neg h2] at hp
  rw [zbE,if_neg (tkS_pos hp),zcG,if_neg h2,tkS_ok hp]
def NexS (l:List Od) (t:Od) (k:Int):Prop :=
 (k = -1∧(t.left = 0 ∨ zaz l (othS t.side) = none ∨ ∃ o,zaz l (othS t.side) = some o∧zbE t.side t.ticks o = false)) ∨
 ∃ (i:Nat) (o:Od),k = i∧i < l.length∧l[i]? = some o∧zaz l (othS t.side) = some o∧zbE t.side t.ticks o = true∧t.left ≠ 0
theorem front_pre {l:List Od} {sd k:Int} (hr:zbi l) (h:FrPre l sd l.length k):(k = -1∧zaz l sd = none) ∨ ∃ (i:Nat) (o:Od),k = i∧i < l.length∧l[i]? = some o∧zaz l sd = some o:=by
 rcases frPre_end h with ⟨rfl,hno⟩ | ⟨i,o,rfl,hi,hfo⟩
 ·refine .inl ⟨rfl,?_⟩
  rcases zcr (s:=decide (sd = 1)) (sd:=sd) hr with ⟨h1,_⟩ | ⟨j,o',h1,hf'⟩
  ·exact h1
  ·exact absurd hf'.2.1 (hno o' (List.mem_of_getElem? hf'.1))
 ·refine .inr ⟨i,o,rfl,hi,hfo.1,?_⟩
  rcases zcr (s:=decide (sd = 1)) (sd:=sd) hr with ⟨_,hno⟩ | ⟨j,o',h1,hf'⟩
  ·exact absurd hfo.2.1 (hno o (List.mem_of_getElem? hfo.1))
  ·rw [zaz,h1,(front_unique hf' hfo).2]
end Go.Proofs.YtdfihaabhichdaaGreat
namespace Go.Proofs.YtdfihaabhichdaaGreat
open Go.RowKit
set_option linter.unusedVariables false

theorem nex_stop {l:List Od} {t:Od} (h:t.left = 0):NexS l t (-1):=.inl ⟨rfl,.inl h⟩
theorem nex_none {l:List Od} {t:Od} (h:zaz l (othS t.side) = none):NexS l t (-1):=.inl ⟨rfl,.inr (.inl h)⟩
theorem nex_no {l:List Od} {t o:Od} (h:zaz l (othS t.side) = some o) (hc:zbE t.side t.ticks o = false):NexS l t (-1):=.inl ⟨rfl,.inr (.inr ⟨o,h,hc⟩)⟩
set_option maxRecDepth 100000 in
set_option maxHeartbeats 1600000 in
theorem l04Next_any (v:Value) (l:List Od) (t:Od) (w:World) (hr:RdR Od.vs 6 w v l) (hri:zbi l) (hn:l.length ≤ 1000) (hsd:t.side = 1 ∨ t.side = 2) :
  Calls Tryz.prog 101 #[v,.agg #[.int .i64 t.id,.int .i64 t.side,.int .i64 t.ticks,.int .i64 t.left,.int .i64 t.life,.string t.tag]] w fun e w'=>∃ k:Int,e = .returned (.int .i64 k)∧NexS l t k∧Below w.heap.size w w':=by
 have HR:=hide hr
 obtain ⟨a,cap,rfl,hlen,hc⟩:=hr
 have hcell:∀ (k:Nat) (c:Od),l[k]? = some c→∃ b off,a = some ⟨b,off,none⟩∧b < w.heap.size∧w.rangeAt b (off + k * 6) c.vs:=by
  intro k c hk
  obtain ⟨b,off,h1,h2,h3⟩:=hc (by intro h; rw [h] at hk; simp at hk)
  exact ⟨b,off,h1,h2,h3 k c hk⟩
 have HC:=hide hcell
 have HRI:=hide hri
 have HOT:=hide (oth_of hsd)
 have hs1:1 ≤ t.side:=by omega
 have hs2:t.side ≤ 2:=by omega
 have HB1:Hid (Below w.heap.size w (w.alloc (Obj.cells #[.int .i64 t.id,.int .i64 t.side,.int .i64 t.ticks,.int .i64 t.left,.int .i64 t.life,.string t.tag] 100))):=(Below.refl _ _).alloc (Nat.le_refl _) _
 have HX:Hid (World.rangeAt (w.alloc (Obj.cells #[.int .i64 t.id,.int .i64 t.side,.int .i64 t.ticks,.int .i64 t.left,.int .i64 t.life,.string t.tag] 100)) w.heap.size 0 t.vs∧w.heap.size < (w.alloc (Obj.cells #[.int .i64 t.id,.int .i64 t.side,.int .i64 t.ticks,.int .i64 t.left,.int .i64 t.life,.string t.tag] 100)).heap.size):=⟨zh w t.vs _,by rw [ze]; omega⟩
 clear hcell hc hri hsd
 go_enter Tryz.func101,Tryz.ntmps101
 go_wp2_with fail
 generalize (w.alloc (Obj.cells #[.int .i64 t.id,.int .i64 t.side,.int .i64 t.ticks,.int .i64 t.left,.int .i64 t.life,.string t.tag] 100)) = W1 at HB1 HX ⊢
 refine (zck _ l _ W1 (zj (za HR) (za HB1) (Nat.le_refl _)) (za HRI) hn).mono ?_
 rintro e w2 ⟨k,rfl,hf,hg2⟩
 have HF:=hide (front_pre (za HRI) hf)
 have HB2:=hide ((za HB1).trans ((zbw hg2 (fun g hg=>by cases hg) (Nat.le_refl _)).mono (za HB1).size))
 have HX2:=hide (zu (za HX).1 hg2 (za HX).2 (by simp))
 have hlt2:w.heap.size < w2.heap.size:=Nat.lt_of_lt_of_le (za HX).2 hg2.size
 have HC2:Hid (∀ (k:Nat) (c:Od),l[k]? = some c→∃ b off,a = some ⟨b,off,none⟩∧b < w2.heap.size∧w2.rangeAt b (off + k * 6) c.vs):=fun k c hk=>by
  obtain ⟨b,off,h1,h2,h3⟩:=za HC k c hk
  exact ⟨b,off,h1,by omega,zb h3 (za HB2) h2⟩
 obtain ⟨t0,t1,t2,t3,t4,t5⟩:=zy (za HX2)
 clear hf hg2 hs1 hs2
 by_cases h0:t.left = 0
 ·have HN:=hide (nex_stop (l:=l) h0)
  have b0:(t.left == 0) = true:=by simpa using h0
  clear h0
  go_wp2_with fail
  go_quiet (fail)
  go_wp2_with fail
  go_ret
  exact ⟨_,rfl,za HN,zau (za HB2) _⟩
 have b0:(t.left == 0) = false:=by simpa using h0
 rcases za HF with ⟨rfl,hno⟩ | ⟨i,o,rfl,hi,hio,hfo⟩
 ·have HN:=hide (nex_none (l:=l) (t:=t) (by rw [← za HOT]; exact hno))
  clear hno h0
  go_wp2_with fail
  go_quiet (fail)
  go_wp2_with fail
  go_ret
  exact ⟨_,rfl,za HN,zau (za HB2) _⟩
 have HFO:Hid (zaz l (othS t.side) = some o):=by rw [← za HOT]; exact hfo
 have HIO:=hide hio
 obtain ⟨b,off,rfl,hb,hcl⟩:=za HC2 i o hio
 have HL0:=hide h0
 have HCEL:Hid (∀ w',w2.grownBy w' none→w'.rangeAt w.heap.size 0 t.vs∧w'.rangeAt b (off + i * 6) o.vs):=fun w' h'=>⟨zu (za HX2) h' hlt2 (by simp),zu hcl h' hb (by simp)⟩
 have hlti:(i:Int) < l.length:=by omega
 have hi0:¬ ((i:Int) < 0):=by omega
 have hi0':decide ((i:Int) < 0) = false:=by simp
 clear hfo hio hcl h0 HF HOT
 go_wp2_with fail
 refine zaq (W:=w2) (by kernel_rfl) (by kernel_rfl) (World.grownBy.refl _ _) ?_
 iterate 16 (
  refine zag (v:=?_) ?_ ?_ ?_
  rotate_left
  ·rfl
  ·intro w' hw'
   obtain ⟨c0,c1,c2,c3,c4,c5⟩:=zy (za HCEL w' hw').1
   obtain ⟨d0,d1,d2,d3,d4,d5⟩:=zy (za HCEL w' hw').2
   go_simp
   try rfl
  intro K hK
  go_simp
  refine hK _ ?_
  clear hK K)
 refine zag (v:=.bool (zbE t.side t.ticks o)) ?_ ?_ ?_
 ·rfl
 ·intro w' hw'
  go_simp
  refine (l04Crosses_any t.side t.ticks o _).mono ?_
  rintro e w3 ⟨rfl,hg3⟩
  exact ⟨rfl,hw'.trans (zac hg3 (Nat.le_refl _))⟩
 intro K hK
 go_simp
 refine hK _ ?_
 clear hK K
 cases hcr:zbE t.side t.ticks o
 ·have HN:=hide (nex_no (za HFO) hcr)
  iterate 2 (
   refine zag (v:=?_) ?_ ?_ ?_
   rotate_left
   ·rfl
   ·intro w' hw'
    go_simp
    try rfl
   intro K hK
   go_simp
   refine hK _ ?_
   clear hK K)
  refine wpQuiet_nil ?_
  intro w3 hg3
  have HB3:=hide ((za HB2).grown hg3 (za HB2).size (fun g hg=>by cases hg))
  clear hg3
  go_wp2_with fail
  go_ret
  exact ⟨_,rfl,za HN,za HB3⟩
 ·have HN:Hid (NexS l t i):=.inr ⟨i,o,rfl,hi,za HIO,za HFO,hcr,za HL0⟩
  iterate 2 (
   refine zag (v:=?_) ?_ ?_ ?_
   rotate_left
   ·rfl
   ·intro w' hw'
    go_simp
    try rfl
   intro K hK
   go_simp
   refine hK _ ?_
   clear hK K)
  refine wpQuiet_nil ?_
  intro w3 hg3
  have HB3:=hide ((za HB2).grown hg3 (za HB2).size (fun g hg=>by cases hg))
  clear hg3
  go_wp2_with fail
  go_ret
  exact ⟨_,rfl,za HN,za HB3⟩
end Go.Proofs.YtdfihaabhichdaaGreat
